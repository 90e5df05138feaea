/- TermsChanges: for all terms, numbers and classes the law returns true (the terms with another number for a grade, from another base, joined, and split, or the errors, are those of the reference, all stays, and what is returned shares no memory), and each argument reads afterwards as before. No condition. -/
import Derived.Test.YtcjlegjchllgjaaW03
section
set_option linter.unusedVariables false
set_option linter.unusedSimpArgs false
namespace Go.Proofs.Ytcjlegjchllgjaa
open Go Go.Fw
set_option maxRecDepth 10000
/-- a table of which the first numbers are told from another base -/
def mix (l : List Int) (d : Int) (k : Nat) : List Int := (l.take k).map (fun n => n - d) ++ l.drop k
theorem mix_len (l : List Int) (d : Int) (k : Nat) : (mix l d k).length = l.length := by
  unfold mix
  rw [List.length_append, List.length_map, List.length_take, List.length_drop]; omega
theorem mix_all (l : List Int) (d : Int) : mix l d l.length = l.map (fun n => n - d) := by
  unfold mix
  rw [List.take_length, List.drop_length, List.append_nil]
theorem mix_set {l : List Int} {d x : Int} {k : Nat} (h : l[k]? = some x) : (mix l d k).set k (x - d) = mix l d (k + 1) := by
  have hk := (List.getElem?_eq_some_iff.1 h).1
  unfold mix
  rw [drop_cons h, take_snoc h, List.map_append, List.set_append_right _ _ (by rw [List.length_map, List.length_take]; omega), List.length_map, List.length_take, show k - min k l.length = 0 by omega, List.set_cons_zero, List.append_assoc]
  rfl
def tsQa : List TOp := [⟨some 23, [], [], []⟩, ⟨some 24, [], [], []⟩, ⟨some 25, [], [], []⟩, ⟨some 26, [1, 2], [1, 2], []⟩, ⟨some 27, [0], [], []⟩, ⟨none, [0, 1, 2, 3, 4], [4, 0], [8]⟩, ⟨some 28, [0, 1, 2, 3, 4, 5], [], []⟩, ⟨none, [0, 1, 2, 3, 4, 5, 6], [6, 3], [5]⟩, ⟨none, [], [], []⟩]
def valQa (b2 b3 b4 b7 : Nat) (T : Tm) (p q : Pt) (c : Cl) (v : Int) (k : Nat) (env : Env) : Value :=
  match k with
  | 0 => .agg (cCl c).toArray
  | 1 => .agg (cTm T p).toArray
  | 2 => .agg (cCl c).toArray
  | 3 => .int .i64 v
  | 4 => .pointer (some ⟨b7, 0, none⟩)
  | 5 => undef
  | 6 => .pointer (some ⟨b7, 2, none⟩)
  | 7 => undef
  | _ => undef
def rowsQa (b2 b3 b4 b7 : Nat) (T : Tm) (p q : Pt) (c : Cl) (v : Int) (k : Nat) (env : Env) : List Row :=
  match k with
  | 5 => [⟨b7, 0, cTm (clT T c) q, some 28, 11⟩]
  | 7 => [⟨b7, 0, cTm (baT T c v) q, some 28, 11⟩]
  | 8 => [⟨b7, 0, cTm T q, some 28, 11⟩]
  | _ => []
theorem locQa (b2 b3 b4 b7 : Nat) (T : Tm) (p q : Pt) (c : Cl) (v : Int) : ∀ k env i q9, i ≠ k → (tAt tsQa k).sup.contains i = false → valQa b2 b3 b4 b7 T p q c v k (upd env i q9) = valQa b2 b3 b4 b7 T p q c v k env ∧ rowsQa b2 b3 b4 b7 T p q c v k (upd env i q9) = rowsQa b2 b3 b4 b7 T p q c v k env := by
  intro k env i q hk hs
  have hu : ∀ j, j ≠ i → upd env i q j = env j := fun j hj => by unfold upd; rw [if_neg hj]
  match k, hk, hs with
  | 0, _, _ => exact ⟨rfl, rfl⟩
  | 1, _, _ => exact ⟨rfl, rfl⟩
  | 2, _, _ => exact ⟨rfl, rfl⟩
  | 3, _, _ => exact ⟨rfl, rfl⟩
  | 4, _, _ => exact ⟨rfl, rfl⟩
  | 5, _, _ => exact ⟨rfl, rfl⟩
  | 6, _, _ => exact ⟨rfl, rfl⟩
  | 7, _, _ => exact ⟨rfl, rfl⟩
  | 8, _, _ => exact ⟨rfl, rfl⟩
  | _ + 9, _, _ => exact ⟨rfl, rfl⟩
def tsQb : List TOp := [⟨some 33, [], [], []⟩, ⟨some 34, [0], [0], []⟩, ⟨some 35, [], [], []⟩, ⟨some 36, [], [], []⟩, ⟨some 37, [3], [3], []⟩, ⟨some 38, [], [], []⟩, ⟨some 39, [3, 4, 5], [4, 5], []⟩, ⟨some 40, [3, 4, 5, 6], [6], []⟩, ⟨some 41, [], [], []⟩, ⟨some 42, [8], [8], []⟩, ⟨some 43, [], [], []⟩, ⟨some 44, [10], [10], []⟩, ⟨some 45, [10, 11], [11], []⟩, ⟨some 46, [8, 9, 10, 11, 12], [9, 12], []⟩, ⟨some 47, [8, 9, 10, 11, 12, 13], [13], []⟩, ⟨some 48, [3, 4, 5, 6, 7, 8, 9, 10, 11, 12, 13, 14], [7, 14], []⟩, ⟨some 49, [0, 1, 2, 3, 4, 5, 6, 7, 8, 9, 10, 11, 12, 13, 14, 15], [1, 2], []⟩, ⟨none, [0, 1, 2, 3, 4, 5, 6, 7, 8, 9, 10, 11, 12, 13, 14, 15, 16], [16, 15], [18]⟩, ⟨none, [], [], []⟩]
def valQb (b2 b3 b4 b7 t n nn kk k1 c1 gb go : Nat) (g x d : Int) (m : List Int) (k : Nat) (env : Env) : Value :=
  match k with
  | 0 => .pointer (some ⟨b7, 5, none⟩)
  | 1 => .slice (some ⟨t, 0, none⟩) nn k1
  | 2 => .int .i64 (kk : Nat)
  | 3 => .pointer (some ⟨b2, 5, none⟩)
  | 4 => .slice (some ⟨gb, go, none⟩) n c1
  | 5 => .int .i64 (kk : Nat)
  | 6 => .pointer (some ⟨gb, go + kk * 1, none⟩)
  | 7 => .int .i64 x
  | 8 => .pointer (some ⟨b2, 5, none⟩)
  | 9 => .slice (some ⟨gb, go, none⟩) n c1
  | 10 => .pointer (some ⟨b3, 0, none⟩)
  | 11 => .int .i64 g
  | 12 => .int .i64 (g - 1)
  | 13 => .pointer (some ⟨gb, go + (g - 1).toNat * 1, none⟩)
  | 14 => .int .i64 d
  | 15 => .int .i64 (x - d)
  | 16 => .pointer (some ⟨t, 0 + kk * 1, none⟩)
  | 17 => undef
  | _ => undef
def rowsQb (b2 b3 b4 b7 t n nn kk k1 c1 gb go : Nat) (g x d : Int) (m : List Int) (k : Nat) (env : Env) : List Row :=
  match k with
  | 17 => [⟨t, 0, (m.set kk (x - d)).flatMap cI, some 3, k1 * 1⟩]
  | 18 => [⟨t, 0, m.flatMap cI, some 3, k1 * 1⟩]
  | _ => []
theorem locQb (b2 b3 b4 b7 t n nn kk k1 c1 gb go : Nat) (g x d : Int) (m : List Int) : ∀ k env i q9, i ≠ k → (tAt tsQb k).sup.contains i = false → valQb b2 b3 b4 b7 t n nn kk k1 c1 gb go g x d m k (upd env i q9) = valQb b2 b3 b4 b7 t n nn kk k1 c1 gb go g x d m k env ∧ rowsQb b2 b3 b4 b7 t n nn kk k1 c1 gb go g x d m k (upd env i q9) = rowsQb b2 b3 b4 b7 t n nn kk k1 c1 gb go g x d m k env := by
  intro k env i q hk hs
  have hu : ∀ j, j ≠ i → upd env i q j = env j := fun j hj => by unfold upd; rw [if_neg hj]
  match k, hk, hs with
  | 0, _, _ => exact ⟨rfl, rfl⟩
  | 1, _, _ => exact ⟨rfl, rfl⟩
  | 2, _, _ => exact ⟨rfl, rfl⟩
  | 3, _, _ => exact ⟨rfl, rfl⟩
  | 4, _, _ => exact ⟨rfl, rfl⟩
  | 5, _, _ => exact ⟨rfl, rfl⟩
  | 6, _, _ => exact ⟨rfl, rfl⟩
  | 7, _, _ => exact ⟨rfl, rfl⟩
  | 8, _, _ => exact ⟨rfl, rfl⟩
  | 9, _, _ => exact ⟨rfl, rfl⟩
  | 10, _, _ => exact ⟨rfl, rfl⟩
  | 11, _, _ => exact ⟨rfl, rfl⟩
  | 12, _, _ => exact ⟨rfl, rfl⟩
  | 13, _, _ => exact ⟨rfl, rfl⟩
  | 14, _, _ => exact ⟨rfl, rfl⟩
  | 15, _, _ => exact ⟨rfl, rfl⟩
  | 16, _, _ => exact ⟨rfl, rfl⟩
  | 17, _, _ => exact ⟨rfl, rfl⟩
  | 18, _, _ => exact ⟨rfl, rfl⟩
  | _ + 19, _, _ => exact ⟨rfl, rfl⟩
def tsQc : List TOp := [⟨some 50, [], [], []⟩, ⟨some 51, [0], [0], []⟩, ⟨some 52, [], [], []⟩, ⟨some 53, [], [], []⟩, ⟨some 54, [3], [3], []⟩, ⟨some 55, [], [], []⟩, ⟨some 56, [3, 4, 5], [4, 5], []⟩, ⟨some 57, [3, 4, 5, 6], [6], []⟩, ⟨some 58, [], [], []⟩, ⟨some 59, [8], [8], []⟩, ⟨some 60, [], [], []⟩, ⟨some 61, [10], [10], []⟩, ⟨some 62, [10, 11], [11], []⟩, ⟨some 63, [8, 9, 10, 11, 12], [9, 12], []⟩, ⟨some 64, [8, 9, 10, 11, 12, 13], [13], []⟩, ⟨some 65, [3, 4, 5, 6, 7, 8, 9, 10, 11, 12, 13, 14], [7, 14], []⟩, ⟨some 66, [0, 1, 2, 3, 4, 5, 6, 7, 8, 9, 10, 11, 12, 13, 14, 15], [1, 2], []⟩, ⟨none, [0, 1, 2, 3, 4, 5, 6, 7, 8, 9, 10, 11, 12, 13, 14, 15, 16], [16, 15], [18]⟩, ⟨none, [], [], []⟩]
def valQc (b2 b3 b4 b7 t n nn kk k1 c1 gb go : Nat) (g x d : Int) (m : List Int) (k : Nat) (env : Env) : Value :=
  match k with
  | 0 => .pointer (some ⟨b7, 6, none⟩)
  | 1 => .slice (some ⟨t, 0, none⟩) nn k1
  | 2 => .int .i64 (kk : Nat)
  | 3 => .pointer (some ⟨b2, 6, none⟩)
  | 4 => .slice (some ⟨gb, go, none⟩) n c1
  | 5 => .int .i64 (kk : Nat)
  | 6 => .pointer (some ⟨gb, go + kk * 1, none⟩)
  | 7 => .int .i64 x
  | 8 => .pointer (some ⟨b2, 6, none⟩)
  | 9 => .slice (some ⟨gb, go, none⟩) n c1
  | 10 => .pointer (some ⟨b3, 1, none⟩)
  | 11 => .int .i64 g
  | 12 => .int .i64 (g - 1)
  | 13 => .pointer (some ⟨gb, go + (g - 1).toNat * 1, none⟩)
  | 14 => .int .i64 d
  | 15 => .int .i64 (x - d)
  | 16 => .pointer (some ⟨t, 0 + kk * 1, none⟩)
  | 17 => undef
  | _ => undef
def rowsQc (b2 b3 b4 b7 t n nn kk k1 c1 gb go : Nat) (g x d : Int) (m : List Int) (k : Nat) (env : Env) : List Row :=
  match k with
  | 17 => [⟨t, 0, (m.set kk (x - d)).flatMap cI, some 3, k1 * 1⟩]
  | 18 => [⟨t, 0, m.flatMap cI, some 3, k1 * 1⟩]
  | _ => []
theorem locQc (b2 b3 b4 b7 t n nn kk k1 c1 gb go : Nat) (g x d : Int) (m : List Int) : ∀ k env i q9, i ≠ k → (tAt tsQc k).sup.contains i = false → valQc b2 b3 b4 b7 t n nn kk k1 c1 gb go g x d m k (upd env i q9) = valQc b2 b3 b4 b7 t n nn kk k1 c1 gb go g x d m k env ∧ rowsQc b2 b3 b4 b7 t n nn kk k1 c1 gb go g x d m k (upd env i q9) = rowsQc b2 b3 b4 b7 t n nn kk k1 c1 gb go g x d m k env := by
  intro k env i q hk hs
  have hu : ∀ j, j ≠ i → upd env i q j = env j := fun j hj => by unfold upd; rw [if_neg hj]
  match k, hk, hs with
  | 0, _, _ => exact ⟨rfl, rfl⟩
  | 1, _, _ => exact ⟨rfl, rfl⟩
  | 2, _, _ => exact ⟨rfl, rfl⟩
  | 3, _, _ => exact ⟨rfl, rfl⟩
  | 4, _, _ => exact ⟨rfl, rfl⟩
  | 5, _, _ => exact ⟨rfl, rfl⟩
  | 6, _, _ => exact ⟨rfl, rfl⟩
  | 7, _, _ => exact ⟨rfl, rfl⟩
  | 8, _, _ => exact ⟨rfl, rfl⟩
  | 9, _, _ => exact ⟨rfl, rfl⟩
  | 10, _, _ => exact ⟨rfl, rfl⟩
  | 11, _, _ => exact ⟨rfl, rfl⟩
  | 12, _, _ => exact ⟨rfl, rfl⟩
  | 13, _, _ => exact ⟨rfl, rfl⟩
  | 14, _, _ => exact ⟨rfl, rfl⟩
  | 15, _, _ => exact ⟨rfl, rfl⟩
  | 16, _, _ => exact ⟨rfl, rfl⟩
  | 17, _, _ => exact ⟨rfl, rfl⟩
  | 18, _, _ => exact ⟨rfl, rfl⟩
  | _ + 19, _, _ => exact ⟨rfl, rfl⟩
theorem rebF_na {T : Tm} {c : Cl} (h : askedE T c ≠ 0) : rebF T c = (Tz, askedE T c) := if_neg h
theorem rebF_nm {T : Tm} {c : Cl} (h : askedE T c = 0) (hm : ¬ may T c = true) : rebF T c = (Tz, 6) := by unfold rebF; rw [if_pos h, if_neg hm]
set_option maxHeartbeats 8000000 in
theorem rreb_spec (T : Tm) (p : Pt) (c : Cl) (H : List Row) (hT : TmOk H T p) : Fc Try.prog 44 [.agg (cTm T p).toArray, .agg (cCl c).toArray] H (ProgT (rebF T c) H) := by
  have hT1 : ∀ Z : List Row, TmOk (Z ++ H) T p := fun Z => hT.sub (fun _ h => List.mem_append_right _ h)
  by_cases hz : askedE T c = 0
  · have hra : ∀ H, TmOk H T p → Fc Try.prog 55 [.agg (cTm T p).toArray, .agg (cCl c).toArray] H (fun v H' => v = .int .i64 0 ∧ H' = H) := fun H h => by
      have := rasked_spec T p c H h
      rwa [hz] at this
    by_cases hm : may T c = true
    · have hrm : ∀ H, Fc Try.prog 57 [.agg (cTm T p).toArray, .agg (cCl c).toArray] H (fun v H' => v = .bool true ∧ H' = H) := fun H => by
        have := rmay_spec T p c H
        rwa [hm] at this
      obtain ⟨hok, hg, hs⟩ := askedE_zero hz
      have hp := hok.num.1
      have l1 := hok.gr.1
      have l2 := hok.st.1
      have d1 := at1_bd hok.gr.2 c.g
      have d2 := at1_bd hok.st.2 c.s
      have q1 := at1_get hg l1
      have q2 := at1_get hs l2
      rw [rebF_ok hz hm]
      obtain ⟨gb, go, e1, he1, _⟩ := hT.gr.elem (i := 0) (by omega)
      obtain ⟨sb, so, e2, he2, _⟩ := hT.st.elem (i := 0) (by omega)
      obtain ⟨a1, c1, a2, c2⟩ := p
      simp only at he1 he2
      subst he1 he2
      refine Fc.mk (callable Try.call44) Try.func44 rfl Try.ntmps44 rfl ?_; dsimp only [fr]
      repeat' (first | (refine XO.op rfl ?_; (first | ((first | refine Xo.ng rfl ?_); (first | (refine Xg.call (EnF.st rfl (Args.cons rfl (Args.cons rfl Args.nil))) rfl rfl (hra _ (hT1 [_, _, _])) ?_; rintro _ H9 ⟨rfl, hH9⟩; subst H9) | (refine Xg.call (EnF.st rfl (Args.cons rfl (Args.cons rfl Args.nil))) rfl rfl (hrm _) ?_; rintro _ H9 ⟨rfl, hH9⟩; subst H9) | (refine Xg.call (EnF.st rfl (by (repeat (first | exact Args.nil | refine Args.cons rfl ?_)); done)) rfl rfl (twin_spec T _ _ (hT1 [_, _, _])) ?_; rintro _ _ ⟨t1, k1, t2, k2, rfl, rfl⟩) | (refine Xg.ev (EvF.move rfl rfl) rfl rfl ?_) | (refine Xg.ev (EvF.assign rfl rfl) rfl rfl ?_) | (refine Xg.ev (EvF.cmp rfl rfl rfl rfl) rfl rfl ?_) | (refine Xg.ev (EvF.not rfl rfl) rfl rfl ?_) | (refine Xg.ev (EvF.loadV rfl rfl (LoadV.whole (te rfl) rfl (List.Mem.tail _ (List.Mem.head _)) rfl)) rfl rfl ?_) | (refine Xg.ev (EvF.loadV rfl rfl (LoadV.whole (te rfl) rfl (List.Mem.tail _ (List.Mem.tail _ (List.Mem.head _))) rfl)) rfl rfl ?_) | (refine Xg.st (StF.boxAgg rfl rfl) rfl rfl ?_; rintro _ _ ⟨bx, rfl, rfl⟩) | (refine Xg.st (StF.alloc rfl Try.zeroValue28 rfl) rfl rfl ?_; rintro _ _ ⟨bx, rfl, rfl⟩) | (refine Xg.st0 (StF.storeAll (i := 0) rfl rfl rfl (te rfl) rfl rfl rfl rfl) rfl ?_; rintro _ _ ⟨rfl, rfl⟩; dsimp only [List.set]))))) | (refine XO.done rfl ?_; refine hK _ _ ?_; clear hK K) | refine X.seq rfl ?_ | refine X.region rfl (fun K hK => ?_) | refine X.skip rfl ?_ | (refine X.ite rfl rfl (fun hc => ?_); (first | (with_reducible refine Xb.caseN hc (fun h => ?_) (fun h => ?_)) | (with_reducible refine Xb.caseB hc (fun h => ?_) (fun h => ?_))) <;> clear hc))
      all_goals try (exfalso; contradiction)
      rename_i b2 b3 b4 h00
      clear h00 h
      obtain ⟨b7, hb7⟩ : ∃ b, b = bx := ⟨_, rfl⟩
      rw [← hb7]
      clear hb7
      refine X.weakR (H' := ⟨b7, 0, cTm T (plT t1 k1 t2 k2), some 28, 11⟩ :: rI (T.G) t1 k1 :: rI (T.S) t2 k2 :: ⟨b4, 0, cTm Tz pz, some 28, 11⟩ :: ⟨b3, 0, cCl c, some 23, 2⟩ :: ⟨b2, 0, cTm T ⟨some ⟨gb, go, none⟩, c1, some ⟨sb, so, none⟩, c2⟩, some 28, 11⟩ :: H) (by (repeat (first | exact List.Sublist.refl _ | apply List.Sublist.cons_cons | apply List.Sublist.cons)); done) ?_
      refine X.regionOb tsQa [2, 3, 4, 7] [(2, .pointer (some ⟨b2, 0, none⟩)), (3, .pointer (some ⟨b3, 0, none⟩)), (4, .pointer (some ⟨b4, 0, none⟩)), (7, .pointer (some ⟨b7, 0, none⟩))] (valQa b2 b3 b4 b7 T ⟨some ⟨gb, go, none⟩, c1, some ⟨sb, so, none⟩, c2⟩ (plT t1 k1 t2 k2) c (val T c.g c.s)) (rowsQa b2 b3 b4 b7 T ⟨some ⟨gb, go, none⟩, c1, some ⟨sb, so, none⟩, c2⟩ (plT t1 k1 t2 k2) c (val T c.g c.s)) (fun _ => (0, 0)) (rI (T.G) t1 k1 :: rI (T.S) t2 k2 :: ⟨b4, 0, cTm Tz pz, some 28, 11⟩ :: ⟨b3, 0, cCl c, some 23, 2⟩ :: ⟨b2, 0, cTm T ⟨some ⟨gb, go, none⟩, c1, some ⟨sb, so, none⟩, c2⟩, some 28, 11⟩ :: H) rfl mixed (by (repeat (first | exact Sub.nil _ | refine Sub.cons rfl ?_)); done) rfl (by kernel_rfl) (locQa b2 b3 b4 b7 T ⟨some ⟨gb, go, none⟩, c1, some ⟨sb, so, none⟩, c2⟩ (plT t1 k1 t2 k2) c (val T c.g c.s)) (List.Sublist.refl _) ?_ ?_
      · repeat' (first | exact AllF.done rfl | (refine AllF.step rfl ?_ ?_; · (first | fail | ((first | refine Ob.ng rfl ?_); (first | exact ObK.pure (fun env R hR => by exact ⟨_, EvF.fieldAddr rfl rfl (te rfl) rfl (te rfl) (by decide), rfl⟩) rfl (fun _ => rfl) | exact ObK.pure (fun env R hR => by exact ⟨_, EvF.loadV rfl rfl (LoadV.whole (te rfl) rfl (hR _ (List.Mem.tail _ (List.Mem.tail _ (List.Mem.tail _ (List.Mem.head _))))) rfl), rfl⟩) rfl (fun _ => rfl) | (exact fun env S hS => OpF.callV (Z := []) (EnF.st rfl (Args.cons rfl (Args.cons rfl Args.nil))) (rvalue_spec T ⟨some ⟨gb, go, none⟩, c1, some ⟨sb, so, none⟩, c2⟩ c _ (hT.sub (fun _ h => hS _ (List.mem_append_right [_, _, _, _, _] h))) hok.gr hok.st (by omega) hg hs) rfl rfl) | (exact ObK.pure (fun env S hS => ⟨_, EvF.loadV rfl rfl (LoadV.whole (te rfl) rfl (hS _ (List.Mem.tail _ (List.Mem.tail _ (List.Mem.tail _ (List.Mem.tail _ (List.Mem.head _)))))) rfl), rfl⟩) rfl (fun _ => rfl)) | (exact fun env S hS => (StF.storeAt (q := 0) (vs := cCl c) (cs := cTm T (plT t1 k1 t2 k2)) rfl rfl rfl (te rfl) rfl rfl rfl (Nat.le_of_ble_eq_true rfl)).op.mono (fun v H' ⟨hv, hH⟩ => ⟨(0, 0), fun h => absurd rfl h, by rw [hH]; exact List.Perm.refl _⟩)) | (exact fun env S hS => (StF.storeOne (i := 0) (cs := cTm (clT T c) (plT t1 k1 t2 k2)) rfl rfl rfl rfl (te rfl) rfl rfl (Nat.le_of_ble_eq_true rfl)).op.mono (fun v H' ⟨hv, hH⟩ => ⟨(0, 0), fun h => absurd rfl h, by rw [hH]; exact List.Perm.refl _⟩)))))))
      intro env t ha hv
      refine ⟨_, ha, ?_⟩
      clear hv
      show X _ _ _ _ (⟨b7, 0, cTm (baT T c (val T c.g c.s)) (plT t1 k1 t2 k2), some 28, 11⟩ :: rI (T.G) t1 k1 :: rI (T.S) t2 k2 :: ⟨b4, 0, cTm Tz pz, some 28, 11⟩ :: ⟨b3, 0, cCl c, some 23, 2⟩ :: ⟨b2, 0, cTm T ⟨some ⟨gb, go, none⟩, c1, some ⟨sb, so, none⟩, c2⟩, some 28, 11⟩ :: H) _
      refine X.permH (H' := rI (mix T.G (at1 T.G c.g) 0) t1 k1 :: ⟨b7, 0, cTm (baT T c (val T c.g c.s)) (plT t1 k1 t2 k2), some 28, 11⟩ :: ⟨b3, 0, cCl c, some 23, 2⟩ :: ⟨b2, 0, cTm T ⟨some ⟨gb, go, none⟩, c1, some ⟨sb, so, none⟩, c2⟩, some 28, 11⟩ :: rI (mix T.S (at1 T.S c.s) 0) t2 k2 :: ⟨b4, 0, cTm Tz pz, some 28, 11⟩ :: H) (by (repeat (first | exact List.Perm.refl _ | refine List.Perm.trans (List.Perm.cons _ ?_) (List.perm_middle (l₁ := [])).symm | refine List.Perm.trans (List.Perm.cons _ ?_) (List.perm_middle (l₁ := [_])).symm | refine List.Perm.trans (List.Perm.cons _ ?_) (List.perm_middle (l₁ := [_, _])).symm | refine List.Perm.trans (List.Perm.cons _ ?_) (List.perm_middle (l₁ := [_, _, _])).symm | refine List.Perm.trans (List.Perm.cons _ ?_) (List.perm_middle (l₁ := [_, _, _, _])).symm | refine List.Perm.trans (List.Perm.cons _ ?_) (List.perm_middle (l₁ := [_, _, _, _, _])).symm | refine List.Perm.trans (List.Perm.cons _ ?_) (List.perm_middle (l₁ := [_, _, _, _, _, _])).symm | refine List.Perm.trans (List.Perm.cons _ ?_) (List.perm_middle (l₁ := [_, _, _, _, _, _, _])).symm | refine List.Perm.trans (List.Perm.cons _ ?_) (List.perm_middle (l₁ := [_, _, _, _, _, _, _, _])).symm )); done) ?_
      repeat' (first | (refine XO.op rfl ?_; (first | ((first | refine Xo.ng rfl ?_); (first | (refine Xg.ev (EvF.assign rfl rfl) rfl rfl ?_))))) | (refine XO.done rfl ?_; refine hK _ _ ?_; clear hK K) | refine X.seq rfl ?_ | refine X.region rfl (fun K hK => ?_) | refine X.block rfl ?_)
      refine X.lp rfl (fun w F' H' => ∃ k : Nat, w = 9 - k ∧ k ≤ 9 ∧ rI (mix T.G (at1 T.G c.g) k) t1 k1 :: ⟨b7, 0, cTm (baT T c (val T c.g c.s)) (plT t1 k1 t2 k2), some 28, 11⟩ :: ⟨b3, 0, cCl c, some 23, 2⟩ :: ⟨b2, 0, cTm T ⟨some ⟨gb, go, none⟩, c1, some ⟨sb, so, none⟩, c2⟩, some 28, 11⟩ :: rI (mix T.S (at1 T.S c.s) k) t2 k2 :: ⟨b4, 0, cTm Tz pz, some 28, 11⟩ :: H = H' ∧
          F' = [(2, .pointer (some ⟨b2, 0, none⟩)), (3, .pointer (some ⟨b3, 0, none⟩)), (4, .pointer (some ⟨b4, 0, none⟩)), (7, .pointer (some ⟨b7, 0, none⟩)), (8, .int .i64 (k : Nat))])
        9 [(2, .pointer (some ⟨b2, 0, none⟩)), (3, .pointer (some ⟨b3, 0, none⟩)), (4, .pointer (some ⟨b4, 0, none⟩)), (7, .pointer (some ⟨b7, 0, none⟩)), (8, .int .i64 (0 : Nat))] _ (by (repeat (first | exact Sub.nil _ | refine Sub.cons rfl ?_)); done) (by (repeat (first | exact List.Sublist.refl _ | apply List.Sublist.cons_cons | apply List.Sublist.cons)); done) ⟨0, by omega, by omega, rfl, rfl⟩ ?_
      rintro _ _ _ ⟨k, rfl, hk, rfl, rfl⟩
      repeat' (first | (refine XO.op rfl ?_; (first | ((first | refine Xo.ng rfl ?_); (first | (refine Xg.ev (EvF.move rfl rfl) rfl rfl ?_) | (refine Xg.ev (EvF.cmp rfl rfl rfl rfl) rfl rfl ?_) | (refine Xg.ev (EvF.loadV rfl rfl (LoadV.whole (te rfl) rfl (List.Mem.tail _ (List.Mem.head _)) rfl)) rfl rfl ?_))))) | (refine XO.done rfl ?_; refine hK _ _ ?_; clear hK K) | refine X.seq rfl ?_ | refine X.region rfl (fun K hK => ?_) | refine X.block rfl ?_ | (refine X.brk rfl ?_; repeat (first | refine blockX_hit rfl ?_ | refine blockX_miss (by decide) ?_)) | refine X.skip rfl ?_ | (refine X.ite rfl rfl (fun hc => ?_); (first | (with_reducible refine Xb.case hc (fun h => ?_) (fun h => ?_))) <;> clear hc))
      · have hk9 : k < 9 := by omega
        obtain ⟨x, hx⟩ : ∃ x, T.G[k]? = some x := ⟨_, List.getElem?_eq_getElem (by omega)⟩
        obtain ⟨y, hy⟩ : ∃ x, T.S[k]? = some x := ⟨_, List.getElem?_eq_getElem (by omega)⟩
        have hxb := hok.gr.2 x (List.mem_of_getElem? hx)
        have hyb := hok.st.2 y (List.mem_of_getElem? hy)
        refine X.regionOb tsQb [2, 3, 4, 7, 8] [(2, .pointer (some ⟨b2, 0, none⟩)), (3, .pointer (some ⟨b3, 0, none⟩)), (4, .pointer (some ⟨b4, 0, none⟩)), (7, .pointer (some ⟨b7, 0, none⟩)), (8, .int .i64 (k : Nat))] (valQb b2 b3 b4 b7 t1 T.G.length T.G.length k k1 c1 gb go c.g x (at1 T.G c.g) (mix T.G (at1 T.G c.g) k)) (rowsQb b2 b3 b4 b7 t1 T.G.length T.G.length k k1 c1 gb go c.g x (at1 T.G c.g) (mix T.G (at1 T.G c.g) k)) (fun _ => (0, 0)) (⟨b7, 0, cTm (baT T c (val T c.g c.s)) (plT t1 k1 t2 k2), some 28, 11⟩ :: ⟨b3, 0, cCl c, some 23, 2⟩ :: ⟨b2, 0, cTm T ⟨some ⟨gb, go, none⟩, c1, some ⟨sb, so, none⟩, c2⟩, some 28, 11⟩ :: rI (mix T.S (at1 T.S c.s) k) t2 k2 :: ⟨b4, 0, cTm Tz pz, some 28, 11⟩ :: H) rfl mixed (by (repeat (first | exact Sub.nil _ | refine Sub.cons rfl ?_)); done) rfl (by kernel_rfl) (locQb b2 b3 b4 b7 t1 T.G.length T.G.length k k1 c1 gb go c.g x (at1 T.G c.g) (mix T.G (at1 T.G c.g) k)) (List.Sublist.refl _) ?_ ?_
        · repeat' (first | exact AllF.done rfl | (refine AllF.step rfl ?_ ?_; · (first | fail | ((first | refine Ob.ng rfl ?_); (first | exact ObK.pure (fun env R hR => by exact ⟨_, EvF.move rfl rfl, rfl⟩) rfl (fun _ => rfl) | exact ObK.pure (fun env R hR => by exact ⟨_, EvF.fieldAddr rfl rfl (te rfl) rfl (te rfl) (by decide), rfl⟩) rfl (fun _ => rfl) | exact ObK.pure (fun env R hR => by exact ⟨_, EvF.loadV rfl rfl (LoadV.own (te rfl) rfl (hR _ (List.Mem.head _)) rfl), rfl⟩) rfl (fun _ => rfl) | exact ObK.pure (fun env R hR => by exact ⟨_, EvF.loadV rfl rfl (LoadV.own (te rfl) rfl (hR _ (List.Mem.tail _ (List.Mem.head _))) rfl), rfl⟩) rfl (fun _ => rfl) | exact ObK.pure (fun env R hR => by exact ⟨_, EvF.loadV rfl rfl (LoadV.own (te rfl) rfl (hR _ (List.Mem.tail _ (List.Mem.tail _ (List.Mem.head _)))) rfl), rfl⟩) rfl (fun _ => rfl) | (exact ObK.pure (fun env S hS => ⟨_, EvF.sub64 rfl rfl rfl (by omega) (by omega), rfl⟩) rfl (fun _ => rfl)) | ((refine fun env S hS => (StF.ofEv (v := .pointer (some ⟨gb, go + k * 1, none⟩)) ?_).op.mono (fun v H' ⟨hv, hH⟩ => ⟨(0, 0), fun _ => hv, by rw [hH]; exact List.Perm.refl _⟩); exact EvF.indexSlice (i := (k : Int)) (off := go) (b := gb) (T := 24) (e := 3) (len := T.G.length) (ti := ⟨.int .i64, 1, 8⟩) rfl rfl rfl (te rfl) (te rfl) (by omega) (by omega))) | ((refine fun env S hS => (StF.ofEv (v := .pointer (some ⟨gb, go + (c.g - 1).toNat * 1, none⟩)) ?_).op.mono (fun v H' ⟨hv, hH⟩ => ⟨(0, 0), fun _ => hv, by rw [hH]; exact List.Perm.refl _⟩); exact EvF.indexSlice (i := c.g - 1) (off := go) (b := gb) (T := 24) (e := 3) (len := T.G.length) (ti := ⟨.int .i64, 1, 8⟩) rfl rfl rfl (te rfl) (te rfl) (by omega) (by omega))) | ((refine fun env S hS => (StF.ofEv (v := .pointer (some ⟨t1, 0 + k * 1, none⟩)) ?_).op.mono (fun v H' ⟨hv, hH⟩ => ⟨(0, 0), fun _ => hv, by rw [hH]; exact List.Perm.refl _⟩); exact EvF.indexSlice (i := (k : Int)) (off := 0) (b := t1) (T := 24) (e := 3) (len := T.G.length) (ti := ⟨.int .i64, 1, 8⟩) rfl rfl rfl (te rfl) (te rfl) (by omega) (by omega))) | (exact ObK.pure (fun env S hS => ⟨.int .i64 x, EvF.loadV rfl rfl (LoadV.el0 (n := k) hT.gr hx (te rfl) rfl (fun _ h => hS _ (List.mem_append_right [_, _, _, _, _] h)) rfl), rfl⟩) rfl (fun _ => rfl)) | (exact ObK.pure (fun env S hS => ⟨.int .i64 (at1 T.G c.g), EvF.loadV rfl rfl (LoadV.el0 (n := (c.g - 1).toNat) hT.gr q1 (te rfl) rfl (fun _ h => hS _ (List.mem_append_right [_, _, _, _, _] h)) rfl), rfl⟩) rfl (fun _ => rfl)) | (exact fun env S hS => (StF.storeI (q := 0) (c := mix T.G (at1 T.G c.g) k) (i := k) rfl rfl rfl (te rfl) rfl rfl (by omega) (by rw [mix_len]; omega)).op.mono (fun v H' ⟨hv, hH⟩ => ⟨(0, 0), fun h => absurd rfl h, by rw [hH]; exact List.Perm.refl _⟩)))))))
        intro env t ha hv
        refine ⟨_, ha, ?_⟩
        clear hv
        show X _ _ _ _ (rI ((mix T.G (at1 T.G c.g) k).set k (x - at1 T.G c.g)) t1 k1 :: ⟨b7, 0, cTm (baT T c (val T c.g c.s)) (plT t1 k1 t2 k2), some 28, 11⟩ :: ⟨b3, 0, cCl c, some 23, 2⟩ :: ⟨b2, 0, cTm T ⟨some ⟨gb, go, none⟩, c1, some ⟨sb, so, none⟩, c2⟩, some 28, 11⟩ :: rI (mix T.S (at1 T.S c.s) k) t2 k2 :: ⟨b4, 0, cTm Tz pz, some 28, 11⟩ :: H) _
        rw [mix_set hx]
        refine X.permH (H' := rI (mix T.S (at1 T.S c.s) k) t2 k2 :: rI (mix T.G (at1 T.G c.g) (k + 1)) t1 k1 :: ⟨b7, 0, cTm (baT T c (val T c.g c.s)) (plT t1 k1 t2 k2), some 28, 11⟩ :: ⟨b3, 0, cCl c, some 23, 2⟩ :: ⟨b2, 0, cTm T ⟨some ⟨gb, go, none⟩, c1, some ⟨sb, so, none⟩, c2⟩, some 28, 11⟩ :: ⟨b4, 0, cTm Tz pz, some 28, 11⟩ :: H) (by (repeat (first | exact List.Perm.refl _ | refine List.Perm.trans (List.Perm.cons _ ?_) (List.perm_middle (l₁ := [])).symm | refine List.Perm.trans (List.Perm.cons _ ?_) (List.perm_middle (l₁ := [_])).symm | refine List.Perm.trans (List.Perm.cons _ ?_) (List.perm_middle (l₁ := [_, _])).symm | refine List.Perm.trans (List.Perm.cons _ ?_) (List.perm_middle (l₁ := [_, _, _])).symm | refine List.Perm.trans (List.Perm.cons _ ?_) (List.perm_middle (l₁ := [_, _, _, _])).symm | refine List.Perm.trans (List.Perm.cons _ ?_) (List.perm_middle (l₁ := [_, _, _, _, _])).symm | refine List.Perm.trans (List.Perm.cons _ ?_) (List.perm_middle (l₁ := [_, _, _, _, _, _])).symm | refine List.Perm.trans (List.Perm.cons _ ?_) (List.perm_middle (l₁ := [_, _, _, _, _, _, _])).symm | refine List.Perm.trans (List.Perm.cons _ ?_) (List.perm_middle (l₁ := [_, _, _, _, _, _, _, _])).symm )); done) ?_
        refine X.regionOb tsQc [2, 3, 4, 7, 8] [(2, .pointer (some ⟨b2, 0, none⟩)), (3, .pointer (some ⟨b3, 0, none⟩)), (4, .pointer (some ⟨b4, 0, none⟩)), (7, .pointer (some ⟨b7, 0, none⟩)), (8, .int .i64 (k : Nat))] (valQc b2 b3 b4 b7 t2 T.S.length T.S.length k k2 c2 sb so c.s y (at1 T.S c.s) (mix T.S (at1 T.S c.s) k)) (rowsQc b2 b3 b4 b7 t2 T.S.length T.S.length k k2 c2 sb so c.s y (at1 T.S c.s) (mix T.S (at1 T.S c.s) k)) (fun _ => (0, 0)) (rI (mix T.G (at1 T.G c.g) (k + 1)) t1 k1 :: ⟨b7, 0, cTm (baT T c (val T c.g c.s)) (plT t1 k1 t2 k2), some 28, 11⟩ :: ⟨b3, 0, cCl c, some 23, 2⟩ :: ⟨b2, 0, cTm T ⟨some ⟨gb, go, none⟩, c1, some ⟨sb, so, none⟩, c2⟩, some 28, 11⟩ :: ⟨b4, 0, cTm Tz pz, some 28, 11⟩ :: H) rfl mixed (by (repeat (first | exact Sub.nil _ | refine Sub.cons rfl ?_)); done) rfl (by kernel_rfl) (locQc b2 b3 b4 b7 t2 T.S.length T.S.length k k2 c2 sb so c.s y (at1 T.S c.s) (mix T.S (at1 T.S c.s) k)) (List.Sublist.refl _) ?_ ?_
        · repeat' (first | exact AllF.done rfl | (refine AllF.step rfl ?_ ?_; · (first | fail | ((first | refine Ob.ng rfl ?_); (first | exact ObK.pure (fun env R hR => by exact ⟨_, EvF.move rfl rfl, rfl⟩) rfl (fun _ => rfl) | exact ObK.pure (fun env R hR => by exact ⟨_, EvF.fieldAddr rfl rfl (te rfl) rfl (te rfl) (by decide), rfl⟩) rfl (fun _ => rfl) | exact ObK.pure (fun env R hR => by exact ⟨_, EvF.loadV rfl rfl (LoadV.own (te rfl) rfl (hR _ (List.Mem.tail _ (List.Mem.head _))) rfl), rfl⟩) rfl (fun _ => rfl) | exact ObK.pure (fun env R hR => by exact ⟨_, EvF.loadV rfl rfl (LoadV.own (te rfl) rfl (hR _ (List.Mem.tail _ (List.Mem.tail _ (List.Mem.head _)))) rfl), rfl⟩) rfl (fun _ => rfl) | exact ObK.pure (fun env R hR => by exact ⟨_, EvF.loadV rfl rfl (LoadV.own (te rfl) rfl (hR _ (List.Mem.tail _ (List.Mem.tail _ (List.Mem.tail _ (List.Mem.head _))))) rfl), rfl⟩) rfl (fun _ => rfl) | (exact ObK.pure (fun env S hS => ⟨_, EvF.sub64 rfl rfl rfl (by omega) (by omega), rfl⟩) rfl (fun _ => rfl)) | ((refine fun env S hS => (StF.ofEv (v := .pointer (some ⟨sb, so + k * 1, none⟩)) ?_).op.mono (fun v H' ⟨hv, hH⟩ => ⟨(0, 0), fun _ => hv, by rw [hH]; exact List.Perm.refl _⟩); exact EvF.indexSlice (i := (k : Int)) (off := so) (b := sb) (T := 24) (e := 3) (len := T.S.length) (ti := ⟨.int .i64, 1, 8⟩) rfl rfl rfl (te rfl) (te rfl) (by omega) (by omega))) | ((refine fun env S hS => (StF.ofEv (v := .pointer (some ⟨sb, so + (c.s - 1).toNat * 1, none⟩)) ?_).op.mono (fun v H' ⟨hv, hH⟩ => ⟨(0, 0), fun _ => hv, by rw [hH]; exact List.Perm.refl _⟩); exact EvF.indexSlice (i := c.s - 1) (off := so) (b := sb) (T := 24) (e := 3) (len := T.S.length) (ti := ⟨.int .i64, 1, 8⟩) rfl rfl rfl (te rfl) (te rfl) (by omega) (by omega))) | ((refine fun env S hS => (StF.ofEv (v := .pointer (some ⟨t2, 0 + k * 1, none⟩)) ?_).op.mono (fun v H' ⟨hv, hH⟩ => ⟨(0, 0), fun _ => hv, by rw [hH]; exact List.Perm.refl _⟩); exact EvF.indexSlice (i := (k : Int)) (off := 0) (b := t2) (T := 24) (e := 3) (len := T.S.length) (ti := ⟨.int .i64, 1, 8⟩) rfl rfl rfl (te rfl) (te rfl) (by omega) (by omega))) | (exact ObK.pure (fun env S hS => ⟨.int .i64 y, EvF.loadV rfl rfl (LoadV.el0 (n := k) hT.st hy (te rfl) rfl (fun _ h => hS _ (List.mem_append_right [_, _, _, _, _] h)) rfl), rfl⟩) rfl (fun _ => rfl)) | (exact ObK.pure (fun env S hS => ⟨.int .i64 (at1 T.S c.s), EvF.loadV rfl rfl (LoadV.el0 (n := (c.s - 1).toNat) hT.st q2 (te rfl) rfl (fun _ h => hS _ (List.mem_append_right [_, _, _, _, _] h)) rfl), rfl⟩) rfl (fun _ => rfl)) | (exact fun env S hS => (StF.storeI (q := 0) (c := mix T.S (at1 T.S c.s) k) (i := k) rfl rfl rfl (te rfl) rfl rfl (by omega) (by rw [mix_len]; omega)).op.mono (fun v H' ⟨hv, hH⟩ => ⟨(0, 0), fun h => absurd rfl h, by rw [hH]; exact List.Perm.refl _⟩)))))))
        intro env t ha hv
        refine ⟨_, ha, ?_⟩
        clear hv
        show X _ _ _ _ (rI ((mix T.S (at1 T.S c.s) k).set k (y - at1 T.S c.s)) t2 k2 :: rI (mix T.G (at1 T.G c.g) (k + 1)) t1 k1 :: ⟨b7, 0, cTm (baT T c (val T c.g c.s)) (plT t1 k1 t2 k2), some 28, 11⟩ :: ⟨b3, 0, cCl c, some 23, 2⟩ :: ⟨b2, 0, cTm T ⟨some ⟨gb, go, none⟩, c1, some ⟨sb, so, none⟩, c2⟩, some 28, 11⟩ :: ⟨b4, 0, cTm Tz pz, some 28, 11⟩ :: H) _
        rw [mix_set hy]
        refine X.permH (H' := rI (mix T.G (at1 T.G c.g) (k + 1)) t1 k1 :: ⟨b7, 0, cTm (baT T c (val T c.g c.s)) (plT t1 k1 t2 k2), some 28, 11⟩ :: ⟨b3, 0, cCl c, some 23, 2⟩ :: ⟨b2, 0, cTm T ⟨some ⟨gb, go, none⟩, c1, some ⟨sb, so, none⟩, c2⟩, some 28, 11⟩ :: rI (mix T.S (at1 T.S c.s) (k + 1)) t2 k2 :: ⟨b4, 0, cTm Tz pz, some 28, 11⟩ :: H) (by (repeat (first | exact List.Perm.refl _ | refine List.Perm.trans (List.Perm.cons _ ?_) (List.perm_middle (l₁ := [])).symm | refine List.Perm.trans (List.Perm.cons _ ?_) (List.perm_middle (l₁ := [_])).symm | refine List.Perm.trans (List.Perm.cons _ ?_) (List.perm_middle (l₁ := [_, _])).symm | refine List.Perm.trans (List.Perm.cons _ ?_) (List.perm_middle (l₁ := [_, _, _])).symm | refine List.Perm.trans (List.Perm.cons _ ?_) (List.perm_middle (l₁ := [_, _, _, _])).symm | refine List.Perm.trans (List.Perm.cons _ ?_) (List.perm_middle (l₁ := [_, _, _, _, _])).symm | refine List.Perm.trans (List.Perm.cons _ ?_) (List.perm_middle (l₁ := [_, _, _, _, _, _])).symm | refine List.Perm.trans (List.Perm.cons _ ?_) (List.perm_middle (l₁ := [_, _, _, _, _, _, _])).symm | refine List.Perm.trans (List.Perm.cons _ ?_) (List.perm_middle (l₁ := [_, _, _, _, _, _, _, _])).symm )); done) ?_
        repeat' (first | (refine XO.op rfl ?_; (first | ((first | refine Xo.ng rfl ?_); (first | (refine Xg.ev (EvF.move rfl rfl) rfl rfl ?_) | (refine Xg.ev (EvF.assign rfl rfl) rfl rfl ?_) | (refine Xg.ev (EvF.add64 rfl rfl rfl (by omega) (by omega)) rfl rfl ?_))))) | (refine XO.done rfl ?_; refine hK _ _ ?_; clear hK K) | refine X.region rfl (fun K hK => ?_))
        refine ⟨_, _, _, (by (repeat (first | exact Sub.nil _ | refine Sub.cons rfl ?_)); done), (by (repeat (first | exact List.Sublist.refl _ | apply List.Sublist.cons_cons | apply List.Sublist.cons)); done), ⟨k + 1, rfl, by omega, rfl, rfl⟩, by omega⟩
      · obtain rfl : k = 9 := by omega
        have m1 : mix T.G (at1 T.G c.g) 9 = (rebT T c).G := by rw [← l1]; exact mix_all _ _
        have m2 : mix T.S (at1 T.S c.s) 9 = (rebT T c).S := by rw [← l2]; exact mix_all _ _
        rw [m1, m2]
        have hvd := fun H' (h : TmOk H' (rebT T c) (plT t1 k1 t2 k2)) => rterms_spec (rebT T c) (plT t1 k1 t2 k2) H' h
        rw [cTm_reb] at hvd
        have hU : ∀ r1 r2 r3 r4, TmOk (rI (rebT T c).G t1 k1 :: r1 :: r2 :: r3 :: rI (rebT T c).S t2 k2 :: r4 :: H) (rebT T c) (plT t1 k1 t2 k2) := fun r1 r2 r3 r4 =>
          ownT (rebT T c) t1 k1 t2 k2 _ (by show (T.G.map _).length ≤ _; rw [List.length_map]; omega) (by show (T.S.map _).length ≤ _; rw [List.length_map]; omega) (List.Mem.head _) (List.Mem.tail _ (List.Mem.tail _ (List.Mem.tail _ (List.Mem.tail _ (List.Mem.head _)))))
        repeat' (first | (refine XO.op rfl ?_; (first | ((first | refine Xo.ng rfl ?_); (first | (refine Xg.call (EnF.st rfl (Args.cons rfl Args.nil)) rfl rfl (hvd _ (hU _ _ _ _)) ?_; rintro _ H9 ⟨rfl, hH9⟩; subst H9) | (refine Xg.ev (EvF.tz rfl) rfl rfl ?_) | (refine Xg.ev (EvF.assign rfl rfl) rfl rfl ?_) | (refine Xg.ev (EvF.not rfl rfl) rfl rfl ?_) | (refine Xg.ev (EvF.loadV rfl rfl (LoadV.whole (te rfl) rfl (List.Mem.tail _ (List.Mem.head _)) rfl)) rfl rfl ?_) | (refine Xg.st0 (StF.storeAll (i := 5) rfl rfl rfl (te rfl) rfl rfl rfl rfl) rfl ?_; rintro _ _ ⟨rfl, rfl⟩; dsimp only [List.set]))))) | (refine XO.done rfl ?_; refine hK _ _ ?_; clear hK K) | refine X.seq rfl ?_ | refine X.region rfl (fun K hK => ?_) | refine X.skip rfl ?_ | refine X.ret rfl ?_ | (refine X.ite rfl rfl (fun hc => ?_); (first | (with_reducible refine Xb.caseN hc (fun h => ?_) (fun h => ?_))) <;> clear hc))
        · rw [vld_no (by assumption)]
          exact ret_two (v := .agg (cTm Tz pz).toArray) (by first | exact .inr rfl | exact .inl rfl) Try.results44 ⟨_, rfl, LoadV.whole (te rfl) rfl (List.Mem.tail _ (List.Mem.tail _ (List.Mem.tail _ (List.Mem.tail _ (List.Mem.tail _ (List.Mem.head _)))))) rfl⟩ rfl (H' := H) (by (repeat (first | exact List.Sublist.refl _ | apply List.Sublist.cons)); done) (progT_no rfl H)
        · rw [vld_ok (by assumption)]
          exact ret_two (v := .agg (cTm (rebT T c) (plT t1 k1 t2 k2)).toArray) (by first | exact .inr rfl | exact .inl rfl) Try.results44 (by rw [cTm_reb]; exact ⟨_, rfl, LoadV.whole (te rfl) rfl (List.Mem.tail _ (List.Mem.tail _ (List.Mem.tail _ (List.Mem.tail _ (List.Mem.tail _ (List.Mem.head _)))))) rfl⟩) rfl (H' := rI (rebT T c).G t1 k1 :: rI (rebT T c).S t2 k2 :: H) (by (repeat (first | exact List.Sublist.refl _ | apply List.Sublist.cons_cons | apply List.Sublist.cons)); done) ⟨_, _, rfl, OwnTm.two (rebT T c) t1 k1 t2 k2, rfl⟩
    · have hrm : ∀ H, Fc Try.prog 57 [.agg (cTm T p).toArray, .agg (cCl c).toArray] H (fun v H' => v = .bool false ∧ H' = H) := fun H => by
        have := rmay_spec T p c H
        rwa [show may T c = false by simpa using hm] at this
      refine Fc.mk (callable Try.call44) Try.func44 rfl Try.ntmps44 rfl ?_; dsimp only [fr]
      repeat' (first | (refine XO.op rfl ?_; (first | ((first | refine Xo.ng rfl ?_); (first | (refine Xg.call (EnF.st rfl (Args.cons rfl (Args.cons rfl Args.nil))) rfl rfl (hra _ (hT1 [_, _, _])) ?_; rintro _ H9 ⟨rfl, hH9⟩; subst H9) | (refine Xg.call (EnF.st rfl (Args.cons rfl (Args.cons rfl Args.nil))) rfl rfl (hrm _) ?_; rintro _ H9 ⟨rfl, hH9⟩; subst H9) | (refine Xg.ev (EvF.tz rfl) rfl rfl ?_) | (refine Xg.ev (EvF.move rfl rfl) rfl rfl ?_) | (refine Xg.ev (EvF.assign rfl rfl) rfl rfl ?_) | (refine Xg.ev (EvF.cmp rfl rfl rfl rfl) rfl rfl ?_) | (refine Xg.ev (EvF.not rfl rfl) rfl rfl ?_) | (refine Xg.ev (EvF.loadV rfl rfl (LoadV.whole (te rfl) rfl (List.Mem.tail _ (List.Mem.head _)) rfl)) rfl rfl ?_) | (refine Xg.ev (EvF.loadV rfl rfl (LoadV.whole (te rfl) rfl (List.Mem.tail _ (List.Mem.tail _ (List.Mem.head _))) rfl)) rfl rfl ?_) | (refine Xg.st (StF.boxAgg rfl rfl) rfl rfl ?_; rintro _ _ ⟨bx, rfl, rfl⟩) | (refine Xg.st (StF.alloc rfl Try.zeroValue28 rfl) rfl rfl ?_; rintro _ _ ⟨bx, rfl, rfl⟩) | (refine Xg.st0 (StF.storeAll (i := 0) rfl rfl rfl (te rfl) rfl rfl rfl rfl) rfl ?_; rintro _ _ ⟨rfl, rfl⟩; dsimp only [List.set]))))) | (refine XO.done rfl ?_; refine hK _ _ ?_; clear hK K) | refine X.seq rfl ?_ | refine X.region rfl (fun K hK => ?_) | refine X.skip rfl ?_ | refine X.ret rfl ?_ | (refine X.ite rfl rfl (fun hc => ?_); (first | (with_reducible refine Xb.caseN hc (fun h => ?_) (fun h => ?_)) | (with_reducible refine Xb.caseB hc (fun h => ?_) (fun h => ?_))) <;> clear hc))
      all_goals try (exfalso; contradiction)
      exact ret_two (v := .agg (cTm Tz pz).toArray) (by first | exact .inr rfl | exact .inl rfl) Try.results44 ⟨_, rfl, LoadV.whole (te rfl) rfl (List.Mem.head _) rfl⟩ rfl (H' := H) (by (repeat (first | exact List.Sublist.refl _ | apply List.Sublist.cons)); done) (progT_no (rebF_nm hz hm) H)
  · refine Fc.mk (callable Try.call44) Try.func44 rfl Try.ntmps44 rfl ?_; dsimp only [fr]
    repeat' (first | (refine XO.op rfl ?_; (first | ((first | refine Xo.ng rfl ?_); (first | (refine Xg.call (EnF.st rfl (Args.cons rfl (Args.cons rfl Args.nil))) rfl rfl (rasked_spec T p c _ (hT1 [_, _, _])) ?_; rintro _ H9 ⟨rfl, hH9⟩; subst H9) | (refine Xg.ev (EvF.tz rfl) rfl rfl ?_) | (refine Xg.ev (EvF.move rfl rfl) rfl rfl ?_) | (refine Xg.ev (EvF.assign rfl rfl) rfl rfl ?_) | (refine Xg.ev (EvF.cmp rfl rfl rfl rfl) rfl rfl ?_) | (refine Xg.ev (EvF.loadV rfl rfl (LoadV.whole (te rfl) rfl (List.Mem.tail _ (List.Mem.head _)) rfl)) rfl rfl ?_) | (refine Xg.ev (EvF.loadV rfl rfl (LoadV.whole (te rfl) rfl (List.Mem.tail _ (List.Mem.tail _ (List.Mem.head _))) rfl)) rfl rfl ?_) | (refine Xg.st (StF.boxAgg rfl rfl) rfl rfl ?_; rintro _ _ ⟨bx, rfl, rfl⟩) | (refine Xg.st (StF.alloc rfl Try.zeroValue28 rfl) rfl rfl ?_; rintro _ _ ⟨bx, rfl, rfl⟩) | (refine Xg.st0 (StF.storeAll (i := 0) rfl rfl rfl (te rfl) rfl rfl rfl rfl) rfl ?_; rintro _ _ ⟨rfl, rfl⟩; dsimp only [List.set]))))) | (refine XO.done rfl ?_; refine hK _ _ ?_; clear hK K) | refine X.seq rfl ?_ | refine X.region rfl (fun K hK => ?_) | refine X.skip rfl ?_ | refine X.ret rfl ?_ | (refine X.ite rfl rfl (fun hc => ?_); (first | (with_reducible refine Xb.caseN hc (fun h => ?_) (fun h => ?_))) <;> clear hc))
    all_goals try (exfalso; exact hz (by assumption))
    exact ret_two (v := .agg (cTm Tz pz).toArray) (by first | exact .inr rfl | exact .inl rfl) Try.results44 ⟨_, rfl, LoadV.whole (te rfl) rfl (List.Mem.head _) rfl⟩ rfl (H' := H) (by (repeat (first | exact List.Sublist.refl _ | apply List.Sublist.cons)); done) (progT_no (rebF_na hz) H)
end Go.Proofs.Ytcjlegjchllgjaa
end
section
set_option linter.unusedVariables false
set_option linter.unusedSimpArgs false
namespace Go.Proofs.Ytcjlegjchllgjaa
open Go Go.Fw
set_option maxRecDepth 10000
set_option maxHeartbeats 8000000 in
theorem spoilT_spec (T : Tm) (t1 k1 t2 k2 : Nat) (H : List Row) (l1 : T.G.length ≤ 1000000) (l2 : T.S.length ≤ 1000000) :
    Fc Try.prog 49 [.agg (cTm T (plT t1 k1 t2 k2)).toArray] (rI T.G t1 k1 :: rI T.S t2 k2 :: H) (fun v H' => v = .tuple #[] ∧ H' = H) := by
  have hc1 := lenI T.G
  have hc2 := lenI T.S
  unfold rI
  generalize T.G.flatMap cI = cs1 at hc1 ⊢
  generalize T.S.flatMap cI = cs2 at hc2 ⊢
  refine Fc.mk (callable Try.call49) Try.func49 rfl Try.ntmps49 rfl ?_; dsimp only [fr]
  refine X.seq rfl ?_; refine X.region rfl (fun K hK => ?_); repeat' (first | (refine XO.op rfl ?_; (first | ((first | refine Xo.ng rfl ?_); (first | (refine Xg.st (StF.boxAgg rfl rfl) rfl rfl ?_; rintro _ _ ⟨bx, rfl, rfl⟩))))) | (refine XO.done rfl ?_; refine hK _ _ ?_; clear hK K))
  rename Nat => b1
  repeat' (first | (refine XO.op rfl ?_; (first | ((first | refine Xo.ng rfl ?_); (first | (refine Xg.ev (EvF.move rfl rfl) rfl rfl ?_) | (refine Xg.ev (EvF.assign rfl rfl) rfl rfl ?_) | (refine Xg.ev (EvF.cmp rfl rfl rfl rfl) rfl rfl ?_) | (refine Xg.ev (EvF.fieldAddr rfl rfl (te rfl) rfl (te rfl) (by decide)) rfl rfl ?_) | (refine Xg.ev (EvF.lenSlice rfl rfl (te rfl)) rfl rfl ?_) | (refine Xg.ev (EvF.loadV rfl rfl (LoadV.own (te rfl) rfl (List.Mem.head _) rfl)) rfl rfl ?_))))) | (refine XO.done rfl ?_; refine hK _ _ ?_; clear hK K) | refine X.seq rfl ?_ | refine X.region rfl (fun K hK => ?_) | refine X.block rfl ?_ | (refine X.brk rfl ?_; repeat (first | refine blockX_hit rfl ?_ | refine blockX_miss (by decide) ?_)) | refine X.skip rfl ?_ | (refine X.ite rfl rfl (fun hc => ?_); (first | (with_reducible refine Xb.case hc (fun h => ?_) (fun h => ?_))) <;> clear hc))
  refine X.lp rfl (fun q F' H' => ∃ (k : Nat) (ds1 : List Value), q = T.G.length - k ∧ k ≤ T.G.length ∧ ds1.length = T.G.length * 1 ∧ ⟨b1, 0, cTm T (plT t1 k1 t2 k2), some 28, 11⟩ :: ⟨t1, 0, ds1, some 3, k1 * 1⟩ :: ⟨t2, 0, cs2, some 3, k2 * 1⟩ :: H = H' ∧ F' = [(1, .pointer (some ⟨b1, 0, none⟩)), (6, .int .i64 T.G.length), (7, .int .i64 k)])
    T.G.length [(1, .pointer (some ⟨b1, 0, none⟩)), (6, .int .i64 T.G.length), (7, .int .i64 (0 : Nat))] _ (by (repeat (first | exact Sub.nil _ | refine Sub.cons rfl ?_)); done) (List.Sublist.refl _) ⟨0, cs1, rfl, Nat.zero_le _, hc1, rfl, rfl⟩ ?_
  rintro _ _ H2 ⟨k, ds1, rfl, hk, hds1, hH, rfl⟩
  subst hH
  repeat' (first | (refine XO.op rfl ?_; (first | ((first | refine Xo.ng rfl ?_); (first | (refine Xg.st0 (StF.storeOne (i := 1) rfl rfl rfl rfl (te rfl) rfl rfl (by rw [hds1]; show 0 + k * 1 < _; omega)) rfl ?_; rintro _ _ ⟨rfl, rfl⟩; dsimp only [List.set]) | (refine Xg.ev (EvF.move rfl rfl) rfl rfl ?_) | (refine Xg.ev (EvF.assign rfl rfl) rfl rfl ?_) | (refine Xg.ev (EvF.cmp rfl rfl rfl rfl) rfl rfl ?_) | (refine Xg.ev (EvF.add64 rfl rfl rfl (by omega) (by omega)) rfl rfl ?_) | (refine Xg.ev (EvF.fieldAddr rfl rfl (te rfl) rfl (te rfl) (by decide)) rfl rfl ?_) | (refine Xg.ev (EvF.lenSlice rfl rfl (te rfl)) rfl rfl ?_) | (refine Xg.ev (EvF.indexSlice rfl rfl rfl (te rfl) (te rfl) (by omega) (by omega)) rfl rfl ?_) | (refine Xg.ev (EvF.loadV rfl rfl (LoadV.own (te rfl) rfl (List.Mem.head _) rfl)) rfl rfl ?_))))) | (refine XO.done rfl ?_; refine hK _ _ ?_; clear hK K) | refine X.seq rfl ?_ | refine X.region rfl (fun K hK => ?_) | refine X.block rfl ?_ | (refine X.brk rfl ?_; repeat (first | refine blockX_hit rfl ?_ | refine blockX_miss (by decide) ?_)) | refine X.skip rfl ?_ | (refine X.ite rfl rfl (fun hc => ?_); (first | (with_reducible refine Xb.case hc (fun h => ?_) (fun h => ?_))) <;> clear hc))
  · exact ⟨_, [(1, .pointer (some ⟨b1, 0, none⟩)), (6, .int .i64 T.G.length), (7, .int .i64 (k + 1 : Nat))], _, (by (repeat (first | exact Sub.nil _ | refine Sub.cons rfl ?_)); done), List.Sublist.refl _, ⟨k + 1, _, rfl, by omega, by rw [List.length_set]; exact hds1, rfl, rfl⟩, by omega⟩
  clear h hk
  refine X.lp rfl (fun q F' H' => ∃ (k : Nat) (ds2 : List Value), q = T.S.length - k ∧ k ≤ T.S.length ∧ ds2.length = T.S.length * 1 ∧ ⟨b1, 0, cTm T (plT t1 k1 t2 k2), some 28, 11⟩ :: ⟨t1, 0, ds1, some 3, k1 * 1⟩ :: ⟨t2, 0, ds2, some 3, k2 * 1⟩ :: H = H' ∧ F' = [(1, .pointer (some ⟨b1, 0, none⟩)), (17, .int .i64 T.S.length), (18, .int .i64 k)])
    T.S.length [(1, .pointer (some ⟨b1, 0, none⟩)), (17, .int .i64 T.S.length), (18, .int .i64 (0 : Nat))] _ (by (repeat (first | exact Sub.nil _ | refine Sub.cons rfl ?_)); done) (List.Sublist.refl _) ⟨0, cs2, rfl, Nat.zero_le _, hc2, rfl, rfl⟩ ?_
  rintro _ _ H2 ⟨k, ds2, rfl, hk, hds2, hH, rfl⟩
  subst hH
  repeat' (first | (refine XO.op rfl ?_; (first | ((first | refine Xo.ng rfl ?_); (first | (refine Xg.st0 (StF.storeOne (i := 2) rfl rfl rfl rfl (te rfl) rfl rfl (by rw [hds2]; show 0 + k * 1 < _; omega)) rfl ?_; rintro _ _ ⟨rfl, rfl⟩; dsimp only [List.set]) | (refine Xg.ev (EvF.move rfl rfl) rfl rfl ?_) | (refine Xg.ev (EvF.assign rfl rfl) rfl rfl ?_) | (refine Xg.ev (EvF.cmp rfl rfl rfl rfl) rfl rfl ?_) | (refine Xg.ev (EvF.add64 rfl rfl rfl (by omega) (by omega)) rfl rfl ?_) | (refine Xg.ev (EvF.fieldAddr rfl rfl (te rfl) rfl (te rfl) (by decide)) rfl rfl ?_) | (refine Xg.ev (EvF.indexSlice rfl rfl rfl (te rfl) (te rfl) (by omega) (by omega)) rfl rfl ?_) | (refine Xg.ev (EvF.loadV rfl rfl (LoadV.own (te rfl) rfl (List.Mem.head _) rfl)) rfl rfl ?_))))) | (refine XO.done rfl ?_; refine hK _ _ ?_; clear hK K) | refine X.seq rfl ?_ | refine X.region rfl (fun K hK => ?_) | refine X.block rfl ?_ | (refine X.brk rfl ?_; repeat (first | refine blockX_hit rfl ?_ | refine blockX_miss (by decide) ?_)) | refine X.skip rfl ?_ | (refine X.ite rfl rfl (fun hc => ?_); (first | (with_reducible refine Xb.case hc (fun h => ?_) (fun h => ?_))) <;> clear hc))
  · exact ⟨_, [(1, .pointer (some ⟨b1, 0, none⟩)), (17, .int .i64 T.S.length), (18, .int .i64 (k + 1 : Nat))], _, (by (repeat (first | exact Sub.nil _ | refine Sub.cons rfl ?_)); done), List.Sublist.refl _, ⟨k + 1, _, rfl, by omega, by rw [List.length_set]; exact hds2, rfl, rfl⟩, by omega⟩
  clear h hk
  exact ret_none (by first | exact .inr rfl | exact .inl rfl) Try.results49 (H' := H) (by (repeat (first | exact List.Sublist.refl _ | apply List.Sublist.cons)); done) ⟨rfl, rfl⟩
set_option maxHeartbeats 8000000 in
theorem spoilT0_spec (H : List Row) : Fc Try.prog 49 [.agg (cTm Tz pz).toArray] H (fun v H' => v = .tuple #[] ∧ H' = H) := by
  refine Fc.mk (callable Try.call49) Try.func49 rfl Try.ntmps49 rfl ?_; dsimp only [fr]
  refine X.seq rfl ?_; refine X.region rfl (fun K hK => ?_); repeat' (first | (refine XO.op rfl ?_; (first | ((first | refine Xo.ng rfl ?_); (first | (refine Xg.st (StF.boxAgg rfl rfl) rfl rfl ?_; rintro _ _ ⟨bx, rfl, rfl⟩))))) | (refine XO.done rfl ?_; refine hK _ _ ?_; clear hK K))
  rename Nat => b1
  repeat' (first | (refine XO.op rfl ?_; (first | ((first | refine Xo.ng rfl ?_); (first | (refine Xg.ev (EvF.move rfl rfl) rfl rfl ?_) | (refine Xg.ev (EvF.assign rfl rfl) rfl rfl ?_) | (refine Xg.ev (EvF.cmp rfl rfl rfl rfl) rfl rfl ?_) | (refine Xg.ev (EvF.fieldAddr rfl rfl (te rfl) rfl (te rfl) (by decide)) rfl rfl ?_) | (refine Xg.ev (EvF.lenSlice rfl rfl (te rfl)) rfl rfl ?_) | (refine Xg.ev (EvF.loadV rfl rfl (LoadV.own (te rfl) rfl (List.Mem.head _) rfl)) rfl rfl ?_))))) | (refine XO.done rfl ?_; refine hK _ _ ?_; clear hK K) | refine X.seq rfl ?_ | refine X.region rfl (fun K hK => ?_) | refine X.block rfl ?_ | (refine X.brk rfl ?_; repeat (first | refine blockX_hit rfl ?_ | refine blockX_miss (by decide) ?_)) | refine X.skip rfl ?_ | (refine X.ite rfl rfl (fun hc => ?_); (first | (with_reducible refine Xb.case hc (fun h => ?_) (fun h => ?_))) <;> clear hc))
  refine X.lp rfl (fun q F' H' => ⟨b1, 0, cTm Tz pz, some 28, 11⟩ :: H = H' ∧ F' = [(1, .pointer (some ⟨b1, 0, none⟩)), (6, .int .i64 (0 : Nat)), (7, .int .i64 (0 : Nat))]) 0 [(1, .pointer (some ⟨b1, 0, none⟩)), (6, .int .i64 (0 : Nat)), (7, .int .i64 (0 : Nat))] _ (by (repeat (first | exact Sub.nil _ | refine Sub.cons rfl ?_)); done) (List.Sublist.refl _) ⟨rfl, rfl⟩ ?_
  rintro _ _ H2 ⟨hH, rfl⟩
  subst hH
  repeat' (first | (refine XO.op rfl ?_; (first | ((first | refine Xo.ng rfl ?_); (first | (refine Xg.ev (EvF.move rfl rfl) rfl rfl ?_) | (refine Xg.ev (EvF.assign rfl rfl) rfl rfl ?_) | (refine Xg.ev (EvF.cmp rfl rfl rfl rfl) rfl rfl ?_) | (refine Xg.ev (EvF.fieldAddr rfl rfl (te rfl) rfl (te rfl) (by decide)) rfl rfl ?_) | (refine Xg.ev (EvF.lenSlice rfl rfl (te rfl)) rfl rfl ?_) | (refine Xg.ev (EvF.loadV rfl rfl (LoadV.own (te rfl) rfl (List.Mem.head _) rfl)) rfl rfl ?_))))) | (refine XO.done rfl ?_; refine hK _ _ ?_; clear hK K) | refine X.seq rfl ?_ | refine X.region rfl (fun K hK => ?_) | refine X.block rfl ?_ | (refine X.brk rfl ?_; repeat (first | refine blockX_hit rfl ?_ | refine blockX_miss (by decide) ?_)) | refine X.skip rfl ?_ | (refine X.ite rfl rfl (fun hc => ?_); (first | (with_reducible refine Xb.case hc (fun h => ?_) (fun h => ?_))) <;> clear hc))
  any_goals (exfalso; omega)
  refine X.lp rfl (fun q F' H' => ⟨b1, 0, cTm Tz pz, some 28, 11⟩ :: H = H' ∧ F' = [(1, .pointer (some ⟨b1, 0, none⟩)), (17, .int .i64 (0 : Nat)), (18, .int .i64 (0 : Nat))]) 0 [(1, .pointer (some ⟨b1, 0, none⟩)), (17, .int .i64 (0 : Nat)), (18, .int .i64 (0 : Nat))] _ (by (repeat (first | exact Sub.nil _ | refine Sub.cons rfl ?_)); done) (List.Sublist.refl _) ⟨rfl, rfl⟩ ?_
  rintro _ _ H2 ⟨hH, rfl⟩
  subst hH
  repeat' (first | (refine XO.op rfl ?_; (first | ((first | refine Xo.ng rfl ?_); (first | (refine Xg.ev (EvF.move rfl rfl) rfl rfl ?_) | (refine Xg.ev (EvF.assign rfl rfl) rfl rfl ?_) | (refine Xg.ev (EvF.cmp rfl rfl rfl rfl) rfl rfl ?_) | (refine Xg.ev (EvF.fieldAddr rfl rfl (te rfl) rfl (te rfl) (by decide)) rfl rfl ?_) | (refine Xg.ev (EvF.lenSlice rfl rfl (te rfl)) rfl rfl ?_) | (refine Xg.ev (EvF.loadV rfl rfl (LoadV.own (te rfl) rfl (List.Mem.head _) rfl)) rfl rfl ?_))))) | (refine XO.done rfl ?_; refine hK _ _ ?_; clear hK K) | refine X.seq rfl ?_ | refine X.region rfl (fun K hK => ?_) | refine X.block rfl ?_ | (refine X.brk rfl ?_; repeat (first | refine blockX_hit rfl ?_ | refine blockX_miss (by decide) ?_)) | refine X.skip rfl ?_ | (refine X.ite rfl rfl (fun hc => ?_); (first | (with_reducible refine Xb.case hc (fun h => ?_) (fun h => ?_))) <;> clear hc))
  any_goals (exfalso; omega)
  exact ret_none (by first | exact .inr rfl | exact .inl rfl) Try.results49 (H' := H) (by (repeat (first | exact List.Sublist.refl _ | apply List.Sublist.cons)); done) ⟨rfl, rfl⟩
theorem spoilOwn {Z : List Row} {T : Tm} {p : Pt} (h : OwnTm Z T p) (h1 : T.G.length ≤ 1000000) (h2 : T.S.length ≤ 1000000) (H : List Row) : Fc Try.prog 49 [.agg (cTm T p).toArray] (Z ++ H) (fun v H' => v = .tuple #[] ∧ H' = H) := by
  rcases h with ⟨rfl, rfl, rfl⟩ | ⟨t1, k1, t2, k2, rfl, hp⟩
  · exact spoilT0_spec H
  · exact (spoilT_spec T t1 k1 t2 k2 H h1 h2).permR (List.Perm.append_right H hp.symm)
/-- terms whose tables are short -/
def smT (T : Tm) : Prop := T.G.length ≤ 1000 ∧ T.S.length ≤ 1000
theorem smT_zero : smT Tz := ⟨Nat.zero_le _, Nat.zero_le _⟩
theorem smT_vld {T : Tm} (h : smT T) : smT (vld T).1 := by
  unfold vld; split
  · exact h
  · exact smT_zero
theorem smT_step {T : Tm} {g n : Int} (h : smT T) : smT (stepF T g n).1 := by
  unfold stepF; split
  · split
    · exact smT_vld ⟨by show (T.G.set _ _).length ≤ _; rw [List.length_set]; exact h.1, h.2⟩
    · exact smT_zero
  · exact smT_zero
theorem smT_reb {T : Tm} {c : Cl} (h : smT T) : smT (rebF T c).1 := by
  unfold rebF; split
  · split
    · exact smT_vld ⟨by show (T.G.map _).length ≤ _; rw [List.length_map]; exact h.1, by show (T.S.map _).length ≤ _; rw [List.length_map]; exact h.2⟩
    · exact smT_zero
  · exact smT_zero
theorem smT_join {T U : Tm} (h : smT T) : smT (joinF T U).1 := by
  unfold joinF; split
  · split
    · split
      · exact smT_zero
      · exact h
    · exact smT_zero
  · exact smT_zero
theorem smT_spl {T : Tm} {n : Int} (h : smT T) : smT (splF T n).1 ∧ smT (splF T n).2.1 := by
  unfold splF; split
  · split
    · exact ⟨h, h⟩
    · exact ⟨smT_zero, smT_zero⟩
  · exact ⟨smT_zero, smT_zero⟩
theorem OwnTm.okS {Z H : List Row} {T : Tm} {p : Pt} (h : OwnTm Z T p) (hs : smT T) (hz : ∀ r ∈ Z, r ∈ H) : TmOk H T p :=
  (h.ok (by have := hs.1; omega) (by have := hs.2; omega)).sub hz
theorem pzA {α : Type} {A L Z R : List α} (h : L.Perm (Z ++ R)) : (A ++ L).Perm (Z ++ (A ++ R)) :=
  (List.Perm.append_left A h).trans (List.perm_append_comm_assoc A Z R)
theorem pzC {α : Type} {a : α} {L Z R : List α} (h : L.Perm (Z ++ R)) : (a :: L).Perm (Z ++ (a :: R)) :=
  pzA (A := [a]) h
end Go.Proofs.Ytcjlegjchllgjaa
end
section
set_option linter.unusedVariables false
set_option linter.unusedSimpArgs false
namespace Go.Proofs.Ytcjlegjchllgjaa
open Go Go.Fw
set_option maxRecDepth 10000
theorem xoPermH {P : Program} {n : Nat} {ops : Array Oper} {i : Nat} {F : FS} {H H' : List Row} {N : FS → List Row → Prop} (hp : H'.Perm H) (k : XO P n ops i F H' N) : XO P n ops i F H N := by
  unfold XO WO at *
  intro t ha ρ ds B w0 w hS
  exact k t ha ρ ds B w0 w (hS.perm hp)
def tsLa : List TOp := [⟨some 40, [], [], []⟩, ⟨some 41, [0], [0], []⟩, ⟨some 42, [], [], []⟩, ⟨some 43, [0, 1, 2], [2], []⟩, ⟨some 13, [], [], []⟩, ⟨some 14, [], [], []⟩, ⟨none, [0, 1, 2, 3, 4, 5], [4, 1], [4]⟩, ⟨none, [0, 1, 2, 3, 4, 5, 6], [5, 3], [5]⟩]
noncomputable def valLa (b6 b7 b10 : Nat) (grade pence bales : Int) (T U : Tm) (p q : Pt) (c : Cl) (k : Nat) (env : Env) : Value :=
  match k with
  | 0 => .agg (cTm T p).toArray
  | 1 => .agg (cTm T (pl4 (env 1))).toArray
  | 2 => .agg (cTm U q).toArray
  | 3 => .agg (cTm U (pl4 (env 3))).toArray
  | 4 => .pointer (some ⟨(env 4).1, 0, none⟩)
  | 5 => .pointer (some ⟨(env 5).1, 0, none⟩)
  | 6 => undef
  | 7 => undef
  | _ => undef
noncomputable def rowsLa (b6 b7 b10 : Nat) (grade pence bales : Int) (T U : Tm) (p q : Pt) (c : Cl) (k : Nat) (env : Env) : List Row :=
  match k with
  | 1 => [rI T.G (un2 (env 1).1).1 (un2 (env 1).1).2, rI T.S (un2 (env 1).2).1 (un2 (env 1).2).2]
  | 3 => [rI U.G (un2 (env 3).1).1 (un2 (env 3).1).2, rI U.S (un2 (env 3).2).1 (un2 (env 3).2).2]
  | 4 => [⟨(env 4).1, 0, cTm Tz pz, some 28, 11⟩]
  | 5 => [⟨(env 5).1, 0, cTm Tz pz, some 28, 11⟩]
  | 6 => [⟨(env 4).1, 0, cTm T (pl4 (env 1)), some 28, 11⟩]
  | 7 => [⟨(env 5).1, 0, cTm U (pl4 (env 3)), some 28, 11⟩]
  | _ => []
theorem locLa (b6 b7 b10 : Nat) (grade pence bales : Int) (T U : Tm) (p q : Pt) (c : Cl) : ∀ k env i q9, i ≠ k → (tAt tsLa k).sup.contains i = false → valLa b6 b7 b10 grade pence bales T U p q c k (upd env i q9) = valLa b6 b7 b10 grade pence bales T U p q c k env ∧ rowsLa b6 b7 b10 grade pence bales T U p q c k (upd env i q9) = rowsLa b6 b7 b10 grade pence bales T U p q c k env := by
  intro k env i q hk hs
  have hu : ∀ j, j ≠ i → upd env i q j = env j := fun j hj => by unfold upd; rw [if_neg hj]
  match k, hk, hs with
  | 0, _, _ => exact ⟨rfl, rfl⟩
  | 1, hk, hs => exact ⟨by simp only [valLa, hu 1 (fun e => hk e.symm)], by simp only [rowsLa, hu 1 (fun e => hk e.symm)]⟩
  | 2, _, _ => exact ⟨rfl, rfl⟩
  | 3, hk, hs => exact ⟨by simp only [valLa, hu 3 (fun e => hk e.symm)], by simp only [rowsLa, hu 3 (fun e => hk e.symm)]⟩
  | 4, hk, hs => exact ⟨by simp only [valLa, hu 4 (fun e => hk e.symm)], by simp only [rowsLa, hu 4 (fun e => hk e.symm)]⟩
  | 5, hk, hs => exact ⟨by simp only [valLa, hu 5 (fun e => hk e.symm)], by simp only [rowsLa, hu 5 (fun e => hk e.symm)]⟩
  | 6, hk, hs => exact ⟨by simp only [valLa, hu 1 (by rintro rfl; cases hs), hu 4 (by rintro rfl; cases hs)], by simp only [rowsLa, hu 1 (by rintro rfl; cases hs), hu 4 (by rintro rfl; cases hs)]⟩
  | 7, hk, hs => exact ⟨by simp only [valLa, hu 3 (by rintro rfl; cases hs), hu 5 (by rintro rfl; cases hs)], by simp only [rowsLa, hu 3 (by rintro rfl; cases hs), hu 5 (by rintro rfl; cases hs)]⟩
  | _ + 8, _, _ => exact ⟨rfl, rfl⟩
set_option maxHeartbeats 16000000 in
theorem termsChanges_spec (T : Tm) (p : Pt) (U : Tm) (q : Pt) (grade pence : Int) (c : Cl) (bales : Int) (H : List Row) (hg : SlE H p.a1 cI 1 T.G) (hs : SlE H p.a2 cI 1 T.S) (hg' : SlE H q.a1 cI 1 U.G) (hs' : SlE H q.a2 cI 1 U.S) :
    Fc Try.prog 9 [.agg (cTm T p).toArray, .agg (cTm U q).toArray, .int .i64 grade, .int .i64 pence, .agg (cCl c).toArray, .int .i64 bales] H (fun v _ => v = .bool true) := by
  by_cases hgr : (T.G.length > 30 ∨ T.S.length > 30)
  · have hG := greatT T p hgr
    refine Fc.mk (callable Try.call9) Try.func9 rfl Try.ntmps9 rfl ?_; dsimp only [fr]
    repeat' (first | (refine XO.op rfl ?_; (first | ((first | refine Xo.ng rfl ?_); (first | (refine Xg.call (EnF.st rfl (Args.cons rfl Args.nil)) rfl rfl (hG _) ?_; rintro _ H9 ⟨rfl, hH9⟩; subst H9) | (refine Xg.ev (EvF.move rfl rfl) rfl rfl ?_) | (refine Xg.ev (EvF.assign rfl rfl) rfl rfl ?_) | (refine Xg.ev (EvF.pickT rfl rfl rfl) rfl rfl ?_) | (refine Xg.ev (EvF.loadV rfl rfl (LoadV.whole (te rfl) rfl (List.Mem.tail _ (List.Mem.tail _ (List.Mem.head _))) rfl)) rfl rfl ?_) | (refine Xg.st (StF.boxAgg rfl rfl) rfl rfl ?_; rintro _ _ ⟨bx, rfl, rfl⟩))) | (refine Xo.g rfl rfl ?_; (first | (with_reducible refine Xw.tf rfl rfl ?_))))) | (refine XO.done rfl ?_; refine hK _ _ ?_; clear hK K) | refine X.seq rfl ?_ | refine X.region rfl (fun K hK => ?_) | refine X.ret rfl ?_ | (refine X.ite rfl rfl (fun hc => ?_); (first | (with_reducible refine Xb.t hc ?_)) <;> clear hc))
    all_goals try (exfalso; contradiction)
    exact ret_one (by first | exact .inr rfl | exact .inl rfl) Try.results9 rfl (H' := _) (List.Sublist.refl _) rfl
  by_cases hgr2 : (U.G.length > 30 ∨ U.S.length > 30)
  · have hG := greatF T p hgr
    have hG2 := greatT U q hgr2
    refine Fc.mk (callable Try.call9) Try.func9 rfl Try.ntmps9 rfl ?_; dsimp only [fr]
    repeat' (first | (refine XO.op rfl ?_; (first | ((first | refine Xo.ng rfl ?_ | (refine Xo.g rfl rfl ?_; with_reducible refine Xw.ff ?_)); (first | (refine Xg.call (EnF.st rfl (Args.cons rfl Args.nil)) rfl rfl (hG _) ?_; rintro _ H9 ⟨rfl, hH9⟩; subst H9) | (refine Xg.call (EnF.st rfl (Args.cons rfl Args.nil)) rfl rfl (hG2 _) ?_; rintro _ H9 ⟨rfl, hH9⟩; subst H9) | (refine Xg.ev (EvF.move rfl rfl) rfl rfl ?_) | (refine Xg.ev (EvF.assign rfl rfl) rfl rfl ?_) | (refine Xg.ev (EvF.pickF rfl rfl rfl) rfl rfl ?_) | (refine Xg.ev (EvF.loadV rfl rfl (LoadV.whole (te rfl) rfl (List.Mem.tail _ (List.Mem.head _)) rfl)) rfl rfl ?_) | (refine Xg.ev (EvF.loadV rfl rfl (LoadV.whole (te rfl) rfl (List.Mem.tail _ (List.Mem.tail _ (List.Mem.head _))) rfl)) rfl rfl ?_) | (refine Xg.st (StF.boxAgg rfl rfl) rfl rfl ?_; rintro _ _ ⟨bx, rfl, rfl⟩))))) | (refine XO.done rfl ?_; refine hK _ _ ?_; clear hK K) | refine X.seq rfl ?_ | refine X.region rfl (fun K hK => ?_) | refine X.ret rfl ?_ | (refine X.ite rfl rfl (fun hc => ?_); (first | (with_reducible refine Xb.t hc ?_)) <;> clear hc))
    all_goals try (exfalso; contradiction)
    exact ret_one (by first | exact .inr rfl | exact .inl rfl) Try.results9 rfl (H' := _) (List.Sublist.refl _) rfl
  have hG := greatF T p hgr
  have hG2 := greatF U q hgr2
  have hT : TmOk H T p := ⟨hg, hs, by omega, by omega⟩
  have hU : TmOk H U q := ⟨hg', hs', by omega, by omega⟩
  have sT : smT T := ⟨by omega, by omega⟩
  have sU : smT U := ⟨by omega, by omega⟩
  have sA := smT_step (g := grade) (n := pence) sT
  have sX := smT_reb (c := c) sT
  have sJ := smT_join (U := U) sT
  have sS := smT_spl (n := bales) sT
  have ka := fun p H (h : TmOk H T p) => kstep_spec T p grade pence H h
  have ra := fun p H (h : TmOk H T p) => rstep_spec T p grade pence H h
  have kx := fun p H (h : TmOk H T p) => kreb_spec T p c H h
  have rx := fun p H (h : TmOk H T p) => rreb_spec T p c H h
  have kj := fun p q H (h : TmOk H T p) (h' : TmOk H U q) => kjoin_spec T U p q H h h'
  have rj := fun p q H (h : TmOk H T p) (h' : TmOk H U q) => rjoin_spec T U p q H h h'
  have ks := fun p H (h : TmOk H T p) => ksplit_spec T p bales H h
  have rs := fun p H (h : TmOk H T p) => rsplit_spec T p bales H h
  obtain ⟨A, eA, hA⟩ : ∃ A e, stepF T grade pence = (A, e) := ⟨_, _, rfl⟩
  obtain ⟨XX, eX, hX⟩ : ∃ A e, rebF T c = (A, e) := ⟨_, _, rfl⟩
  obtain ⟨J, eJ, hJ⟩ : ∃ A e, joinF T U = (A, e) := ⟨_, _, rfl⟩
  obtain ⟨M, N, eM, hM⟩ : ∃ A B e, splF T bales = (A, B, e) := ⟨_, _, _, rfl⟩
  rw [hA] at ka ra sA
  rw [hX] at kx rx sX
  rw [hJ] at kj rj sJ
  rw [hM] at ks rs sS
  clear hA hX hJ hM
  unfold ProgT at ka ra kx rx kj rj
  unfold ProgT2 at ks rs
  dsimp only at ka ra kx rx kj rj ks rs sA sX sJ sS
  refine Fc.mk (callable Try.call9) Try.func9 rfl Try.ntmps9 rfl ?_; dsimp only [fr]
  repeat' (first | (refine XO.op rfl ?_; (first | ((first | refine Xo.ng rfl ?_ | (refine Xo.g rfl rfl ?_; with_reducible refine Xw.ff ?_)); (first | (refine Xg.call (EnF.st rfl (Args.cons rfl Args.nil)) rfl rfl (hG _) ?_; rintro _ H9 ⟨rfl, hH9⟩; subst H9) | (refine Xg.call (EnF.st rfl (Args.cons rfl Args.nil)) rfl rfl (hG2 _) ?_; rintro _ H9 ⟨rfl, hH9⟩; subst H9) | (refine Xg.ev (EvF.move rfl rfl) rfl rfl ?_) | (refine Xg.ev (EvF.assign rfl rfl) rfl rfl ?_) | (refine Xg.ev (EvF.pickF rfl rfl rfl) rfl rfl ?_) | (refine Xg.ev (EvF.loadV rfl rfl (LoadV.whole (te rfl) rfl (List.Mem.tail _ (List.Mem.head _)) rfl)) rfl rfl ?_) | (refine Xg.ev (EvF.loadV rfl rfl (LoadV.whole (te rfl) rfl (List.Mem.tail _ (List.Mem.tail _ (List.Mem.head _))) rfl)) rfl rfl ?_) | (refine Xg.st (StF.boxAgg rfl rfl) rfl rfl ?_; rintro _ _ ⟨bx, rfl, rfl⟩))))) | (refine XO.done rfl ?_; refine hK _ _ ?_; clear hK K) | refine X.seq rfl ?_ | refine X.region rfl (fun K hK => ?_) | refine X.skip rfl ?_ | (refine X.ite rfl rfl (fun hc => ?_); (first | (with_reducible refine Xb.f hc ?_)) <;> clear hc))
  all_goals try (exfalso; contradiction)
  obtain ⟨b10, hb10⟩ : ∃ b, b = bx := ⟨_, rfl⟩
  rw [← hb10]
  clear hb10
  rename_i b6 b7
  refine X.weakR (H' := ⟨b10, 0, cCl c, some 23, 2⟩ :: ⟨b7, 0, cTm U q, some 28, 11⟩ :: ⟨b6, 0, cTm T p, some 28, 11⟩ :: H) (by (repeat (first | exact List.Sublist.refl _ | apply List.Sublist.cons_cons | apply List.Sublist.cons)); done) ?_
  refine X.regionOb tsLa [2, 3, 5, 6, 7, 10] [(2, .int .i64 grade), (3, .int .i64 pence), (5, .int .i64 bales), (6, .pointer (some ⟨b6, 0, none⟩)), (7, .pointer (some ⟨b7, 0, none⟩)), (10, .pointer (some ⟨b10, 0, none⟩))] (valLa b6 b7 b10 grade pence bales T U p q c) (rowsLa b6 b7 b10 grade pence bales T U p q c) (fun _ => (0, 0)) (⟨b10, 0, cCl c, some 23, 2⟩ :: ⟨b7, 0, cTm U q, some 28, 11⟩ :: ⟨b6, 0, cTm T p, some 28, 11⟩ :: H) rfl mixed (by (repeat (first | exact Sub.nil _ | refine Sub.cons rfl ?_)); done) rfl (by kernel_rfl) (locLa b6 b7 b10 grade pence bales T U p q c) (List.Sublist.refl _) ?_ ?_
  · repeat' (first | exact AllF.done rfl | (refine AllF.step rfl ?_ ?_; · (first | fail | ((first | refine Ob.ng rfl ?_); (first | exact ObK.pure (fun env R hR => by exact ⟨_, EvF.loadV rfl rfl (LoadV.whole (te rfl) rfl (hR _ (List.Mem.tail _ (List.Mem.head _))) rfl), rfl⟩) rfl (fun _ => rfl) | exact ObK.pure (fun env R hR => by exact ⟨_, EvF.loadV rfl rfl (LoadV.whole (te rfl) rfl (hR _ (List.Mem.tail _ (List.Mem.tail _ (List.Mem.head _)))) rfl), rfl⟩) rfl (fun _ => rfl) | (exact fun env S hS => (OpF.call (EnF.st rfl (Args.cons rfl Args.nil)) (twin_spec T p _ (hT.sub (fun r hr => hS r (List.mem_append_right [_, _, _] hr))))).mono (fun v H' ⟨t1, k1, t2, k2, hv, hH⟩ => ⟨(pr2 (t1, k1), pr2 (t2, k2)), fun _ => by (show v = .agg (cTm T (pl4 (pr2 (t1, k1), pr2 (t2, k2)))).toArray; rw [pl4_enc]; exact hv), by (show List.Perm H' (ro4 T (pr2 (t1, k1), pr2 (t2, k2)) ++ _); rw [hH, ro4_enc]; exact List.Perm.refl _)⟩)) | (exact fun env S hS => (OpF.call (EnF.st rfl (Args.cons rfl Args.nil)) (twin_spec U q _ (hU.sub (fun r hr => hS r (List.mem_append_right [_, _, _] hr))))).mono (fun v H' ⟨t1, k1, t2, k2, hv, hH⟩ => ⟨(pr2 (t1, k1), pr2 (t2, k2)), fun _ => by (show v = .agg (cTm U (pl4 (pr2 (t1, k1), pr2 (t2, k2)))).toArray; rw [pl4_enc]; exact hv), by (show List.Perm H' (ro4 U (pr2 (t1, k1), pr2 (t2, k2)) ++ _); rw [hH, ro4_enc]; exact List.Perm.refl _)⟩)) | (exact fun env S hS => (StF.alloc rfl Try.zeroValue28 rfl).op.mono (fun v H' ⟨b, hv, hH⟩ => ⟨(b, 0), fun _ => hv, by rw [hH]; exact List.Perm.refl _⟩)) | (exact fun env S hS => (StF.storeAll (i := 0) (vs := cTm T (pl4 (env 1))) (cs := cTm Tz pz) rfl rfl rfl (te rfl) rfl rfl rfl rfl).op.mono (fun v H' ⟨hv, hH⟩ => ⟨(0, 0), fun h => absurd rfl h, by rw [hH]; exact List.Perm.refl _⟩)) | (exact fun env S hS => (StF.storeAll (i := 0) (vs := cTm U (pl4 (env 3))) (cs := cTm Tz pz) rfl rfl rfl (te rfl) rfl rfl rfl rfl).op.mono (fun v H' ⟨hv, hH⟩ => ⟨(0, 0), fun h => absurd rfl h, by rw [hH]; exact List.Perm.refl _⟩)))))))
  intro env t ha hv
  refine ⟨_, (ha.cons (hv 4 13 (Nat.le_of_ble_eq_true rfl) rfl)).cons (hv 5 14 (Nat.le_of_ble_eq_true rfl) rfl), ?_⟩
  clear hv ha
  show X _ _ _ ((14, .pointer (some ⟨(env 5).1, 0, none⟩)) :: (13, .pointer (some ⟨(env 4).1, 0, none⟩)) :: _) (ro4 T (env 1) ++ (ro4 U (env 3) ++ (⟨(env 4).1, 0, cTm T (pl4 (env 1)), some 28, 11⟩ :: ⟨(env 5).1, 0, cTm U (pl4 (env 3)), some 28, 11⟩ :: ⟨b10, 0, cCl c, some 23, 2⟩ :: ⟨b7, 0, cTm U q, some 28, 11⟩ :: ⟨b6, 0, cTm T p, some 28, 11⟩ :: H))) _
  obtain ⟨b13, hb13⟩ : ∃ b, b = (env 4).1 := ⟨_, rfl⟩
  obtain ⟨b14, hb14⟩ : ∃ b, b = (env 5).1 := ⟨_, rfl⟩
  obtain ⟨qo, hqo⟩ : ∃ b, b = pl4 (env 1) := ⟨_, rfl⟩
  obtain ⟨qm, hqm⟩ : ∃ b, b = pl4 (env 3) := ⟨_, rfl⟩
  obtain ⟨HX, hHX⟩ : ∃ HX, HX = ro4 T (env 1) ++ (ro4 U (env 3) ++ (⟨(env 4).1, 0, cTm T (pl4 (env 1)), some 28, 11⟩ :: ⟨(env 5).1, 0, cTm U (pl4 (env 3)), some 28, 11⟩ :: ⟨b10, 0, cCl c, some 23, 2⟩ :: ⟨b7, 0, cTm U q, some 28, 11⟩ :: ⟨b6, 0, cTm T p, some 28, 11⟩ :: H)) := ⟨_, rfl⟩
  rw [← hHX]
  have m13 : ⟨b13, 0, cTm T qo, some 28, 11⟩ ∈ HX := by rw [hHX, hb13, hqo]; refine List.mem_append_right _ (List.mem_append_right _ (List.Mem.head _))
  have m14 : ⟨b14, 0, cTm U qm, some 28, 11⟩ ∈ HX := by rw [hHX, hb14, hqm]; refine List.mem_append_right _ (List.mem_append_right _ (List.Mem.tail _ (List.Mem.head _)))
  have m10 : ⟨b10, 0, cCl c, some 23, 2⟩ ∈ HX := by rw [hHX]; refine List.mem_append_right _ (List.mem_append_right _ (List.Mem.tail _ (List.Mem.tail _ (List.Mem.head _))))
  have m7 : ⟨b7, 0, cTm U q, some 28, 11⟩ ∈ HX := by rw [hHX]; refine List.mem_append_right _ (List.mem_append_right _ (List.Mem.tail _ (List.Mem.tail _ (List.Mem.tail _ (List.Mem.head _)))))
  have m6 : ⟨b6, 0, cTm T p, some 28, 11⟩ ∈ HX := by rw [hHX]; refine List.mem_append_right _ (List.mem_append_right _ (List.Mem.tail _ (List.Mem.tail _ (List.Mem.tail _ (List.Mem.tail _ (List.Mem.head _))))))
  have hI : TmOk HX T p := hT.sub (fun r hr => by rw [hHX]; exact List.mem_append_right _ (List.mem_append_right _ (List.mem_append_right [_, _, _, _, _] hr)))
  have hI' : TmOk HX U q := hU.sub (fun r hr => by rw [hHX]; exact List.mem_append_right _ (List.mem_append_right _ (List.mem_append_right [_, _, _, _, _] hr)))
  have hO : TmOk HX T qo := by rw [hqo]; exact (ro4_own T (env 1)).okS sT (fun r hr => by rw [hHX]; exact List.mem_append_left _ hr)
  have hO' : TmOk HX U qm := by rw [hqm]; exact (ro4_own U (env 3)).okS sU (fun r hr => by rw [hHX]; exact List.mem_append_right _ (List.mem_append_left _ hr))
  rw [← hb13, ← hb14]
  clear hHX hb13 hb14 hqo hqm hT hU hg hs hg' hs'
  obtain ⟨HX0, hX0⟩ : ∃ HX0, HX0 = HX := ⟨_, rfl⟩
  have S0 : ∀ r ∈ HX, r ∈ HX0 := fun r hr => by rw [hX0]; exact hr
  rw [← hX0]
  clear hX0
  repeat' (first | (refine XO.op rfl ?_; (first | ((first | refine Xo.ng rfl ?_); (first | (refine Xg.ev (EvF.loadV rfl rfl (LoadV.whole (te rfl) rfl (S0 _ m13) rfl)) rfl rfl ?_) | (refine Xg.call (EnF.st rfl (by (repeat (first | exact Args.nil | refine Args.cons rfl ?_)); done)) rfl rfl (ka qo _ (hO.sub S0)) ?_; rintro _ _ ⟨pa, Za, rfl, ha, rfl⟩) | (refine Xg.ev (EvF.move rfl rfl) rfl rfl ?_) | (refine Xg.ev (EvF.assign rfl rfl) rfl rfl ?_) | (refine Xg.ev (EvF.extract rfl rfl rfl) rfl rfl ?_) | (refine Xg.st (StF.alloc rfl Try.zeroValue28 rfl) rfl rfl ?_; rintro _ _ ⟨bx, rfl, rfl⟩) | (refine Xg.st0 (StF.storeAll (i := 0) rfl rfl rfl (te rfl) rfl rfl rfl rfl) rfl ?_; rintro _ _ ⟨rfl, rfl⟩; dsimp only [List.set]))))) | (refine XO.done rfl ?_; refine hK _ _ ?_; clear hK K) | refine X.seq rfl ?_ | refine X.region rfl (fun K hK => ?_))
  obtain ⟨b15, hb⟩ : ∃ b, b = bx := ⟨_, rfl⟩
  rw [← hb]
  clear hb
  obtain ⟨HX1, hX1⟩ : ∃ HX1, HX1 = ⟨b15, 0, cTm A pa, some 28, 11⟩ :: (Za ++ HX0) := ⟨_, rfl⟩
  have S1 : ∀ r ∈ HX, r ∈ HX1 := fun r hr => by rw [hX1]; exact List.Mem.tail _ (List.mem_append_right _ (S0 r hr))
  show XO _ _ _ _ _ (⟨b15, 0, cTm A pa, some 28, 11⟩ :: (Za ++ HX0)) _
  rw [← hX1]
  repeat' (first | (refine XO.op rfl ?_; (first | ((first | refine Xo.ng rfl ?_); (first | (refine Xg.ev (EvF.loadV rfl rfl (LoadV.whole (te rfl) rfl (S1 _ m6) rfl)) rfl rfl ?_) | (refine Xg.call (EnF.st rfl (by (repeat (first | exact Args.nil | refine Args.cons rfl ?_)); done)) rfl rfl (ra p _ (hI.sub S1)) ?_; rintro _ _ ⟨pb, Zb, rfl, hb, rfl⟩) | (refine Xg.ev (EvF.move rfl rfl) rfl rfl ?_) | (refine Xg.ev (EvF.assign rfl rfl) rfl rfl ?_) | (refine Xg.ev (EvF.extract rfl rfl rfl) rfl rfl ?_) | (refine Xg.st (StF.alloc rfl Try.zeroValue28 rfl) rfl rfl ?_; rintro _ _ ⟨bx, rfl, rfl⟩) | (refine Xg.st0 (StF.storeAll (i := 0) rfl rfl rfl (te rfl) rfl rfl rfl rfl) rfl ?_; rintro _ _ ⟨rfl, rfl⟩; dsimp only [List.set]))))) | (refine XO.done rfl ?_; refine hK _ _ ?_; clear hK K) | refine X.seq rfl ?_ | refine X.region rfl (fun K hK => ?_))
  obtain ⟨b17, hb⟩ : ∃ b, b = bx := ⟨_, rfl⟩
  rw [← hb]
  clear hb
  obtain ⟨HX2, hX2⟩ : ∃ HX2, HX2 = ⟨b17, 0, cTm A pb, some 28, 11⟩ :: (Zb ++ HX1) := ⟨_, rfl⟩
  have S2 : ∀ r ∈ HX, r ∈ HX2 := fun r hr => by rw [hX2]; exact List.Mem.tail _ (List.mem_append_right _ (S1 r hr))
  show XO _ _ _ _ _ (⟨b17, 0, cTm A pb, some 28, 11⟩ :: (Zb ++ HX1)) _
  rw [← hX2]
  repeat' (first | (refine XO.op rfl ?_; (first | ((first | refine Xo.ng rfl ?_); (first | (refine Xg.ev (EvF.loadV rfl rfl (LoadV.whole (te rfl) rfl (S2 _ m13) rfl)) rfl rfl ?_) | (refine Xg.ev (EvF.loadV rfl rfl (LoadV.whole (te rfl) rfl (S2 _ m10) rfl)) rfl rfl ?_) | (refine Xg.call (EnF.st rfl (by (repeat (first | exact Args.nil | refine Args.cons rfl ?_)); done)) rfl rfl (kx qo _ (hO.sub S2)) ?_; rintro _ _ ⟨px, Zx, rfl, hx, rfl⟩) | (refine Xg.ev (EvF.move rfl rfl) rfl rfl ?_) | (refine Xg.ev (EvF.assign rfl rfl) rfl rfl ?_) | (refine Xg.ev (EvF.extract rfl rfl rfl) rfl rfl ?_) | (refine Xg.st (StF.alloc rfl Try.zeroValue28 rfl) rfl rfl ?_; rintro _ _ ⟨bx, rfl, rfl⟩) | (refine Xg.st0 (StF.storeAll (i := 0) rfl rfl rfl (te rfl) rfl rfl rfl rfl) rfl ?_; rintro _ _ ⟨rfl, rfl⟩; dsimp only [List.set]))))) | (refine XO.done rfl ?_; refine hK _ _ ?_; clear hK K) | refine X.seq rfl ?_ | refine X.region rfl (fun K hK => ?_))
  obtain ⟨b19, hb⟩ : ∃ b, b = bx := ⟨_, rfl⟩
  rw [← hb]
  clear hb
  obtain ⟨HX3, hX3⟩ : ∃ HX3, HX3 = ⟨b19, 0, cTm XX px, some 28, 11⟩ :: (Zx ++ HX2) := ⟨_, rfl⟩
  have S3 : ∀ r ∈ HX, r ∈ HX3 := fun r hr => by rw [hX3]; exact List.Mem.tail _ (List.mem_append_right _ (S2 r hr))
  show XO _ _ _ _ _ (⟨b19, 0, cTm XX px, some 28, 11⟩ :: (Zx ++ HX2)) _
  rw [← hX3]
  repeat' (first | (refine XO.op rfl ?_; (first | ((first | refine Xo.ng rfl ?_); (first | (refine Xg.ev (EvF.loadV rfl rfl (LoadV.whole (te rfl) rfl (S3 _ m6) rfl)) rfl rfl ?_) | (refine Xg.ev (EvF.loadV rfl rfl (LoadV.whole (te rfl) rfl (S3 _ m10) rfl)) rfl rfl ?_) | (refine Xg.call (EnF.st rfl (by (repeat (first | exact Args.nil | refine Args.cons rfl ?_)); done)) rfl rfl (rx p _ (hI.sub S3)) ?_; rintro _ _ ⟨py, Zy, rfl, hy, rfl⟩) | (refine Xg.ev (EvF.move rfl rfl) rfl rfl ?_) | (refine Xg.ev (EvF.assign rfl rfl) rfl rfl ?_) | (refine Xg.ev (EvF.extract rfl rfl rfl) rfl rfl ?_) | (refine Xg.st (StF.alloc rfl Try.zeroValue28 rfl) rfl rfl ?_; rintro _ _ ⟨bx, rfl, rfl⟩) | (refine Xg.st0 (StF.storeAll (i := 0) rfl rfl rfl (te rfl) rfl rfl rfl rfl) rfl ?_; rintro _ _ ⟨rfl, rfl⟩; dsimp only [List.set]))))) | (refine XO.done rfl ?_; refine hK _ _ ?_; clear hK K) | refine X.seq rfl ?_ | refine X.region rfl (fun K hK => ?_))
  obtain ⟨b21, hb⟩ : ∃ b, b = bx := ⟨_, rfl⟩
  rw [← hb]
  clear hb
  obtain ⟨HX4, hX4⟩ : ∃ HX4, HX4 = ⟨b21, 0, cTm XX py, some 28, 11⟩ :: (Zy ++ HX3) := ⟨_, rfl⟩
  have S4 : ∀ r ∈ HX, r ∈ HX4 := fun r hr => by rw [hX4]; exact List.Mem.tail _ (List.mem_append_right _ (S3 r hr))
  show XO _ _ _ _ _ (⟨b21, 0, cTm XX py, some 28, 11⟩ :: (Zy ++ HX3)) _
  rw [← hX4]
  repeat' (first | (refine XO.op rfl ?_; (first | ((first | refine Xo.ng rfl ?_); (first | (refine Xg.ev (EvF.loadV rfl rfl (LoadV.whole (te rfl) rfl (S4 _ m13) rfl)) rfl rfl ?_) | (refine Xg.ev (EvF.loadV rfl rfl (LoadV.whole (te rfl) rfl (S4 _ m14) rfl)) rfl rfl ?_) | (refine Xg.call (EnF.st rfl (by (repeat (first | exact Args.nil | refine Args.cons rfl ?_)); done)) rfl rfl (kj qo qm _ (hO.sub S4) (hO'.sub S4)) ?_; rintro _ _ ⟨pj, Zj, rfl, hj, rfl⟩) | (refine Xg.ev (EvF.move rfl rfl) rfl rfl ?_) | (refine Xg.ev (EvF.assign rfl rfl) rfl rfl ?_) | (refine Xg.ev (EvF.extract rfl rfl rfl) rfl rfl ?_) | (refine Xg.st (StF.alloc rfl Try.zeroValue28 rfl) rfl rfl ?_; rintro _ _ ⟨bx, rfl, rfl⟩) | (refine Xg.st0 (StF.storeAll (i := 0) rfl rfl rfl (te rfl) rfl rfl rfl rfl) rfl ?_; rintro _ _ ⟨rfl, rfl⟩; dsimp only [List.set]))))) | (refine XO.done rfl ?_; refine hK _ _ ?_; clear hK K) | refine X.seq rfl ?_ | refine X.region rfl (fun K hK => ?_))
  obtain ⟨b23, hb⟩ : ∃ b, b = bx := ⟨_, rfl⟩
  rw [← hb]
  clear hb
  obtain ⟨HX5, hX5⟩ : ∃ HX5, HX5 = ⟨b23, 0, cTm J pj, some 28, 11⟩ :: (Zj ++ HX4) := ⟨_, rfl⟩
  have S5 : ∀ r ∈ HX, r ∈ HX5 := fun r hr => by rw [hX5]; exact List.Mem.tail _ (List.mem_append_right _ (S4 r hr))
  show XO _ _ _ _ _ (⟨b23, 0, cTm J pj, some 28, 11⟩ :: (Zj ++ HX4)) _
  rw [← hX5]
  repeat' (first | (refine XO.op rfl ?_; (first | ((first | refine Xo.ng rfl ?_); (first | (refine Xg.ev (EvF.loadV rfl rfl (LoadV.whole (te rfl) rfl (S5 _ m6) rfl)) rfl rfl ?_) | (refine Xg.ev (EvF.loadV rfl rfl (LoadV.whole (te rfl) rfl (S5 _ m7) rfl)) rfl rfl ?_) | (refine Xg.call (EnF.st rfl (by (repeat (first | exact Args.nil | refine Args.cons rfl ?_)); done)) rfl rfl (rj p q _ (hI.sub S5) (hI'.sub S5)) ?_; rintro _ _ ⟨pk, Zk, rfl, hk, rfl⟩) | (refine Xg.ev (EvF.move rfl rfl) rfl rfl ?_) | (refine Xg.ev (EvF.assign rfl rfl) rfl rfl ?_) | (refine Xg.ev (EvF.extract rfl rfl rfl) rfl rfl ?_) | (refine Xg.st (StF.alloc rfl Try.zeroValue28 rfl) rfl rfl ?_; rintro _ _ ⟨bx, rfl, rfl⟩) | (refine Xg.st0 (StF.storeAll (i := 0) rfl rfl rfl (te rfl) rfl rfl rfl rfl) rfl ?_; rintro _ _ ⟨rfl, rfl⟩; dsimp only [List.set]))))) | (refine XO.done rfl ?_; refine hK _ _ ?_; clear hK K) | refine X.seq rfl ?_ | refine X.region rfl (fun K hK => ?_))
  obtain ⟨b25, hb⟩ : ∃ b, b = bx := ⟨_, rfl⟩
  rw [← hb]
  clear hb
  obtain ⟨HX6, hX6⟩ : ∃ HX6, HX6 = ⟨b25, 0, cTm J pk, some 28, 11⟩ :: (Zk ++ HX5) := ⟨_, rfl⟩
  have S6 : ∀ r ∈ HX, r ∈ HX6 := fun r hr => by rw [hX6]; exact List.Mem.tail _ (List.mem_append_right _ (S5 r hr))
  show XO _ _ _ _ _ (⟨b25, 0, cTm J pk, some 28, 11⟩ :: (Zk ++ HX5)) _
  rw [← hX6]
  repeat' (first | (refine XO.op rfl ?_; (first | ((first | refine Xo.ng rfl ?_); (first | (refine Xg.ev (EvF.loadV rfl rfl (LoadV.whole (te rfl) rfl (S6 _ m13) rfl)) rfl rfl ?_) | (refine Xg.call (EnF.st rfl (by (repeat (first | exact Args.nil | refine Args.cons rfl ?_)); done)) rfl rfl (ks qo _ (hO.sub S6)) ?_; rintro _ _ ⟨pm, pn, Zm, Zn, rfl, hm, hn, rfl⟩) | (refine Xg.ev (EvF.move rfl rfl) rfl rfl ?_) | (refine Xg.ev (EvF.assign rfl rfl) rfl rfl ?_) | (refine Xg.ev (EvF.extract rfl rfl rfl) rfl rfl ?_) | (refine Xg.st (StF.alloc rfl Try.zeroValue28 rfl) rfl rfl ?_; rintro _ _ ⟨bx, rfl, rfl⟩) | (refine Xg.st0 (StF.storeAll (i := 0) rfl rfl rfl (te rfl) rfl rfl rfl rfl) rfl ?_; rintro _ _ ⟨rfl, rfl⟩; dsimp only [List.set]) | (refine Xg.st0 (StF.storeAll (i := 1) rfl rfl rfl (te rfl) rfl rfl rfl rfl) rfl ?_; rintro _ _ ⟨rfl, rfl⟩; dsimp only [List.set]))))) | (refine XO.done rfl ?_; refine hK _ _ ?_; clear hK K) | refine X.seq rfl ?_ | refine X.region rfl (fun K hK => ?_))
  rename_i b27
  obtain ⟨b28, hb⟩ : ∃ b, b = bx := ⟨_, rfl⟩
  rw [← hb]
  clear hb
  obtain ⟨HX7, hX7⟩ : ∃ HX7, HX7 = ⟨b28, 0, cTm N pn, some 28, 11⟩ :: ⟨b27, 0, cTm M pm, some 28, 11⟩ :: (Zm ++ (Zn ++ HX6)) := ⟨_, rfl⟩
  have S7 : ∀ r ∈ HX, r ∈ HX7 := fun r hr => by rw [hX7]; exact List.Mem.tail _ (List.Mem.tail _ (List.mem_append_right _ (List.mem_append_right _ (S6 r hr))))
  show XO _ _ _ _ _ (⟨b28, 0, cTm N pn, some 28, 11⟩ :: ⟨b27, 0, cTm M pm, some 28, 11⟩ :: (Zm ++ (Zn ++ HX6))) _
  rw [← hX7]
  repeat' (first | (refine XO.op rfl ?_; (first | ((first | refine Xo.ng rfl ?_); (first | (refine Xg.ev (EvF.loadV rfl rfl (LoadV.whole (te rfl) rfl (S7 _ m6) rfl)) rfl rfl ?_) | (refine Xg.call (EnF.st rfl (by (repeat (first | exact Args.nil | refine Args.cons rfl ?_)); done)) rfl rfl (rs p _ (hI.sub S7)) ?_; rintro _ _ ⟨pr, ps, Zr, Zs, rfl, hr, hs, rfl⟩) | (refine Xg.ev (EvF.move rfl rfl) rfl rfl ?_) | (refine Xg.ev (EvF.assign rfl rfl) rfl rfl ?_) | (refine Xg.ev (EvF.extract rfl rfl rfl) rfl rfl ?_) | (refine Xg.st (StF.alloc rfl Try.zeroValue28 rfl) rfl rfl ?_; rintro _ _ ⟨bx, rfl, rfl⟩) | (refine Xg.st0 (StF.storeAll (i := 0) rfl rfl rfl (te rfl) rfl rfl rfl rfl) rfl ?_; rintro _ _ ⟨rfl, rfl⟩; dsimp only [List.set]) | (refine Xg.st0 (StF.storeAll (i := 1) rfl rfl rfl (te rfl) rfl rfl rfl rfl) rfl ?_; rintro _ _ ⟨rfl, rfl⟩; dsimp only [List.set]))))) | (refine XO.done rfl ?_; refine hK _ _ ?_; clear hK K) | refine X.seq rfl ?_ | refine X.region rfl (fun K hK => ?_))
  rename_i b30
  obtain ⟨b31, hb⟩ : ∃ b, b = bx := ⟨_, rfl⟩
  rw [← hb]
  clear hb
  obtain ⟨HX8, hX8⟩ : ∃ HX8, HX8 = ⟨b31, 0, cTm N ps, some 28, 11⟩ :: ⟨b30, 0, cTm M pr, some 28, 11⟩ :: (Zr ++ (Zs ++ HX7)) := ⟨_, rfl⟩
  have S8 : ∀ r ∈ HX, r ∈ HX8 := fun r hr => by rw [hX8]; exact List.Mem.tail _ (List.Mem.tail _ (List.mem_append_right _ (List.mem_append_right _ (S7 r hr))))
  show XO _ _ _ _ _ (⟨b31, 0, cTm N ps, some 28, 11⟩ :: ⟨b30, 0, cTm M pr, some 28, 11⟩ :: (Zr ++ (Zs ++ HX7))) _
  rw [← hX8]
  have hOld : HX8 = (⟨b31, 0, cTm N ps, some 28, 11⟩ :: (⟨b30, 0, cTm M pr, some 28, 11⟩ :: (Zr ++ (Zs ++ (⟨b28, 0, cTm N pn, some 28, 11⟩ :: (⟨b27, 0, cTm M pm, some 28, 11⟩ :: (Zm ++ (Zn ++ (⟨b25, 0, cTm J pk, some 28, 11⟩ :: (Zk ++ (⟨b23, 0, cTm J pj, some 28, 11⟩ :: (Zj ++ (⟨b21, 0, cTm XX py, some 28, 11⟩ :: (Zy ++ (⟨b19, 0, cTm XX px, some 28, 11⟩ :: (Zx ++ (⟨b17, 0, cTm A pb, some 28, 11⟩ :: (Zb ++ (⟨b15, 0, cTm A pa, some 28, 11⟩ :: (Za ++ HX0)))))))))))))))))))) := by rw [hX8, hX7, hX6, hX5, hX4, hX3, hX2, hX1]
  obtain ⟨R, hR⟩ : ∃ R : List Row, R = (⟨b31, 0, cTm N ps, some 28, 11⟩ :: (⟨b30, 0, cTm M pr, some 28, 11⟩ :: (Zr ++ (Zs ++ (⟨b28, 0, cTm N pn, some 28, 11⟩ :: (⟨b27, 0, cTm M pm, some 28, 11⟩ :: (⟨b25, 0, cTm J pk, some 28, 11⟩ :: (Zk ++ (⟨b23, 0, cTm J pj, some 28, 11⟩ :: (⟨b21, 0, cTm XX py, some 28, 11⟩ :: (Zy ++ (⟨b19, 0, cTm XX px, some 28, 11⟩ :: (⟨b17, 0, cTm A pb, some 28, 11⟩ :: (Zb ++ (⟨b15, 0, cTm A pa, some 28, 11⟩ :: HX0))))))))))))))) := ⟨_, rfl⟩
  have hPm : (Zm ++ (Za ++ (Zx ++ (Zj ++ (Zn ++ R))))).Perm HX8 := by
    rw [hOld, hR]
    refine (List.Perm.append_left Zm (?_ : List.Perm _ (⟨b31, 0, cTm N ps, some 28, 11⟩ :: (⟨b30, 0, cTm M pr, some 28, 11⟩ :: (Zr ++ (Zs ++ (⟨b28, 0, cTm N pn, some 28, 11⟩ :: (⟨b27, 0, cTm M pm, some 28, 11⟩ :: (Zn ++ (⟨b25, 0, cTm J pk, some 28, 11⟩ :: (Zk ++ (⟨b23, 0, cTm J pj, some 28, 11⟩ :: (Zj ++ (⟨b21, 0, cTm XX py, some 28, 11⟩ :: (Zy ++ (⟨b19, 0, cTm XX px, some 28, 11⟩ :: (Zx ++ (⟨b17, 0, cTm A pb, some 28, 11⟩ :: (Zb ++ (⟨b15, 0, cTm A pa, some 28, 11⟩ :: (Za ++ HX0))))))))))))))))))))).trans (List.Perm.symm ?_)
    rotate_left
    · (repeat (first | exact List.Perm.refl _ | refine pzC ?_ | refine pzA ?_)); done
    refine (List.Perm.append_left Za (?_ : List.Perm _ (⟨b31, 0, cTm N ps, some 28, 11⟩ :: (⟨b30, 0, cTm M pr, some 28, 11⟩ :: (Zr ++ (Zs ++ (⟨b28, 0, cTm N pn, some 28, 11⟩ :: (⟨b27, 0, cTm M pm, some 28, 11⟩ :: (Zn ++ (⟨b25, 0, cTm J pk, some 28, 11⟩ :: (Zk ++ (⟨b23, 0, cTm J pj, some 28, 11⟩ :: (Zj ++ (⟨b21, 0, cTm XX py, some 28, 11⟩ :: (Zy ++ (⟨b19, 0, cTm XX px, some 28, 11⟩ :: (Zx ++ (⟨b17, 0, cTm A pb, some 28, 11⟩ :: (Zb ++ (⟨b15, 0, cTm A pa, some 28, 11⟩ :: HX0)))))))))))))))))))).trans (List.Perm.symm ?_)
    rotate_left
    · (repeat (first | exact List.Perm.refl _ | refine pzC ?_ | refine pzA ?_)); done
    refine (List.Perm.append_left Zx (?_ : List.Perm _ (⟨b31, 0, cTm N ps, some 28, 11⟩ :: (⟨b30, 0, cTm M pr, some 28, 11⟩ :: (Zr ++ (Zs ++ (⟨b28, 0, cTm N pn, some 28, 11⟩ :: (⟨b27, 0, cTm M pm, some 28, 11⟩ :: (Zn ++ (⟨b25, 0, cTm J pk, some 28, 11⟩ :: (Zk ++ (⟨b23, 0, cTm J pj, some 28, 11⟩ :: (Zj ++ (⟨b21, 0, cTm XX py, some 28, 11⟩ :: (Zy ++ (⟨b19, 0, cTm XX px, some 28, 11⟩ :: (⟨b17, 0, cTm A pb, some 28, 11⟩ :: (Zb ++ (⟨b15, 0, cTm A pa, some 28, 11⟩ :: HX0))))))))))))))))))).trans (List.Perm.symm ?_)
    rotate_left
    · (repeat (first | exact List.Perm.refl _ | refine pzC ?_ | refine pzA ?_)); done
    refine (List.Perm.append_left Zj (?_ : List.Perm _ (⟨b31, 0, cTm N ps, some 28, 11⟩ :: (⟨b30, 0, cTm M pr, some 28, 11⟩ :: (Zr ++ (Zs ++ (⟨b28, 0, cTm N pn, some 28, 11⟩ :: (⟨b27, 0, cTm M pm, some 28, 11⟩ :: (Zn ++ (⟨b25, 0, cTm J pk, some 28, 11⟩ :: (Zk ++ (⟨b23, 0, cTm J pj, some 28, 11⟩ :: (⟨b21, 0, cTm XX py, some 28, 11⟩ :: (Zy ++ (⟨b19, 0, cTm XX px, some 28, 11⟩ :: (⟨b17, 0, cTm A pb, some 28, 11⟩ :: (Zb ++ (⟨b15, 0, cTm A pa, some 28, 11⟩ :: HX0)))))))))))))))))).trans (List.Perm.symm ?_)
    rotate_left
    · (repeat (first | exact List.Perm.refl _ | refine pzC ?_ | refine pzA ?_)); done
    refine (List.Perm.append_left Zn (?_ : List.Perm _ (⟨b31, 0, cTm N ps, some 28, 11⟩ :: (⟨b30, 0, cTm M pr, some 28, 11⟩ :: (Zr ++ (Zs ++ (⟨b28, 0, cTm N pn, some 28, 11⟩ :: (⟨b27, 0, cTm M pm, some 28, 11⟩ :: (⟨b25, 0, cTm J pk, some 28, 11⟩ :: (Zk ++ (⟨b23, 0, cTm J pj, some 28, 11⟩ :: (⟨b21, 0, cTm XX py, some 28, 11⟩ :: (Zy ++ (⟨b19, 0, cTm XX px, some 28, 11⟩ :: (⟨b17, 0, cTm A pb, some 28, 11⟩ :: (Zb ++ (⟨b15, 0, cTm A pa, some 28, 11⟩ :: HX0))))))))))))))))).trans (List.Perm.symm ?_)
    rotate_left
    · (repeat (first | exact List.Perm.refl _ | refine pzC ?_ | refine pzA ?_)); done
    exact List.Perm.refl _
  have r31 : ⟨b31, 0, cTm N ps, some 28, 11⟩ ∈ R := by rw [hR]; (repeat (first | exact List.Mem.head _ | apply List.Mem.tail | apply List.mem_append_right)); done
  have r30 : ⟨b30, 0, cTm M pr, some 28, 11⟩ ∈ R := by rw [hR]; (repeat (first | exact List.Mem.head _ | apply List.Mem.tail | apply List.mem_append_right)); done
  have r28 : ⟨b28, 0, cTm N pn, some 28, 11⟩ ∈ R := by rw [hR]; (repeat (first | exact List.Mem.head _ | apply List.Mem.tail | apply List.mem_append_right)); done
  have r27 : ⟨b27, 0, cTm M pm, some 28, 11⟩ ∈ R := by rw [hR]; (repeat (first | exact List.Mem.head _ | apply List.Mem.tail | apply List.mem_append_right)); done
  have r25 : ⟨b25, 0, cTm J pk, some 28, 11⟩ ∈ R := by rw [hR]; (repeat (first | exact List.Mem.head _ | apply List.Mem.tail | apply List.mem_append_right)); done
  have r23 : ⟨b23, 0, cTm J pj, some 28, 11⟩ ∈ R := by rw [hR]; (repeat (first | exact List.Mem.head _ | apply List.Mem.tail | apply List.mem_append_right)); done
  have r21 : ⟨b21, 0, cTm XX py, some 28, 11⟩ ∈ R := by rw [hR]; (repeat (first | exact List.Mem.head _ | apply List.Mem.tail | apply List.mem_append_right)); done
  have r19 : ⟨b19, 0, cTm XX px, some 28, 11⟩ ∈ R := by rw [hR]; (repeat (first | exact List.Mem.head _ | apply List.Mem.tail | apply List.mem_append_right)); done
  have r17 : ⟨b17, 0, cTm A pb, some 28, 11⟩ ∈ R := by rw [hR]; (repeat (first | exact List.Mem.head _ | apply List.Mem.tail | apply List.mem_append_right)); done
  have r15 : ⟨b15, 0, cTm A pa, some 28, 11⟩ ∈ R := by rw [hR]; (repeat (first | exact List.Mem.head _ | apply List.Mem.tail | apply List.mem_append_right)); done
  have zZr : ∀ r ∈ Zr, r ∈ R := fun r h => by rw [hR]; (repeat (first | exact List.mem_append_left _ h | exact h | apply List.Mem.tail | apply List.mem_append_right)); done
  have zZs : ∀ r ∈ Zs, r ∈ R := fun r h => by rw [hR]; (repeat (first | exact List.mem_append_left _ h | exact h | apply List.Mem.tail | apply List.mem_append_right)); done
  have zZk : ∀ r ∈ Zk, r ∈ R := fun r h => by rw [hR]; (repeat (first | exact List.mem_append_left _ h | exact h | apply List.Mem.tail | apply List.mem_append_right)); done
  have zZy : ∀ r ∈ Zy, r ∈ R := fun r h => by rw [hR]; (repeat (first | exact List.mem_append_left _ h | exact h | apply List.Mem.tail | apply List.mem_append_right)); done
  have zZb : ∀ r ∈ Zb, r ∈ R := fun r h => by rw [hR]; (repeat (first | exact List.mem_append_left _ h | exact h | apply List.Mem.tail | apply List.mem_append_right)); done
  have zHX0 : ∀ r ∈ HX0, r ∈ R := fun r h => by rw [hR]; (repeat (first | exact List.mem_append_left _ h | exact h | apply List.Mem.tail | apply List.mem_append_right)); done
  have zH : ∀ r ∈ HX, r ∈ R := fun r h => zHX0 r (S0 r h)
  clear hOld hR hX8 hX7 hX6 hX5 hX4 hX3 hX2 hX1 S1 S2 S3 S4 S5 S6 S7 S8
  refine xoPermH hPm ?_
  clear hPm
  have i0 : ∀ r ∈ R, r ∈ Zm ++ (Za ++ (Zx ++ (Zj ++ (Zn ++ (R))))) := fun r h => List.mem_append_right _ (List.mem_append_right _ (List.mem_append_right _ (List.mem_append_right _ (List.mem_append_right _ (h)))))
  have i1 : ∀ r ∈ R, r ∈ Za ++ (Zx ++ (Zj ++ (Zn ++ (R)))) := fun r h => List.mem_append_right _ (List.mem_append_right _ (List.mem_append_right _ (List.mem_append_right _ (h))))
  have i2 : ∀ r ∈ R, r ∈ Zx ++ (Zj ++ (Zn ++ (R))) := fun r h => List.mem_append_right _ (List.mem_append_right _ (List.mem_append_right _ (h)))
  have i3 : ∀ r ∈ R, r ∈ Zj ++ (Zn ++ (R)) := fun r h => List.mem_append_right _ (List.mem_append_right _ (h))
  have i4 : ∀ r ∈ R, r ∈ Zn ++ (R) := fun r h => List.mem_append_right _ (h)
  repeat' (first | (refine XO.op rfl ?_; (first | ((first | refine Xo.ng rfl ?_ | (refine Xo.g rfl rfl ?_; with_reducible refine Xw.tt ?_)); (first | (refine Xg.ev (EvF.loadV rfl rfl (LoadV.whole (te rfl) rfl (i0 _ r15) rfl)) rfl rfl ?_) | (refine Xg.ev (EvF.loadV rfl rfl (LoadV.whole (te rfl) rfl (i0 _ r17) rfl)) rfl rfl ?_) | (refine Xg.ev (EvF.loadV rfl rfl (LoadV.whole (te rfl) rfl (i0 _ r19) rfl)) rfl rfl ?_) | (refine Xg.ev (EvF.loadV rfl rfl (LoadV.whole (te rfl) rfl (i0 _ r21) rfl)) rfl rfl ?_) | (refine Xg.ev (EvF.loadV rfl rfl (LoadV.whole (te rfl) rfl (i0 _ r23) rfl)) rfl rfl ?_) | (refine Xg.ev (EvF.loadV rfl rfl (LoadV.whole (te rfl) rfl (i0 _ r25) rfl)) rfl rfl ?_) | (refine Xg.ev (EvF.loadV rfl rfl (LoadV.whole (te rfl) rfl (i0 _ r27) rfl)) rfl rfl ?_) | (refine Xg.ev (EvF.loadV rfl rfl (LoadV.whole (te rfl) rfl (i0 _ r30) rfl)) rfl rfl ?_) | (refine Xg.ev (EvF.loadV rfl rfl (LoadV.whole (te rfl) rfl (i0 _ r28) rfl)) rfl rfl ?_) | (refine Xg.ev (EvF.loadV rfl rfl (LoadV.whole (te rfl) rfl (i0 _ r31) rfl)) rfl rfl ?_) | (refine Xg.call (EnF.st rfl (Args.cons rfl (Args.cons rfl Args.nil))) rfl rfl (sameT_self A pa pb _ (ha.okS sA (fun r h => List.mem_append_right _ (List.mem_append_left _ h))) (hb.okS sA (fun r h => i0 r (zZb r h)))) ?_; rintro _ H9 ⟨rfl, hH9⟩; subst H9) | (refine Xg.call (EnF.st rfl (Args.cons rfl (Args.cons rfl Args.nil))) rfl rfl (sameT_self XX px py _ (hx.okS sX (fun r h => List.mem_append_right _ (List.mem_append_right _ (List.mem_append_left _ h)))) (hy.okS sX (fun r h => i0 r (zZy r h)))) ?_; rintro _ H9 ⟨rfl, hH9⟩; subst H9) | (refine Xg.call (EnF.st rfl (Args.cons rfl (Args.cons rfl Args.nil))) rfl rfl (sameT_self J pj pk _ (hj.okS sJ (fun r h => List.mem_append_right _ (List.mem_append_right _ (List.mem_append_right _ (List.mem_append_left _ h))))) (hk.okS sJ (fun r h => i0 r (zZk r h)))) ?_; rintro _ H9 ⟨rfl, hH9⟩; subst H9) | (refine Xg.call (EnF.st rfl (Args.cons rfl (Args.cons rfl Args.nil))) rfl rfl (sameT_self M pm pr _ (hm.okS sS.1 (fun r h => List.mem_append_left _ h)) (hr.okS sS.1 (fun r h => i0 r (zZr r h)))) ?_; rintro _ H9 ⟨rfl, hH9⟩; subst H9) | (refine Xg.call (EnF.st rfl (Args.cons rfl (Args.cons rfl Args.nil))) rfl rfl (sameT_self N pn ps _ (hn.okS sS.2 (fun r h => List.mem_append_right _ (List.mem_append_right _ (List.mem_append_right _ (List.mem_append_right _ (List.mem_append_left _ h)))))) (hs.okS sS.2 (fun r h => i0 r (zZs r h)))) ?_; rintro _ H9 ⟨rfl, hH9⟩; subst H9) | (refine Xg.ev (EvF.eqSelf rfl rfl rfl) rfl rfl ?_) | (refine Xg.call (EnF.st rfl (Args.cons rfl Args.nil)) rfl rfl (spoilOwn hm (by have := sS.1.1; omega) (by have := sS.1.2; omega) _) ?_; rintro _ H9 ⟨rfl, hH9⟩; subst H9) | (refine Xg.ev (EvF.move rfl rfl) rfl rfl ?_) | (refine Xg.ev (EvF.assign rfl rfl) rfl rfl ?_) | (refine Xg.ev (EvF.pickT rfl rfl rfl) rfl rfl ?_))))) | (refine XO.done rfl ?_; refine hK _ _ ?_; clear hK K) | refine X.seq rfl ?_ | refine X.region rfl (fun K hK => ?_))
  repeat' (first | (refine XO.op rfl ?_; (first | ((first | refine Xo.ng rfl ?_ | (refine Xo.g rfl rfl ?_; with_reducible refine Xw.tt ?_)); (first | (refine Xg.ev (EvF.loadV rfl rfl (LoadV.whole (te rfl) rfl (i1 _ r28) rfl)) rfl rfl ?_) | (refine Xg.ev (EvF.loadV rfl rfl (LoadV.whole (te rfl) rfl (i1 _ r31) rfl)) rfl rfl ?_) | (refine Xg.ev (EvF.loadV rfl rfl (LoadV.whole (te rfl) rfl (i1 _ r15) rfl)) rfl rfl ?_) | (refine Xg.call (EnF.st rfl (Args.cons rfl (Args.cons rfl Args.nil))) rfl rfl (sameT_self N pn ps _ (hn.okS sS.2 (fun r h => List.mem_append_right _ (List.mem_append_right _ (List.mem_append_right _ (List.mem_append_left _ h))))) (hs.okS sS.2 (fun r h => i1 r (zZs r h)))) ?_; rintro _ H9 ⟨rfl, hH9⟩; subst H9) | (refine Xg.call (EnF.st rfl (Args.cons rfl Args.nil)) rfl rfl (spoilOwn ha (by have := sA.1; omega) (by have := sA.2; omega) _) ?_; rintro _ H9 ⟨rfl, hH9⟩; subst H9) | (refine Xg.ev (EvF.assign rfl rfl) rfl rfl ?_) | (refine Xg.ev (EvF.pickT rfl rfl rfl) rfl rfl ?_))))) | (refine XO.done rfl ?_; refine hK _ _ ?_; clear hK K) | refine X.seq rfl ?_ | refine X.region rfl (fun K hK => ?_))
  repeat' (first | (refine XO.op rfl ?_; (first | ((first | refine Xo.ng rfl ?_); (first | (refine Xg.ev (EvF.loadV rfl rfl (LoadV.whole (te rfl) rfl (i2 _ r19) rfl)) rfl rfl ?_) | (refine Xg.call (EnF.st rfl (Args.cons rfl Args.nil)) rfl rfl (spoilOwn hx (by have := sX.1; omega) (by have := sX.2; omega) _) ?_; rintro _ H9 ⟨rfl, hH9⟩; subst H9))))) | (refine XO.done rfl ?_; refine hK _ _ ?_; clear hK K) | refine X.seq rfl ?_ | refine X.region rfl (fun K hK => ?_))
  repeat' (first | (refine XO.op rfl ?_; (first | ((first | refine Xo.ng rfl ?_); (first | (refine Xg.ev (EvF.loadV rfl rfl (LoadV.whole (te rfl) rfl (i3 _ r23) rfl)) rfl rfl ?_) | (refine Xg.call (EnF.st rfl (Args.cons rfl Args.nil)) rfl rfl (spoilOwn hj (by have := sJ.1; omega) (by have := sJ.2; omega) _) ?_; rintro _ H9 ⟨rfl, hH9⟩; subst H9))))) | (refine XO.done rfl ?_; refine hK _ _ ?_; clear hK K) | refine X.seq rfl ?_ | refine X.region rfl (fun K hK => ?_))
  repeat' (first | (refine XO.op rfl ?_; (first | ((first | refine Xo.ng rfl ?_ | (refine Xo.g rfl rfl ?_; with_reducible refine Xw.tt ?_)); (first | (refine Xg.ev (EvF.loadV rfl rfl (LoadV.whole (te rfl) rfl (i4 _ r28) rfl)) rfl rfl ?_) | (refine Xg.call (EnF.st rfl (Args.cons rfl Args.nil)) rfl rfl (spoilOwn hn (by have := sS.2.1; omega) (by have := sS.2.2; omega) _) ?_; rintro _ H9 ⟨rfl, hH9⟩; subst H9) | (refine Xg.ev (EvF.move rfl rfl) rfl rfl ?_))))) | (refine XO.done rfl ?_; refine hK _ _ ?_; clear hK K) | refine X.seq rfl ?_ | refine X.region rfl (fun K hK => ?_))
  repeat' (first | (refine XO.op rfl ?_; (first | ((first | refine Xo.ng rfl ?_ | (refine Xo.g rfl rfl ?_; with_reducible refine Xw.tt ?_)); (first | (refine Xg.ev (EvF.loadV rfl rfl (LoadV.whole (te rfl) rfl (zH _ m13) rfl)) rfl rfl ?_) | (refine Xg.ev (EvF.loadV rfl rfl (LoadV.whole (te rfl) rfl (zH _ m6) rfl)) rfl rfl ?_) | (refine Xg.ev (EvF.loadV rfl rfl (LoadV.whole (te rfl) rfl (zH _ m14) rfl)) rfl rfl ?_) | (refine Xg.ev (EvF.loadV rfl rfl (LoadV.whole (te rfl) rfl (zH _ m7) rfl)) rfl rfl ?_) | (refine Xg.call (EnF.st rfl (Args.cons rfl (Args.cons rfl Args.nil))) rfl rfl (sameT_self T qo p _ (hO.sub zH) (hI.sub zH)) ?_; rintro _ H9 ⟨rfl, hH9⟩; subst H9) | (refine Xg.call (EnF.st rfl (Args.cons rfl (Args.cons rfl Args.nil))) rfl rfl (sameT_self U qm q _ (hO'.sub zH) (hI'.sub zH)) ?_; rintro _ H9 ⟨rfl, hH9⟩; subst H9) | (refine Xg.ev (EvF.move rfl rfl) rfl rfl ?_) | (refine Xg.ev (EvF.assign rfl rfl) rfl rfl ?_) | (refine Xg.ev (EvF.pickT rfl rfl rfl) rfl rfl ?_))))) | (refine XO.done rfl ?_; refine hK _ _ ?_; clear hK K) | refine X.ret rfl ?_)
  exact ret_one (by first | exact .inr rfl | exact .inl rfl) Try.results9 rfl (H' := _) (List.Sublist.refl _) rfl
end Go.Proofs.Ytcjlegjchllgjaa
end
section
set_option linter.unusedVariables false
namespace Go.Proofs.Ytcjlegjchllgjaa
open Go Go.Fw Go.ChangeShapes Go.WideShapes Go.ChangeAt Go.RowKit
set_option linter.unusedVariables false
set_option maxRecDepth 100000
theorem termsChanges_run (T : Tm) (pT : Pt) (U : Tm) (pU : Pt) (grade : Int) (pence : Int) (c : Cl) (bales : Int) (w : World) (hT : InTm w T pT) (hU : InTm w U pU) :
    Calls Try.prog 9 #[.agg (cTm T pT).toArray, .agg (cTm U pU).toArray, .int .i64 grade, .int .i64 pence, .agg (cCl c).toArray, .int .i64 bales] w fun e w' => e = .returned (.bool true) ∧ Below w.heap.size w w' :=
  Fc.calls (H := rowsTm T pT ++ (rowsTm U pU)) (termsChanges_spec T pT U pU grade pence c bales _ (hT.g (fun _ h => (List.mem_append_left _ h))) (hT.s (fun _ h => (List.mem_append_left _ h))) (hU.g (fun _ h => (List.mem_append_right _ h))) (hU.s (fun _ h => (List.mem_append_right _ h)))) (fun r hr => by
    rcases List.mem_append.1 hr with hr | hr
    · exact hT.ok r hr
    exact hU.ok r hr
  )
theorem lifted (os : Os) (started : os.Started) (H : Type) (enc : TypeId × Value → H) :
    ReturnsInHanded {} Try.checked os 9 .any (Rows.termsChangesSpec.pre6 enc Try.prog Try.f9 Rows.termsChangesRow.domain false) (Rows.termsChangesSpec.post enc Try.prog Try.f9 false true false false) := by
  refine returnsInHanded_of_change (C := Try.checked) ownK started (by kernel_rfl) Try.func9
    (ChangeSpec.witness6 (enc := enc) (C := Try.checked) false ⟨#[], #[.agg (cTm Tz pz).toArray, .agg (cTm Tz pz).toArray, .int .i64 0, .int .i64 0, .agg (cCl ⟨0, 0⟩).toArray, .int .i64 0], []⟩ 8 (by kernel_rfl) (by kernel_rfl) (by kernel_rfl) (by kernel_rfl)) ?_
  intro W base args ds gs before hval0 hW hcnd _
  have hval : ∀ (j : Nat) t v, Try.f9.params[j]? = some t → args[j]? = some v → Value.okWide Try.prog W .any base t v := hval0
  have hW' := hW
  obtain ⟨p, q, hA0, hV, rfl, hfz, hnd⟩ := hW
  have hA : DataW.TrodAll enc Try.prog W 0 (fun _ => true) true Try.f9.params.toList args.toList ds p := hA0
  rw [Try.params9] at hA hval
  obtain ⟨v0, vs0, d0, ds0, p0, q0, hargs, rfl, rfl, h0, r0⟩ := trodAll_cons hA
  obtain ⟨v1, vs1, d1, ds1, p1, q1, rfl, rfl, rfl, h1, r1⟩ := trodAll_cons r0
  obtain ⟨v2, vs2, d2, ds2, p2, q2, rfl, rfl, rfl, h2, r2⟩ := trodAll_cons r1
  obtain ⟨v3, vs3, d3, ds3, p3, q3, rfl, rfl, rfl, h3, r3⟩ := trodAll_cons r2
  obtain ⟨v4, vs4, d4, ds4, p4, q4, rfl, rfl, rfl, h4, r4⟩ := trodAll_cons r3
  obtain ⟨v5, vs5, d5, ds5, p5, q5, rfl, rfl, rfl, h5, r5⟩ := trodAll_cons r4
  obtain ⟨rfl, rfl, rfl⟩ := trodAll_nil r5
  obtain rfl : args = #[v0, v1, v2, v3, v4, v5] := by cases args; simp_all
  obtain ⟨rfl, rfl⟩ := trodVars_none hV
  have lt : ∀ {t v d ps}, DataW.Trod enc Try.prog W 0 (fun _ => true) true t v d ps → ∀ x ∈ ps, x.block < W.heap.size := fun h => by obtain ⟨m, hm⟩ := h; exact DataW.trod_lt m _ _ _ hm
  obtain ⟨T, pT, rfl, hT⟩ := open_terms (hval 0 _ v0 rfl rfl) h0
  obtain ⟨U, pU, rfl, hU⟩ := open_terms (hval 1 _ v1 rfl rfl) h1
  obtain ⟨grade, rfl⟩ := open_int (hval 2 _ v2 rfl rfl)
  obtain ⟨pence, rfl⟩ := open_int (hval 3 _ v3 rfl rfl)
  obtain ⟨c, rfl⟩ := open_class (hval 4 _ v4 rfl rfl) h4
  obtain ⟨bales, rfl⟩ := open_int (hval 5 _ v5 rfl rfl)
  clear hA0 hval0
  refine (termsChanges_run T pT U pU grade pence c bales W hT hU).mono fun e W' ⟨he, bel⟩ => ?_
  subst he
  exact ⟨_, rfl, _, _, _, [], _, [], hW', trodAll_mk1 (shut_bool Try.underlying4 _), (trodAll_cons_mk (Below.trod laidO (by kernel_rfl) (of_decide_eq_true (by kernel_rfl)) h0 bel (lt h0)) (trodAll_cons_mk (Below.trod laidO (by kernel_rfl) (of_decide_eq_true (by kernel_rfl)) h1 bel (lt h1)) (trodAll_cons_mk (Below.trod laidO (by kernel_rfl) (of_decide_eq_true (by kernel_rfl)) h2 bel (lt h2)) (trodAll_cons_mk (Below.trod laidO (by kernel_rfl) (of_decide_eq_true (by kernel_rfl)) h3 bel (lt h3)) (trodAll_cons_mk (Below.trod laidO (by kernel_rfl) (of_decide_eq_true (by kernel_rfl)) h4 bel (lt h4)) (trodAll_cons_mk (Below.trod laidO (by kernel_rfl) (of_decide_eq_true (by kernel_rfl)) h5 bel (lt h5)) trodAll_mk0)))))), rfl, bel.frame _, fun h => by cases h⟩
theorem over : Rows.termsChangesRow.holds Try.pinned (OpenSpec.ofChange Rows.termsChangesSpec) :=
  OpenClaim.holds_of_wide 9 Try.f9 rfl rfl rfl rfl rfl rfl rfl ⟨rfl, rfl, rfl, rfl, rfl⟩ rfl rfl rfl rfl rfl (by kernel_rfl) Try.func9 (by kernel_rfl)
    (of_decide_eq_true (by kernel_rfl)) (by unfold Func.isWrapper; first | (rw [if_pos (by decide +kernel)]; kernel_rfl) | (rw [if_neg (by decide +kernel)]; exact ⟨rfl, rfl⟩))
    (fun os started H enc _ => lifted os started H enc)
theorem termsChanges_proved : Rows.TermsChangesSaid := over
#print axioms termsChanges_proved
end Go.Proofs.Ytcjlegjchllgjaa
end
