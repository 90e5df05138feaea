/-  -/
import Derived.Test.YtjejppodhpdckaaGreatW06
import Derived.OpenShut
section
set_option linter.unusedVariables false
set_option linter.unusedSimpArgs false
namespace Go.Proofs.YtjejppodhpdckaaGreat
open Go Go.Fw
set_option maxRecDepth 10000
set_option maxHeartbeats 16000000 in
theorem alive_spec (H : List Row) : Fc Tryz.prog 13 [] H (fun v H' => v = .bool true ∧ H' = H) := by
  refine Fc.mk (callable Tryz.call13) Tryz.func13 rfl Tryz.ntmps13 rfl ?_; dsimp only [fr]
  repeat' (first | (refine XO.op rfl ?_; (first | ((first | refine Xo.ng rfl ?_); (first | (refine Xg.call (EnF.st rfl (Args.cons rfl Args.nil)) rfl rfl (cotton_spec _ _) ?_; rintro _ _ ⟨b1, b2, rfl, rfl⟩) | (refine Xg.call (EnF.st rfl (Args.cons rfl (Args.cons rfl Args.nil))) rfl rfl (lclass_spec _ _ _) ?_; rintro _ H9 ⟨rfl, hH9⟩; subst H9) | (refine Xg.call (EnF.st rfl (Args.cons rfl (Args.cons rfl Args.nil))) rfl rfl (lspan_spec _ _ _) ?_; rintro _ H9 ⟨rfl, hH9⟩; subst H9) | (refine Xg.call (EnF.st rfl (Args.cons rfl (Args.cons rfl Args.nil))) rfl rfl (x1 _ _ (ctnOk 12 b1 b2 _ (List.Mem.tail _ (List.Mem.head _)) (List.Mem.head _))) ?_; rintro _ H9 ⟨rfl, hH9⟩; subst H9) | (refine Xg.call (EnF.st rfl (Args.cons rfl (Args.cons rfl (Args.cons rfl Args.nil)))) rfl rfl (x2 _ _ (ctnOk 12 b1 b2 _ (List.Mem.tail _ (List.Mem.head _)) (List.Mem.head _))) ?_; rintro _ H9 ⟨rfl, hH9⟩; subst H9) | (refine Xg.call (EnF.st rfl (by (repeat (first | exact Args.nil | refine Args.cons rfl ?_)); done)) rfl rfl (x3 _ _ (ctnOk 12 b1 b2 _ (List.Mem.tail _ (List.Mem.head _)) (List.Mem.head _))) ?_; rintro _ H9 ⟨rfl, hH9⟩; subst H9) | (refine Xg.call (EnF.st rfl (Args.cons rfl (Args.cons rfl (Args.cons rfl Args.nil)))) rfl rfl (x4 _ _ (ctnOk 12 b1 b2 _ (List.Mem.tail _ (List.Mem.head _)) (List.Mem.head _))) ?_; rintro _ H9 ⟨rfl, hH9⟩; subst H9) | (refine Xg.call (EnF.st rfl (by (repeat (first | exact Args.nil | refine Args.cons rfl ?_)); done)) rfl rfl (x5 _ _ (ctnOk 12 b1 b2 _ (List.Mem.tail _ (List.Mem.head _)) (List.Mem.head _))) ?_; rintro _ H9 ⟨rfl, hH9⟩; subst H9) | (refine Xg.call (EnF.st rfl (by (repeat (first | exact Args.nil | refine Args.cons rfl ?_)); done)) rfl rfl (x6 _ _ (ctnOk 12 b1 b2 _ (List.Mem.tail _ (List.Mem.head _)) (List.Mem.head _))) ?_; rintro _ H9 ⟨rfl, hH9⟩; subst H9) | (refine Xg.call (EnF.st rfl (Args.cons rfl (Args.cons rfl (Args.cons rfl Args.nil)))) rfl rfl (x7 _ _ (ctnOk 40 b1 b2 _ (List.Mem.tail _ (List.Mem.head _)) (List.Mem.head _))) ?_; rintro _ H9 ⟨rfl, hH9⟩; subst H9) | (refine Xg.ev (EvF.move rfl rfl) rfl rfl ?_) | (refine Xg.ev (EvF.assign rfl rfl) rfl rfl ?_) | (refine Xg.ev (EvF.extract rfl rfl rfl) rfl rfl ?_) | (refine Xg.st (StF.alloc rfl Tryz.zeroValue30 rfl) rfl rfl ?_; rintro _ _ ⟨bx, rfl, rfl⟩) | (refine Xg.st0 (StF.storeAll (i := 0) rfl rfl rfl (te rfl) rfl rfl rfl rfl) rfl ?_; rintro _ _ ⟨rfl, rfl⟩; dsimp only [List.set]))))) | (refine XO.done rfl ?_; refine hK _ _ ?_; clear hK K) | refine X.seq rfl ?_ | refine X.region rfl (fun K hK => ?_))
  obtain ⟨b7, hb7⟩ : ∃ b, b = bx := ⟨_, rfl⟩
  rw [← hb7]
  clear hb7
  refine X.weak (F' := [(0, .bool false), (1, .int .i64 425), (2, .int .i64 0), (3, .bool true), (4, .int .i64 0), (5, .int .u8 1), (6, .int .i64 0), (7, .pointer (some ⟨b7, 0, none⟩)), (8, .int .i64 0), (9, .int .i64 428), (10, .int .i64 440), (11, .int .i64 0), (12, .bool true), (13, .int .i64 12), (14, .int .i64 0), (15, .int .i64 5), (16, .int .i64 475), (17, .int .i64 0)]) (H' := ⟨b7, 0, cSp ⟨425, 530⟩, some 30, 2⟩ :: H) (by (repeat (first | exact Sub.nil _ | refine Sub.cons rfl ?_)); done) (by (repeat (first | exact List.Sublist.refl _ | apply List.Sublist.cons_cons | apply List.Sublist.cons)); done) ?_
  have key : ∀ (F : FS) (H' : List Row), H.Sublist H' → X Tryz.prog 295 (csnd (csnd (csnd (csnd (csnd (csnd (csnd (csnd (csnd (cof Tryz.f13)))))))))) F H' (retX Tryz.prog Tryz.f13 (fun v H' => v = .bool true ∧ H' = H)) := fun F H' hs => X.weak (F' := []) (H' := H) (Sub.nil _) hs (alive2 H)
  generalize hcc : (csnd (csnd (csnd (csnd (csnd (csnd (csnd (csnd (csnd (cof Tryz.f13)))))))))) = cc at key ⊢
  repeat' (first | (refine XO.op rfl ?_; (first | ((first | refine Xo.ng rfl ?_); (first | (refine Xg.ev (EvF.assign rfl rfl) rfl rfl ?_))))) | (refine XO.done rfl ?_; refine hK _ _ ?_; clear hK K) | (refine XQ.op rfl ?_; (first | ((first | refine Yo.ng rfl ?_ | (refine Yo.g rfl rfl ?_; with_reducible refine Yw.ff ?_)); (first | (refine Yg.ev (EvF.cmp (b := false) rfl rfl rfl rfl) rfl rfl ?_) | (refine Yg.ev (EvF.eqSt (r := true) (b := false) rfl rfl rfl (by kernel_rfl) (eqSpT ⟨425, 530⟩) rfl) rfl rfl ?_) | (refine Yg.call (EnF.st rfl (Args.cons rfl (Args.cons rfl Args.nil))) rfl rfl (lspan_spec 425 530 _) ?_) | (refine Yg.ev (EvF.move rfl rfl) rfl rfl ?_) | (refine Yg.ev (EvF.pickT rfl rfl rfl) rfl rfl ?_) | (refine Yg.ev (EvF.pickF rfl rfl rfl) rfl rfl ?_) | (refine Yg.ev (EvF.not rfl rfl) rfl rfl ?_) | (refine Yg.ev (EvF.loadV rfl rfl (LoadV.whole (te rfl) rfl (List.Mem.head _) rfl)) rfl rfl ?_))) | (refine Yo.g rfl rfl ?_; (first | (with_reducible refine Yw.tf rfl rfl ?_) | (with_reducible refine Yw.caseB (fun h => ?_) (fun h => ?_) <;> simp only [h, decide_true, decide_false, Bool.not_true, Bool.not_false, and_self, and_true, true_and, and_false, false_and]))))) | (refine XQ.done rfl ?_; refine hK _ ?_; clear hK K) | refine X.seq rfl ?_ | refine X.region rfl (fun K hK => ?_) | refine X.regionD rfl mixed (by kernel_rfl) (fun K hK => ?_) | refine X.skip rfl ?_ | refine X.ret rfl ?_ | (refine X.ite rfl rfl (fun hc => ?_); (first | (with_reducible refine Xb.t hc ?_) | (with_reducible refine Xb.f hc ?_)) <;> clear hc))
  all_goals try (exfalso; contradiction)
  all_goals exact key _ _ (List.sublist_cons_self _ _)
end Go.Proofs.YtjejppodhpdckaaGreat
end
section
set_option linter.unusedVariables false
set_option linter.unusedSimpArgs false
namespace Go.Proofs.YtjejppodhpdckaaGreat
open Go Go.Fw
set_option maxRecDepth 10000
theorem notT {n : Nat} {H : List Row} {F : FS} {o : Oper} {T : TypeId} {x : Operand} (h : o.op = .unOp .not T x) (hx : evF F x = some (.bool true)) : EvF Tryz.prog n H F o (.bool false) := EvF.not h hx
theorem notF {n : Nat} {H : List Row} {F : FS} {o : Oper} {T : TypeId} {x : Operand} (h : o.op = .unOp .not T x) (hx : evF F x = some (.bool false)) : EvF Tryz.prog n H F o (.bool true) := EvF.not h hx
theorem nd_t {p : Prop} [Decidable p] (h : ¬ p) : (!decide p) = true := by rw [decide_eq_false h]; rfl
theorem nd_f {p : Prop} [Decidable p] (h : p) : (!decide p) = false := by rw [decide_eq_true h]; rfl
theorem falls_at : ∀ {l : List Int}, falls l → ∀ {i j : Nat} {a b : Int}, i ≤ j → l[i]? = some a → l[j]? = some b → b ≤ a
  | [], _, i, _, _, _, _, h, _ => by simp at h
  | [x], _, i, j, a, b, _, h1, h2 => by
    cases i with
    | zero => cases j with
      | zero => simp at h1 h2; omega
      | succ j => simp at h2
    | succ i => simp at h1
  | x :: y :: l, h, i, j, a, b, hij, h1, h2 => by
    have hh : y ≤ x ∧ falls (y :: l) := h
    cases j with
    | zero => obtain rfl : i = 0 := by omega
              simp at h1 h2; omega
    | succ j =>
      rw [List.getElem?_cons_succ] at h2
      cases i with
      | zero =>
        simp at h1
        have := falls_at hh.2 (Nat.zero_le j) (by simp : (y :: l)[0]? = some y) h2
        omega
      | succ i =>
        rw [List.getElem?_cons_succ] at h1
        exact falls_at hh.2 (by omega) h1 h2
theorem grows_at : ∀ {l : List Int}, grows l → ∀ {i j : Nat} {a b : Int}, i ≤ j → l[i]? = some a → l[j]? = some b → a ≤ b
  | [], _, i, _, _, _, _, h, _ => by simp at h
  | [x], _, i, j, a, b, _, h1, h2 => by
    cases i with
    | zero => cases j with
      | zero => simp at h1 h2; omega
      | succ j => simp at h2
    | succ i => simp at h1
  | x :: y :: l, h, i, j, a, b, hij, h1, h2 => by
    have hh : x ≤ y ∧ grows (y :: l) := h
    cases j with
    | zero => obtain rfl : i = 0 := by omega
              simp at h1 h2; omega
    | succ j =>
      rw [List.getElem?_cons_succ] at h2
      cases i with
      | zero =>
        simp at h1
        have := grows_at hh.2 (Nat.zero_le j) (by simp : (y :: l)[0]? = some y) h2
        omega
      | succ i =>
        rw [List.getElem?_cons_succ] at h1
        exact grows_at hh.2 (by omega) h1 h2
/-- a better grade, or a longer staple, is worth no less -/
theorem val_mono {T : Tm} (hok : tmOk T) {g g' s s' : Int} (hg : 1 ≤ g ∧ g ≤ g' ∧ g' ≤ 9) (hs : 1 ≤ s' ∧ s' ≤ s ∧ s ≤ 9) : val T g' s' ≤ val T g s := by
  unfold val
  have h1 := falls_at hok.ord.1 (i := (g - 1).toNat) (j := (g' - 1).toNat) (by omega) (at1_get (by omega) hok.gr.1) (at1_get (by omega) hok.gr.1)
  have h2 := grows_at hok.ord.2 (i := (s' - 1).toNat) (j := (s - 1).toNat) (by omega) (at1_get (by omega) hok.st.1) (at1_get (by omega) hok.st.1)
  omega
theorem nines (x : Int) : 1 ≤ 1 + x % 9 ∧ 1 + x % 9 ≤ 9 := by omega
end Go.Proofs.YtjejppodhpdckaaGreat
end
section
set_option linter.unusedVariables false
namespace Go.Proofs.YtjejppodhpdckaaGreat
open Go Go.Fw Go.ChangeShapes Go.WideShapes Go.ChangeAt Go.RowKit
set_option linter.unusedVariables false
set_option maxRecDepth 10000
def c8 (l : List Int) : List Value := l.map (Value.int .u8)
section
variable {H : Type} {enc : TypeId × Value → H} {w : World} {base : Nat} {spare : Nat → Bool} {held : Bool} {v : Value} {d : DataW H} {p : List MemPlace} {r : Reach} {b0 : Nat}
theorem u8_wf {n : Int} (h : (Lit.int .u8 n).wf = true) : u8 n := by
  simp [Lit.wf, IntKind.min, IntKind.max, IntKind.signed, IntKind.bits] at h
  exact ⟨by omega, by omega⟩
theorem open_u8 (hv : Value.okWide Tryz.prog w r b0 5 v) (h : DataW.Trod enc Tryz.prog w base spare held 5 v d p) : ∃ n, v = .int .u8 n ∧ u8 n := by
  obtain ⟨n, h1, _, _, h2⟩ := Go.ChangeShapes.open_int Tryz.underlying5 hv h
  exact ⟨n, h1, u8_wf h2⟩
theorem cells_u8 : Tryz.prog.cellsOf 5 = 1 := by kernel_rfl
theorem arr8 {T n : Nat} (hu : Tryz.prog.underlying T = some (.array n 5)) (hc : Tryz.prog.cellsOf T = n) (hv : Value.okWide Tryz.prog w r b0 T v) (h : DataW.Trod enc Tryz.prog w base spare held T v d p) : ∃ l : List Int, v = .agg (c8 l).toArray ∧ l.length = n ∧ ∀ x ∈ l, u8 x := by
  unfold Value.okWide at hv
  rw [hu] at hv
  obtain ⟨cs, rfl, hs, _⟩ := hv
  obtain ⟨fuel, hf⟩ := h
  obtain ⟨xs, m, _, _, hl, hxl, hi⟩ := DataW.trod_array hu hf
  simp only [Value.cells] at hl hi
  rw [hc] at hl hs
  rw [cells_u8] at hi
  have hk : ∀ i, i < n → ∃ q : Int, cs.toList[i]? = some (.int .u8 q) ∧ u8 q := by
    intro i hlt
    have h1 := hi i hlt
    have hx : xs[i]? = some xs[i] := List.getElem?_eq_getElem (by omega)
    rw [hx, Nat.mul_one] at h1
    obtain ⟨q, hq, hw⟩ := trod_i (te rfl) h1
    refine ⟨q, ?_, u8_wf hw⟩
    have h2 := congrArg (·[0]?) hq
    simp only [List.getElem?_take, List.getElem?_drop, Nat.add_zero, Nat.lt_one_iff, if_true, List.getElem?_cons_zero] at h2
    exact h2
  clear hi hf hxl
  have key : ∀ (k : Nat) (l : List Value), l.length = k → (∀ i, i < k → ∃ q : Int, l[i]? = some (.int .u8 q) ∧ u8 q) → ∃ z : List Int, l = c8 z ∧ z.length = k ∧ ∀ x ∈ z, u8 x := by
    intro k
    induction k with
    | zero => intro l hl _; exact ⟨[], List.eq_nil_of_length_eq_zero hl, rfl, fun x hx => absurd hx List.not_mem_nil⟩
    | succ k ih =>
      intro l hl hq
      cases l with
      | nil => cases hl
      | cons a l =>
        obtain ⟨q, h1, h2⟩ := hq 0 (by omega)
        simp only [List.getElem?_cons_zero, Option.some.injEq] at h1
        obtain ⟨z, rfl, hz, hz2⟩ := ih l (by simpa using hl) (fun i hi => by have := hq (i + 1) (by omega); rwa [List.getElem?_cons_succ] at this)
        refine ⟨q :: z, by rw [h1]; rfl, by rw [List.length_cons, hz], fun x hx => ?_⟩
        rcases List.mem_cons.1 hx with rfl | hx
        · exact h2
        · exact hz2 x hx
  obtain ⟨z, h1, h2, h3⟩ := key n cs.toList (by rw [Array.length_toList]; exact hs) hk
  exact ⟨z, by rw [← h1], h2, h3⟩
end
end Go.Proofs.YtjejppodhpdckaaGreat
end
section
set_option linter.unusedVariables false
set_option linter.unusedSimpArgs false
namespace Go.Proofs.YtjejppodhpdckaaGreat
open Go Go.Fw
set_option maxRecDepth 10000
def tsBa : List TOp := [⟨some 30, [], [], []⟩, ⟨some 31, [0], [0], []⟩, ⟨some 32, [], [], []⟩, ⟨some 33, [2], [2], []⟩, ⟨some 34, [0, 1, 2, 3], [1, 3], []⟩, ⟨some 35, [], [], []⟩, ⟨some 36, [5], [5], []⟩, ⟨some 37, [], [], []⟩, ⟨some 38, [7], [7], []⟩, ⟨some 39, [0, 1, 2, 3, 4, 5, 6, 7, 8], [6, 8], []⟩, ⟨some 40, [], [], []⟩, ⟨some 41, [10], [10], []⟩, ⟨some 42, [10, 11], [11], []⟩, ⟨some 8, [], [], []⟩, ⟨some 9, [], [], []⟩, ⟨none, [0, 1, 2, 3, 4, 5, 6, 7, 8, 9, 13, 14], [13, 4], [13]⟩, ⟨none, [0, 1, 2, 3, 4, 5, 6, 7, 8, 9, 13, 14, 15], [14, 9], [14]⟩, ⟨some 10, [0, 1, 2, 3, 4, 5, 6, 7, 8, 9, 10, 11, 12, 13, 14, 15, 16], [12], []⟩]
def valBa (b3 b4 : Nat) (T : Tm) (p : Pt) (a b c d m : Int) (k : Nat) (env : Env) : Value :=
  match k with
  | 0 => .pointer (some ⟨b4, 0, none⟩)
  | 1 => .int .u8 a
  | 2 => .pointer (some ⟨b4, 1, none⟩)
  | 3 => .int .u8 b
  | 4 => .agg (cSp (smS a b)).toArray
  | 5 => .pointer (some ⟨b4, 2, none⟩)
  | 6 => .int .u8 c
  | 7 => .pointer (some ⟨b4, 3, none⟩)
  | 8 => .int .u8 d
  | 9 => .agg (cSp (smS c d)).toArray
  | 10 => .int .u8 m
  | 11 => .int .i64 m
  | 12 => .int .i64 (m % 61)
  | 13 => .pointer (some ⟨(env 13).1, 0, none⟩)
  | 14 => .pointer (some ⟨(env 14).1, 0, none⟩)
  | 15 => undef
  | 16 => undef
  | 17 => .int .i64 (m % 61)
  | _ => undef
def rowsBa (b3 b4 : Nat) (T : Tm) (p : Pt) (a b c d m : Int) (k : Nat) (env : Env) : List Row :=
  match k with
  | 13 => [⟨(env 13).1, 0, cSp ⟨0, 0⟩, some 30, 2⟩]
  | 14 => [⟨(env 14).1, 0, cSp ⟨0, 0⟩, some 30, 2⟩]
  | 15 => [⟨(env 13).1, 0, cSp (smS a b), some 30, 2⟩]
  | 16 => [⟨(env 14).1, 0, cSp (smS c d), some 30, 2⟩]
  | _ => []
theorem locBa (b3 b4 : Nat) (T : Tm) (p : Pt) (a b c d m : Int) : ∀ k env i q9, i ≠ k → (tAt tsBa k).sup.contains i = false → valBa b3 b4 T p a b c d m k (upd env i q9) = valBa b3 b4 T p a b c d m k env ∧ rowsBa b3 b4 T p a b c d m k (upd env i q9) = rowsBa b3 b4 T p a b c d m k env := by
  intro k env i q hk hs
  have hu : ∀ j, j ≠ i → upd env i q j = env j := fun j hj => by unfold upd; rw [if_neg hj]
  match k, hk, hs with
  | 0, _, _ => exact ⟨rfl, rfl⟩
  | 1, _, _ => exact ⟨rfl, rfl⟩
  | 2, _, _ => exact ⟨rfl, rfl⟩
  | 3, _, _ => exact ⟨rfl, rfl⟩
  | 4, _, _ => exact ⟨rfl, rfl⟩
  | 5, _, _ => exact ⟨rfl, rfl⟩
  | 6, _, _ => exact ⟨rfl, rfl⟩
  | 7, _, _ => exact ⟨rfl, rfl⟩
  | 8, _, _ => exact ⟨rfl, rfl⟩
  | 9, _, _ => exact ⟨rfl, rfl⟩
  | 10, _, _ => exact ⟨rfl, rfl⟩
  | 11, _, _ => exact ⟨rfl, rfl⟩
  | 12, _, _ => exact ⟨rfl, rfl⟩
  | 13, hk, hs => exact ⟨by simp only [valBa, hu 13 (fun e => hk e.symm)], by simp only [rowsBa, hu 13 (fun e => hk e.symm)]⟩
  | 14, hk, hs => exact ⟨by simp only [valBa, hu 14 (fun e => hk e.symm)], by simp only [rowsBa, hu 14 (fun e => hk e.symm)]⟩
  | 15, hk, hs => exact ⟨by simp only [valBa, hu 13 (by rintro rfl; cases hs)], by simp only [rowsBa, hu 13 (by rintro rfl; cases hs)]⟩
  | 16, hk, hs => exact ⟨by simp only [valBa, hu 14 (by rintro rfl; cases hs)], by simp only [rowsBa, hu 14 (by rintro rfl; cases hs)]⟩
  | 17, _, _ => exact ⟨rfl, rfl⟩
  | _ + 18, _, _ => exact ⟨rfl, rfl⟩
def tsBb : List TOp := [⟨some 43, [], [], []⟩, ⟨some 44, [0], [0], []⟩, ⟨some 45, [], [], []⟩, ⟨some 46, [2], [2], []⟩, ⟨some 47, [0, 1, 2, 3], [1, 3], []⟩, ⟨some 48, [], [], []⟩, ⟨some 49, [5], [5], []⟩, ⟨some 50, [], [], []⟩, ⟨some 51, [7], [7], []⟩, ⟨some 52, [0, 1, 2, 3, 4, 5, 6, 7, 8], [6, 8], []⟩, ⟨some 11, [], [], []⟩, ⟨some 12, [], [], []⟩, ⟨none, [0, 1, 2, 3, 4, 5, 6, 7, 8, 9, 10, 11], [10, 4], [10]⟩, ⟨none, [0, 1, 2, 3, 4, 5, 6, 7, 8, 9, 10, 11, 12], [11, 9], [11]⟩]
def valBb (b3 b8 b9 : Nat) (x y : Sp) (m : Int) (k : Nat) (env : Env) : Value :=
  match k with
  | 0 => .pointer (some ⟨b8, 0, none⟩)
  | 1 => .int .i64 x.lo
  | 2 => .pointer (some ⟨b9, 1, none⟩)
  | 3 => .int .i64 y.hi
  | 4 => .agg (cCl ⟨x.lo, y.hi⟩).toArray
  | 5 => .pointer (some ⟨b8, 1, none⟩)
  | 6 => .int .i64 x.hi
  | 7 => .pointer (some ⟨b9, 0, none⟩)
  | 8 => .int .i64 y.lo
  | 9 => .agg (cCl ⟨x.hi, y.lo⟩).toArray
  | 10 => .pointer (some ⟨(env 10).1, 0, none⟩)
  | 11 => .pointer (some ⟨(env 11).1, 0, none⟩)
  | 12 => undef
  | 13 => undef
  | _ => undef
def rowsBb (b3 b8 b9 : Nat) (x y : Sp) (m : Int) (k : Nat) (env : Env) : List Row :=
  match k with
  | 10 => [⟨(env 10).1, 0, cCl ⟨0, 0⟩, some 27, 2⟩]
  | 11 => [⟨(env 11).1, 0, cCl ⟨0, 0⟩, some 27, 2⟩]
  | 12 => [⟨(env 10).1, 0, cCl ⟨x.lo, y.hi⟩, some 27, 2⟩]
  | 13 => [⟨(env 11).1, 0, cCl ⟨x.hi, y.lo⟩, some 27, 2⟩]
  | _ => []
theorem locBb (b3 b8 b9 : Nat) (x y : Sp) (m : Int) : ∀ k env i q9, i ≠ k → (tAt tsBb k).sup.contains i = false → valBb b3 b8 b9 x y m k (upd env i q9) = valBb b3 b8 b9 x y m k env ∧ rowsBb b3 b8 b9 x y m k (upd env i q9) = rowsBb b3 b8 b9 x y m k env := by
  intro k env i q hk hs
  have hu : ∀ j, j ≠ i → upd env i q j = env j := fun j hj => by unfold upd; rw [if_neg hj]
  match k, hk, hs with
  | 0, _, _ => exact ⟨rfl, rfl⟩
  | 1, _, _ => exact ⟨rfl, rfl⟩
  | 2, _, _ => exact ⟨rfl, rfl⟩
  | 3, _, _ => exact ⟨rfl, rfl⟩
  | 4, _, _ => exact ⟨rfl, rfl⟩
  | 5, _, _ => exact ⟨rfl, rfl⟩
  | 6, _, _ => exact ⟨rfl, rfl⟩
  | 7, _, _ => exact ⟨rfl, rfl⟩
  | 8, _, _ => exact ⟨rfl, rfl⟩
  | 9, _, _ => exact ⟨rfl, rfl⟩
  | 10, hk, hs => exact ⟨by simp only [valBb, hu 10 (fun e => hk e.symm)], by simp only [rowsBb, hu 10 (fun e => hk e.symm)]⟩
  | 11, hk, hs => exact ⟨by simp only [valBb, hu 11 (fun e => hk e.symm)], by simp only [rowsBb, hu 11 (fun e => hk e.symm)]⟩
  | 12, hk, hs => exact ⟨by simp only [valBb, hu 10 (by rintro rfl; cases hs)], by simp only [rowsBb, hu 10 (by rintro rfl; cases hs)]⟩
  | 13, hk, hs => exact ⟨by simp only [valBb, hu 11 (by rintro rfl; cases hs)], by simp only [rowsBb, hu 11 (by rintro rfl; cases hs)]⟩
  | _ + 14, _, _ => exact ⟨rfl, rfl⟩
theorem may_better {T : Tm} {x y : Sp} (hx : x.lo ≤ x.hi) (hy : y.lo ≤ y.hi) (h : may T ⟨x.hi, y.lo⟩ = true) : may T ⟨x.lo, y.hi⟩ = true := by
  unfold may at *
  have := of_decide_eq_true h
  dsimp only at this
  exact decide_eq_true (by dsimp only; omega)
set_option maxHeartbeats 16000000 in
theorem termsBetter_spec (T : Tm) (p : Pt) (u : List Int) (m : Int) (hu : u.length = 4 ∧ ∀ x ∈ u, u8 x) (hm : u8 m) (H : List Row) (hg : SlE H p.a1 cI 1 T.G) (hs : SlE H p.a2 cI 1 T.S) :
    Fc Tryz.prog 9 [.agg (cTm T p).toArray, .agg (c8 u).toArray, .int .u8 m] H (fun v _ => v = .bool true) := by
  obtain ⟨hl, h8⟩ := hu
  match u, hl, h8 with
  | [a, b, c, d], _, h8 =>
  have ha := h8 a (by simp)
  have hb := h8 b (by simp)
  have hc := h8 c (by simp)
  have hd := h8 d (by simp)
  clear h8
  by_cases hr : rdy T
  · have hT : TmOk H T p := ⟨hg, hs, by have := hr.1; omega, by have := hr.1; omega⟩
    have hT1 : ∀ Z : List Row, TmOk (Z ++ H) T p := fun Z => hT.sub (fun _ h => List.mem_append_right _ h)
    have hok := hr.2
    have hR : ∀ Z : List Row, _ := fun Z => readyT T p hr (Z ++ H) (hT1 Z)
    refine Fc.mk (callable Tryz.call9) Tryz.func9 rfl Tryz.ntmps9 rfl ?_; dsimp only [fr]
    repeat' (first | (refine XO.op rfl ?_; (first | ((first | refine Xo.ng rfl ?_ | (refine Xo.g rfl rfl ?_; with_reducible refine Xw.ff ?_)); (first | (refine Xg.call (EnF.st rfl (by (repeat (first | exact Args.nil | refine Args.cons rfl ?_)); done)) rfl rfl (alive_spec _) ?_; rintro _ H9 ⟨rfl, hH9⟩; subst H9) | (refine Xg.call (EnF.st rfl (Args.cons rfl Args.nil)) rfl rfl (hR [_, _]) ?_; rintro _ H9 ⟨rfl, hH9⟩; subst H9) | (refine Xg.ev (notT rfl rfl) rfl rfl ?_) | (refine Xg.ev (EvF.move rfl rfl) rfl rfl ?_) | (refine Xg.ev (EvF.assign rfl rfl) rfl rfl ?_) | (refine Xg.ev (EvF.pickF rfl rfl rfl) rfl rfl ?_) | (refine Xg.ev (EvF.loadV rfl rfl (LoadV.whole (te rfl) rfl (List.Mem.tail _ (List.Mem.head _)) rfl)) rfl rfl ?_) | (refine Xg.st (StF.boxAgg rfl rfl) rfl rfl ?_; rintro _ _ ⟨bx, rfl, rfl⟩))))) | (refine XO.done rfl ?_; refine hK _ _ ?_; clear hK K) | refine X.seq rfl ?_ | refine X.region rfl (fun K hK => ?_) | refine X.skip rfl ?_ | (refine X.ite rfl rfl (fun hc => ?_); (first | (with_reducible refine Xb.f hc ?_)) <;> clear hc))
    all_goals try (exfalso; contradiction)
    rename_i b3
    obtain ⟨b4, hb4⟩ : ∃ b, b = bx := ⟨_, rfl⟩
    rw [← hb4]
    clear hb4
    refine X.weak (F' := [(2, .int .u8 m), (3, .pointer (some ⟨b3, 0, none⟩)), (4, .pointer (some ⟨b4, 0, none⟩)), (7, .bool true)]) (H' := ⟨b4, 0, c8 [a, b, c, d], some 83, 4⟩ :: ⟨b3, 0, cTm T p, some 32, 11⟩ :: H) (by (repeat (first | exact Sub.nil _ | refine Sub.cons rfl ?_)); done) (by (repeat (first | exact List.Sublist.refl _ | apply List.Sublist.cons_cons | apply List.Sublist.cons)); done) ?_
    refine X.regionOb tsBa [2, 3, 4, 7] [(2, .int .u8 m), (3, .pointer (some ⟨b3, 0, none⟩)), (4, .pointer (some ⟨b4, 0, none⟩)), (7, .bool true)] (valBa b3 b4 T p a b c d m) (rowsBa b3 b4 T p a b c d m) (fun _ => (0, 0)) (⟨b4, 0, c8 [a, b, c, d], some 83, 4⟩ :: ⟨b3, 0, cTm T p, some 32, 11⟩ :: H) rfl mixed (by (repeat (first | exact Sub.nil _ | refine Sub.cons rfl ?_)); done) rfl (by kernel_rfl) (locBa b3 b4 T p a b c d m) (List.Sublist.refl _) ?_ ?_
    · unfold u8 at hm
      repeat' (first | exact AllF.done rfl | (refine AllF.step rfl ?_ ?_; · (first | fail | ((first | refine Ob.ng rfl ?_); (first | exact ObK.pure (fun env R hR => by exact ⟨_, EvF.move rfl rfl, rfl⟩) rfl (fun _ => rfl) | exact ObK.pure (fun env R hR => by exact ⟨_, EvF.assign rfl rfl, rfl⟩) rfl (fun _ => rfl) | exact ObK.pure (fun env R hR => by exact ⟨_, EvF.loadV rfl rfl (LoadV.own (te rfl) rfl (hR _ (List.Mem.head _)) rfl), rfl⟩) rfl (fun _ => rfl) | (exact ObK.pure (fun env S hS => ⟨_, EvF.indexArray (i := 0) rfl rfl rfl (te rfl) (te rfl) (by decide) (by decide), rfl⟩) rfl (fun _ => rfl)) | (exact ObK.pure (fun env S hS => ⟨_, EvF.indexArray (i := 1) rfl rfl rfl (te rfl) (te rfl) (by decide) (by decide), rfl⟩) rfl (fun _ => rfl)) | (exact ObK.pure (fun env S hS => ⟨_, EvF.indexArray (i := 2) rfl rfl rfl (te rfl) (te rfl) (by decide) (by decide), rfl⟩) rfl (fun _ => rfl)) | (exact ObK.pure (fun env S hS => ⟨_, EvF.indexArray (i := 3) rfl rfl rfl (te rfl) (te rfl) (by decide) (by decide), rfl⟩) rfl (fun _ => rfl)) | (exact fun env S hS => OpF.callV (Z := []) (EnF.st rfl (Args.cons rfl (Args.cons rfl Args.nil))) (some_spec a b ha hb _) rfl rfl) | (exact fun env S hS => OpF.callV (Z := []) (EnF.st rfl (Args.cons rfl (Args.cons rfl Args.nil))) (some_spec c d hc hd _) rfl rfl) | (exact ObK.pure (fun env S hS => ⟨_, EvF.conv rfl rfl int8_und int64_und (by omega) (by omega), rfl⟩) rfl (fun _ => rfl)) | (exact ObK.pure (fun env S hS => ⟨_, EvF.rem64 rfl rfl rfl (by omega) (by omega), rfl⟩) rfl (fun _ => rfl)) | (exact fun env S hS => (StF.alloc rfl Tryz.zeroValue30 rfl).op.mono (fun v H' ⟨b, hv, hH⟩ => ⟨(b, 0), fun _ => hv, by rw [hH]; exact List.Perm.refl _⟩)) | (exact fun env S hS => (StF.storeAll (i := 0) (vs := cSp (smS a b)) (cs := cSp ⟨0, 0⟩) rfl rfl rfl (te rfl) rfl rfl rfl rfl).op.mono (fun v H' ⟨hv, hH⟩ => ⟨(0, 0), fun h => absurd rfl h, by rw [hH]; exact List.Perm.refl _⟩)) | (exact fun env S hS => (StF.storeAll (i := 0) (vs := cSp (smS c d)) (cs := cSp ⟨0, 0⟩) rfl rfl rfl (te rfl) rfl rfl rfl rfl).op.mono (fun v H' ⟨hv, hH⟩ => ⟨(0, 0), fun h => absurd rfl h, by rw [hH]; exact List.Perm.refl _⟩)))))))
    intro env t ha2 hv
    refine ⟨_, ((ha2.cons (hv 13 8 (Nat.le_of_ble_eq_true rfl) rfl)).cons (hv 14 9 (Nat.le_of_ble_eq_true rfl) rfl)).cons (hv 17 10 (Nat.le_of_ble_eq_true rfl) rfl), ?_⟩
    clear hv ha2
    have hx := smS_ok a b
    have hy := smS_ok c d
    obtain ⟨x, hxe⟩ : ∃ x, smS a b = x := ⟨_, rfl⟩
    obtain ⟨y, hye⟩ : ∃ y, smS c d = y := ⟨_, rfl⟩
    obtain ⟨b8, hb8⟩ : ∃ q, q = (env 13).1 := ⟨_, rfl⟩
    obtain ⟨b9, hb9⟩ : ∃ q, q = (env 14).1 := ⟨_, rfl⟩
    have hm61 : 0 ≤ m % 61 ∧ m % 61 ≤ 60 := by omega
    refine X.weak (F' := [(3, .pointer (some ⟨b3, 0, none⟩)), (7, .bool true), (8, .pointer (some ⟨b8, 0, none⟩)), (9, .pointer (some ⟨b9, 0, none⟩)), (10, .int .i64 (m % 61))]) (H' := ⟨b8, 0, cSp x, some 30, 2⟩ :: ⟨b9, 0, cSp y, some 30, 2⟩ :: ⟨b3, 0, cTm T p, some 32, 11⟩ :: H) (by rw [hb8, hb9]; exact (by (repeat (first | exact Sub.nil _ | refine Sub.cons rfl ?_)); done)) (by rw [hb8, hb9, ← hxe, ← hye]; exact (by (repeat (first | exact List.Sublist.refl _ | apply List.Sublist.cons_cons | apply List.Sublist.cons)); done)) ?_
    rw [hxe] at hx
    rw [hye] at hy
    clear hxe hye hb8 hb9
    obtain ⟨m1, hm1⟩ : ∃ q, m % 61 = q := ⟨_, rfl⟩
    rw [hm1] at hm61 ⊢
    refine X.seq rfl ?_
    refine X.regionOb tsBb [3, 7, 8, 9, 10] [(3, .pointer (some ⟨b3, 0, none⟩)), (7, .bool true), (8, .pointer (some ⟨b8, 0, none⟩)), (9, .pointer (some ⟨b9, 0, none⟩)), (10, .int .i64 m1)] (valBb b3 b8 b9 x y m1) (rowsBb b3 b8 b9 x y m1) (fun _ => (0, 0)) (⟨b8, 0, cSp x, some 30, 2⟩ :: ⟨b9, 0, cSp y, some 30, 2⟩ :: ⟨b3, 0, cTm T p, some 32, 11⟩ :: H) rfl mixed (by (repeat (first | exact Sub.nil _ | refine Sub.cons rfl ?_)); done) rfl (by kernel_rfl) (locBb b3 b8 b9 x y m1) (List.Sublist.refl _) ?_ ?_
    · repeat' (first | exact AllF.done rfl | (refine AllF.step rfl ?_ ?_; · (first | fail | ((first | refine Ob.ng rfl ?_); (first | exact ObK.pure (fun env R hR => by exact ⟨_, EvF.fieldAddr rfl rfl (te rfl) rfl (te rfl) (by decide), rfl⟩) rfl (fun _ => rfl) | exact ObK.pure (fun env R hR => by exact ⟨_, EvF.loadV rfl rfl (LoadV.own (te rfl) rfl (hR _ (List.Mem.head _)) rfl), rfl⟩) rfl (fun _ => rfl) | exact ObK.pure (fun env R hR => by exact ⟨_, EvF.loadV rfl rfl (LoadV.own (te rfl) rfl (hR _ (List.Mem.tail _ (List.Mem.head _))) rfl), rfl⟩) rfl (fun _ => rfl) | (exact fun env S hS => OpF.callV (Z := []) (EnF.st rfl (Args.cons rfl (Args.cons rfl Args.nil))) (lclass_spec x.lo y.hi _) rfl rfl) | (exact fun env S hS => OpF.callV (Z := []) (EnF.st rfl (Args.cons rfl (Args.cons rfl Args.nil))) (lclass_spec x.hi y.lo _) rfl rfl) | (exact fun env S hS => (StF.alloc rfl Tryz.zeroValue27 rfl).op.mono (fun v H' ⟨b, hv, hH⟩ => ⟨(b, 0), fun _ => hv, by rw [hH]; exact List.Perm.refl _⟩)) | (exact fun env S hS => (StF.storeAll (i := 0) (vs := cCl ⟨x.lo, y.hi⟩) (cs := cCl ⟨0, 0⟩) rfl rfl rfl (te rfl) rfl rfl rfl rfl).op.mono (fun v H' ⟨hv, hH⟩ => ⟨(0, 0), fun h => absurd rfl h, by rw [hH]; exact List.Perm.refl _⟩)) | (exact fun env S hS => (StF.storeAll (i := 0) (vs := cCl ⟨x.hi, y.lo⟩) (cs := cCl ⟨0, 0⟩) rfl rfl rfl (te rfl) rfl rfl rfl rfl).op.mono (fun v H' ⟨hv, hH⟩ => ⟨(0, 0), fun h => absurd rfl h, by rw [hH]; exact List.Perm.refl _⟩)))))))
    intro env t ha2 hv
    refine ⟨_, (ha2.cons (hv 10 11 (Nat.le_of_ble_eq_true rfl) rfl)).cons (hv 11 12 (Nat.le_of_ble_eq_true rfl) rfl), ?_⟩
    clear hv ha2
    obtain ⟨b11, hb11⟩ : ∃ q, q = (env 10).1 := ⟨_, rfl⟩
    obtain ⟨b12, hb12⟩ : ∃ q, q = (env 11).1 := ⟨_, rfl⟩
    refine X.weak (F' := [(3, .pointer (some ⟨b3, 0, none⟩)), (7, .bool true), (10, .int .i64 m1), (11, .pointer (some ⟨b11, 0, none⟩)), (12, .pointer (some ⟨b12, 0, none⟩))]) (H' := ⟨b11, 0, cCl ⟨x.lo, y.hi⟩, some 27, 2⟩ :: ⟨b12, 0, cCl ⟨x.hi, y.lo⟩, some 27, 2⟩ :: ⟨b3, 0, cTm T p, some 32, 11⟩ :: H) (by rw [hb11, hb12]; exact (by (repeat (first | exact Sub.nil _ | refine Sub.cons rfl ?_)); done)) (by rw [hb11, hb12]; exact (by (repeat (first | exact List.Sublist.refl _ | apply List.Sublist.cons_cons | apply List.Sublist.cons)); done)) ?_
    clear hb11 hb12
    have k1 : ∀ Z : List Row, _ := fun Z => kinvoice_spec T p ⟨x.lo, y.hi⟩ (Z ++ H) (hT1 Z)
    have k2 : ∀ Z : List Row, _ := fun Z => kinvoice_spec T p ⟨x.hi, y.lo⟩ (Z ++ H) (hT1 Z)
    have k3 : ∀ Z : List Row, _ := fun Z => kallows_spec T p ⟨x.lo, y.hi⟩ m1 (Z ++ H) (hT1 Z)
    have k4 : ∀ Z : List Row, _ := fun Z => kallows_spec T p ⟨x.hi, y.lo⟩ m1 (Z ++ H) (hT1 Z)
    have i1 : in9 ⟨x.lo, y.hi⟩ := ⟨by dsimp only; omega, by dsimp only; omega⟩
    have i2 : in9 ⟨x.hi, y.lo⟩ := ⟨by dsimp only; omega, by dsimp only; omega⟩
    unfold invR at k1 k2
    unfold allowsR at k3 k4
    rw [oI hok i1] at k1
    rw [oI hok i2] at k2
    rw [oA hok i1 hm61, if_pos rfl] at k3
    rw [oA hok i2 hm61, if_pos rfl] at k4
    have hmb := @may_better T x y hx.1.2 hy.1.2
    have hv := val_mono hok (g := x.lo) (g' := x.hi) (s := y.hi) (s' := y.lo) (by omega) (by omega)
    obtain ⟨v1, hv1⟩ : ∃ q, val T x.lo y.hi = q := ⟨_, rfl⟩
    obtain ⟨v2, hv2⟩ : ∃ q, val T x.hi y.lo = q := ⟨_, rfl⟩
    dsimp only at k1 k2
    rw [hv1] at k1 hv
    rw [hv2] at k2 hv
    obtain ⟨w1, hw1⟩ : ∃ q, may T ⟨x.lo, y.hi⟩ = q := ⟨_, rfl⟩
    obtain ⟨w2, hw2⟩ : ∃ q, may T ⟨x.hi, y.lo⟩ = q := ⟨_, rfl⟩
    obtain ⟨w3, hw3⟩ : ∃ q, dueB T m1 = q := ⟨_, rfl⟩
    rw [hw1] at k1 k3 hmb
    rw [hw2] at k2 k4 hmb
    rw [hw3] at k3 k4
    clear hw1 hw2 hw3 hv1 hv2
    have h60 : ((6 : Int) = 0) = False := by simp
    cases w1 <;> cases w2 <;> cases w3
    all_goals try (exact absurd (hmb rfl) (by decide))
    all_goals simp only [Bool.false_eq_true, if_false, if_true, h60, Bool.and_true, Bool.and_false, Bool.true_and, Bool.false_and] at k1 k2 k3 k4
    all_goals repeat' (first | (refine XO.op rfl ?_; (first | ((first | refine Xo.ng rfl ?_ | (refine Xo.g rfl rfl ?_; with_reducible refine Xw.tt ?_) | (refine Xo.g rfl rfl ?_; with_reducible refine Xw.ff ?_)); (first | (refine Xg.call (EnF.st rfl (Args.cons rfl (Args.cons rfl Args.nil))) rfl rfl (k1 [_, _, _]) ?_; rintro _ H9 ⟨rfl, hH9⟩; subst H9) | (refine Xg.call (EnF.st rfl (Args.cons rfl (Args.cons rfl Args.nil))) rfl rfl (k2 [_, _, _]) ?_; rintro _ H9 ⟨rfl, hH9⟩; subst H9) | (refine Xg.call (EnF.st rfl (Args.cons rfl (Args.cons rfl (Args.cons rfl Args.nil)))) rfl rfl (k3 [_, _, _]) ?_; rintro _ H9 ⟨rfl, hH9⟩; subst H9) | (refine Xg.call (EnF.st rfl (Args.cons rfl (Args.cons rfl (Args.cons rfl Args.nil)))) rfl rfl (k4 [_, _, _]) ?_; rintro _ H9 ⟨rfl, hH9⟩; subst H9) | (refine Xg.ev (notF rfl rfl) rfl rfl ?_) | (refine Xg.ev (EvF.cmp (b := true) rfl rfl rfl (congrArg some (decide_eq_true (by omega)))) rfl rfl ?_) | (refine Xg.ev (EvF.cmp (b := false) rfl rfl rfl (congrArg some (decide_eq_false (by omega)))) rfl rfl ?_) | (refine Xg.ev (EvF.cmp (b := true) rfl rfl rfl (congrArg some (nd_t (by omega)))) rfl rfl ?_) | (refine Xg.ev (EvF.cmp (b := false) rfl rfl rfl (congrArg some (nd_f (by omega)))) rfl rfl ?_) | (refine Xg.ev (EvF.move rfl rfl) rfl rfl ?_) | (refine Xg.ev (EvF.assign rfl rfl) rfl rfl ?_) | (refine Xg.ev (EvF.pickT rfl rfl rfl) rfl rfl ?_) | (refine Xg.ev (EvF.pickF rfl rfl rfl) rfl rfl ?_) | (refine Xg.ev (EvF.loadV rfl rfl (LoadV.whole (te rfl) rfl (List.Mem.head _) rfl)) rfl rfl ?_) | (refine Xg.ev (EvF.loadV rfl rfl (LoadV.whole (te rfl) rfl (List.Mem.tail _ (List.Mem.head _)) rfl)) rfl rfl ?_) | (refine Xg.ev (EvF.loadV rfl rfl (LoadV.whole (te rfl) rfl (List.Mem.tail _ (List.Mem.tail _ (List.Mem.head _))) rfl)) rfl rfl ?_) | (refine Xg.ev (EvF.extract rfl rfl rfl) rfl rfl ?_))) | (refine Xo.g rfl rfl ?_; (first | (with_reducible refine Xw.tf rfl rfl ?_))) | (refine Xo.sk rfl rfl rfl rfl ?_))) | (refine XO.done rfl ?_; refine hK _ _ ?_; clear hK K) | refine X.seq rfl ?_ | refine X.region rfl (fun K hK => ?_) | refine X.ret rfl ?_)
    all_goals try (exfalso; contradiction)
    all_goals exact ret_one (by first | exact .inr rfl | exact .inl rfl) Tryz.results9 rfl (H' := _) (List.Sublist.refl _) rfl
  · have hR : ∀ Z : List Row, _ := fun Z => readyF T p hr (Z ++ H) (hg.sub (fun _ h => List.mem_append_right _ h)) (hs.sub (fun _ h => List.mem_append_right _ h))
    refine Fc.mk (callable Tryz.call9) Tryz.func9 rfl Tryz.ntmps9 rfl ?_; dsimp only [fr]
    repeat' (first | (refine XO.op rfl ?_; (first | ((first | refine Xo.ng rfl ?_); (first | (refine Xg.call (EnF.st rfl (by (repeat (first | exact Args.nil | refine Args.cons rfl ?_)); done)) rfl rfl (alive_spec _) ?_; rintro _ H9 ⟨rfl, hH9⟩; subst H9) | (refine Xg.call (EnF.st rfl (Args.cons rfl Args.nil)) rfl rfl (hR [_, _]) ?_; rintro _ H9 ⟨rfl, hH9⟩; subst H9) | (refine Xg.ev (notF rfl rfl) rfl rfl ?_) | (refine Xg.ev (EvF.move rfl rfl) rfl rfl ?_) | (refine Xg.ev (EvF.assign rfl rfl) rfl rfl ?_) | (refine Xg.ev (EvF.pickT rfl rfl rfl) rfl rfl ?_) | (refine Xg.ev (EvF.loadV rfl rfl (LoadV.whole (te rfl) rfl (List.Mem.tail _ (List.Mem.head _)) rfl)) rfl rfl ?_) | (refine Xg.st (StF.boxAgg rfl rfl) rfl rfl ?_; rintro _ _ ⟨bx, rfl, rfl⟩))) | (refine Xo.g rfl rfl ?_; (first | (with_reducible refine Xw.tf rfl rfl ?_))))) | (refine XO.done rfl ?_; refine hK _ _ ?_; clear hK K) | refine X.seq rfl ?_ | refine X.region rfl (fun K hK => ?_) | refine X.ret rfl ?_ | (refine X.ite rfl rfl (fun hc => ?_); (first | (with_reducible refine Xb.t hc ?_)) <;> clear hc))
    all_goals try (exfalso; contradiction)
    exact ret_one (by first | exact .inr rfl | exact .inl rfl) Tryz.results9 rfl (H' := _) (List.Sublist.refl _) rfl
end Go.Proofs.YtjejppodhpdckaaGreat
end
section
set_option linter.unusedVariables false
set_option linter.unusedSimpArgs false
namespace Go.Proofs.YtjejppodhpdckaaGreat
open Go Go.Fw
set_option maxRecDepth 10000
theorem prgNo {f : FuncId} {args : List Value} {H : List Row} {F : Tm × Int} {U : Tm} {e : Int} (h : Fc Tryz.prog f args H (ProgT F H)) (hF : F = (U, e)) :
    Fc Tryz.prog f args H (fun v H' => ∃ p, v = .tuple #[.agg (cTm U p).toArray, .int .i64 e] ∧ H' = H) := by
  subst hF
  refine Fc.out h ?_
  rintro v H' ⟨p, Z, rfl, hO, rfl⟩
  exact ⟨Z ++ H, H, List.Perm.refl _, List.sublist_append_right _ _, p, rfl, rfl⟩
theorem askedE_ok {T : Tm} {c : Cl} (hok : tmOk T) (hc : in9 c) : askedE T c = 0 := by unfold askedE clsE; rw [if_pos hok, if_pos hc.1, if_pos hc.2]
theorem at1_map {l : List Int} {f : Int → Int} {i : Int} (hi : 1 ≤ i ∧ i ≤ 9) (hl : l.length = 9) : at1 (l.map f) i = f (at1 l i) := by
  have h1 := at1_get hi hl
  have h2 := at1_get (l := l.map f) hi (by rw [List.length_map, hl])
  rw [List.getElem?_map, h1] at h2
  exact (Option.some.inj h2).symm
theorem val_reb {T : Tm} {b c : Cl} (hok : tmOk T) (hb : in9 b) (hc : in9 c) : val (rebT T b) c.g c.s = val T c.g c.s := by
  unfold val rebT
  dsimp only
  rw [at1_map hc.1 hok.gr.1, at1_map hc.2 hok.st.1]
  unfold val
  omega
theorem may_reb (T : Tm) (b c : Cl) : may (rebT T b) c = may T c := rfl
theorem in9_base {T : Tm} (hok : tmOk T) : in9 ⟨T.g, T.s⟩ := ⟨hok.cls.1, hok.cls.2.1⟩
theorem may_base {T : Tm} (hok : tmOk T) : may T ⟨T.g, T.s⟩ = true := by
  have := hok.cls
  unfold may
  exact decide_eq_true (by dsimp only; omega)
theorem reb_back {T : Tm} {b : Cl} (hok : tmOk T) (hb : in9 b) : rebT (rebT T b) ⟨T.g, T.s⟩ = T := by
  have h0 := in9_base hok
  have e1 : at1 (rebT T b).G T.g = at1 T.G T.g - at1 T.G b.g := by unfold rebT; exact at1_map h0.1 hok.gr.1
  have e2 : at1 (rebT T b).S T.s = at1 T.S T.s - at1 T.S b.s := by unfold rebT; exact at1_map h0.2 hok.st.1
  have ev : val (rebT T b) T.g T.s = T.price := by
    have h := val_reb hok hb h0
    dsimp only at h
    rw [h]; unfold val
    have := hok.zero
    omega
  have z := hok.zero
  show ({ rebT T b with g := T.g, s := T.s, price := val (rebT T b) T.g T.s, G := (rebT T b).G.map (fun n => n - at1 (rebT T b).G T.g), S := (rebT T b).S.map (fun n => n - at1 (rebT T b).S T.s) } : Tm) = T
  rw [ev, e1, e2]
  have g1 : (rebT T b).G.map (fun n => n - (at1 T.G T.g - at1 T.G b.g)) = T.G := by
    show (T.G.map (fun n => n - at1 T.G b.g)).map _ = T.G
    rw [List.map_map]
    conv => rhs; rw [← List.map_id T.G]
    exact List.map_congr_left fun n _ => by simp only [Function.comp, id]; omega
  have g2 : (rebT T b).S.map (fun n => n - (at1 T.S T.s - at1 T.S b.s)) = T.S := by
    show (T.S.map (fun n => n - at1 T.S b.s)).map _ = T.S
    rw [List.map_map]
    conv => rhs; rw [← List.map_id T.S]
    exact List.map_congr_left fun n _ => by simp only [Function.comp, id]; omega
  rw [g1, g2]
  rfl
theorem reb_self {T : Tm} (hok : tmOk T) : rebT T ⟨T.g, T.s⟩ = T := by
  have z := hok.zero
  show ({ T with g := T.g, s := T.s, price := val T T.g T.s, G := T.G.map (fun n => n - at1 T.G T.g), S := T.S.map (fun n => n - at1 T.S T.s) } : Tm) = T
  have ev : val T T.g T.s = T.price := by unfold val; omega
  have g1 : T.G.map (fun n => n - at1 T.G T.g) = T.G := by
    conv => rhs; rw [← List.map_id T.G]
    exact List.map_congr_left fun n _ => by simp only [id]; omega
  have g2 : T.S.map (fun n => n - at1 T.S T.s) = T.S := by
    conv => rhs; rw [← List.map_id T.S]
    exact List.map_congr_left fun n _ => by simp only [id]; omega
  rw [ev, g1, g2]
def tsRbs : List TOp := [⟨some 27, [], [], []⟩, ⟨some 28, [0], [0], []⟩, ⟨some 29, [0, 1], [1], []⟩, ⟨some 30, [0, 1, 2], [2], []⟩, ⟨some 31, [0, 1, 2, 3], [3], []⟩, ⟨some 32, [], [], []⟩, ⟨some 33, [5], [5], []⟩, ⟨some 34, [5, 6], [6], []⟩, ⟨some 35, [5, 6, 7], [7], []⟩, ⟨some 36, [5, 6, 7, 8], [8], []⟩, ⟨some 37, [0, 1, 2, 3, 4, 5, 6, 7, 8, 9], [4, 9], []⟩, ⟨some 38, [], [], []⟩, ⟨some 39, [11], [11], []⟩, ⟨some 40, [11, 12], [12], []⟩, ⟨some 41, [11, 12, 13], [13], []⟩, ⟨some 42, [11, 12, 13, 14], [14], []⟩, ⟨some 43, [], [], []⟩, ⟨some 44, [16], [16], []⟩, ⟨some 45, [16, 17], [17], []⟩, ⟨some 46, [16, 17, 18], [18], []⟩, ⟨some 47, [16, 17, 18, 19], [19], []⟩, ⟨some 48, [0, 1, 2, 3, 4, 5, 6, 7, 8, 9, 10, 11, 12, 13, 14, 15, 16, 17, 18, 19, 20], [15, 20], []⟩, ⟨some 6, [], [], []⟩, ⟨some 7, [], [], []⟩, ⟨none, [0, 1, 2, 3, 4, 5, 6, 7, 8, 9, 10, 11, 12, 13, 14, 15, 16, 17, 18, 19, 20, 21, 22, 23], [22, 10], [22]⟩, ⟨none, [0, 1, 2, 3, 4, 5, 6, 7, 8, 9, 10, 11, 12, 13, 14, 15, 16, 17, 18, 19, 20, 21, 22, 23, 24], [23, 21], [23]⟩]
def valRbs (b2 b3 : Nat) (a b c d : Int) (k : Nat) (env : Env) : Value :=
  match k with
  | 0 => .pointer (some ⟨b3, 0, none⟩)
  | 1 => .int .u8 a
  | 2 => .int .i64 a
  | 3 => .int .i64 (a % 9)
  | 4 => .int .i64 (1 + a % 9)
  | 5 => .pointer (some ⟨b3, 1, none⟩)
  | 6 => .int .u8 b
  | 7 => .int .i64 b
  | 8 => .int .i64 (b % 9)
  | 9 => .int .i64 (1 + b % 9)
  | 10 => .agg (cCl ⟨1 + a % 9, 1 + b % 9⟩).toArray
  | 11 => .pointer (some ⟨b3, 2, none⟩)
  | 12 => .int .u8 c
  | 13 => .int .i64 c
  | 14 => .int .i64 (c % 9)
  | 15 => .int .i64 (1 + c % 9)
  | 16 => .pointer (some ⟨b3, 3, none⟩)
  | 17 => .int .u8 d
  | 18 => .int .i64 d
  | 19 => .int .i64 (d % 9)
  | 20 => .int .i64 (1 + d % 9)
  | 21 => .agg (cCl ⟨1 + c % 9, 1 + d % 9⟩).toArray
  | 22 => .pointer (some ⟨(env 22).1, 0, none⟩)
  | 23 => .pointer (some ⟨(env 23).1, 0, none⟩)
  | 24 => undef
  | 25 => undef
  | _ => undef
def rowsRbs (b2 b3 : Nat) (a b c d : Int) (k : Nat) (env : Env) : List Row :=
  match k with
  | 22 => [⟨(env 22).1, 0, cCl ⟨0, 0⟩, some 27, 2⟩]
  | 23 => [⟨(env 23).1, 0, cCl ⟨0, 0⟩, some 27, 2⟩]
  | 24 => [⟨(env 22).1, 0, cCl ⟨1 + a % 9, 1 + b % 9⟩, some 27, 2⟩]
  | 25 => [⟨(env 23).1, 0, cCl ⟨1 + c % 9, 1 + d % 9⟩, some 27, 2⟩]
  | _ => []
theorem locRbs (b2 b3 : Nat) (a b c d : Int) : ∀ k env i q9, i ≠ k → (tAt tsRbs k).sup.contains i = false → valRbs b2 b3 a b c d k (upd env i q9) = valRbs b2 b3 a b c d k env ∧ rowsRbs b2 b3 a b c d k (upd env i q9) = rowsRbs b2 b3 a b c d k env := by
  intro k env i q hk hs
  have hu : ∀ j, j ≠ i → upd env i q j = env j := fun j hj => by unfold upd; rw [if_neg hj]
  match k, hk, hs with
  | 0, _, _ => exact ⟨rfl, rfl⟩
  | 1, _, _ => exact ⟨rfl, rfl⟩
  | 2, _, _ => exact ⟨rfl, rfl⟩
  | 3, _, _ => exact ⟨rfl, rfl⟩
  | 4, _, _ => exact ⟨rfl, rfl⟩
  | 5, _, _ => exact ⟨rfl, rfl⟩
  | 6, _, _ => exact ⟨rfl, rfl⟩
  | 7, _, _ => exact ⟨rfl, rfl⟩
  | 8, _, _ => exact ⟨rfl, rfl⟩
  | 9, _, _ => exact ⟨rfl, rfl⟩
  | 10, _, _ => exact ⟨rfl, rfl⟩
  | 11, _, _ => exact ⟨rfl, rfl⟩
  | 12, _, _ => exact ⟨rfl, rfl⟩
  | 13, _, _ => exact ⟨rfl, rfl⟩
  | 14, _, _ => exact ⟨rfl, rfl⟩
  | 15, _, _ => exact ⟨rfl, rfl⟩
  | 16, _, _ => exact ⟨rfl, rfl⟩
  | 17, _, _ => exact ⟨rfl, rfl⟩
  | 18, _, _ => exact ⟨rfl, rfl⟩
  | 19, _, _ => exact ⟨rfl, rfl⟩
  | 20, _, _ => exact ⟨rfl, rfl⟩
  | 21, _, _ => exact ⟨rfl, rfl⟩
  | 22, hk, hs => exact ⟨by simp only [valRbs, hu 22 (fun e => hk e.symm)], by simp only [rowsRbs, hu 22 (fun e => hk e.symm)]⟩
  | 23, hk, hs => exact ⟨by simp only [valRbs, hu 23 (fun e => hk e.symm)], by simp only [rowsRbs, hu 23 (fun e => hk e.symm)]⟩
  | 24, hk, hs => exact ⟨by simp only [valRbs, hu 22 (by rintro rfl; cases hs)], by simp only [rowsRbs, hu 22 (by rintro rfl; cases hs)]⟩
  | 25, hk, hs => exact ⟨by simp only [valRbs, hu 23 (by rintro rfl; cases hs)], by simp only [rowsRbs, hu 23 (by rintro rfl; cases hs)]⟩
  | _ + 26, _, _ => exact ⟨rfl, rfl⟩
set_option maxHeartbeats 16000000 in
theorem termsRebased_spec (T : Tm) (p : Pt) (u : List Int) (hu : u.length = 4 ∧ ∀ x ∈ u, u8 x) (H : List Row) (hg : SlE H p.a1 cI 1 T.G) (hs : SlE H p.a2 cI 1 T.S) :
    Fc Tryz.prog 10 [.agg (cTm T p).toArray, .agg (c8 u).toArray] H (fun v _ => v = .bool true) := by
  obtain ⟨hl, h8⟩ := hu
  match u, hl, h8 with
  | [a, b, c, d], _, h8 =>
  have ha := h8 a (by simp)
  have hb := h8 b (by simp)
  have hc := h8 c (by simp)
  have hd := h8 d (by simp)
  clear h8
  by_cases hr : rdy T
  · have hT : TmOk H T p := ⟨hg, hs, by have := hr.1; omega, by have := hr.1; omega⟩
    have hok := hr.2
    refine Fc.mk (callable Tryz.call10) Tryz.func10 rfl Tryz.ntmps10 rfl ?_; dsimp only [fr]
    repeat' (first | (refine XO.op rfl ?_; (first | ((first | refine Xo.ng rfl ?_ | (refine Xo.g rfl rfl ?_; with_reducible refine Xw.ff ?_)); (first | (refine Xg.call (EnF.st rfl (by (repeat (first | exact Args.nil | refine Args.cons rfl ?_)); done)) rfl rfl (alive_spec _) ?_; rintro _ H9 ⟨rfl, hH9⟩; subst H9) | (refine Xg.call (EnF.st rfl (Args.cons rfl Args.nil)) rfl rfl (readyT T p hr _ (hT.sub (fun _ h => by repeat (first | exact h | apply List.Mem.tail)))) ?_; rintro _ H9 ⟨rfl, hH9⟩; subst H9) | (refine Xg.ev (notT rfl rfl) rfl rfl ?_) | (refine Xg.ev (EvF.move rfl rfl) rfl rfl ?_) | (refine Xg.ev (EvF.assign rfl rfl) rfl rfl ?_) | (refine Xg.ev (EvF.pickF rfl rfl rfl) rfl rfl ?_) | (refine Xg.ev (EvF.loadV rfl rfl (LoadV.whole (te rfl) rfl (List.Mem.tail _ (List.Mem.head _)) rfl)) rfl rfl ?_) | (refine Xg.st (StF.boxAgg rfl rfl) rfl rfl ?_; rintro _ _ ⟨bx, rfl, rfl⟩))))) | (refine XO.done rfl ?_; refine hK _ _ ?_; clear hK K) | refine X.seq rfl ?_ | refine X.region rfl (fun K hK => ?_) | refine X.skip rfl ?_ | (refine X.ite rfl rfl (fun hc => ?_); (first | (with_reducible refine Xb.f hc ?_)) <;> clear hc))
    all_goals try (exfalso; contradiction)
    rename_i b2
    obtain ⟨b3, hb3⟩ : ∃ b, b = bx := ⟨_, rfl⟩
    rw [← hb3]
    clear hb3
    refine X.weak (F' := [(2, .pointer (some ⟨b2, 0, none⟩)), (3, .pointer (some ⟨b3, 0, none⟩)), (5, .bool true)]) (H' := ⟨b3, 0, c8 [a, b, c, d], some 83, 4⟩ :: ⟨b2, 0, cTm T p, some 32, 11⟩ :: H) (by (repeat (first | exact Sub.nil _ | refine Sub.cons rfl ?_)); done) (by (repeat (first | exact List.Sublist.refl _ | apply List.Sublist.cons_cons | apply List.Sublist.cons)); done) ?_
    refine X.regionOb tsRbs [2, 3, 5] [(2, .pointer (some ⟨b2, 0, none⟩)), (3, .pointer (some ⟨b3, 0, none⟩)), (5, .bool true)] (valRbs b2 b3 a b c d) (rowsRbs b2 b3 a b c d) (fun _ => (0, 0)) (⟨b3, 0, c8 [a, b, c, d], some 83, 4⟩ :: ⟨b2, 0, cTm T p, some 32, 11⟩ :: H) rfl mixed (by (repeat (first | exact Sub.nil _ | refine Sub.cons rfl ?_)); done) rfl (by kernel_rfl) (locRbs b2 b3 a b c d) (List.Sublist.refl _) ?_ ?_
    · unfold u8 at ha hb hc hd
      repeat' (first | exact AllF.done rfl | (refine AllF.step rfl ?_ ?_; · (first | fail | ((first | refine Ob.ng rfl ?_); (first | exact ObK.pure (fun env R hR => by exact ⟨_, EvF.loadV rfl rfl (LoadV.own (te rfl) rfl (hR _ (List.Mem.head _)) rfl), rfl⟩) rfl (fun _ => rfl) | (exact ObK.pure (fun env S hS => ⟨_, EvF.indexArray (i := 0) rfl rfl rfl (te rfl) (te rfl) (by decide) (by decide), rfl⟩) rfl (fun _ => rfl)) | (exact ObK.pure (fun env S hS => ⟨_, EvF.indexArray (i := 1) rfl rfl rfl (te rfl) (te rfl) (by decide) (by decide), rfl⟩) rfl (fun _ => rfl)) | (exact ObK.pure (fun env S hS => ⟨_, EvF.indexArray (i := 2) rfl rfl rfl (te rfl) (te rfl) (by decide) (by decide), rfl⟩) rfl (fun _ => rfl)) | (exact ObK.pure (fun env S hS => ⟨_, EvF.indexArray (i := 3) rfl rfl rfl (te rfl) (te rfl) (by decide) (by decide), rfl⟩) rfl (fun _ => rfl)) | (exact ObK.pure (fun env S hS => ⟨_, EvF.conv rfl rfl int8_und int64_und (by omega) (by omega), rfl⟩) rfl (fun _ => rfl)) | (exact ObK.pure (fun env S hS => ⟨_, EvF.rem64 rfl rfl rfl (by omega) (by omega), rfl⟩) rfl (fun _ => rfl)) | (exact ObK.pure (fun env S hS => ⟨_, EvF.add64 rfl rfl rfl (by omega) (by omega), rfl⟩) rfl (fun _ => rfl)) | (exact fun env S hS => OpF.callV (Z := []) (EnF.st rfl (Args.cons rfl (Args.cons rfl Args.nil))) (lclass_spec (1 + a % 9) (1 + b % 9) _) rfl rfl) | (exact fun env S hS => OpF.callV (Z := []) (EnF.st rfl (Args.cons rfl (Args.cons rfl Args.nil))) (lclass_spec (1 + c % 9) (1 + d % 9) _) rfl rfl) | (exact fun env S hS => (StF.alloc rfl Tryz.zeroValue27 rfl).op.mono (fun v H' ⟨b, hv, hH⟩ => ⟨(b, 0), fun _ => hv, by rw [hH]; exact List.Perm.refl _⟩)) | (exact fun env S hS => (StF.storeAll (i := 0) (vs := cCl ⟨1 + a % 9, 1 + b % 9⟩) (cs := cCl ⟨0, 0⟩) rfl rfl rfl (te rfl) rfl rfl rfl rfl).op.mono (fun v H' ⟨hv, hH⟩ => ⟨(0, 0), fun h => absurd rfl h, by rw [hH]; exact List.Perm.refl _⟩)) | (exact fun env S hS => (StF.storeAll (i := 0) (vs := cCl ⟨1 + c % 9, 1 + d % 9⟩) (cs := cCl ⟨0, 0⟩) rfl rfl rfl (te rfl) rfl rfl rfl rfl).op.mono (fun v H' ⟨hv, hH⟩ => ⟨(0, 0), fun h => absurd rfl h, by rw [hH]; exact List.Perm.refl _⟩)))))))
    intro env t ha2 hv
    refine ⟨_, (ha2.cons (hv 22 6 (Nat.le_of_ble_eq_true rfl) rfl)).cons (hv 23 7 (Nat.le_of_ble_eq_true rfl) rfl), ?_⟩
    clear hv ha2
    obtain ⟨b6, hb6⟩ : ∃ q, q = (env 22).1 := ⟨_, rfl⟩
    obtain ⟨b7, hb7⟩ : ∃ q, q = (env 23).1 := ⟨_, rfl⟩
    obtain ⟨x, hx⟩ : ∃ q, (⟨1 + a % 9, 1 + b % 9⟩ : Cl) = q := ⟨_, rfl⟩
    obtain ⟨y, hy⟩ : ∃ q, (⟨1 + c % 9, 1 + d % 9⟩ : Cl) = q := ⟨_, rfl⟩
    have ix : in9 x := by rw [← hx]; exact ⟨nines a, nines b⟩
    have iy : in9 y := by rw [← hy]; exact ⟨nines c, nines d⟩
    refine X.weak (F' := [(2, .pointer (some ⟨b2, 0, none⟩)), (5, .bool true), (6, .pointer (some ⟨b6, 0, none⟩)), (7, .pointer (some ⟨b7, 0, none⟩))]) (H' := ⟨b6, 0, cCl x, some 27, 2⟩ :: ⟨b7, 0, cCl y, some 27, 2⟩ :: ⟨b2, 0, cTm T p, some 32, 11⟩ :: H) (by rw [hb6, hb7]; exact (by (repeat (first | exact Sub.nil _ | refine Sub.cons rfl ?_)); done)) (by rw [hb6, hb7, ← hx, ← hy]; exact (by (repeat (first | exact List.Sublist.refl _ | apply List.Sublist.cons_cons | apply List.Sublist.cons)); done)) ?_
    clear hx hy hb6 hb7 ha hb hc hd
    cases hm : may T x
    · have hF : rebF T x = (Tz, 6) := by unfold rebF; rw [if_pos (askedE_ok hok ix), if_neg (by rw [hm]; decide)]
      have hM : ∀ H', Fc Tryz.prog 37 [.agg (cTm T p).toArray, .agg (cCl x).toArray] H' (fun v H'' => v = .bool false ∧ H'' = H') := fun H' => by have := rmay_spec T p x H'; rwa [hm] at this
      repeat' (first | (refine XO.op rfl ?_; (first | ((first | refine Xo.ng rfl ?_ | (refine Xo.g rfl rfl ?_; with_reducible refine Xw.tt ?_)); (first | (refine Xg.call (EnF.st rfl (Args.cons rfl (Args.cons rfl Args.nil))) rfl rfl (prgNo (kreb_spec T p x _ (hT.sub (fun _ h => by repeat (first | exact h | apply List.Mem.tail)))) hF) ?_; rintro _ _ ⟨px, rfl, rfl⟩) | (refine Xg.call (EnF.st rfl (Args.cons rfl (Args.cons rfl Args.nil))) rfl rfl (hM _) ?_; rintro _ H9 ⟨rfl, hH9⟩; subst H9) | (refine Xg.ev (EvF.cmpB (b := true) rfl rfl rfl Tryz.underlying4 rfl) rfl rfl ?_) | (refine Xg.ev (notF rfl rfl) rfl rfl ?_) | (refine Xg.ev (EvF.cmp (b := true) rfl rfl rfl (congrArg some (decide_eq_true (by omega)))) rfl rfl ?_) | (refine Xg.ev (EvF.cmp (b := true) rfl rfl rfl (congrArg some (nd_t (by omega)))) rfl rfl ?_) | (refine Xg.ev (EvF.move rfl rfl) rfl rfl ?_) | (refine Xg.ev (EvF.assign rfl rfl) rfl rfl ?_) | (refine Xg.ev (EvF.pickT rfl rfl rfl) rfl rfl ?_) | (refine Xg.ev (EvF.loadV rfl rfl (LoadV.whole (te rfl) rfl (List.Mem.head _) rfl)) rfl rfl ?_) | (refine Xg.ev (EvF.loadV rfl rfl (LoadV.whole (te rfl) rfl (List.Mem.tail _ (List.Mem.head _)) rfl)) rfl rfl ?_) | (refine Xg.ev (EvF.loadV rfl rfl (LoadV.whole (te rfl) rfl (List.Mem.tail _ (List.Mem.tail _ (List.Mem.head _))) rfl)) rfl rfl ?_) | (refine Xg.ev (EvF.loadV rfl rfl (LoadV.whole (te rfl) rfl (List.Mem.tail _ (List.Mem.tail _ (List.Mem.tail _ (List.Mem.head _)))) rfl)) rfl rfl ?_) | (refine Xg.ev (EvF.extract rfl rfl rfl) rfl rfl ?_) | (refine Xg.st (StF.alloc rfl Tryz.zeroValue32 rfl) rfl rfl ?_; rintro _ _ ⟨bx, rfl, rfl⟩) | (refine Xg.st0 (StF.storeAll (i := 0) rfl rfl rfl (te rfl) rfl rfl rfl rfl) rfl ?_; rintro _ _ ⟨rfl, rfl⟩; dsimp only [List.set]))) | (refine Xo.g rfl rfl ?_; (first | (with_reducible refine Xw.tf rfl rfl ?_))))) | (refine XO.done rfl ?_; refine hK _ _ ?_; clear hK K) | refine X.seq rfl ?_ | refine X.region rfl (fun K hK => ?_) | refine X.ret rfl ?_ | (refine X.ite rfl rfl (fun hc => ?_); (first | (with_reducible refine Xb.t hc ?_)) <;> clear hc))
      all_goals try (exfalso; contradiction)
      exact ret_one (by first | exact .inr rfl | exact .inl rfl) Tryz.results10 rfl (H' := _) (List.Sublist.refl _) rfl
    · by_cases hU : tmOk (rebT T x)
      · have hl1 : (rebT T x).G.length = 9 := by show (T.G.map _).length = 9; rw [List.length_map, hok.gr.1]
        have hl2 : (rebT T x).S.length = 9 := by show (T.S.map _).length = 9; rw [List.length_map, hok.st.1]
        have hrU : rdy (rebT T x) := ⟨by rw [hl1, hl2]; decide, hU⟩
        have hlU : (rebT T x).G.length ≤ 1000000 ∧ (rebT T x).S.length ≤ 1000000 := by rw [hl1, hl2]; decide
        have hlT : T.G.length ≤ 1000000 ∧ T.S.length ≤ 1000000 := ⟨hT.l1, hT.l2⟩
        have ib := in9_base hok
        have hF : rebF T x = (rebT T x, 0) := by unfold rebF vld; rw [if_pos (askedE_ok hok ix), if_pos hm, if_pos hU]
        have hB : rebF (rebT T x) ⟨T.g, T.s⟩ = (T, 0) := by unfold rebF vld; rw [if_pos (askedE_ok hU ib), if_pos (by rw [may_reb]; exact may_base hok), reb_back hok ix, if_pos hok]
        have hS : rebF T ⟨T.g, T.s⟩ = (T, 0) := by unfold rebF vld; rw [if_pos (askedE_ok hok ib), if_pos (may_base hok), reb_self hok, if_pos hok]
        have hI : openE (rebT T x) (abI y) = openE T (abI y) ∧ invR (rebT T x) y = invR T y := by
          have h1 : openE (rebT T x) (abI y) = openE T (abI y) := by rw [oI hU iy, oI hok iy, may_reb]
          refine ⟨h1, ?_⟩
          unfold invR
          rw [h1, val_reb hok ix iy]
        have k1 := fun q H' h => kinvoice_spec T q y H' h
        have k2 := fun q H' h => kinvoice_spec (rebT T x) q y H' h
        rw [hI.1, hI.2] at k2
        obtain ⟨n0, hn0⟩ : ∃ n, invR T y = n := ⟨_, rfl⟩
        obtain ⟨e0, he0⟩ : ∃ n, openE T (abI y) = n := ⟨_, rfl⟩
        rw [hn0, he0] at k1 k2
        clear hI hn0 he0
        repeat' (first | (refine XO.op rfl ?_; (first | ((first | refine Xo.ng rfl ?_ | (refine Xo.g rfl rfl ?_; with_reducible refine Xw.tt ?_)); (first | (refine Xg.call (EnF.st rfl (Args.cons rfl (Args.cons rfl Args.nil))) rfl rfl (progT_two (kreb_spec T p x _ (hT.sub (fun _ h => by repeat (first | exact h | apply List.Mem.tail)))) hF hU) ?_; rintro _ _ ⟨t1, q1, t2, q2, rfl, rfl⟩) | (refine Xg.call (EnF.st rfl (Args.cons rfl (Args.cons rfl Args.nil))) rfl rfl (progT_two (kreb_spec (rebT T x) (plT t1 q1 t2 q2) ⟨T.g, T.s⟩ _ ⟨SlE.ofRow (by repeat (first | exact List.Mem.head _ | apply List.Mem.tail)) (fun _ _ => rfl), SlE.ofRow (by repeat (first | exact List.Mem.head _ | apply List.Mem.tail)) (fun _ _ => rfl), hlU.1, hlU.2⟩) hB hok) ?_; rintro _ _ ⟨s1, m1, s2, m2, rfl, rfl⟩) | (refine Xg.call (EnF.st rfl (Args.cons rfl (Args.cons rfl Args.nil))) rfl rfl (progT_two (kreb_spec T p ⟨T.g, T.s⟩ _ (hT.sub (fun _ h => by repeat (first | exact h | apply List.Mem.tail)))) hS hok) ?_; rintro _ _ ⟨r1, n1, r2, n2, rfl, rfl⟩) | (refine Xg.call (EnF.st rfl (Args.cons rfl (Args.cons rfl Args.nil))) rfl rfl (k1 p _ (hT.sub (fun _ h => by repeat (first | exact h | apply List.Mem.tail)))) ?_; rintro _ H9 ⟨rfl, hH9⟩; subst H9) | (refine Xg.call (EnF.st rfl (Args.cons rfl (Args.cons rfl Args.nil))) rfl rfl (k2 (plT t1 q1 t2 q2) _ ⟨SlE.ofRow (by repeat (first | exact List.Mem.head _ | apply List.Mem.tail)) (fun _ _ => rfl), SlE.ofRow (by repeat (first | exact List.Mem.head _ | apply List.Mem.tail)) (fun _ _ => rfl), hlU.1, hlU.2⟩) ?_; rintro _ H9 ⟨rfl, hH9⟩; subst H9) | (refine Xg.call (EnF.st rfl (Args.cons rfl Args.nil)) rfl rfl (readyT (rebT T x) (plT t1 q1 t2 q2) hrU _ ⟨SlE.ofRow (by repeat (first | exact List.Mem.head _ | apply List.Mem.tail)) (fun _ _ => rfl), SlE.ofRow (by repeat (first | exact List.Mem.head _ | apply List.Mem.tail)) (fun _ _ => rfl), hlU.1, hlU.2⟩) ?_; rintro _ H9 ⟨rfl, hH9⟩; subst H9) | (refine Xg.call (EnF.st rfl (Args.cons rfl (Args.cons rfl Args.nil))) rfl rfl (sameT_self T (plT s1 m1 s2 m2) p _ ⟨SlE.ofRow (by repeat (first | exact List.Mem.head _ | apply List.Mem.tail)) (fun _ _ => rfl), SlE.ofRow (by repeat (first | exact List.Mem.head _ | apply List.Mem.tail)) (fun _ _ => rfl), hlT.1, hlT.2⟩ (hT.sub (fun _ h => by repeat (first | exact h | apply List.Mem.tail)))) ?_; rintro _ H9 ⟨rfl, hH9⟩; subst H9) | (refine Xg.call (EnF.st rfl (Args.cons rfl (Args.cons rfl Args.nil))) rfl rfl (sameT_self T (plT r1 n1 r2 n2) p _ ⟨SlE.ofRow (by repeat (first | exact List.Mem.head _ | apply List.Mem.tail)) (fun _ _ => rfl), SlE.ofRow (by repeat (first | exact List.Mem.head _ | apply List.Mem.tail)) (fun _ _ => rfl), hlT.1, hlT.2⟩ (hT.sub (fun _ h => by repeat (first | exact h | apply List.Mem.tail)))) ?_; rintro _ H9 ⟨rfl, hH9⟩; subst H9) | (refine Xg.ev (EvF.loadV rfl rfl (LoadV.whole (cs := cTm T p) (te rfl) rfl (by repeat (first | exact List.Mem.head _ | apply List.Mem.tail)) rfl)) rfl rfl ?_) | (refine Xg.ev (EvF.loadV rfl rfl (LoadV.ownAgg (cs := cTm T p) (te rfl) rfl (by repeat (first | exact List.Mem.head _ | apply List.Mem.tail)) rfl rfl)) rfl rfl ?_) | (refine Xg.ev (EvF.loadV rfl rfl (LoadV.whole (cs := cTm (rebT T x) (plT t1 q1 t2 q2)) (te rfl) rfl (by repeat (first | exact List.Mem.head _ | apply List.Mem.tail)) rfl)) rfl rfl ?_) | (refine Xg.ev (EvF.loadV rfl rfl (LoadV.ownAgg (cs := cTm (rebT T x) (plT t1 q1 t2 q2)) (te rfl) rfl (by repeat (first | exact List.Mem.head _ | apply List.Mem.tail)) rfl rfl)) rfl rfl ?_) | (refine Xg.ev (EvF.loadV rfl rfl (LoadV.whole (cs := cCl x) (te rfl) rfl (by repeat (first | exact List.Mem.head _ | apply List.Mem.tail)) rfl)) rfl rfl ?_) | (refine Xg.ev (EvF.loadV rfl rfl (LoadV.whole (cs := cTm T (plT s1 m1 s2 m2)) (te rfl) rfl (by repeat (first | exact List.Mem.head _ | apply List.Mem.tail)) rfl)) rfl rfl ?_) | (refine Xg.ev (EvF.loadV rfl rfl (LoadV.whole (cs := cTm T (plT r1 n1 r2 n2)) (te rfl) rfl (by repeat (first | exact List.Mem.head _ | apply List.Mem.tail)) rfl)) rfl rfl ?_) | (refine Xg.ev (EvF.eqSelf rfl rfl rfl) rfl rfl ?_) | (refine Xg.ev (EvF.eqSt (r := true) (b := true) rfl rfl rfl (by kernel_rfl) (eqClT x) rfl) rfl rfl ?_) | (refine Xg.ev (EvF.cmp (b := false) rfl rfl rfl (congrArg some (nd_f (by omega)))) rfl rfl ?_) | (refine Xg.ev (EvF.move rfl rfl) rfl rfl ?_) | (refine Xg.ev (EvF.assign rfl rfl) rfl rfl ?_) | (refine Xg.ev (EvF.pickT rfl rfl rfl) rfl rfl ?_) | (refine Xg.ev (EvF.fieldAddr rfl rfl (te rfl) rfl (te rfl) (by decide)) rfl rfl ?_) | (refine Xg.ev (EvF.loadV rfl rfl (LoadV.whole (te rfl) rfl (List.Mem.tail _ (List.Mem.tail _ (List.Mem.tail _ (List.Mem.tail _ (List.Mem.head _))))) rfl)) rfl rfl ?_) | (refine Xg.ev (EvF.extract rfl rfl rfl) rfl rfl ?_) | (refine Xg.st (StF.alloc rfl Tryz.zeroValue32 rfl) rfl rfl ?_; rintro _ _ ⟨bx, rfl, rfl⟩) | (refine Xg.st0 (StF.storeAll (i := 0) rfl rfl rfl (te rfl) rfl rfl rfl rfl) rfl ?_; rintro _ _ ⟨rfl, rfl⟩; dsimp only [List.set]))))) | (refine XO.done rfl ?_; refine hK _ _ ?_; clear hK K) | refine X.seq rfl ?_ | refine X.region rfl (fun K hK => ?_) | refine X.skip rfl ?_ | refine X.ret rfl ?_ | (refine X.ite rfl rfl (fun hc => ?_); (first | (with_reducible refine Xb.f hc ?_)) <;> clear hc))
        all_goals try (exfalso; contradiction)
        exact ret_one (by first | exact .inr rfl | exact .inl rfl) Tryz.results10 rfl (H' := _) (List.Sublist.refl _) rfl
      · have hF : rebF T x = (Tz, 40) := by unfold rebF vld; rw [if_pos (askedE_ok hok ix), if_pos hm, if_neg hU]
        have hM : ∀ H', Fc Tryz.prog 37 [.agg (cTm T p).toArray, .agg (cCl x).toArray] H' (fun v H'' => v = .bool true ∧ H'' = H') := fun H' => by have := rmay_spec T p x H'; rwa [hm] at this
        repeat' (first | (refine XO.op rfl ?_; (first | ((first | refine Xo.ng rfl ?_ | (refine Xo.g rfl rfl ?_; with_reducible refine Xw.tt ?_) | (refine Xo.g rfl rfl ?_; with_reducible refine Xw.ff ?_)); (first | (refine Xg.call (EnF.st rfl (Args.cons rfl (Args.cons rfl Args.nil))) rfl rfl (prgNo (kreb_spec T p x _ (hT.sub (fun _ h => by repeat (first | exact h | apply List.Mem.tail)))) hF) ?_; rintro _ _ ⟨px, rfl, rfl⟩) | (refine Xg.call (EnF.st rfl (Args.cons rfl (Args.cons rfl Args.nil))) rfl rfl (hM _) ?_; rintro _ H9 ⟨rfl, hH9⟩; subst H9) | (refine Xg.ev (EvF.cmpB (b := true) rfl rfl rfl Tryz.underlying4 rfl) rfl rfl ?_) | (refine Xg.ev (notT rfl rfl) rfl rfl ?_) | (refine Xg.ev (EvF.cmp (b := true) rfl rfl rfl (congrArg some (decide_eq_true (by omega)))) rfl rfl ?_) | (refine Xg.ev (EvF.cmp (b := false) rfl rfl rfl (congrArg some (decide_eq_false (by omega)))) rfl rfl ?_) | (refine Xg.ev (EvF.cmp (b := true) rfl rfl rfl (congrArg some (nd_t (by omega)))) rfl rfl ?_) | (refine Xg.ev (EvF.move rfl rfl) rfl rfl ?_) | (refine Xg.ev (EvF.assign rfl rfl) rfl rfl ?_) | (refine Xg.ev (EvF.pickT rfl rfl rfl) rfl rfl ?_) | (refine Xg.ev (EvF.pickF rfl rfl rfl) rfl rfl ?_) | (refine Xg.ev (EvF.loadV rfl rfl (LoadV.whole (te rfl) rfl (List.Mem.head _) rfl)) rfl rfl ?_) | (refine Xg.ev (EvF.loadV rfl rfl (LoadV.whole (te rfl) rfl (List.Mem.tail _ (List.Mem.head _)) rfl)) rfl rfl ?_) | (refine Xg.ev (EvF.loadV rfl rfl (LoadV.whole (te rfl) rfl (List.Mem.tail _ (List.Mem.tail _ (List.Mem.head _))) rfl)) rfl rfl ?_) | (refine Xg.ev (EvF.loadV rfl rfl (LoadV.whole (te rfl) rfl (List.Mem.tail _ (List.Mem.tail _ (List.Mem.tail _ (List.Mem.head _)))) rfl)) rfl rfl ?_) | (refine Xg.ev (EvF.extract rfl rfl rfl) rfl rfl ?_) | (refine Xg.st (StF.alloc rfl Tryz.zeroValue32 rfl) rfl rfl ?_; rintro _ _ ⟨bx, rfl, rfl⟩) | (refine Xg.st0 (StF.storeAll (i := 0) rfl rfl rfl (te rfl) rfl rfl rfl rfl) rfl ?_; rintro _ _ ⟨rfl, rfl⟩; dsimp only [List.set]))))) | (refine XO.done rfl ?_; refine hK _ _ ?_; clear hK K) | refine X.seq rfl ?_ | refine X.region rfl (fun K hK => ?_) | refine X.ret rfl ?_ | (refine X.ite rfl rfl (fun hc => ?_); (first | (with_reducible refine Xb.t hc ?_)) <;> clear hc))
        all_goals try (exfalso; contradiction)
        exact ret_one (by first | exact .inr rfl | exact .inl rfl) Tryz.results10 rfl (H' := _) (List.Sublist.refl _) rfl
  · have hR : ∀ Z : List Row, _ := fun Z => readyF T p hr (Z ++ H) (hg.sub (fun _ h => List.mem_append_right _ h)) (hs.sub (fun _ h => List.mem_append_right _ h))
    refine Fc.mk (callable Tryz.call10) Tryz.func10 rfl Tryz.ntmps10 rfl ?_; dsimp only [fr]
    repeat' (first | (refine XO.op rfl ?_; (first | ((first | refine Xo.ng rfl ?_); (first | (refine Xg.call (EnF.st rfl (by (repeat (first | exact Args.nil | refine Args.cons rfl ?_)); done)) rfl rfl (alive_spec _) ?_; rintro _ H9 ⟨rfl, hH9⟩; subst H9) | (refine Xg.call (EnF.st rfl (Args.cons rfl Args.nil)) rfl rfl (hR [_, _]) ?_; rintro _ H9 ⟨rfl, hH9⟩; subst H9) | (refine Xg.ev (notF rfl rfl) rfl rfl ?_) | (refine Xg.ev (EvF.move rfl rfl) rfl rfl ?_) | (refine Xg.ev (EvF.assign rfl rfl) rfl rfl ?_) | (refine Xg.ev (EvF.pickT rfl rfl rfl) rfl rfl ?_) | (refine Xg.ev (EvF.loadV rfl rfl (LoadV.whole (te rfl) rfl (List.Mem.tail _ (List.Mem.head _)) rfl)) rfl rfl ?_) | (refine Xg.st (StF.boxAgg rfl rfl) rfl rfl ?_; rintro _ _ ⟨bx, rfl, rfl⟩))) | (refine Xo.g rfl rfl ?_; (first | (with_reducible refine Xw.tf rfl rfl ?_))))) | (refine XO.done rfl ?_; refine hK _ _ ?_; clear hK K) | refine X.seq rfl ?_ | refine X.region rfl (fun K hK => ?_) | refine X.ret rfl ?_ | (refine X.ite rfl rfl (fun hc => ?_); (first | (with_reducible refine Xb.t hc ?_)) <;> clear hc))
    all_goals try (exfalso; contradiction)
    exact ret_one (by first | exact .inr rfl | exact .inl rfl) Tryz.results10 rfl (H' := _) (List.Sublist.refl _) rfl
end Go.Proofs.YtjejppodhpdckaaGreat
end
section
set_option linter.unusedVariables false
set_option linter.unusedSimpArgs false
namespace Go.Proofs.YtjejppodhpdckaaGreat
open Go Go.Fw
set_option maxRecDepth 10000
theorem withB_ok {T : Tm} {n : Int} (hok : tmOk T) (hn : 1 ≤ n ∧ n ≤ 20) : tmOk (withB T n) :=
  ⟨hok.cls, ⟨hok.num.1, hok.num.2.1, hn, hok.num.2.2.2⟩, hok.gr, hok.st, hok.ord, hok.zero, hok.least⟩
theorem prg2No {f : FuncId} {args : List Value} {H : List Row} {F : Tm × Tm × Int} {U W : Tm} {e : Int} (h : Fc Tryz.prog f args H (ProgT2 F H)) (hF : F = (U, W, e)) :
    Fc Tryz.prog f args H (fun v H' => ∃ p q, v = .tuple #[.agg (cTm U p).toArray, .agg (cTm W q).toArray, .int .i64 e] ∧ H' = H) := by
  subst hF
  refine Fc.out h ?_
  rintro v H' ⟨p, q, Z1, Z2, rfl, _, _, rfl⟩
  exact ⟨Z1 ++ (Z2 ++ H), H, List.Perm.refl _, (List.sublist_append_right _ _).trans (List.sublist_append_right _ _), p, q, rfl, rfl⟩
theorem prg2Two {f : FuncId} {args : List Value} {H : List Row} {F : Tm × Tm × Int} {U W : Tm} (h : Fc Tryz.prog f args H (ProgT2 F H)) (hF : F = (U, W, 0)) (hU : tmOk U) (hW : tmOk W) :
    Fc Tryz.prog f args H (fun v H' => ∃ t1 k1 t2 k2 t3 k3 t4 k4, v = .tuple #[.agg (cTm U (plT t1 k1 t2 k2)).toArray, .agg (cTm W (plT t3 k3 t4 k4)).toArray, .int .i64 0] ∧ H' = rI U.G t1 k1 :: rI U.S t2 k2 :: rI W.G t3 k3 :: rI W.S t4 k4 :: H) := by
  subst hF
  refine Fc.out h ?_
  rintro v H' ⟨p1, p2, Z1, Z2, rfl, h1, h2, rfl⟩
  obtain ⟨t1, k1, t2, k2, rfl, hZ1⟩ := own_ne h1 hU
  obtain ⟨t3, k3, t4, k4, rfl, hZ2⟩ := own_ne h2 hW
  exact ⟨[_, _] ++ ([_, _] ++ H), _, (List.Perm.append hZ1 (hZ2.append_right H)).symm, List.Sublist.refl _, t1, k1, t2, k2, t3, k3, t4, k4, rfl, rfl⟩
theorem addK {n : Nat} {H : List Row} {F : FS} {o : Oper} {T T' : TypeId} {x y : Operand} {a b k : Int} (hk : a + b = k) (h : o.op = .binOp .add T x y T') (hx : evF F x = some (.int .i64 a)) (hy : evF F y = some (.int .i64 b)) (h1 : -9223372036854775808 ≤ k := by omega) (h2 : k ≤ 9223372036854775807 := by omega) : EvF Tryz.prog n H F o (.int .i64 k) := by
  subst hk; exact EvF.add64 h hx hy h1 h2
set_option maxHeartbeats 16000000 in
theorem joinedB (T : Tm) (p : Pt) (cut : Int) (hc : u8 cut) (y : Cl) (iy : in9 y) (b5 b13 : Nat) (H : List Row) (hr : rdy T) (hT : TmOk H T p) :
    X Tryz.prog 194 (csnd (csnd (csnd (csnd (csnd (csnd (cof Tryz.f11))))))) [(1, .int .u8 cut), (5, .pointer (some ⟨b5, 0, none⟩)), (11, .bool true), (13, .pointer (some ⟨b13, 0, none⟩))] (⟨b13, 0, cCl y, some 27, 2⟩ :: ⟨b5, 0, cTm T p, some 32, 11⟩ :: H) (retX Tryz.prog Tryz.f11 (fun v _ => v = .bool true)) := by
  have hok := hr.2
  have hnum := hok.num
  have hlT : T.G.length ≤ 1000000 ∧ T.S.length ≤ 1000000 := ⟨hT.l1, hT.l2⟩
  unfold u8 at hc
  by_cases h1 : T.bales = 1
  · have hF : splF T 1 = (Tz, Tz, 2) := by unfold splF; rw [if_pos hok, if_neg (by omega)]
    repeat' (first | (refine XO.op rfl ?_; (first | ((first | refine Xo.ng rfl ?_ | (refine Xo.g rfl rfl ?_; with_reducible refine Xw.tt ?_)); (first | (refine Xg.call (EnF.st rfl (Args.cons rfl (Args.cons rfl Args.nil))) rfl rfl (prg2No (ksplit_spec T p 1 _ (hT.sub (fun _ h => by repeat (first | exact h | apply List.Mem.tail)))) hF) ?_; rintro _ _ ⟨p1, p2, rfl, rfl⟩) | (refine Xg.ev (EvF.cmp (b := true) rfl rfl rfl (congrArg some (decide_eq_true (by omega)))) rfl rfl ?_) | (refine Xg.ev (EvF.move rfl rfl) rfl rfl ?_) | (refine Xg.ev (EvF.assign rfl rfl) rfl rfl ?_) | (refine Xg.ev (EvF.pickT rfl rfl rfl) rfl rfl ?_) | (refine Xg.ev (EvF.fieldAddr rfl rfl (te rfl) rfl (te rfl) (by decide)) rfl rfl ?_) | (refine Xg.ev (EvF.loadV rfl rfl (LoadV.own (te rfl) rfl (List.Mem.tail _ (List.Mem.head _)) rfl)) rfl rfl ?_) | (refine Xg.ev (EvF.loadV rfl rfl (LoadV.whole (te rfl) rfl (List.Mem.tail _ (List.Mem.head _)) rfl)) rfl rfl ?_) | (refine Xg.ev (EvF.extract rfl rfl rfl) rfl rfl ?_) | (refine Xg.st (StF.alloc rfl Tryz.zeroValue32 rfl) rfl rfl ?_; rintro _ _ ⟨bx, rfl, rfl⟩) | (refine Xg.st0 (StF.storeAll (i := 0) rfl rfl rfl (te rfl) rfl rfl rfl rfl) rfl ?_; rintro _ _ ⟨rfl, rfl⟩; dsimp only [List.set]) | (refine Xg.st0 (StF.storeAll (i := 1) rfl rfl rfl (te rfl) rfl rfl rfl rfl) rfl ?_; rintro _ _ ⟨rfl, rfl⟩; dsimp only [List.set]))))) | (refine XO.done rfl ?_; refine hK _ _ ?_; clear hK K) | refine X.seq rfl ?_ | refine X.region rfl (fun K hK => ?_) | refine X.ret rfl ?_ | (refine X.ite rfl rfl (fun hc => ?_); (first | (with_reducible refine Xb.t hc ?_)) <;> clear hc))
    all_goals try (exfalso; contradiction)
    exact ret_one (by first | exact .inr rfl | exact .inl rfl) Tryz.results11 rfl (H' := _) (List.Sublist.refl _) rfl
  · have e1 := Int.emod_nonneg cut (show T.bales - 1 ≠ 0 by omega)
    have e2 := Int.emod_lt_of_pos cut (show 0 < T.bales - 1 by omega)
    obtain ⟨k, hk⟩ : ∃ k, 1 + cut % (T.bales - 1) = k := ⟨_, rfl⟩
    have hk1 : 1 ≤ k ∧ k ≤ T.bales - 1 := by omega
    have ok1 : tmOk (withB T k) := withB_ok hok (by omega)
    have ok2 : tmOk (withB T (T.bales - k)) := withB_ok hok (by omega)
    have hr1 : rdy (withB T k) := ⟨hr.1, ok1⟩
    have hr2 : rdy (withB T (T.bales - k)) := ⟨hr.1, ok2⟩
    have hF : splF T k = (withB T k, withB T (T.bales - k), 0) := by unfold splF; rw [if_pos hok, if_pos hk1]
    have hJ : joinF (withB T k) (withB T (T.bales - k)) = (T, 0) := by
      unfold joinF
      rw [if_pos ⟨ok1, ok2⟩, if_pos (by rfl), if_neg (by show ¬ (k + (T.bales - k) > 20); omega)]
      show (withB T (k + (T.bales - k)), (0 : Int)) = (T, 0)
      rw [show k + (T.bales - k) = T.bales by omega]; rfl
    have hI : openE (withB T k) (abI y) = openE T (abI y) ∧ invR (withB T k) y = invR T y := by
      have h1 : openE (withB T k) (abI y) = openE T (abI y) := by rw [oI ok1 iy, oI hok iy]; rfl
      exact ⟨h1, by unfold invR; rw [h1]; rfl⟩
    have k1 := fun q H' h => kinvoice_spec T q y H' h
    have k2 := fun q H' h => kinvoice_spec (withB T k) q y H' h
    rw [hI.1, hI.2] at k2
    obtain ⟨n0, hn0⟩ : ∃ n, invR T y = n := ⟨_, rfl⟩
    obtain ⟨e0, he0⟩ : ∃ n, openE T (abI y) = n := ⟨_, rfl⟩
    rw [hn0, he0] at k1 k2
    clear hI hn0 he0
    by_cases h2 : T.bales + T.bales > 20
    · have hJ2 : joinF T T = (Tz, 9) := by unfold joinF; rw [if_pos ⟨hok, hok⟩, if_pos (by rfl), if_pos h2]
      repeat' (first | (refine XO.op rfl ?_; (first | ((first | refine Xo.ng rfl ?_ | (refine Xo.g rfl rfl ?_; with_reducible refine Xw.tt ?_) | (refine Xo.g rfl rfl ?_; with_reducible refine Xw.ff ?_)); (first | (refine Xg.ev (EvF.rem64 rfl rfl rfl (by omega) (by omega)) rfl rfl ?_) | (refine Xg.ev (addK hk rfl rfl rfl) rfl rfl ?_) | (refine Xg.ev (EvF.conv rfl rfl int8_und int64_und (by omega) (by omega)) rfl rfl ?_) | (refine Xg.call (EnF.st rfl (Args.cons rfl (Args.cons rfl Args.nil))) rfl rfl (prg2Two (ksplit_spec T p k _ (hT.sub (fun _ h => by repeat (first | exact h | apply List.Mem.tail)))) hF ok1 ok2) ?_; rintro _ _ ⟨t1, q1, t2, q2, t3, q3, t4, q4, rfl, rfl⟩) | (refine Xg.call (EnF.st rfl (Args.cons rfl (Args.cons rfl Args.nil))) rfl rfl (progT_two (kjoin_spec (withB T k) (withB T (T.bales - k)) (plT t1 q1 t2 q2) (plT t3 q3 t4 q4) _ ⟨SlE.ofRow (by repeat (first | exact List.Mem.head _ | apply List.Mem.tail)) (fun _ _ => rfl), SlE.ofRow (by repeat (first | exact List.Mem.head _ | apply List.Mem.tail)) (fun _ _ => rfl), hlT.1, hlT.2⟩ ⟨SlE.ofRow (by repeat (first | exact List.Mem.head _ | apply List.Mem.tail)) (fun _ _ => rfl), SlE.ofRow (by repeat (first | exact List.Mem.head _ | apply List.Mem.tail)) (fun _ _ => rfl), hlT.1, hlT.2⟩) hJ hok) ?_; rintro _ _ ⟨r1, n1, r2, n2, rfl, rfl⟩) | (refine Xg.call (EnF.st rfl (Args.cons rfl (Args.cons rfl Args.nil))) rfl rfl (prgNo (kjoin_spec T T p p _ (hT.sub (fun _ h => by repeat (first | exact h | apply List.Mem.tail))) (hT.sub (fun _ h => by repeat (first | exact h | apply List.Mem.tail)))) hJ2) ?_; rintro _ _ ⟨pz2, rfl, rfl⟩) | (refine Xg.call (EnF.st rfl (Args.cons rfl (Args.cons rfl Args.nil))) rfl rfl (k1 p _ (hT.sub (fun _ h => by repeat (first | exact h | apply List.Mem.tail)))) ?_; rintro _ H9 ⟨rfl, hH9⟩; subst H9) | (refine Xg.call (EnF.st rfl (Args.cons rfl (Args.cons rfl Args.nil))) rfl rfl (k2 (plT t1 q1 t2 q2) _ ⟨SlE.ofRow (by repeat (first | exact List.Mem.head _ | apply List.Mem.tail)) (fun _ _ => rfl), SlE.ofRow (by repeat (first | exact List.Mem.head _ | apply List.Mem.tail)) (fun _ _ => rfl), hlT.1, hlT.2⟩) ?_; rintro _ H9 ⟨rfl, hH9⟩; subst H9) | (refine Xg.call (EnF.st rfl (Args.cons rfl Args.nil)) rfl rfl (readyT (withB T k) (plT t1 q1 t2 q2) hr1 _ ⟨SlE.ofRow (by repeat (first | exact List.Mem.head _ | apply List.Mem.tail)) (fun _ _ => rfl), SlE.ofRow (by repeat (first | exact List.Mem.head _ | apply List.Mem.tail)) (fun _ _ => rfl), hlT.1, hlT.2⟩) ?_; rintro _ H9 ⟨rfl, hH9⟩; subst H9) | (refine Xg.call (EnF.st rfl (Args.cons rfl Args.nil)) rfl rfl (readyT (withB T (T.bales - k)) (plT t3 q3 t4 q4) hr2 _ ⟨SlE.ofRow (by repeat (first | exact List.Mem.head _ | apply List.Mem.tail)) (fun _ _ => rfl), SlE.ofRow (by repeat (first | exact List.Mem.head _ | apply List.Mem.tail)) (fun _ _ => rfl), hlT.1, hlT.2⟩) ?_; rintro _ H9 ⟨rfl, hH9⟩; subst H9) | (refine Xg.call (EnF.st rfl (Args.cons rfl (Args.cons rfl Args.nil))) rfl rfl (sameT_self T (plT r1 n1 r2 n2) p _ ⟨SlE.ofRow (by repeat (first | exact List.Mem.head _ | apply List.Mem.tail)) (fun _ _ => rfl), SlE.ofRow (by repeat (first | exact List.Mem.head _ | apply List.Mem.tail)) (fun _ _ => rfl), hlT.1, hlT.2⟩ (hT.sub (fun _ h => by repeat (first | exact h | apply List.Mem.tail)))) ?_; rintro _ H9 ⟨rfl, hH9⟩; subst H9) | (refine Xg.ev (EvF.loadV rfl rfl (LoadV.whole (cs := cTm T p) (te rfl) rfl (by repeat (first | exact List.Mem.head _ | apply List.Mem.tail)) rfl)) rfl rfl ?_) | (refine Xg.ev (EvF.loadV rfl rfl (LoadV.own (cs := cTm T p) (te rfl) rfl (by repeat (first | exact List.Mem.head _ | apply List.Mem.tail)) rfl)) rfl rfl ?_) | (refine Xg.ev (EvF.loadV rfl rfl (LoadV.whole (cs := cTm (withB T k) (plT t1 q1 t2 q2)) (te rfl) rfl (by repeat (first | exact List.Mem.head _ | apply List.Mem.tail)) rfl)) rfl rfl ?_) | (refine Xg.ev (EvF.loadV rfl rfl (LoadV.own (cs := cTm (withB T k) (plT t1 q1 t2 q2)) (te rfl) rfl (by repeat (first | exact List.Mem.head _ | apply List.Mem.tail)) rfl)) rfl rfl ?_) | (refine Xg.ev (EvF.loadV rfl rfl (LoadV.whole (cs := cTm (withB T (T.bales - k)) (plT t3 q3 t4 q4)) (te rfl) rfl (by repeat (first | exact List.Mem.head _ | apply List.Mem.tail)) rfl)) rfl rfl ?_) | (refine Xg.ev (EvF.loadV rfl rfl (LoadV.own (cs := cTm (withB T (T.bales - k)) (plT t3 q3 t4 q4)) (te rfl) rfl (by repeat (first | exact List.Mem.head _ | apply List.Mem.tail)) rfl)) rfl rfl ?_) | (refine Xg.ev (EvF.loadV rfl rfl (LoadV.whole (cs := cTm T (plT r1 n1 r2 n2)) (te rfl) rfl (by repeat (first | exact List.Mem.head _ | apply List.Mem.tail)) rfl)) rfl rfl ?_) | (refine Xg.ev (EvF.loadV rfl rfl (LoadV.whole (cs := cCl y) (te rfl) rfl (by repeat (first | exact List.Mem.head _ | apply List.Mem.tail)) rfl)) rfl rfl ?_) | (refine Xg.ev (EvF.eqSelf rfl rfl rfl) rfl rfl ?_) | (refine Xg.ev (EvF.neSelf rfl rfl rfl) rfl rfl ?_) | (refine Xg.ev (EvF.mul64 rfl rfl rfl (by omega) (by omega)) rfl rfl ?_) | (refine Xg.ev (EvF.cmpB (b := true) rfl rfl rfl Tryz.underlying4 rfl) rfl rfl ?_) | (refine Xg.ev (notT rfl rfl) rfl rfl ?_) | (refine Xg.ev (EvF.cmp (b := true) rfl rfl rfl (congrArg some (decide_eq_true (by omega)))) rfl rfl ?_) | (refine Xg.ev (EvF.cmp (b := false) rfl rfl rfl (congrArg some (decide_eq_false (by omega)))) rfl rfl ?_) | (refine Xg.ev (EvF.move rfl rfl) rfl rfl ?_) | (refine Xg.ev (EvF.assign rfl rfl) rfl rfl ?_) | (refine Xg.ev (EvF.pickT rfl rfl rfl) rfl rfl ?_) | (refine Xg.ev (EvF.pickF rfl rfl rfl) rfl rfl ?_) | (refine Xg.ev (EvF.sub64 rfl rfl rfl (by omega) (by omega)) rfl rfl ?_) | (refine Xg.ev (EvF.fieldAddr rfl rfl (te rfl) rfl (te rfl) (by decide)) rfl rfl ?_) | (refine Xg.ev (EvF.extract rfl rfl rfl) rfl rfl ?_) | (refine Xg.st (StF.alloc rfl Tryz.zeroValue32 rfl) rfl rfl ?_; rintro _ _ ⟨bx, rfl, rfl⟩) | (refine Xg.st0 (StF.storeAll (i := 0) rfl rfl rfl (te rfl) rfl rfl rfl rfl) rfl ?_; rintro _ _ ⟨rfl, rfl⟩; dsimp only [List.set]) | (refine Xg.st0 (StF.storeAll (i := 1) rfl rfl rfl (te rfl) rfl rfl rfl rfl) rfl ?_; rintro _ _ ⟨rfl, rfl⟩; dsimp only [List.set]))))) | (refine XO.done rfl ?_; refine hK _ _ ?_; clear hK K) | refine X.seq rfl ?_ | refine X.region rfl (fun K hK => ?_) | refine X.skip rfl ?_ | refine X.ret rfl ?_ | (refine X.ite rfl rfl (fun hc => ?_); (first | (with_reducible refine Xb.f hc ?_)) <;> clear hc))
      all_goals try (exfalso; contradiction)
      exact ret_one (by first | exact .inr rfl | exact .inl rfl) Tryz.results11 rfl (H' := _) (List.Sublist.refl _) rfl
    · have hJ2 : joinF T T = (withB T (T.bales + T.bales), 0) := by unfold joinF; rw [if_pos ⟨hok, hok⟩, if_pos (by rfl), if_neg h2]
      repeat' (first | (refine XO.op rfl ?_; (first | ((first | refine Xo.ng rfl ?_ | (refine Xo.g rfl rfl ?_; with_reducible refine Xw.tt ?_) | (refine Xo.g rfl rfl ?_; with_reducible refine Xw.ff ?_)); (first | (refine Xg.ev (EvF.rem64 rfl rfl rfl (by omega) (by omega)) rfl rfl ?_) | (refine Xg.ev (addK hk rfl rfl rfl) rfl rfl ?_) | (refine Xg.ev (EvF.conv rfl rfl int8_und int64_und (by omega) (by omega)) rfl rfl ?_) | (refine Xg.call (EnF.st rfl (Args.cons rfl (Args.cons rfl Args.nil))) rfl rfl (prg2Two (ksplit_spec T p k _ (hT.sub (fun _ h => by repeat (first | exact h | apply List.Mem.tail)))) hF ok1 ok2) ?_; rintro _ _ ⟨t1, q1, t2, q2, t3, q3, t4, q4, rfl, rfl⟩) | (refine Xg.call (EnF.st rfl (Args.cons rfl (Args.cons rfl Args.nil))) rfl rfl (progT_two (kjoin_spec (withB T k) (withB T (T.bales - k)) (plT t1 q1 t2 q2) (plT t3 q3 t4 q4) _ ⟨SlE.ofRow (by repeat (first | exact List.Mem.head _ | apply List.Mem.tail)) (fun _ _ => rfl), SlE.ofRow (by repeat (first | exact List.Mem.head _ | apply List.Mem.tail)) (fun _ _ => rfl), hlT.1, hlT.2⟩ ⟨SlE.ofRow (by repeat (first | exact List.Mem.head _ | apply List.Mem.tail)) (fun _ _ => rfl), SlE.ofRow (by repeat (first | exact List.Mem.head _ | apply List.Mem.tail)) (fun _ _ => rfl), hlT.1, hlT.2⟩) hJ hok) ?_; rintro _ _ ⟨r1, n1, r2, n2, rfl, rfl⟩) | (refine Xg.call (EnF.st rfl (Args.cons rfl (Args.cons rfl Args.nil))) rfl rfl (prgNo (kjoin_spec T T p p _ (hT.sub (fun _ h => by repeat (first | exact h | apply List.Mem.tail))) (hT.sub (fun _ h => by repeat (first | exact h | apply List.Mem.tail)))) hJ2) ?_; rintro _ _ ⟨pz2, rfl, rfl⟩) | (refine Xg.call (EnF.st rfl (Args.cons rfl (Args.cons rfl Args.nil))) rfl rfl (k1 p _ (hT.sub (fun _ h => by repeat (first | exact h | apply List.Mem.tail)))) ?_; rintro _ H9 ⟨rfl, hH9⟩; subst H9) | (refine Xg.call (EnF.st rfl (Args.cons rfl (Args.cons rfl Args.nil))) rfl rfl (k2 (plT t1 q1 t2 q2) _ ⟨SlE.ofRow (by repeat (first | exact List.Mem.head _ | apply List.Mem.tail)) (fun _ _ => rfl), SlE.ofRow (by repeat (first | exact List.Mem.head _ | apply List.Mem.tail)) (fun _ _ => rfl), hlT.1, hlT.2⟩) ?_; rintro _ H9 ⟨rfl, hH9⟩; subst H9) | (refine Xg.call (EnF.st rfl (Args.cons rfl Args.nil)) rfl rfl (readyT (withB T k) (plT t1 q1 t2 q2) hr1 _ ⟨SlE.ofRow (by repeat (first | exact List.Mem.head _ | apply List.Mem.tail)) (fun _ _ => rfl), SlE.ofRow (by repeat (first | exact List.Mem.head _ | apply List.Mem.tail)) (fun _ _ => rfl), hlT.1, hlT.2⟩) ?_; rintro _ H9 ⟨rfl, hH9⟩; subst H9) | (refine Xg.call (EnF.st rfl (Args.cons rfl Args.nil)) rfl rfl (readyT (withB T (T.bales - k)) (plT t3 q3 t4 q4) hr2 _ ⟨SlE.ofRow (by repeat (first | exact List.Mem.head _ | apply List.Mem.tail)) (fun _ _ => rfl), SlE.ofRow (by repeat (first | exact List.Mem.head _ | apply List.Mem.tail)) (fun _ _ => rfl), hlT.1, hlT.2⟩) ?_; rintro _ H9 ⟨rfl, hH9⟩; subst H9) | (refine Xg.call (EnF.st rfl (Args.cons rfl (Args.cons rfl Args.nil))) rfl rfl (sameT_self T (plT r1 n1 r2 n2) p _ ⟨SlE.ofRow (by repeat (first | exact List.Mem.head _ | apply List.Mem.tail)) (fun _ _ => rfl), SlE.ofRow (by repeat (first | exact List.Mem.head _ | apply List.Mem.tail)) (fun _ _ => rfl), hlT.1, hlT.2⟩ (hT.sub (fun _ h => by repeat (first | exact h | apply List.Mem.tail)))) ?_; rintro _ H9 ⟨rfl, hH9⟩; subst H9) | (refine Xg.ev (EvF.loadV rfl rfl (LoadV.whole (cs := cTm T p) (te rfl) rfl (by repeat (first | exact List.Mem.head _ | apply List.Mem.tail)) rfl)) rfl rfl ?_) | (refine Xg.ev (EvF.loadV rfl rfl (LoadV.own (cs := cTm T p) (te rfl) rfl (by repeat (first | exact List.Mem.head _ | apply List.Mem.tail)) rfl)) rfl rfl ?_) | (refine Xg.ev (EvF.loadV rfl rfl (LoadV.whole (cs := cTm (withB T k) (plT t1 q1 t2 q2)) (te rfl) rfl (by repeat (first | exact List.Mem.head _ | apply List.Mem.tail)) rfl)) rfl rfl ?_) | (refine Xg.ev (EvF.loadV rfl rfl (LoadV.own (cs := cTm (withB T k) (plT t1 q1 t2 q2)) (te rfl) rfl (by repeat (first | exact List.Mem.head _ | apply List.Mem.tail)) rfl)) rfl rfl ?_) | (refine Xg.ev (EvF.loadV rfl rfl (LoadV.whole (cs := cTm (withB T (T.bales - k)) (plT t3 q3 t4 q4)) (te rfl) rfl (by repeat (first | exact List.Mem.head _ | apply List.Mem.tail)) rfl)) rfl rfl ?_) | (refine Xg.ev (EvF.loadV rfl rfl (LoadV.own (cs := cTm (withB T (T.bales - k)) (plT t3 q3 t4 q4)) (te rfl) rfl (by repeat (first | exact List.Mem.head _ | apply List.Mem.tail)) rfl)) rfl rfl ?_) | (refine Xg.ev (EvF.loadV rfl rfl (LoadV.whole (cs := cTm T (plT r1 n1 r2 n2)) (te rfl) rfl (by repeat (first | exact List.Mem.head _ | apply List.Mem.tail)) rfl)) rfl rfl ?_) | (refine Xg.ev (EvF.loadV rfl rfl (LoadV.whole (cs := cCl y) (te rfl) rfl (by repeat (first | exact List.Mem.head _ | apply List.Mem.tail)) rfl)) rfl rfl ?_) | (refine Xg.ev (EvF.eqSelf rfl rfl rfl) rfl rfl ?_) | (refine Xg.ev (EvF.neSelf rfl rfl rfl) rfl rfl ?_) | (refine Xg.ev (EvF.mul64 rfl rfl rfl (by omega) (by omega)) rfl rfl ?_) | (refine Xg.ev (EvF.cmpB (b := true) rfl rfl rfl Tryz.underlying4 rfl) rfl rfl ?_) | (refine Xg.ev (notT rfl rfl) rfl rfl ?_) | (refine Xg.ev (EvF.cmp (b := false) rfl rfl rfl (congrArg some (decide_eq_false (by omega)))) rfl rfl ?_) | (refine Xg.ev (EvF.move rfl rfl) rfl rfl ?_) | (refine Xg.ev (EvF.assign rfl rfl) rfl rfl ?_) | (refine Xg.ev (EvF.pickT rfl rfl rfl) rfl rfl ?_) | (refine Xg.ev (EvF.pickF rfl rfl rfl) rfl rfl ?_) | (refine Xg.ev (EvF.sub64 rfl rfl rfl (by omega) (by omega)) rfl rfl ?_) | (refine Xg.ev (EvF.fieldAddr rfl rfl (te rfl) rfl (te rfl) (by decide)) rfl rfl ?_) | (refine Xg.ev (EvF.extract rfl rfl rfl) rfl rfl ?_) | (refine Xg.st (StF.alloc rfl Tryz.zeroValue32 rfl) rfl rfl ?_; rintro _ _ ⟨bx, rfl, rfl⟩) | (refine Xg.st0 (StF.storeAll (i := 0) rfl rfl rfl (te rfl) rfl rfl rfl rfl) rfl ?_; rintro _ _ ⟨rfl, rfl⟩; dsimp only [List.set]) | (refine Xg.st0 (StF.storeAll (i := 1) rfl rfl rfl (te rfl) rfl rfl rfl rfl) rfl ?_; rintro _ _ ⟨rfl, rfl⟩; dsimp only [List.set]))))) | (refine XO.done rfl ?_; refine hK _ _ ?_; clear hK K) | refine X.seq rfl ?_ | refine X.region rfl (fun K hK => ?_) | refine X.skip rfl ?_ | refine X.ret rfl ?_ | (refine X.ite rfl rfl (fun hc => ?_); (first | (with_reducible refine Xb.f hc ?_)) <;> clear hc))
      all_goals try (exfalso; contradiction)
      exact ret_one (by first | exact .inr rfl | exact .inl rfl) Tryz.results11 rfl (H' := _) (List.Sublist.refl _) rfl
end Go.Proofs.YtjejppodhpdckaaGreat
end
section
set_option linter.unusedVariables false
set_option linter.unusedSimpArgs false
namespace Go.Proofs.YtjejppodhpdckaaGreat
open Go Go.Fw
set_option maxRecDepth 10000
theorem step_back {T : Tm} {g n : Int} (hok : tmOk T) (hg : 1 ≤ g ∧ g ≤ 9) : stepT (stepT T g n) g (at1 T.G g) = T := by
  have h := at1_get hg hok.gr.1
  have e : (T.G.set (g - 1).toNat n).set (g - 1).toNat (at1 T.G g) = T.G := by
    rw [List.set_set]
    apply List.ext_getElem?
    intro i
    rw [List.getElem?_set]
    split
    · rename_i q; subst q
      rw [if_pos (by have := hok.gr.1; omega), h]
    · rfl
  show ({ T with G := (T.G.set (g - 1).toNat n).set (g - 1).toNat (at1 T.G g) } : Tm) = T
  rw [e]
def tsJs : List TOp := [⟨some 65, [], [], []⟩, ⟨some 66, [], [], []⟩, ⟨some 67, [], [], []⟩, ⟨some 68, [2], [2], []⟩, ⟨some 69, [], [], []⟩, ⟨some 70, [4], [4], []⟩, ⟨some 71, [2, 3, 4, 5], [3, 5], []⟩, ⟨some 72, [2, 3, 4, 5, 6], [6], []⟩, ⟨some 73, [0, 1, 2, 3, 4, 5, 6, 7], [0, 1, 7], []⟩, ⟨some 64, [0, 1, 2, 3, 4, 5, 6, 7, 8], [8], []⟩, ⟨some 74, [0, 1, 2, 3, 4, 5, 6, 7, 8, 9], [9], []⟩, ⟨some 75, [0, 1, 2, 3, 4, 5, 6, 7, 8, 9], [9], []⟩, ⟨some 16, [], [], []⟩, ⟨none, [0, 1, 2, 3, 4, 5, 6, 7, 8, 9, 10, 12], [12, 10], [12]⟩, ⟨some 17, [0, 1, 2, 3, 4, 5, 6, 7, 8, 9, 10, 11, 12, 13], [11], []⟩]
noncomputable def valJs (b5 b13 b14 : Nat) (T : Tm) (p q : Pt) (a1 : Addr) (g n cut : Int) (k : Nat) (env : Env) : Value :=
  match k with
  | 0 => .agg (cTm (stepT T g n) q).toArray
  | 1 => .int .i64 g
  | 2 => .pointer (some ⟨b5, 5, none⟩)
  | 3 => .slice (some a1) T.G.length p.c1
  | 4 => .int .i64 g
  | 5 => .int .i64 (g - 1)
  | 6 => .pointer (some ⟨a1.block, a1.off + (g - 1).toNat * 1, none⟩)
  | 7 => .int .i64 (at1 T.G g)
  | 8 => .tuple #[.agg (cTm T (pl4 (env 8))).toArray, .int .i64 0]
  | 9 => .tuple #[.agg (cTm T (pl4 (env 8))).toArray, .int .i64 0]
  | 10 => .agg (cTm T (pl4 (env 8))).toArray
  | 11 => .int .i64 0
  | 12 => .pointer (some ⟨(env 12).1, 0, none⟩)
  | 13 => undef
  | 14 => .int .i64 0
  | _ => undef
noncomputable def rowsJs (b5 b13 b14 : Nat) (T : Tm) (p q : Pt) (a1 : Addr) (g n cut : Int) (k : Nat) (env : Env) : List Row :=
  match k with
  | 8 => [rI T.G (un2 (env 8).1).1 (un2 (env 8).1).2, rI T.S (un2 (env 8).2).1 (un2 (env 8).2).2]
  | 12 => [⟨(env 12).1, 0, cTm Tz pz, some 32, 11⟩]
  | 13 => [⟨(env 12).1, 0, cTm T (pl4 (env 8)), some 32, 11⟩]
  | _ => []
theorem locJs (b5 b13 b14 : Nat) (T : Tm) (p q : Pt) (a1 : Addr) (g n cut : Int) : ∀ k env i q9, i ≠ k → (tAt tsJs k).sup.contains i = false → valJs b5 b13 b14 T p q a1 g n cut k (upd env i q9) = valJs b5 b13 b14 T p q a1 g n cut k env ∧ rowsJs b5 b13 b14 T p q a1 g n cut k (upd env i q9) = rowsJs b5 b13 b14 T p q a1 g n cut k env := by
  intro k env i q hk hs
  have hu : ∀ j, j ≠ i → upd env i q j = env j := fun j hj => by unfold upd; rw [if_neg hj]
  match k, hk, hs with
  | 0, _, _ => exact ⟨rfl, rfl⟩
  | 1, _, _ => exact ⟨rfl, rfl⟩
  | 2, _, _ => exact ⟨rfl, rfl⟩
  | 3, _, _ => exact ⟨rfl, rfl⟩
  | 4, _, _ => exact ⟨rfl, rfl⟩
  | 5, _, _ => exact ⟨rfl, rfl⟩
  | 6, _, _ => exact ⟨rfl, rfl⟩
  | 7, _, _ => exact ⟨rfl, rfl⟩
  | 8, hk, hs => exact ⟨by simp only [valJs, hu 8 (fun e => hk e.symm)], by simp only [rowsJs, hu 8 (fun e => hk e.symm)]⟩
  | 9, hk, hs => exact ⟨by simp only [valJs, hu 8 (by rintro rfl; cases hs)], by simp only [rowsJs, hu 8 (by rintro rfl; cases hs)]⟩
  | 10, hk, hs => exact ⟨by simp only [valJs, hu 8 (by rintro rfl; cases hs)], by simp only [rowsJs, hu 8 (by rintro rfl; cases hs)]⟩
  | 11, _, _ => exact ⟨rfl, rfl⟩
  | 12, hk, hs => exact ⟨by simp only [valJs, hu 12 (fun e => hk e.symm)], by simp only [rowsJs, hu 12 (fun e => hk e.symm)]⟩
  | 13, hk, hs => exact ⟨by simp only [valJs, hu 8 (by rintro rfl; cases hs), hu 12 (by rintro rfl; cases hs)], by simp only [rowsJs, hu 8 (by rintro rfl; cases hs), hu 12 (by rintro rfl; cases hs)]⟩
  | 14, _, _ => exact ⟨rfl, rfl⟩
  | _ + 15, _, _ => exact ⟨rfl, rfl⟩
set_option maxHeartbeats 16000000 in
theorem termsJoined_spec (T : Tm) (p : Pt) (cut g s n : Int) (hc : u8 cut) (hgr : u8 g) (hst : u8 s) (H : List Row) (hg : SlE H p.a1 cI 1 T.G) (hs : SlE H p.a2 cI 1 T.S) :
    Fc Tryz.prog 11 [.agg (cTm T p).toArray, .int .u8 cut, .int .u8 g, .int .u8 s, .int .i64 n] H (fun v _ => v = .bool true) := by
  by_cases hr : rdy T
  · have hT : TmOk H T p := ⟨hg, hs, by have := hr.1; omega, by have := hr.1; omega⟩
    have hok := hr.2
    obtain ⟨gb, go, e0, hga, he0⟩ := hg.elem (i := 0) (by have := hok.gr.1; omega)
    obtain ⟨pa1, pc1, pa2, pc2⟩ := p
    dsimp only at hga
    subst hga
    have hlT : T.G.length ≤ 1000000 ∧ T.S.length ≤ 1000000 := ⟨hT.l1, hT.l2⟩
    have key : ∀ (F : FS) (H' : List Row) (y : Cl) (b5 b13 : Nat), in9 y → Fw.Sub [(1, .int .u8 cut), (5, .pointer (some ⟨b5, 0, none⟩)), (11, .bool true), (13, .pointer (some ⟨b13, 0, none⟩))] F → (⟨b13, 0, cCl y, some 27, 2⟩ :: ⟨b5, 0, cTm T ⟨some ⟨gb, go, none⟩, pc1, pa2, pc2⟩, some 32, 11⟩ :: H : List Row).Sublist H' → X Tryz.prog 194 (csnd (csnd (csnd (csnd (csnd (csnd (cof Tryz.f11))))))) F H' (retX Tryz.prog Tryz.f11 (fun v _ => v = .bool true)) := fun F H' y b5 b13 iy h1 h2 => X.weak h1 h2 (joinedB T ⟨some ⟨gb, go, none⟩, pc1, pa2, pc2⟩ cut hc y iy b5 b13 H hr hT)
    refine Fc.mk (callable Tryz.call11) Tryz.func11 rfl Tryz.ntmps11 rfl ?_; dsimp only [fr]
    unfold u8 at hgr hst
    have ig := nines g
    have iy : in9 ⟨1 + g % 9, 1 + s % 9⟩ := ⟨ig, nines s⟩
    repeat' (first | (refine XO.op rfl ?_; (first | ((first | refine Xo.ng rfl ?_ | (refine Xo.g rfl rfl ?_; with_reducible refine Xw.ff ?_)); (first | (refine Xg.call (EnF.st rfl (by (repeat (first | exact Args.nil | refine Args.cons rfl ?_)); done)) rfl rfl (alive_spec _) ?_; rintro _ H9 ⟨rfl, hH9⟩; subst H9) | (refine Xg.call (EnF.st rfl (Args.cons rfl Args.nil)) rfl rfl (readyT T ⟨some ⟨gb, go, none⟩, pc1, pa2, pc2⟩ hr _ (hT.sub (fun _ h => by repeat (first | exact h | apply List.Mem.tail)))) ?_; rintro _ H9 ⟨rfl, hH9⟩; subst H9) | (refine Xg.ev (notT rfl rfl) rfl rfl ?_) | (refine Xg.ev (EvF.conv rfl rfl int8_und int64_und (by omega) (by omega)) rfl rfl ?_) | (refine Xg.ev (EvF.rem64 rfl rfl rfl (by omega) (by omega)) rfl rfl ?_) | (refine Xg.call (EnF.st rfl (Args.cons rfl (Args.cons rfl Args.nil))) rfl rfl (lclass_spec _ _ _) ?_; rintro _ H9 ⟨rfl, hH9⟩; subst H9) | (refine Xg.ev (EvF.move rfl rfl) rfl rfl ?_) | (refine Xg.ev (EvF.assign rfl rfl) rfl rfl ?_) | (refine Xg.ev (EvF.pickF rfl rfl rfl) rfl rfl ?_) | (refine Xg.ev (EvF.add64 rfl rfl rfl (by omega) (by omega)) rfl rfl ?_) | (refine Xg.ev (EvF.loadV rfl rfl (LoadV.whole (te rfl) rfl (List.Mem.head _) rfl)) rfl rfl ?_) | (refine Xg.ev (EvF.loadV rfl rfl (LoadV.whole (te rfl) rfl (List.Mem.tail _ (List.Mem.head _)) rfl)) rfl rfl ?_) | (refine Xg.st (StF.boxAgg rfl rfl) rfl rfl ?_; rintro _ _ ⟨bx, rfl, rfl⟩) | (refine Xg.st (StF.alloc rfl Tryz.zeroValue30 rfl) rfl rfl ?_; rintro _ _ ⟨bx, rfl, rfl⟩) | (refine Xg.st0 (StF.storeAll (i := 0) rfl rfl rfl (te rfl) rfl rfl rfl rfl) rfl ?_; rintro _ _ ⟨rfl, rfl⟩; dsimp only [List.set]))))) | (refine XO.done rfl ?_; refine hK _ _ ?_; clear hK K) | refine X.seq rfl ?_ | refine X.region rfl (fun K hK => ?_) | refine X.skip rfl ?_ | (refine X.ite rfl rfl (fun hc => ?_); (first | (with_reducible refine Xb.f hc ?_)) <;> clear hc))
    all_goals try (exfalso; contradiction)
    obtain ⟨x, hx⟩ : ∃ x, 1 + g % 9 = x := ⟨_, rfl⟩
    obtain ⟨z, hz⟩ : ∃ x, 1 + s % 9 = x := ⟨_, rfl⟩
    rw [hx] at ig
    rw [hx, hz] at iy
    simp only [hx, hz]
    rename_i b5
    obtain ⟨b13, hb13⟩ : ∃ b, b = bx := ⟨_, rfl⟩
    rw [← hb13]
    clear hb13
    by_cases hU : tmOk (stepT T x n)
    · have hF : stepF T x n = (stepT T x n, 0) := by unfold stepF vld; rw [if_pos hok, if_pos ig, if_pos hU]
      have hB : stepF (stepT T x n) x (at1 T.G x) = (T, 0) := by unfold stepF vld; rw [if_pos hU, if_pos ig, step_back hok ig, if_pos hok]
      have hl1 : (stepT T x n).G.length = T.G.length := List.length_set
      have hok9 := hok.gr.1
      have he := at1_get ig hok.gr.1
      repeat' (first | (refine XO.op rfl ?_; (first | ((first | refine Xo.ng rfl ?_); (first | (refine Xg.call (EnF.st rfl (Args.cons rfl (Args.cons rfl (Args.cons rfl Args.nil)))) rfl rfl (progT_two (kstep_spec T ⟨some ⟨gb, go, none⟩, pc1, pa2, pc2⟩ x n _ (hT.sub (fun _ h => by repeat (first | exact h | apply List.Mem.tail)))) hF hU) ?_; rintro _ _ ⟨t1, k1, t2, k2, rfl, rfl⟩) | (refine Xg.ev (EvF.cmp (b := true) rfl rfl rfl (congrArg some (decide_eq_true (by omega)))) rfl rfl ?_) | (refine Xg.ev (EvF.move rfl rfl) rfl rfl ?_) | (refine Xg.ev (EvF.assign rfl rfl) rfl rfl ?_) | (refine Xg.ev (EvF.extract rfl rfl rfl) rfl rfl ?_) | (refine Xg.st (StF.alloc rfl Tryz.zeroValue32 rfl) rfl rfl ?_; rintro _ _ ⟨bx, rfl, rfl⟩) | (refine Xg.st0 (StF.storeAll (i := 0) rfl rfl rfl (te rfl) rfl rfl rfl rfl) rfl ?_; rintro _ _ ⟨rfl, rfl⟩; dsimp only [List.set]))))) | (refine XO.done rfl ?_; refine hK _ _ ?_; clear hK K) | refine X.seq rfl ?_ | refine X.region rfl (fun K hK => ?_) | (refine X.ite rfl rfl (fun hc => ?_); (first | (with_reducible refine Xb.t hc ?_)) <;> clear hc))
      all_goals try (exfalso; contradiction)
      obtain ⟨b14, hb14⟩ : ∃ b, b = bx := ⟨_, rfl⟩
      rw [← hb14]
      clear hb14
      refine X.weak (F' := [(1, .int .u8 cut), (5, .pointer (some ⟨b5, 0, none⟩)), (11, .bool true), (12, .int .i64 x), (13, .pointer (some ⟨b13, 0, none⟩)), (14, .pointer (some ⟨b14, 0, none⟩))]) (H' := ⟨b14, 0, cTm (stepT T x n) (plT t1 k1 t2 k2), some 32, 11⟩ :: rI (stepT T x n).G t1 k1 :: rI (stepT T x n).S t2 k2 :: ⟨b13, 0, cCl ⟨x, z⟩, some 27, 2⟩ :: ⟨b5, 0, cTm T ⟨some ⟨gb, go, none⟩, pc1, pa2, pc2⟩, some 32, 11⟩ :: H) (by (repeat (first | exact Sub.nil _ | refine Sub.cons rfl ?_)); done) (by (repeat (first | exact List.Sublist.refl _ | apply List.Sublist.cons_cons | apply List.Sublist.cons)); done) ?_
      refine X.regionOb tsJs [1, 5, 11, 12, 13, 14] [(1, .int .u8 cut), (5, .pointer (some ⟨b5, 0, none⟩)), (11, .bool true), (12, .int .i64 x), (13, .pointer (some ⟨b13, 0, none⟩)), (14, .pointer (some ⟨b14, 0, none⟩))] (valJs b5 b13 b14 T ⟨some ⟨gb, go, none⟩, pc1, pa2, pc2⟩ (plT t1 k1 t2 k2) (⟨gb, go, none⟩ : Addr) x n cut) (rowsJs b5 b13 b14 T ⟨some ⟨gb, go, none⟩, pc1, pa2, pc2⟩ (plT t1 k1 t2 k2) (⟨gb, go, none⟩ : Addr) x n cut) (fun _ => (0, 0)) (⟨b14, 0, cTm (stepT T x n) (plT t1 k1 t2 k2), some 32, 11⟩ :: rI (stepT T x n).G t1 k1 :: rI (stepT T x n).S t2 k2 :: ⟨b13, 0, cCl ⟨x, z⟩, some 27, 2⟩ :: ⟨b5, 0, cTm T ⟨some ⟨gb, go, none⟩, pc1, pa2, pc2⟩, some 32, 11⟩ :: H) rfl mixed (by (repeat (first | exact Sub.nil _ | refine Sub.cons rfl ?_)); done) rfl (by kernel_rfl) (locJs b5 b13 b14 T ⟨some ⟨gb, go, none⟩, pc1, pa2, pc2⟩ (plT t1 k1 t2 k2) (⟨gb, go, none⟩ : Addr) x n cut) (List.Sublist.refl _) ?_ ?_
      · repeat' (first | exact AllF.done rfl | (refine AllF.step rfl ?_ ?_; · (first | fail | ((first | refine Ob.ng rfl ?_); (first | exact ObK.pure (fun env R hR => by exact ⟨_, EvF.move rfl rfl, rfl⟩) rfl (fun _ => rfl) | exact ObK.pure (fun env R hR => by exact ⟨_, EvF.assign rfl rfl, rfl⟩) rfl (fun _ => rfl) | exact ObK.pure (fun env R hR => by exact ⟨_, EvF.fieldAddr rfl rfl (te rfl) rfl (te rfl) (by decide), rfl⟩) rfl (fun _ => rfl) | exact ObK.pure (fun env R hR => by exact ⟨_, EvF.loadV rfl rfl (LoadV.whole (te rfl) rfl (hR _ (List.Mem.head _)) rfl), rfl⟩) rfl (fun _ => rfl) | (exact ObK.pure (fun env S hS => ⟨_, EvF.sub64 rfl rfl rfl (by omega) (by omega), rfl⟩) rfl (fun _ => rfl)) | ((refine fun env S hS => (StF.ofEv (v := .pointer (some ⟨gb, go + (x - 1).toNat * 1, none⟩)) ?_).op.mono (fun v H' ⟨hv, hH⟩ => ⟨(0, 0), fun _ => hv, by rw [hH]; exact List.Perm.refl _⟩); exact EvF.indexSlice (i := x - 1) (off := go) (b := gb) (T := 28) (e := 3) (len := T.G.length) (ti := ⟨.int .i64, 1, 8⟩) rfl rfl rfl (te rfl) (te rfl) (by omega) (by omega))) | (exact ObK.pure (fun env S hS => ⟨.int .i64 (at1 T.G x), EvF.loadV rfl rfl (LoadV.el0 (n := (x - 1).toNat) hT.gr he (te rfl) rfl (fun _ h => hS _ (List.mem_append_right [_, _, _, _, _] h)) rfl), rfl⟩) rfl (fun _ => rfl)) | (exact ObK.pure (fun env S hS => ⟨_, EvF.extract rfl rfl rfl, rfl⟩) rfl (fun _ => rfl)) | (exact fun env S hS => (StF.alloc rfl Tryz.zeroValue32 rfl).op.mono (fun v H' ⟨b, hv, hH⟩ => ⟨(b, 0), fun _ => hv, by rw [hH]; exact List.Perm.refl _⟩)) | (exact fun env S hS => (StF.storeAll (i := 0) (vs := cTm T (pl4 (env 8))) (cs := cTm Tz pz) rfl rfl rfl (te rfl) rfl rfl rfl rfl).op.mono (fun v H' ⟨hv, hH⟩ => ⟨(0, 0), fun h => absurd rfl h, by rw [hH]; exact List.Perm.refl _⟩)) | (exact ObK.pure (fun env S hS => ⟨.slice (some ⟨gb, go, none⟩) T.G.length pc1, EvF.loadV rfl rfl (LoadV.own (cs := cTm T ⟨some ⟨gb, go, none⟩, pc1, pa2, pc2⟩) (te rfl) rfl (hS _ (by repeat (first | exact List.Mem.head _ | apply List.Mem.tail))) rfl), rfl⟩) rfl (fun _ => rfl)) | (exact fun env S hS => (OpF.call (EnF.st rfl (Args.cons rfl (Args.cons rfl (Args.cons rfl Args.nil)))) (progT_two (kstep_spec (stepT T x n) (plT t1 k1 t2 k2) x (at1 T.G x) _ ⟨SlE.ofRow (hS _ (by repeat (first | exact List.Mem.head _ | apply List.Mem.tail))) (fun _ _ => rfl), SlE.ofRow (hS _ (by repeat (first | exact List.Mem.head _ | apply List.Mem.tail))) (fun _ _ => rfl), (by rw [hl1]; exact hlT.1), hlT.2⟩) hB hok)).mono (fun v H' ⟨s1, m1, s2, m2, hv, hH⟩ => ⟨(pr2 (s1, m1), pr2 (s2, m2)), fun _ => by (show v = .tuple #[.agg (cTm T (pl4 (pr2 (s1, m1), pr2 (s2, m2)))).toArray, .int .i64 0]; rw [pl4_enc]; exact hv), by (show List.Perm H' (ro4 T (pr2 (s1, m1), pr2 (s2, m2)) ++ _); rw [hH, ro4_enc]; exact List.Perm.refl _)⟩)))))))
      intro env t ha2 hv
      refine ⟨_, (ha2.cons (hv 12 16 (Nat.le_of_ble_eq_true rfl) rfl)).cons (hv 14 17 (Nat.le_of_ble_eq_true rfl) rfl), ?_⟩
      clear hv ha2
      obtain ⟨b16, hb16⟩ : ∃ q, q = (env 12).1 := ⟨_, rfl⟩
      obtain ⟨⟨s1, m1⟩, hs1⟩ : ∃ r, r = un2 (env 8).1 := ⟨_, rfl⟩
      obtain ⟨⟨s2, m2⟩, hs2⟩ : ∃ r, r = un2 (env 8).2 := ⟨_, rfl⟩
      refine X.weakR (H' := rI T.G s1 m1 :: rI T.S s2 m2 :: ⟨b16, 0, cTm T (plT s1 m1 s2 m2), some 32, 11⟩ :: ⟨b13, 0, cCl ⟨x, z⟩, some 27, 2⟩ :: ⟨b5, 0, cTm T ⟨some ⟨gb, go, none⟩, pc1, pa2, pc2⟩, some 32, 11⟩ :: H) (by rw [hb16]; show List.Sublist _ (rI T.G (un2 (env 8).1).1 (un2 (env 8).1).2 :: rI T.S (un2 (env 8).2).1 (un2 (env 8).2).2 :: ⟨(env 12).1, 0, cTm T (plT (un2 (env 8).1).1 (un2 (env 8).1).2 (un2 (env 8).2).1 (un2 (env 8).2).2), some 32, 11⟩ :: _); rw [← hs1, ← hs2]; exact (by (repeat (first | exact List.Sublist.refl _ | apply List.Sublist.cons_cons | apply List.Sublist.cons)); done)) ?_
      refine X.weak (F' := [(1, .int .u8 cut), (5, .pointer (some ⟨b5, 0, none⟩)), (11, .bool true), (13, .pointer (some ⟨b13, 0, none⟩)), (16, .pointer (some ⟨b16, 0, none⟩)), (17, .int .i64 0)]) (by rw [hb16]; exact (by (repeat (first | exact Sub.nil _ | refine Sub.cons rfl ?_)); done)) (List.Sublist.refl _) ?_
      clear hb16 hs1 hs2
      repeat' (first | (refine key _ _ ⟨x, z⟩ b5 b13 iy ?_ ?_; exact (by (repeat (first | exact Sub.nil _ | refine Sub.cons rfl ?_)); done); exact (by (repeat (first | exact List.Sublist.refl _ | apply List.Sublist.cons_cons | apply List.Sublist.cons)); done)) | (refine XO.op rfl ?_; (first | ((first | refine Xo.ng rfl ?_ | (refine Xo.g rfl rfl ?_; with_reducible refine Xw.ff ?_)); (first | (refine Xg.ev (notT rfl rfl) rfl rfl ?_) | (refine Xg.ev (EvF.cmp (b := false) rfl rfl rfl (congrArg some (nd_f (by omega)))) rfl rfl ?_) | (refine Xg.call (EnF.st rfl (Args.cons rfl (Args.cons rfl Args.nil))) rfl rfl (sameT_self T (plT s1 m1 s2 m2) ⟨some ⟨gb, go, none⟩, pc1, pa2, pc2⟩ _ ⟨SlE.ofRow (by repeat (first | exact List.Mem.head _ | apply List.Mem.tail)) (fun _ _ => rfl), SlE.ofRow (by repeat (first | exact List.Mem.head _ | apply List.Mem.tail)) (fun _ _ => rfl), hlT.1, hlT.2⟩ (hT.sub (fun _ h => by repeat (first | exact h | apply List.Mem.tail)))) ?_; rintro _ H9 ⟨rfl, hH9⟩; subst H9) | (refine Xg.ev (EvF.move rfl rfl) rfl rfl ?_) | (refine Xg.ev (EvF.pickF rfl rfl rfl) rfl rfl ?_) | (refine Xg.ev (EvF.loadV rfl rfl (LoadV.whole (te rfl) rfl (List.Mem.tail _ (List.Mem.tail _ (List.Mem.head _))) rfl)) rfl rfl ?_) | (refine Xg.ev (EvF.loadV rfl rfl (LoadV.whole (te rfl) rfl (List.Mem.tail _ (List.Mem.tail _ (List.Mem.tail _ (List.Mem.tail _ (List.Mem.head _))))) rfl)) rfl rfl ?_))))) | (refine XO.done rfl ?_; refine hK _ _ ?_; clear hK K) | refine X.seq rfl ?_ | refine X.region rfl (fun K hK => ?_) | refine X.skip rfl ?_ | (refine X.ite rfl rfl (fun hc => ?_); (first | (with_reducible refine Xb.f hc ?_)) <;> clear hc))
      all_goals try (exfalso; contradiction)

    · have hF : stepF T x n = (Tz, 40) := by unfold stepF vld; rw [if_pos hok, if_pos ig, if_neg hU]
      repeat' (first | (refine key _ _ ⟨x, z⟩ b5 b13 iy ?_ ?_; exact (by (repeat (first | exact Sub.nil _ | refine Sub.cons rfl ?_)); done); exact (by (repeat (first | exact List.Sublist.refl _ | apply List.Sublist.cons_cons | apply List.Sublist.cons)); done)) | (refine XO.op rfl ?_; (first | ((first | refine Xo.ng rfl ?_); (first | (refine Xg.call (EnF.st rfl (Args.cons rfl (Args.cons rfl (Args.cons rfl Args.nil)))) rfl rfl (prgNo (kstep_spec T ⟨some ⟨gb, go, none⟩, pc1, pa2, pc2⟩ x n _ (hT.sub (fun _ h => by repeat (first | exact h | apply List.Mem.tail)))) hF) ?_; rintro _ _ ⟨px, rfl, rfl⟩) | (refine Xg.ev (EvF.cmp (b := false) rfl rfl rfl (congrArg some (decide_eq_false (by omega)))) rfl rfl ?_) | (refine Xg.ev (EvF.cmp (b := false) rfl rfl rfl (congrArg some (nd_f (by omega)))) rfl rfl ?_) | (refine Xg.ev (EvF.move rfl rfl) rfl rfl ?_) | (refine Xg.ev (EvF.assign rfl rfl) rfl rfl ?_) | (refine Xg.ev (EvF.extract rfl rfl rfl) rfl rfl ?_) | (refine Xg.st (StF.alloc rfl Tryz.zeroValue32 rfl) rfl rfl ?_; rintro _ _ ⟨bx, rfl, rfl⟩) | (refine Xg.st0 (StF.storeAll (i := 0) rfl rfl rfl (te rfl) rfl rfl rfl rfl) rfl ?_; rintro _ _ ⟨rfl, rfl⟩; dsimp only [List.set]))))) | (refine XO.done rfl ?_; refine hK _ _ ?_; clear hK K) | refine X.seq rfl ?_ | refine X.region rfl (fun K hK => ?_) | refine X.skip rfl ?_ | (refine X.ite rfl rfl (fun hc => ?_); (first | (with_reducible refine Xb.f hc ?_)) <;> clear hc))
      all_goals try (exfalso; contradiction)
  · have hR : ∀ Z : List Row, _ := fun Z => readyF T p hr (Z ++ H) (hg.sub (fun _ h => List.mem_append_right _ h)) (hs.sub (fun _ h => List.mem_append_right _ h))
    refine Fc.mk (callable Tryz.call11) Tryz.func11 rfl Tryz.ntmps11 rfl ?_; dsimp only [fr]
    repeat' (first | (refine XO.op rfl ?_; (first | ((first | refine Xo.ng rfl ?_); (first | (refine Xg.call (EnF.st rfl (by (repeat (first | exact Args.nil | refine Args.cons rfl ?_)); done)) rfl rfl (alive_spec _) ?_; rintro _ H9 ⟨rfl, hH9⟩; subst H9) | (refine Xg.call (EnF.st rfl (Args.cons rfl Args.nil)) rfl rfl (hR [_]) ?_; rintro _ H9 ⟨rfl, hH9⟩; subst H9) | (refine Xg.ev (notF rfl rfl) rfl rfl ?_) | (refine Xg.ev (EvF.move rfl rfl) rfl rfl ?_) | (refine Xg.ev (EvF.assign rfl rfl) rfl rfl ?_) | (refine Xg.ev (EvF.pickT rfl rfl rfl) rfl rfl ?_) | (refine Xg.ev (EvF.loadV rfl rfl (LoadV.whole (te rfl) rfl (List.Mem.head _) rfl)) rfl rfl ?_) | (refine Xg.st (StF.boxAgg rfl rfl) rfl rfl ?_; rintro _ _ ⟨bx, rfl, rfl⟩))) | (refine Xo.g rfl rfl ?_; (first | (with_reducible refine Xw.tf rfl rfl ?_))))) | (refine XO.done rfl ?_; refine hK _ _ ?_; clear hK K) | refine X.seq rfl ?_ | refine X.region rfl (fun K hK => ?_) | refine X.ret rfl ?_ | (refine X.ite rfl rfl (fun hc => ?_); (first | (with_reducible refine Xb.t hc ?_)) <;> clear hc))
    all_goals try (exfalso; contradiction)
    exact ret_one (by first | exact .inr rfl | exact .inl rfl) Tryz.results11 rfl (H' := _) (List.Sublist.refl _) rfl
end Go.Proofs.YtjejppodhpdckaaGreat
end
section
set_option linter.unusedVariables false
namespace Go.Proofs.YtjejppodhpdckaaGreat
open Go Go.Fw Go.ChangeShapes Go.WideShapes Go.ChangeAt Go.RowKit
set_option linter.unusedVariables false
set_option maxRecDepth 100000
theorem termsJoined_run (T : Tm) (pT : Pt) (cut : Int) (g : Int) (s : Int) (n : Int) (w : World) (hcut : u8 cut) (hg : u8 g) (hs : u8 s) (hT : InTm w T pT) :
    Calls Tryz.prog 11 #[.agg (cTm T pT).toArray, .int .u8 cut, .int .u8 g, .int .u8 s, .int .i64 n] w fun e w' => e = .returned (.bool true) ∧ Below w.heap.size w w' :=
  Fc.calls (H := rowsTm T pT) (termsJoined_spec T pT cut g s n hcut hg hs _ (hT.g (fun _ h => h)) (hT.s (fun _ h => h))) (fun r hr => by
    exact hT.ok r hr
  )
theorem termsJoined_lifted (os : Os) (started : os.Started) (H : Type) (enc : TypeId × Value → H) :
    ReturnsInHanded {} Tryz.checked os 11 .any (Rows.termsJoinedSpec.pre6 enc Tryz.prog Tryz.f11 Rows.termsJoinedRow.domain false) (Rows.termsJoinedSpec.post enc Tryz.prog Tryz.f11 false true false false) := by
  refine returnsInHanded_of_change (C := Tryz.checked) ownK started (by kernel_rfl) Tryz.func11
    (ChangeSpec.witness6 (enc := enc) (C := Tryz.checked) false ⟨#[], #[.agg (cTm Tz pz).toArray, .int .u8 0, .int .u8 0, .int .u8 0, .int .i64 0], []⟩ 8 (by kernel_rfl) (by kernel_rfl) (by kernel_rfl) (by kernel_rfl)) ?_
  intro W base args ds gs before hval0 hW hcnd _
  have hval : ∀ (j : Nat) t v, Tryz.f11.params[j]? = some t → args[j]? = some v → Value.okWide Tryz.prog W .any base t v := hval0
  have hW' := hW
  obtain ⟨p, q, hA0, hV, rfl, hfz, hnd⟩ := hW
  have hA : DataW.TrodAll enc Tryz.prog W 0 (fun _ => true) true Tryz.f11.params.toList args.toList ds p := hA0
  rw [Tryz.params11] at hA hval
  obtain ⟨v0, vs0, d0, ds0, p0, q0, hargs, rfl, rfl, h0, r0⟩ := trodAll_cons hA
  obtain ⟨v1, vs1, d1, ds1, p1, q1, rfl, rfl, rfl, h1, r1⟩ := trodAll_cons r0
  obtain ⟨v2, vs2, d2, ds2, p2, q2, rfl, rfl, rfl, h2, r2⟩ := trodAll_cons r1
  obtain ⟨v3, vs3, d3, ds3, p3, q3, rfl, rfl, rfl, h3, r3⟩ := trodAll_cons r2
  obtain ⟨v4, vs4, d4, ds4, p4, q4, rfl, rfl, rfl, h4, r4⟩ := trodAll_cons r3
  obtain ⟨rfl, rfl, rfl⟩ := trodAll_nil r4
  obtain rfl : args = #[v0, v1, v2, v3, v4] := by cases args; simp_all
  obtain ⟨rfl, rfl⟩ := trodVars_none hV
  have lt : ∀ {t v d ps}, DataW.Trod enc Tryz.prog W 0 (fun _ => true) true t v d ps → ∀ x ∈ ps, x.block < W.heap.size := fun h => by obtain ⟨m, hm⟩ := h; exact DataW.trod_lt m _ _ _ hm
  obtain ⟨T, pT, rfl, hT⟩ := open_terms (hval 0 _ v0 rfl rfl) h0
  obtain ⟨cut, rfl, hcut⟩ := open_u8 (hval 1 _ v1 rfl rfl) h1
  obtain ⟨g, rfl, hg⟩ := open_u8 (hval 2 _ v2 rfl rfl) h2
  obtain ⟨s, rfl, hs⟩ := open_u8 (hval 3 _ v3 rfl rfl) h3
  obtain ⟨n, rfl⟩ := open_int (hval 4 _ v4 rfl rfl)
  clear hA0 hval0
  refine (termsJoined_run T pT cut g s n W hcut hg hs hT).mono fun e W' ⟨he, bel⟩ => ?_
  subst he
  exact ⟨_, rfl, _, _, _, [], _, [], hW', trodAll_mk1 (shut_bool Tryz.underlying4 _), (trodAll_cons_mk (Below.trod laidO (by kernel_rfl) (of_decide_eq_true (by kernel_rfl)) h0 bel (lt h0)) (trodAll_cons_mk (Below.trod laidO (by kernel_rfl) (of_decide_eq_true (by kernel_rfl)) h1 bel (lt h1)) (trodAll_cons_mk (Below.trod laidO (by kernel_rfl) (of_decide_eq_true (by kernel_rfl)) h2 bel (lt h2)) (trodAll_cons_mk (Below.trod laidO (by kernel_rfl) (of_decide_eq_true (by kernel_rfl)) h3 bel (lt h3)) (trodAll_cons_mk (Below.trod laidO (by kernel_rfl) (of_decide_eq_true (by kernel_rfl)) h4 bel (lt h4)) trodAll_mk0))))), rfl, bel.frame _, fun h => by cases h⟩
theorem termsJoined_over : Rows.termsJoinedRow.holds Tryz.pinned (OpenSpec.ofChange Rows.termsJoinedSpec) :=
  OpenClaim.holds_of_wide 11 Tryz.f11 rfl rfl rfl rfl rfl rfl rfl ⟨rfl, rfl, rfl, rfl, rfl⟩ rfl rfl rfl rfl rfl (by kernel_rfl) Tryz.func11 (by kernel_rfl)
    (of_decide_eq_true (by kernel_rfl)) (by unfold Func.isWrapper; first | (rw [if_pos (by decide +kernel)]; kernel_rfl) | (rw [if_neg (by decide +kernel)]; exact ⟨rfl, rfl⟩))
    (fun os started H enc _ => termsJoined_lifted os started H enc)
theorem termsJoined_proved : Rows.TermsJoinedSaid := termsJoined_over
#print axioms termsJoined_proved
end Go.Proofs.YtjejppodhpdckaaGreat
end
