/- Own work: contracts of functions, from rows of what is known of the memory; contracts of functions, from rows of what is known of the memory; contracts of functions, from rows of what is known of the memory; contracts of functions, from rows of what is known of the memory; contracts of functions, from rows of what is known of the memory; contracts of functions, from rows of what is known of the memory; contracts of functions, from rows of what is known of the memory; contracts of functions, from rows of what is known of the memory; contracts of functions, from rows of what is known of the memory; contracts of functions, from rows of what is known of the memory; contracts of functions, from rows of what is known of the memory; contracts of functions, from rows of what is known of the memory; contract -/
import Derived.Test.YtjejppodhpdckaaGreatW02
import Derived.Test.YtjejppodhpdckaaGreatChecked
import Derived.Tactics2
import Derived.OpenShut
import Derived.ProofKit
import Derived.Test.YtjejppodhpdckaaGreatRows
import Derived.WalkKit
import Derived.ChangeOld
import Derived.ShutString
section
set_option linter.unusedVariables false
set_option linter.unusedSimpArgs false
namespace Go.Proofs.YtjejppodhpdckaaGreat
open Go Go.Fw
set_option maxRecDepth 10000
def tsRv : List TOp := [⟨some 14, [], [], []⟩, ⟨some 15, [], [], []⟩, ⟨some 16, [], [], []⟩, ⟨some 17, [], [], []⟩, ⟨some 18, [], [], []⟩, ⟨some 19, [], [], []⟩, ⟨some 20, [4, 5], [4, 5], []⟩, ⟨some 21, [4, 5, 6], [6], []⟩, ⟨some 22, [], [], []⟩, ⟨some 23, [], [], []⟩, ⟨some 24, [8, 9], [8, 9], []⟩, ⟨some 25, [8, 9, 10], [10], []⟩, ⟨some 26, [0, 1, 4, 5, 6, 7, 8, 9, 10, 11], [0, 1], []⟩, ⟨none, [0, 1, 4, 5, 6, 7, 8, 9, 10, 11, 12], [12, 7], [16]⟩, ⟨some 27, [0, 1, 2, 3, 4, 5, 6, 7, 8, 9, 10, 11, 12, 13], [2, 3], []⟩, ⟨none, [0, 1, 2, 3, 4, 5, 6, 7, 8, 9, 10, 11, 12, 13, 14], [14, 11], [13]⟩, ⟨none, [], [], []⟩]
def valRv (b n kc ii jj : Nat) (c : List Int) (x y : Int) (k : Nat) (env : Env) : Value :=
  match k with
  | 0 => .slice (some ⟨b, 0, none⟩) n kc
  | 1 => .int .i64 ii
  | 2 => .slice (some ⟨b, 0, none⟩) n kc
  | 3 => .int .i64 jj
  | 4 => .slice (some ⟨b, 0, none⟩) n kc
  | 5 => .int .i64 jj
  | 6 => .pointer (some ⟨b, 0 + jj * 1, none⟩)
  | 7 => .int .i64 y
  | 8 => .slice (some ⟨b, 0, none⟩) n kc
  | 9 => .int .i64 ii
  | 10 => .pointer (some ⟨b, 0 + ii * 1, none⟩)
  | 11 => .int .i64 x
  | 12 => .pointer (some ⟨b, 0 + ii * 1, none⟩)
  | 13 => undef
  | 14 => .pointer (some ⟨b, 0 + jj * 1, none⟩)
  | 15 => undef
  | _ => undef
def rowsRv (b n kc ii jj : Nat) (c : List Int) (x y : Int) (k : Nat) (env : Env) : List Row :=
  match k with
  | 13 => [⟨b, 0, (c.set ii y).flatMap cI, some 3, kc * 1⟩]
  | 15 => [⟨b, 0, ((c.set ii y).set jj x).flatMap cI, some 3, kc * 1⟩]
  | 16 => [⟨b, 0, c.flatMap cI, some 3, kc * 1⟩]
  | _ => []
theorem locRv (b n kc ii jj : Nat) (c : List Int) (x y : Int) : ∀ k env i q9, i ≠ k → (tAt tsRv k).sup.contains i = false → valRv b n kc ii jj c x y k (upd env i q9) = valRv b n kc ii jj c x y k env ∧ rowsRv b n kc ii jj c x y k (upd env i q9) = rowsRv b n kc ii jj c x y k env := by
  intro k env i q hk hs
  have hu : ∀ j, j ≠ i → upd env i q j = env j := fun j hj => by unfold upd; rw [if_neg hj]
  match k, hk, hs with
  | 0, _, _ => exact ⟨rfl, rfl⟩
  | 1, _, _ => exact ⟨rfl, rfl⟩
  | 2, _, _ => exact ⟨rfl, rfl⟩
  | 3, _, _ => exact ⟨rfl, rfl⟩
  | 4, _, _ => exact ⟨rfl, rfl⟩
  | 5, _, _ => exact ⟨rfl, rfl⟩
  | 6, _, _ => exact ⟨rfl, rfl⟩
  | 7, _, _ => exact ⟨rfl, rfl⟩
  | 8, _, _ => exact ⟨rfl, rfl⟩
  | 9, _, _ => exact ⟨rfl, rfl⟩
  | 10, _, _ => exact ⟨rfl, rfl⟩
  | 11, _, _ => exact ⟨rfl, rfl⟩
  | 12, _, _ => exact ⟨rfl, rfl⟩
  | 13, _, _ => exact ⟨rfl, rfl⟩
  | 14, _, _ => exact ⟨rfl, rfl⟩
  | 15, _, _ => exact ⟨rfl, rfl⟩
  | 16, _, _ => exact ⟨rfl, rfl⟩
  | _ + 17, _, _ => exact ⟨rfl, rfl⟩
def rdRv (k : Nat) : List Nat := match k with
  | 7 => [16]
  | 11 => [16]
  | _ => []
/-- the first i numbers and the last i ones have changed places -/
def swp (l c : List Int) (i : Nat) : Prop := c.length = l.length ∧ ∀ q, q < l.length → c[q]? = (if q < i ∨ l.length ≤ q + i then l[l.length - 1 - q]? else l[q]?)
theorem swp_end {l c : List Int} {i : Nat} (h : swp l c i) (hi : l.length ≤ i + i + 1) : c = l.reverse := by
  apply List.ext_getElem?
  intro q
  by_cases hq : q < l.length
  · rw [h.2 q hq, List.getElem?_reverse hq]
    split
    · rfl
    · rw [show l.length - 1 - q = q by omega]
  · rw [List.getElem?_eq_none (by rw [h.1]; omega), List.getElem?_eq_none (by rw [List.length_reverse]; omega)]
theorem swp_step {l c : List Int} {i j : Nat} {x y : Int} (h : swp l c i) (hj : j + i + 1 = l.length) (hij : i < j) (hx : c[i]? = some x) (hy : c[j]? = some y) : swp l ((c.set i y).set j x) (i + 1) := by
  refine ⟨by simp [h.1], fun q hq => ?_⟩
  have h1 := h.1
  have e1 := h.2 i (by omega)
  have e2 := h.2 j (by omega)
  rw [if_neg (by omega)] at e1 e2
  rw [hx] at e1; rw [hy] at e2
  rw [List.getElem?_set, List.getElem?_set]
  by_cases q1 : j = q
  · subst q1
    rw [if_pos rfl, if_pos (by simp; omega), if_pos (by omega), show l.length - 1 - j = i by omega]; exact e1
  · rw [if_neg q1]
    by_cases q2 : i = q
    · subst q2
      rw [if_pos rfl, if_pos (by omega), if_pos (by omega), show l.length - 1 - i = j by omega]; exact e2
    · rw [if_neg q2, h.2 q hq]
      by_cases q3 : q < i ∨ l.length ≤ q + i
      · rw [if_pos q3, if_pos (by omega)]
      · rw [if_neg q3, if_neg (by omega)]
set_option maxHeartbeats 4000000 in
theorem reverse_spec (l : List Int) (b kc : Nat) (H : List Row) (hb : l.length ≤ 1000000) (hk : l.length ≤ kc) :
    Fc Tryz.prog 117 [.slice (some ⟨b, 0, none⟩) l.length kc] (⟨b, 0, l.flatMap cI, some 3, kc * 1⟩ :: H) (fun _ H' => H' = ⟨b, 0, l.reverse.flatMap cI, some 3, kc * 1⟩ :: H) := by
  refine Fc.mk (callable Tryz.call117) Tryz.func117 rfl Tryz.ntmps117 rfl ?_; dsimp only [fr]
  repeat' (first | (refine XO.op rfl ?_; (first | ((first | refine Xo.ng rfl ?_); (first | (refine Xg.ev (EvF.move rfl rfl) rfl rfl ?_) | (refine Xg.ev (EvF.assign rfl rfl) rfl rfl ?_) | (refine Xg.ev (EvF.add64 rfl rfl rfl (by omega) (by omega)) rfl rfl ?_) | (refine Xg.ev (EvF.sub64 rfl rfl rfl (by omega) (by omega)) rfl rfl ?_) | (refine Xg.ev (EvF.lenSlice rfl rfl (te rfl)) rfl rfl ?_))))) | (refine XO.done rfl ?_; refine hK _ _ ?_; clear hK K) | refine X.seq rfl ?_ | refine X.region rfl (fun K hK => ?_) | refine X.block rfl ?_)
  refine X.lp rfl (fun m F' H' => ∃ (i : Nat) (c : List Int), m = l.length - i ∧ i ≤ l.length ∧ swp l c i ∧ H' = ⟨b, 0, c.flatMap cI, some 3, kc * 1⟩ :: H ∧
      F' = [(0, .slice (some ⟨b, 0, none⟩) l.length kc), (2, .int .i64 i), (3, .int .i64 ((l.length : Int) - 1 - i))])
    l.length [(0, .slice (some ⟨b, 0, none⟩) l.length kc), (2, .int .i64 (0 : Nat)), (3, .int .i64 ((l.length : Int) - 1 - (0 : Nat)))] _ (by rw [show (l.length : Int) - 1 - ((0 : Nat) : Int) = l.length - 1 by omega]; exact (by (repeat (first | exact Sub.nil _ | refine Sub.cons rfl ?_)); done)) (List.Sublist.refl _) ⟨0, l, by omega, by omega, ⟨rfl, fun q hq => by rw [if_neg (by omega)]⟩, rfl, rfl⟩ ?_
  rintro _ _ _ ⟨i, c, rfl, hi, hs, rfl, rfl⟩
  repeat' (first | (refine XO.op rfl ?_; (first | ((first | refine Xo.ng rfl ?_); (first | (refine Xg.ev (EvF.move rfl rfl) rfl rfl ?_) | (refine Xg.ev (EvF.cmp rfl rfl rfl rfl) rfl rfl ?_))))) | (refine XO.done rfl ?_; refine hK _ _ ?_; clear hK K) | refine X.seq rfl ?_ | refine X.region rfl (fun K hK => ?_) | refine X.block rfl ?_ | (refine X.brk rfl ?_; repeat (first | refine blockX_hit rfl ?_ | refine blockX_miss (by decide) ?_)) | refine X.skip rfl ?_ | (refine X.ite rfl rfl (fun hc => ?_); (first | (with_reducible refine Xb.case hc (fun h => ?_) (fun h => ?_))) <;> clear hc))
  · have hlt : (i : Int) < (l.length : Int) - 1 - i := by assumption
    obtain ⟨j, hj⟩ : ∃ j : Nat, (j : Int) = (l.length : Int) - 1 - i := ⟨(l.length - 1 - i), by omega⟩
    have hcl := hs.1
    have hx : c[i]? = some (c[i]'(by omega)) := List.getElem?_eq_getElem _
    have hy : c[j]? = some (c[j]'(by omega)) := List.getElem?_eq_getElem _
    generalize c[i]'(by omega) = x at hx
    generalize c[j]'(by omega) = y at hy
    have hst := swp_step hs (by omega) (by omega) hx hy
    rw [← hj]
    obtain ⟨ii, rfl⟩ : ∃ ii, ii = i := ⟨_, rfl⟩
    obtain ⟨jj, rfl⟩ : ∃ jj, jj = j := ⟨_, rfl⟩
    obtain ⟨n, hn⟩ : ∃ n, l.length = n := ⟨_, rfl⟩
    have e0 : (Value.slice (some ⟨b, 0, none⟩) l.length kc) = .slice (some ⟨b, 0, none⟩) n kc := by rw [hn]
    rw [e0]
    refine X.regionRd tsRv rdRv [0, 2, 3] [(0, .slice (some ⟨b, 0, none⟩) n kc), (2, .int .i64 ii), (3, .int .i64 jj)] (valRv b n kc ii jj c x y) (rowsRv b n kc ii jj c x y) (fun _ => (0, 0)) (H) rfl mixed (by (repeat (first | exact Sub.nil _ | refine Sub.cons rfl ?_)); done) rfl (by kernel_rfl) (by kernel_rfl) (locRv b n kc ii jj c x y) (List.Sublist.refl _) ?_ ?_
    · have hi1 : ii < c.length := by omega
      have hj1 : jj < (c.set ii y).length := by simp; omega
      have hi2 : (ii : Int) < n := by omega
      have hj2 : (jj : Int) < n := by omega
      repeat' (first | exact AllF.done rfl | (refine AllF.step rfl ?_ ?_; · (first | exact (Ob.ng rfl (ObK.pure (fun env R hR => by exact ⟨_, EvF.move rfl rfl, rfl⟩) rfl (fun _ => rfl))).toR | (refine ObR.ng rfl ?_; (first | (exact fun env S hS hrd => (StF.ofEv (EvF.loadV rfl rfl (LoadV.ownI (te rfl) rfl (hrd 16 (List.Mem.head _) _ (List.Mem.head _)) (by omega) hy))).op.mono (fun v H' ⟨hv, hH⟩ => ⟨(0, 0), fun _ => hv, by rw [hH]; exact List.Perm.refl _⟩)) | (exact fun env S hS hrd => (StF.ofEv (EvF.loadV rfl rfl (LoadV.ownI (te rfl) rfl (hrd 16 (List.Mem.head _) _ (List.Mem.head _)) (by omega) hx))).op.mono (fun v H' ⟨hv, hH⟩ => ⟨(0, 0), fun _ => hv, by rw [hH]; exact List.Perm.refl _⟩)) | (exact fun env S hS hrd => (StF.storeI (q := 0) (c := c) rfl rfl rfl (te rfl) rfl rfl (by omega) hi1).op.mono (fun v H' ⟨hv, hH⟩ => ⟨(0, 0), fun h => absurd rfl h, by rw [hH]; exact List.Perm.refl _⟩)) | (exact fun env S hS hrd => (StF.storeI (q := 0) (c := c.set ii y) rfl rfl rfl (te rfl) rfl rfl (by omega) hj1).op.mono (fun v H' ⟨hv, hH⟩ => ⟨(0, 0), fun h => absurd rfl h, by rw [hH]; exact List.Perm.refl _⟩)) | ((refine fun env S hS hrd => (StF.ofEv (v := .pointer (some ⟨b, 0 + jj * 1, none⟩)) ?_).op.mono (fun v H' ⟨hv, hH⟩ => ⟨(0, 0), fun _ => hv, by rw [hH]; exact List.Perm.refl _⟩); exact EvF.indexSlice (i := (jj : Int)) (off := 0) (b := b) (T := 28) (e := 3) (len := n) (ti := ⟨.int .i64, 1, 8⟩) rfl rfl rfl (te rfl) (te rfl) (by omega) hj2)) | ((refine fun env S hS hrd => (StF.ofEv (v := .pointer (some ⟨b, 0 + ii * 1, none⟩)) ?_).op.mono (fun v H' ⟨hv, hH⟩ => ⟨(0, 0), fun _ => hv, by rw [hH]; exact List.Perm.refl _⟩); exact EvF.indexSlice (i := (ii : Int)) (off := 0) (b := b) (T := 28) (e := 3) (len := n) (ti := ⟨.int .i64, 1, 8⟩) rfl rfl rfl (te rfl) (te rfl) (by omega) hi2)))))))
    · intro env t ha hv
      refine ⟨_, ha, ?_⟩
      show X _ _ _ _ (⟨b, 0, ((c.set ii y).set jj x).flatMap cI, some 3, kc * 1⟩ :: H) _
      repeat' (first | (refine XO.op rfl ?_; (first | ((first | refine Xo.ng rfl ?_); (first | (refine Xg.ev (EvF.move rfl rfl) rfl rfl ?_) | (refine Xg.ev (EvF.assign rfl rfl) rfl rfl ?_) | (refine Xg.ev (EvF.add64 rfl rfl rfl (by omega) (by omega)) rfl rfl ?_) | (refine Xg.ev (EvF.sub64 rfl rfl rfl (by omega) (by omega)) rfl rfl ?_) | (refine Xg.ev (EvF.lenSlice rfl rfl (te rfl)) rfl rfl ?_))))) | (refine XO.done rfl ?_; refine hK _ _ ?_; clear hK K) | refine X.seq rfl ?_ | refine X.region rfl (fun K hK => ?_) | refine X.block rfl ?_)
      refine ⟨_, [(0, .slice (some ⟨b, 0, none⟩) n kc), (2, .int .i64 (ii + 1 : Nat)), (3, .int .i64 ((n : Int) - 1 - (ii + 1 : Nat)))], _, (by rw [show ((n : Int) - 1 - (ii + 1 : Nat)) = (jj : Int) - 1 by omega]; exact (by (repeat (first | exact Sub.nil _ | refine Sub.cons rfl ?_)); done)), List.Sublist.refl _, ⟨ii + 1, _, rfl, by omega, hst, rfl, by rw [hn]⟩, by omega⟩
  · have he := swp_end hs (by omega)
    subst he
    exact ret_none (by first | exact .inr rfl | exact .inl rfl) Tryz.results117 (H' := _) (List.Sublist.refl _) rfl
end Go.Proofs.YtjejppodhpdckaaGreat
end
section
set_option linter.unusedVariables false
set_option linter.unusedSimpArgs false
namespace Go.Proofs.YtjejppodhpdckaaGreat
open Go Go.Fw
set_option maxRecDepth 10000
/-- a table among others -/
structure TB where
  a : Option Addr
  l : List Int
  c : Nat
def cTB (t : TB) : List Value := [.slice t.a t.l.length t.c]
theorem grows_iff : ∀ (l : List Int), grows l ↔ ∀ q a b, l[q]? = some a → l[q + 1]? = some b → a ≤ b
  | [] => by simp [grows]
  | [x] => by
    refine ⟨fun _ q a b h1 h2 => ?_, fun _ => trivial⟩
    simp at h2
  | x :: y :: l => by
    have ih := grows_iff (y :: l)
    show (x ≤ y ∧ grows (y :: l)) ↔ _
    rw [ih]
    constructor
    · rintro ⟨h1, h2⟩ q a b ha hb
      cases q with
      | zero => simp at ha hb; subst ha hb; exact h1
      | succ q => exact h2 q a b (by simpa using ha) (by simpa using hb)
    · intro h
      exact ⟨h 0 x y rfl rfl, fun q a b ha hb => h (q + 1) a b (by simpa using ha) (by simpa using hb)⟩
noncomputable instance (l : List Int) : Decidable (grows l) := Classical.propDecidable _
noncomputable def risen (ts : List TB) : Int := ((ts.filter (fun t => decide (grows t.l))).length : Nat)
set_option maxHeartbeats 4000000 in
theorem rising_spec (ts : List TB) (a : Option Addr) (c : Nat) (H : List Row) (hl : SlE H a cTB 1 ts) (hb : ts.length ≤ 1000) (ht : ∀ t ∈ ts, SlE H t.a cI 1 t.l ∧ t.l.length ≤ 1000000) :
    Fc Tryz.prog 118 [.slice a ts.length c] H (fun v H' => v = .int .i64 (risen ts) ∧ H' = H) := by
  refine Fc.mk (callable Tryz.call118) Tryz.func118 rfl Tryz.ntmps118 rfl ?_; dsimp only [fr]
  repeat' (first | (refine XO.op rfl ?_; (first | ((first | refine Xo.ng rfl ?_); (first | (refine Xg.ev (EvF.move rfl rfl) rfl rfl ?_) | (refine Xg.ev (EvF.assign rfl rfl) rfl rfl ?_) | (refine Xg.ev (EvF.cmp rfl rfl rfl rfl) rfl rfl ?_) | (refine Xg.ev (EvF.add64 rfl rfl rfl (by omega) (by omega)) rfl rfl ?_) | (refine Xg.ev (EvF.lenSlice rfl rfl (te rfl)) rfl rfl ?_))))) | (refine XO.done rfl ?_; refine hK _ _ ?_; clear hK K) | (refine XQ.op rfl ?_; (first | ((first | refine Yo.ng rfl ?_); (first | (refine Yg.ev (EvF.move rfl rfl) rfl rfl ?_) | (refine Yg.ev (EvF.add64 rfl rfl rfl (by omega) (by omega)) rfl rfl ?_))))) | refine X.seq rfl ?_ | refine X.region rfl (fun K hK => ?_) | refine X.regionD rfl mixed (by kernel_rfl) (fun K hK => ?_) | refine X.block rfl ?_ | (refine X.brk rfl ?_; repeat (first | refine blockX_hit rfl ?_ | refine blockX_miss (by decide) ?_)) | refine X.label rfl ?_ | refine X.scope rfl ?_ | refine X.skip rfl ?_ | refine X.ret rfl ?_ | (refine X.ite rfl rfl (fun hc => ?_); (first | (with_reducible refine Xb.case hc (fun h => ?_) (fun h => ?_))) <;> clear hc))
  refine X.lp rfl (fun m F' H' => ∃ k : Nat, m = ts.length - k ∧ k ≤ ts.length ∧ H = H' ∧
      F' = [(7, .slice a ts.length c), (8, .int .i64 ts.length), (9, .int .i64 k), (3, .int .i64 (risen (ts.take k)))])
    ts.length [(7, .slice a ts.length c), (8, .int .i64 ts.length), (9, .int .i64 (0 : Nat)), (3, .int .i64 (risen (ts.take 0)))] _ (by (repeat (first | exact Sub.nil _ | refine Sub.cons rfl ?_)); done) (by (repeat (first | exact List.Sublist.refl _ | apply List.Sublist.cons_cons | apply List.Sublist.cons)); done) ⟨0, by omega, by omega, rfl, rfl⟩ ?_
  rintro _ _ H2 ⟨k, rfl, hk, hH, rfl⟩
  subst hH
  repeat' (first | (refine XO.op rfl ?_; (first | ((first | refine Xo.ng rfl ?_); (first | (refine Xg.ev (EvF.move rfl rfl) rfl rfl ?_) | (refine Xg.ev (EvF.assign rfl rfl) rfl rfl ?_) | (refine Xg.ev (EvF.cmp rfl rfl rfl rfl) rfl rfl ?_) | (refine Xg.ev (EvF.add64 rfl rfl rfl (by omega) (by omega)) rfl rfl ?_) | (refine Xg.ev (EvF.lenSlice rfl rfl (te rfl)) rfl rfl ?_))))) | (refine XO.done rfl ?_; refine hK _ _ ?_; clear hK K) | (refine XQ.op rfl ?_; (first | ((first | refine Yo.ng rfl ?_); (first | (refine Yg.ev (EvF.move rfl rfl) rfl rfl ?_) | (refine Yg.ev (EvF.add64 rfl rfl rfl (by omega) (by omega)) rfl rfl ?_))))) | refine X.seq rfl ?_ | refine X.region rfl (fun K hK => ?_) | refine X.regionD rfl mixed (by kernel_rfl) (fun K hK => ?_) | refine X.block rfl ?_ | (refine X.brk rfl ?_; repeat (first | refine blockX_hit rfl ?_ | refine blockX_miss (by decide) ?_)) | refine X.label rfl ?_ | refine X.scope rfl ?_ | refine X.skip rfl ?_ | refine X.ret rfl ?_ | (refine X.ite rfl rfl (fun hc => ?_); (first | (with_reducible refine Xb.case hc (fun h => ?_) (fun h => ?_))) <;> clear hc))
  · obtain ⟨b, off, t, rfl, he⟩ := hl.elem (i := k) (by omega)
    obtain ⟨hsl, hln⟩ := ht t (List.mem_of_getElem? he)
    have hrk : risen (ts.take (k + 1)) = risen (ts.take k) + (if grows t.l then 1 else 0) := by
      unfold risen
      rw [take_snoc he, List.filter_append, List.length_append, List.filter_cons]
      split <;> simp_all
    have hr0 : 0 ≤ risen (ts.take k) ∧ risen (ts.take k) ≤ 1000 := by
      unfold risen
      have := List.length_filter_le (fun t : TB => decide (grows t.l)) (ts.take k)
      rw [List.length_take] at this
      omega
    repeat' (first | (refine XO.op rfl ?_; (first | ((first | refine Xo.ng rfl ?_); (first | (refine Xg.ev (EvF.loadV rfl rfl (LoadV.el0 hl he (te rfl) rfl (fun _ hm => hm) rfl)) rfl rfl ?_) | (refine Xg.ev (EvF.move rfl rfl) rfl rfl ?_) | (refine Xg.ev (EvF.assign rfl rfl) rfl rfl ?_) | (refine Xg.ev (EvF.sub64 rfl rfl rfl (by omega) (by omega)) rfl rfl ?_) | (refine Xg.ev (EvF.lenSlice rfl rfl (te rfl)) rfl rfl ?_) | (refine Xg.ev (EvF.indexSlice rfl rfl rfl (te rfl) (te rfl) (by omega) (by omega)) rfl rfl ?_))))) | (refine XO.done rfl ?_; refine hK _ _ ?_; clear hK K) | refine X.seq rfl ?_ | refine X.region rfl (fun K hK => ?_) | refine X.block rfl ?_)
    refine X.lp rfl (fun m F' H' => ∃ q : Nat, m = t.l.length - q ∧ (q ≤ t.l.length - 1) ∧ (∀ j x y, j < q → t.l[j]? = some x → t.l[j + 1]? = some y → x ≤ y) ∧ H = H' ∧
        F' = [(7, .slice (some ⟨b, off, none⟩) ts.length c), (8, .int .i64 ts.length), (9, .int .i64 k), (3, .int .i64 (risen (ts.take k))), (5, .slice t.a t.l.length t.c), (15, .int .i64 ((t.l.length : Int) - 1)), (16, .int .i64 q)])
      t.l.length [(7, .slice (some ⟨b, off, none⟩) ts.length c), (8, .int .i64 ts.length), (9, .int .i64 k), (3, .int .i64 (risen (ts.take k))), (5, .slice t.a t.l.length t.c), (15, .int .i64 ((t.l.length : Int) - 1)), (16, .int .i64 (0 : Nat))] _ (by (repeat (first | exact Sub.nil _ | refine Sub.cons rfl ?_)); done) (by (repeat (first | exact List.Sublist.refl _ | apply List.Sublist.cons_cons | apply List.Sublist.cons)); done) ⟨0, by omega, by omega, (fun j x y hj => absurd hj (by omega)), rfl, rfl⟩ ?_
    rintro _ _ H2 ⟨q, rfl, hq, hn, hH, rfl⟩
    subst hH
    repeat' (first | (refine XO.op rfl ?_; (first | ((first | refine Xo.ng rfl ?_); (first | (refine Xg.ev (EvF.move rfl rfl) rfl rfl ?_) | (refine Xg.ev (EvF.assign rfl rfl) rfl rfl ?_) | (refine Xg.ev (EvF.cmp rfl rfl rfl rfl) rfl rfl ?_) | (refine Xg.ev (EvF.add64 rfl rfl rfl (by omega) (by omega)) rfl rfl ?_) | (refine Xg.ev (EvF.lenSlice rfl rfl (te rfl)) rfl rfl ?_))))) | (refine XO.done rfl ?_; refine hK _ _ ?_; clear hK K) | (refine XQ.op rfl ?_; (first | ((first | refine Yo.ng rfl ?_); (first | (refine Yg.ev (EvF.move rfl rfl) rfl rfl ?_) | (refine Yg.ev (EvF.add64 rfl rfl rfl (by omega) (by omega)) rfl rfl ?_))))) | refine X.seq rfl ?_ | refine X.region rfl (fun K hK => ?_) | refine X.regionD rfl mixed (by kernel_rfl) (fun K hK => ?_) | refine X.block rfl ?_ | (refine X.brk rfl ?_; repeat (first | refine blockX_hit rfl ?_ | refine blockX_miss (by decide) ?_)) | refine X.label rfl ?_ | refine X.scope rfl ?_ | refine X.skip rfl ?_ | refine X.ret rfl ?_ | (refine X.ite rfl rfl (fun hc => ?_); (first | (with_reducible refine Xb.case hc (fun h => ?_) (fun h => ?_))) <;> clear hc))
    · have hq1 : (q : Int) < (t.l.length : Int) - 1 := by assumption
      obtain ⟨b2, off2, e, hea, he1⟩ := hsl.elem (i := q) (by omega)
      obtain ⟨_, _, f, _, hf1⟩ := hsl.elem (i := q + 1) (by omega)
      rw [hea]
      rw [hea] at hsl
      repeat' (first | (refine XO.op rfl ?_; (first | ((first | refine Xo.ng rfl ?_); (first | (refine Xg.ev (EvF.move rfl rfl) rfl rfl ?_) | (refine Xg.ev (EvF.add64 rfl rfl rfl (by omega) (by omega)) rfl rfl ?_))))) | (refine XO.done rfl ?_; refine hK _ _ ?_; clear hK K) | (refine XQ.op rfl ?_; (first | ((first | refine Yo.ng rfl ?_); (first | (refine Yg.ev (EvF.indexSlice rfl rfl rfl (te rfl) (te rfl) (by omega) (by omega)) rfl rfl ?_) | (refine Yg.ev (EvF.loadV rfl rfl (LoadV.el0 hsl he1 (te rfl) rfl (fun _ hm => hm) rfl)) rfl rfl ?_) | (refine Yg.ev (EvF.loadV rfl rfl (LoadV.el0 (n := q + 1) hsl hf1 (te rfl) rfl (fun _ h => h) rfl)) rfl rfl ?_) | (refine Yg.ev (EvF.move rfl rfl) rfl rfl ?_) | (refine Yg.ev (EvF.cmp rfl rfl rfl rfl) rfl rfl ?_))))) | (refine XQ.done rfl ?_; refine hK _ ?_; clear hK K) | refine X.region rfl (fun K hK => ?_) | (refine X.brk rfl ?_; repeat (first | refine blockX_hit rfl ?_ | refine blockX_miss (by decide) ?_)) | refine X.skip rfl ?_ | (refine X.ite rfl rfl (fun hc => ?_); (first | (with_reducible refine Xb.case hc (fun h => ?_) (fun h => ?_))) <;> clear hc))
      · have hng : ¬ grows t.l := fun hg => by
          have := (grows_iff t.l).1 hg q e f he1 hf1
          omega
        rw [if_neg hng, Int.add_zero] at hrk
        refine ⟨_, [(7, .slice (some ⟨b, off, none⟩) ts.length c), (8, .int .i64 ts.length), (9, .int .i64 (k + 1 : Nat)), (3, .int .i64 (risen (ts.take (k + 1))))], _, (by rw [hrk]; exact (by (repeat (first | exact Sub.nil _ | refine Sub.cons rfl ?_)); done)), (by (repeat (first | exact List.Sublist.refl _ | apply List.Sublist.cons_cons | apply List.Sublist.cons)); done), ⟨k + 1, rfl, by omega, rfl, rfl⟩, by omega⟩
      · refine ⟨_, [(7, .slice (some ⟨b, off, none⟩) ts.length c), (8, .int .i64 ts.length), (9, .int .i64 k), (3, .int .i64 (risen (ts.take k))), (5, .slice t.a t.l.length t.c), (15, .int .i64 ((t.l.length : Int) - 1)), (16, .int .i64 (q + 1 : Nat))], _, (by rw [hea]; exact (by (repeat (first | exact Sub.nil _ | refine Sub.cons rfl ?_)); done)), (by (repeat (first | exact List.Sublist.refl _ | apply List.Sublist.cons_cons | apply List.Sublist.cons)); done), ⟨q + 1, rfl, by omega, (fun j x y hj hx hy => ?_), rfl, rfl⟩, by omega⟩
        rcases Nat.lt_or_ge j q with h1 | h1
        · exact hn j x y h1 hx hy
        · obtain rfl : j = q := by omega
          rw [he1] at hx; rw [hf1] at hy
          cases hx; cases hy
          omega
    · have hg : grows t.l := (grows_iff t.l).2 (fun j x y hx hy => hn j x y (by have := (List.getElem?_eq_some_iff.1 hy).1; omega) hx hy)
      rw [if_pos hg] at hrk
      refine ⟨_, [(7, .slice (some ⟨b, off, none⟩) ts.length c), (8, .int .i64 ts.length), (9, .int .i64 (k + 1 : Nat)), (3, .int .i64 (risen (ts.take (k + 1))))], _, (by rw [hrk]; exact (by (repeat (first | exact Sub.nil _ | refine Sub.cons rfl ?_)); done)), (by (repeat (first | exact List.Sublist.refl _ | apply List.Sublist.cons_cons | apply List.Sublist.cons)); done), ⟨k + 1, rfl, by omega, rfl, rfl⟩, by omega⟩
  · rw [List.take_of_length_le (by omega)]
    refine ret_one (by first | exact .inr rfl | exact .inl rfl) Tryz.results118 rfl (H' := H) (by (repeat (first | exact List.Sublist.refl _ | apply List.Sublist.cons)); done) ?_; simp only [and_true, true_and]
end Go.Proofs.YtjejppodhpdckaaGreat
end
section
set_option linter.unusedVariables false
set_option linter.unusedSimpArgs false
namespace Go.Proofs.YtjejppodhpdckaaGreat
open Go Go.Fw
set_option maxRecDepth 10000
theorem elSS : ElT Tryz.prog 184 28 1 24 := ⟨Tryz.underlying184, Tryz.t28, .slice none 0 0, by kernel_rfl, by kernel_rfl, by kernel_rfl, by kernel_rfl, rfl⟩
theorem rising2_spec (l m : List Int) (b kc : Nat) (a2 : Option Addr) (c2 n bt cap : Nat) (ow : Option Kd) (H : List Row) (hl : SlE H (some ⟨b, 0, none⟩) cI 1 l) (hm : SlE H a2 cI 1 m) (hn : l.length = n) (h1 : l.length ≤ 1000000) (h2 : m.length ≤ 1000000) (hr : ⟨bt, 0, [.slice (some ⟨b, 0, none⟩) n kc, .slice a2 m.length c2], ow, cap⟩ ∈ H) :
    Fc Tryz.prog 118 [.slice (some ⟨bt, 0, none⟩) 2 2] H (fun v H' => v = .int .i64 ((if grows l then 1 else 0) + (if grows m then 1 else 0)) ∧ H' = H) := by
  subst hn
  have h := rising_spec [⟨some ⟨b, 0, none⟩, l, kc⟩, ⟨a2, m, c2⟩] (some ⟨bt, 0, none⟩) 2 H (SlE.ofRow (cap := cap) (ow := ow) hr (fun _ _ => rfl)) (by simp) (fun t ht => by
    simp only [List.mem_cons, List.not_mem_nil, or_false] at ht
    rcases ht with rfl | rfl
    · exact ⟨hl, h1⟩
    · exact ⟨hm, h2⟩)
  have e : risen [⟨some ⟨b, 0, none⟩, l, kc⟩, ⟨a2, m, c2⟩] = (if grows l then 1 else 0) + (if grows m then 1 else 0) := by
    unfold risen
    simp only [List.filter_cons, List.filter_nil]
    by_cases g1 : grows l <;> by_cases g2 : grows m <;> simp [g1, g2]
  rw [e] at h
  exact h
theorem falls_iff (l : List Int) : grows l.reverse ↔ falls l := by
  have key : ∀ (l : List Int), falls l ↔ ∀ q a b, l[q]? = some a → l[q + 1]? = some b → b ≤ a := by
    intro l
    induction l with
    | nil => simp [falls]
    | cons x l ih =>
      cases l with
      | nil => exact ⟨fun _ q a b _ h2 => by simp at h2, fun _ => trivial⟩
      | cons y l =>
        show (y ≤ x ∧ falls (y :: l)) ↔ _
        rw [ih]
        constructor
        · rintro ⟨h1, h2⟩ q a b ha hb
          cases q with
          | zero => simp at ha hb; subst ha hb; exact h1
          | succ q => exact h2 q a b (by simpa using ha) (by simpa using hb)
        · intro h
          exact ⟨h 0 x y rfl rfl, fun q a b ha hb => h (q + 1) a b (by simpa using ha) (by simpa using hb)⟩
  rw [grows_iff, key]
  constructor
  · intro h q a b ha hb
    have hq := (List.getElem?_eq_some_iff.1 hb).1
    refine h (l.length - 2 - q) b a ?_ ?_
    · rw [List.getElem?_reverse (by omega), show l.length - 1 - (l.length - 2 - q) = q + 1 by omega]; exact hb
    · rw [List.getElem?_reverse (by omega), show l.length - 1 - (l.length - 2 - q + 1) = q by omega]; exact ha
  · intro h q a b ha hb
    have hq := (List.getElem?_eq_some_iff.1 hb).1
    rw [List.length_reverse] at hq
    rw [List.getElem?_reverse (by omega)] at ha hb
    refine h (l.length - 1 - (q + 1)) b a hb ?_
    rw [show l.length - 1 - (q + 1) + 1 = l.length - 1 - q by omega]; exact ha
def tablesOk (T : Tm) : Prop := tab T.G ∧ tab T.S ∧ (falls T.G ∧ grows T.S) ∧ at1 T.G T.g = 0 ∧ at1 T.S T.s = 0
noncomputable instance (T : Tm) : Decidable (tablesOk T) := Classical.propDecidable _
set_option maxHeartbeats 4000000 in
theorem hasTables_spec (T : Tm) (p : Pt) (H : List Row) (hT : TmOk H T p) (hg : 1 ≤ T.g ∧ T.g ≤ 9) (hs : 1 ≤ T.s ∧ T.s ≤ 9) :
    Fc Tryz.prog 84 [.agg (cTm T p).toArray] H (fun v H' => v = .bool (decide (tablesOk T)) ∧ H' = H) := by
  have l1 := hT.l1
  have l2 := hT.l2
  obtain ⟨a1, c1, a2, c2⟩ := p
  refine Fc.mk (callable Tryz.call84) Tryz.func84 rfl Tryz.ntmps84 rfl ?_; dsimp only [fr]
  repeat' (first | (refine XO.op rfl ?_; (first | ((first | refine Xo.ng rfl ?_); (first | (refine Xg.call (EnF.st rfl (Args.cons rfl (Args.cons rfl Args.nil))) rfl rfl (areTables_spec T.G T.S a1 a2 c1 c2 _ (hT.gr.sub (fun _ h => List.Mem.tail _ h)) (hT.st.sub (fun _ h => List.Mem.tail _ h)) l1 l2) ?_; rintro _ H9 ⟨rfl, hH9⟩; subst H9) | (refine Xg.ev (EvF.assign rfl rfl) rfl rfl ?_) | (refine Xg.ev (EvF.not rfl rfl) rfl rfl ?_) | (refine Xg.ev (EvF.fieldAddr rfl rfl (te rfl) rfl (te rfl) (by decide)) rfl rfl ?_) | (refine Xg.ev (EvF.loadV rfl rfl (LoadV.own (te rfl) rfl (List.Mem.head _) rfl)) rfl rfl ?_) | (refine Xg.st (StF.boxAgg rfl rfl) rfl rfl ?_; rintro _ _ ⟨bx, rfl, rfl⟩))))) | (refine XO.done rfl ?_; refine hK _ _ ?_; clear hK K) | refine X.seq rfl ?_ | refine X.region rfl (fun K hK => ?_) | refine X.skip rfl ?_ | refine X.ret rfl ?_ | (refine X.ite rfl rfl (fun hc => ?_); (first | (with_reducible refine Xb.caseN hc (fun h => ?_) (fun h => ?_))) <;> clear hc))
  · refine ret_one (by first | exact .inr rfl | exact .inl rfl) Tryz.results84 rfl (H' := H) (by (repeat (first | exact List.Sublist.refl _ | apply List.Sublist.cons)); done) ?_; simp only [and_true, true_and]
    congr 1; symm
    refine decide_eq_false (fun q => ?_)
    exact h ⟨q.1.1, q.2.1.1, q.1.2, q.2.1.2⟩
  · obtain ⟨g1, g2, g3, g4⟩ := h
    have hG : tab T.G := ⟨g1, g3⟩
    have hS : tab T.S := ⟨g2, g4⟩
    have q1 := at1_get hg g1
    have q2 := at1_get hs g2
    obtain ⟨b1, o1, _, he1, _⟩ := hT.gr.elem (i := 0) (by omega)
    obtain ⟨b2, o2, _, he2, _⟩ := hT.st.elem (i := 0) (by omega)
    simp only at he1 he2
    subst he1 he2
    repeat' (first | (refine XO.op rfl ?_; (first | ((first | refine Xo.ng rfl ?_); (first | (refine Xg.call (EnF.st rfl (Args.cons rfl Args.nil)) rfl rfl (cloneI_spec T.G _ c1 _ (hT.gr.sub (fun _ h => List.Mem.tail _ h)) l1).caps ?_; rintro _ _ ⟨⟨b, kc, rfl, rfl⟩, hcap⟩) | (refine Xg.ev (EvF.move rfl rfl) rfl rfl ?_) | (refine Xg.ev (EvF.assign rfl rfl) rfl rfl ?_))))) | (refine XO.done rfl ?_; refine hK _ _ ?_; clear hK K) | refine X.seq rfl ?_ | refine X.region rfl (fun K hK => ?_))
    have hkc : T.G.length ≤ kc := by
      have := hcap _ _ _ _ _ (List.Mem.head _)
      rw [lenI] at this; omega
    clear hcap
    have hri : ((if grows T.G.reverse then (1 : Int) else 0) + (if grows T.S then 1 else 0) = 2) ↔ (falls T.G ∧ grows T.S) := by
      rw [← falls_iff]; by_cases a : grows T.G.reverse <;> by_cases b : grows T.S <;> simp [a, b]
    have hst : ∀ Z : List Row, SlE (Z ++ H) (some ⟨b2, o2, none⟩) cI 1 T.S := fun Z => hT.st.sub (fun _ h => List.mem_append_right _ h)
    have hgr : ∀ Z : List Row, SlE (Z ++ H) (some ⟨b1, o1, none⟩) cI 1 T.G := fun Z => hT.gr.sub (fun _ h => List.mem_append_right _ h)
    repeat' (first | (refine XO.op rfl ?_; (first | ((first | refine Xo.ng rfl ?_ | (refine Xo.g rfl rfl ?_; with_reducible refine Xw.tt ?_)); (first | (refine Xg.call (EnF.st rfl (Args.cons rfl Args.nil)) rfl rfl (reverse_spec T.G b kc _ l1 hkc) ?_; rintro _ _ rfl) | (refine Xg.st (StF.buildTwo rfl elSS rfl rfl rfl rfl rfl rfl (by decide) (by decide)) rfl rfl ?_; rintro _ _ ⟨bt, rfl, rfl⟩) | (refine Xg.call (EnF.st rfl (Args.cons rfl Args.nil)) rfl rfl (rising2_spec T.G.reverse T.S b kc _ _ _ bt _ _ _ (SlE.ofRow (List.Mem.tail _ (List.Mem.head _)) (fun _ _ => rfl)) (hst [_, _, _]) (by rw [List.length_reverse]) (by rw [List.length_reverse]; omega) l2 (List.Mem.head _)) ?_; rintro _ H9 ⟨rfl, hH9⟩; subst H9) | (refine Xg.ev (EvF.indexSlice rfl rfl rfl (te rfl) (te rfl) (by omega) (by omega)) rfl rfl ?_) | (refine Xg.ev (EvF.loadV rfl rfl (LoadV.el0 (hgr [_, _, _]) q1 (te rfl) rfl (fun _ hm => hm) rfl)) rfl rfl ?_) | (refine Xg.ev (EvF.loadV rfl rfl (LoadV.el0 (hst [_, _, _]) q2 (te rfl) rfl (fun _ hm => hm) rfl)) rfl rfl ?_) | (refine Xg.ev (EvF.move rfl rfl) rfl rfl ?_) | (refine Xg.ev (EvF.assign rfl rfl) rfl rfl ?_) | (refine Xg.ev (EvF.pickT rfl rfl rfl) rfl rfl ?_) | (refine Xg.ev (EvF.pickF rfl rfl rfl) rfl rfl ?_) | (refine Xg.ev (EvF.cmp rfl rfl rfl rfl) rfl rfl ?_) | (refine Xg.ev (EvF.sub64 rfl rfl rfl (by omega) (by omega)) rfl rfl ?_) | (refine Xg.ev (EvF.fieldAddr rfl rfl (te rfl) rfl (te rfl) (by decide)) rfl rfl ?_) | (refine Xg.ev (EvF.loadV rfl rfl (LoadV.own (te rfl) rfl (List.Mem.tail _ (List.Mem.head _)) rfl)) rfl rfl ?_) | (refine Xg.ev (EvF.loadV rfl rfl (LoadV.own (te rfl) rfl (List.Mem.tail _ (List.Mem.tail _ (List.Mem.head _))) rfl)) rfl rfl ?_))) | (refine Xo.g rfl rfl ?_; (first | (with_reducible refine Xw.ft rfl rfl ?_) | (with_reducible refine Xw.case (fun h => ?_) (fun h => ?_) <;> simp only [h, decide_true, decide_false, Bool.not_true, Bool.not_false, and_self, and_true, true_and, and_false, false_and]))))) | (refine XO.done rfl ?_; refine hK _ _ ?_; clear hK K) | refine X.seq rfl ?_ | refine X.region rfl (fun K hK => ?_) | refine X.ret rfl ?_)
    · refine ret_one (by first | exact .inr rfl | exact .inl rfl) Tryz.results84 rfl (H' := H) (by (repeat (first | exact List.Sublist.refl _ | apply List.Sublist.cons)); done) ?_; simp only [and_true, true_and]
      congr 1; exact decide_eq_decide.2 ⟨fun q => ⟨hG, hS, hri.1 (by assumption), by assumption, q⟩, fun q => q.2.2.2.2⟩
    · refine ret_one (by first | exact .inr rfl | exact .inl rfl) Tryz.results84 rfl (H' := H) (by (repeat (first | exact List.Sublist.refl _ | apply List.Sublist.cons)); done) ?_; simp only [and_true, true_and]
      congr 1; symm; exact decide_eq_false (fun q => absurd q.2.2.2.1 (by assumption))
    · refine ret_one (by first | exact .inr rfl | exact .inl rfl) Tryz.results84 rfl (H' := H) (by (repeat (first | exact List.Sublist.refl _ | apply List.Sublist.cons)); done) ?_; simp only [and_true, true_and]
      congr 1; symm; exact decide_eq_false (fun q => absurd (hri.2 q.2.2.1) (by assumption))
theorem leastInvoice_spec (T : Tm) (p : Pt) (H : List Row) (hT : TmOk H T p) (hG : tab T.G) (hS : tab T.S) (hp : -10000000 ≤ T.price ∧ T.price ≤ 10000000) (hg : 1 ≤ T.worst ∧ T.worst ≤ 9) (hs : 1 ≤ T.short ∧ T.short ≤ 9) :
    Fc Tryz.prog 85 [.agg (cTm T p).toArray] H (fun v H' => v = .int .i64 (val T T.worst T.short) ∧ H' = H) := by
  refine Fc.mk (callable Tryz.call85) Tryz.func85 rfl Tryz.ntmps85 rfl ?_; dsimp only [fr]
  repeat' (first | (refine XO.op rfl ?_; (first | ((first | refine Xo.ng rfl ?_); (first | (refine Xg.ev (EvF.assign rfl rfl) rfl rfl ?_) | (refine Xg.st (StF.boxAgg rfl rfl) rfl rfl ?_; rintro _ _ ⟨bx, rfl, rfl⟩))))) | (refine XO.done rfl ?_; refine hK _ _ ?_; clear hK K) | (refine XQ.op rfl ?_; (first | ((first | refine Yo.ng rfl ?_); (first | (refine Yg.ev (EvF.build (cs := cTm T p) rfl (ArgsP.cons rfl ArgsP.nil) (te rfl) (Places.cons (te rfl) Places.nil) Tryz.zeroValue99 rfl) rfl rfl ?_) | (refine Yg.call (EnF.st rfl (Args.cons rfl (Args.cons rfl Args.nil))) rfl rfl (class_spec _ _ _) ?_) | (refine Yg.call (EnF.st rfl (Args.cons rfl (Args.cons rfl Args.nil))) rfl rfl (value_spec T p ⟨T.worst, T.short⟩ _ (hT.sub (fun _ h => List.Mem.tail _ h)) hG hS hp hg hs) ?_) | (refine Yg.ev (EvF.assign rfl rfl) rfl rfl ?_) | (refine Yg.ev (EvF.fieldAddr rfl rfl (te rfl) rfl (te rfl) (by decide)) rfl rfl ?_) | (refine Yg.ev (EvF.loadV rfl rfl (LoadV.own (te rfl) rfl (List.Mem.head _) rfl)) rfl rfl ?_) | (refine Yg.ev (EvF.loadV rfl rfl (LoadV.whole (te rfl) rfl (List.Mem.head _) rfl)) rfl rfl ?_))))) | (refine XQ.done rfl ?_; refine hK _ ?_; clear hK K) | refine X.seq rfl ?_ | refine X.region rfl (fun K hK => ?_) | refine X.regionD rfl mixed (by kernel_rfl) (fun K hK => ?_) | refine X.ret rfl ?_)
  refine ret_one (by first | exact .inr rfl | exact .inl rfl) Tryz.results85 rfl (H' := H) (by (repeat (first | exact List.Sublist.refl _ | apply List.Sublist.cons)); done) ?_; simp only [and_true, true_and]
set_option maxHeartbeats 4000000 in
theorem check_spec (T : Tm) (p : Pt) (H : List Row) (hT : TmOk H T p) :
    Fc Tryz.prog 33 [.agg (cTm T p).toArray] H (fun v H' => v = .int .i64 (if tmOk T then 0 else 40) ∧ H' = H) := by
  have hT1 : ∀ r, TmOk (r :: H) T p := fun r => hT.sub (fun _ h => List.Mem.tail _ h)
  by_cases h1 : (1 ≤ T.g ∧ T.g ≤ 9) ∧ (1 ≤ T.s ∧ T.s ≤ 9) ∧ (T.g ≤ T.worst ∧ T.worst ≤ 9) ∧ (1 ≤ T.short ∧ T.short ≤ T.s)
  · by_cases h2 : (1 ≤ T.price ∧ T.price ≤ 1000000) ∧ (T.dl ≤ T.dh ∧ 0 ≤ T.dl ∧ T.dh ≤ 60) ∧ (1 ≤ T.bales ∧ T.bales ≤ 20) ∧ (0 ≤ T.fee ∧ T.fee ≤ 1000)
    · by_cases h3 : tablesOk T
      · have c1 := hasClasses_spec T p
        have c2 := hasNumbers_spec T p
        have c3 := fun H h => hasTables_spec T p H h h1.1 h1.2.1
        simp only [decide_eq_true h1] at c1
        simp only [decide_eq_true h2] at c2
        simp only [decide_eq_true h3] at c3
        have c4 := fun H h => leastInvoice_spec T p H h h3.1 h3.2.1 (by omega) (by omega) (by omega)
        refine Fc.mk (callable Tryz.call33) Tryz.func33 rfl Tryz.ntmps33 rfl ?_; dsimp only [fr]
        repeat' (first | (refine XO.op rfl ?_; (first | ((first | refine Xo.ng rfl ?_ | (refine Xo.g rfl rfl ?_; with_reducible refine Xw.ff ?_)); (first | (refine Xg.call (EnF.st rfl (Args.cons rfl Args.nil)) rfl rfl (c1 _) ?_; rintro _ H9 ⟨rfl, hH9⟩; subst H9) | (refine Xg.call (EnF.st rfl (Args.cons rfl Args.nil)) rfl rfl (c2 _) ?_; rintro _ H9 ⟨rfl, hH9⟩; subst H9) | (refine Xg.call (EnF.st rfl (Args.cons rfl Args.nil)) rfl rfl (c3 _ (hT1 _)) ?_; rintro _ H9 ⟨rfl, hH9⟩; subst H9) | (refine Xg.call (EnF.st rfl (Args.cons rfl Args.nil)) rfl rfl (c4 _ (hT1 _)) ?_; rintro _ H9 ⟨rfl, hH9⟩; subst H9) | (refine Xg.ev (EvF.move rfl rfl) rfl rfl ?_) | (refine Xg.ev (EvF.assign rfl rfl) rfl rfl ?_) | (refine Xg.ev (EvF.pickT rfl rfl rfl) rfl rfl ?_) | (refine Xg.ev (EvF.pickF rfl rfl rfl) rfl rfl ?_) | (refine Xg.ev (EvF.cmp rfl rfl rfl rfl) rfl rfl ?_) | (refine Xg.ev (EvF.not rfl rfl) rfl rfl ?_) | (refine Xg.ev (EvF.loadV rfl rfl (LoadV.whole (te rfl) rfl (List.Mem.head _) rfl)) rfl rfl ?_) | (refine Xg.st (StF.boxAgg rfl rfl) rfl rfl ?_; rintro _ _ ⟨bx, rfl, rfl⟩))) | (refine Xo.g rfl rfl ?_; (first | (with_reducible refine Xw.tf rfl rfl ?_) | (with_reducible refine Xw.caseB (fun h => ?_) (fun h => ?_) <;> simp only [h, decide_true, decide_false, Bool.not_true, Bool.not_false, and_self, and_true, true_and, and_false, false_and]))))) | (refine XO.done rfl ?_; refine hK _ _ ?_; clear hK K) | refine X.seq rfl ?_ | refine X.region rfl (fun K hK => ?_) | refine X.skip rfl ?_ | refine X.ret rfl ?_ | (refine X.ite rfl rfl (fun hc => ?_); (first | (with_reducible refine Xb.t hc ?_) | (with_reducible refine Xb.case hc (fun h => ?_) (fun h => ?_))) <;> clear hc))
        all_goals try (exfalso; contradiction)
        all_goals refine ret_one (by first | exact .inr rfl | exact .inl rfl) Tryz.results33 rfl (H' := H) (by (repeat (first | exact List.Sublist.refl _ | apply List.Sublist.cons)); done) ?_; simp only [and_true, true_and]
        all_goals first
          | (have hno : ¬ 1 ≤ val T T.worst T.short := by omega
             rw [if_neg (fun q => hno q.least)])
          | rw [if_pos ⟨h1, h2, h3.1, h3.2.1, h3.2.2.1, h3.2.2.2, by omega⟩]
      · have c1 := hasClasses_spec T p
        have c2 := hasNumbers_spec T p
        have c3 := fun H h => hasTables_spec T p H h h1.1 h1.2.1
        simp only [decide_eq_true h1] at c1
        simp only [decide_eq_true h2] at c2
        simp only [decide_eq_false h3] at c3
        refine Fc.mk (callable Tryz.call33) Tryz.func33 rfl Tryz.ntmps33 rfl ?_; dsimp only [fr]
        repeat' (first | (refine XO.op rfl ?_; (first | ((first | refine Xo.ng rfl ?_ | (refine Xo.g rfl rfl ?_; with_reducible refine Xw.ff ?_)); (first | (refine Xg.call (EnF.st rfl (Args.cons rfl Args.nil)) rfl rfl (c1 _) ?_; rintro _ H9 ⟨rfl, hH9⟩; subst H9) | (refine Xg.call (EnF.st rfl (Args.cons rfl Args.nil)) rfl rfl (c2 _) ?_; rintro _ H9 ⟨rfl, hH9⟩; subst H9) | (refine Xg.call (EnF.st rfl (Args.cons rfl Args.nil)) rfl rfl (c3 _ (hT1 _)) ?_; rintro _ H9 ⟨rfl, hH9⟩; subst H9) | (refine Xg.ev (EvF.move rfl rfl) rfl rfl ?_) | (refine Xg.ev (EvF.assign rfl rfl) rfl rfl ?_) | (refine Xg.ev (EvF.pickT rfl rfl rfl) rfl rfl ?_) | (refine Xg.ev (EvF.pickF rfl rfl rfl) rfl rfl ?_) | (refine Xg.ev (EvF.not rfl rfl) rfl rfl ?_) | (refine Xg.ev (EvF.loadV rfl rfl (LoadV.whole (te rfl) rfl (List.Mem.head _) rfl)) rfl rfl ?_) | (refine Xg.st (StF.boxAgg rfl rfl) rfl rfl ?_; rintro _ _ ⟨bx, rfl, rfl⟩))) | (refine Xo.g rfl rfl ?_; (first | (with_reducible refine Xw.tf rfl rfl ?_) | (with_reducible refine Xw.caseB (fun h => ?_) (fun h => ?_) <;> simp only [h, decide_true, decide_false, Bool.not_true, Bool.not_false, and_self, and_true, true_and, and_false, false_and]))))) | (refine XO.done rfl ?_; refine hK _ _ ?_; clear hK K) | refine X.seq rfl ?_ | refine X.region rfl (fun K hK => ?_) | refine X.ret rfl ?_ | (refine X.ite rfl rfl (fun hc => ?_); (first | (with_reducible refine Xb.t hc ?_)) <;> clear hc))
        all_goals try (exfalso; contradiction)
        refine ret_one (by first | exact .inr rfl | exact .inl rfl) Tryz.results33 rfl (H' := H) (by (repeat (first | exact List.Sublist.refl _ | apply List.Sublist.cons)); done) ?_; simp only [and_true, true_and]
        rw [if_neg (fun q => h3 ⟨q.gr, q.st, q.ord, q.zero⟩)]
    · have c1 := hasClasses_spec T p
      have c2 := hasNumbers_spec T p
      simp only [decide_eq_true h1] at c1
      simp only [decide_eq_false h2] at c2
      refine Fc.mk (callable Tryz.call33) Tryz.func33 rfl Tryz.ntmps33 rfl ?_; dsimp only [fr]
      repeat' (first | (refine XO.op rfl ?_; (first | ((first | refine Xo.ng rfl ?_ | (refine Xo.g rfl rfl ?_; with_reducible refine Xw.ff ?_)); (first | (refine Xg.call (EnF.st rfl (Args.cons rfl Args.nil)) rfl rfl (c1 _) ?_; rintro _ H9 ⟨rfl, hH9⟩; subst H9) | (refine Xg.call (EnF.st rfl (Args.cons rfl Args.nil)) rfl rfl (c2 _) ?_; rintro _ H9 ⟨rfl, hH9⟩; subst H9) | (refine Xg.ev (EvF.move rfl rfl) rfl rfl ?_) | (refine Xg.ev (EvF.assign rfl rfl) rfl rfl ?_) | (refine Xg.ev (EvF.pickT rfl rfl rfl) rfl rfl ?_) | (refine Xg.ev (EvF.pickF rfl rfl rfl) rfl rfl ?_) | (refine Xg.ev (EvF.not rfl rfl) rfl rfl ?_) | (refine Xg.ev (EvF.loadV rfl rfl (LoadV.whole (te rfl) rfl (List.Mem.head _) rfl)) rfl rfl ?_) | (refine Xg.st (StF.boxAgg rfl rfl) rfl rfl ?_; rintro _ _ ⟨bx, rfl, rfl⟩))) | (refine Xo.g rfl rfl ?_; (first | (with_reducible refine Xw.tf rfl rfl ?_) | (with_reducible refine Xw.caseB (fun h => ?_) (fun h => ?_) <;> simp only [h, decide_true, decide_false, Bool.not_true, Bool.not_false, and_self, and_true, true_and, and_false, false_and]))))) | (refine XO.done rfl ?_; refine hK _ _ ?_; clear hK K) | refine X.seq rfl ?_ | refine X.region rfl (fun K hK => ?_) | refine X.ret rfl ?_ | (refine X.ite rfl rfl (fun hc => ?_); (first | (with_reducible refine Xb.t hc ?_)) <;> clear hc))
      all_goals try (exfalso; contradiction)
      refine ret_one (by first | exact .inr rfl | exact .inl rfl) Tryz.results33 rfl (H' := H) (by (repeat (first | exact List.Sublist.refl _ | apply List.Sublist.cons)); done) ?_; simp only [and_true, true_and]
      rw [if_neg (fun q => h2 q.num)]
  · have c1 := hasClasses_spec T p
    simp only [decide_eq_false h1] at c1
    refine Fc.mk (callable Tryz.call33) Tryz.func33 rfl Tryz.ntmps33 rfl ?_; dsimp only [fr]
    repeat' (first | (refine XO.op rfl ?_; (first | ((first | refine Xo.ng rfl ?_ | (refine Xo.g rfl rfl ?_; with_reducible refine Xw.ff ?_)); (first | (refine Xg.call (EnF.st rfl (Args.cons rfl Args.nil)) rfl rfl (c1 _) ?_; rintro _ H9 ⟨rfl, hH9⟩; subst H9) | (refine Xg.ev (EvF.move rfl rfl) rfl rfl ?_) | (refine Xg.ev (EvF.assign rfl rfl) rfl rfl ?_) | (refine Xg.ev (EvF.pickT rfl rfl rfl) rfl rfl ?_) | (refine Xg.ev (EvF.not rfl rfl) rfl rfl ?_) | (refine Xg.ev (EvF.loadV rfl rfl (LoadV.whole (te rfl) rfl (List.Mem.head _) rfl)) rfl rfl ?_) | (refine Xg.st (StF.boxAgg rfl rfl) rfl rfl ?_; rintro _ _ ⟨bx, rfl, rfl⟩))) | (refine Xo.g rfl rfl ?_; (first | (with_reducible refine Xw.tf rfl rfl ?_) | (with_reducible refine Xw.caseB (fun h => ?_) (fun h => ?_) <;> simp only [h, decide_true, decide_false, Bool.not_true, Bool.not_false, and_self, and_true, true_and, and_false, false_and]))))) | (refine XO.done rfl ?_; refine hK _ _ ?_; clear hK K) | refine X.seq rfl ?_ | refine X.region rfl (fun K hK => ?_) | refine X.ret rfl ?_ | (refine X.ite rfl rfl (fun hc => ?_); (first | (with_reducible refine Xb.t hc ?_)) <;> clear hc))
    all_goals try (exfalso; contradiction)
    refine ret_one (by first | exact .inr rfl | exact .inl rfl) Tryz.results33 rfl (H' := H) (by (repeat (first | exact List.Sublist.refl _ | apply List.Sublist.cons)); done) ?_; simp only [and_true, true_and]
    rw [if_neg (fun q => h1 q.cls)]
end Go.Proofs.YtjejppodhpdckaaGreat
end
section
set_option linter.unusedVariables false
set_option linter.unusedSimpArgs false
namespace Go.Proofs.YtjejppodhpdckaaGreat
open Go Go.Fw
set_option maxRecDepth 10000
/-- a day, with where its tables lie -/
structure Dy where
  price : Int
  G : List Int
  S : List Int
  a1 : Option Addr
  c1 : Nat
  a2 : Option Addr
  c2 : Nat
def cDy (d : Dy) : List Value := [.int .i64 d.price, .slice d.a1 d.G.length d.c1, .slice d.a2 d.S.length d.c2]
structure DyOk (H : List Row) (d : Dy) : Prop where
  gr : SlE H d.a1 cI 1 d.G
  st : SlE H d.a2 cI 1 d.S
  l1 : d.G.length ≤ 1000000
  l2 : d.S.length ≤ 1000000
theorem DyOk.sub {H H' : List Row} {d : Dy} (h : DyOk H d) (hs : ∀ r ∈ H, r ∈ H') : DyOk H' d := ⟨h.gr.sub hs, h.st.sub hs, h.l1, h.l2⟩
/-- what a call is about -/
structure Ab where
  days : List Dy
  lots : List Lo
  months : List Int
  some : List Lo
structure Pa where
  a0 : Option Addr
  c0 : Nat
  a1 : Option Addr
  c1 : Nat
  a2 : Option Addr
  c2 : Nat
  a3 : Option Addr
  c3 : Nat
def cAb (A : Ab) (p : Pa) : List Value := [.slice p.a0 A.days.length p.c0, .slice p.a1 A.lots.length p.c1, .slice p.a2 A.months.length p.c2, .slice p.a3 A.some.length p.c3]
structure AbOk (H : List Row) (A : Ab) (p : Pa) : Prop where
  days : SlE H p.a0 cDy 3 A.days
  lots : SlE H p.a1 cLo 4 A.lots
  months : SlE H p.a2 cI 1 A.months
  some : SlE H p.a3 cLo 4 A.some
  each : ∀ d ∈ A.days, DyOk H d
  l0 : A.days.length ≤ 1000000
  l1 : A.lots.length ≤ 1000000
  l2 : A.months.length ≤ 1000000
  l3 : A.some.length ≤ 1000000
theorem AbOk.sub {H H' : List Row} {A : Ab} {p : Pa} (h : AbOk H A p) (hs : ∀ r ∈ H, r ∈ H') : AbOk H' A p := ⟨h.days.sub hs, h.lots.sub hs, h.months.sub hs, h.some.sub hs, fun d hd => (h.each d hd).sub hs, h.l0, h.l1, h.l2, h.l3⟩
theorem indexFunc_specLo (l : List Lo) (a : Option Addr) (c g : Nat) (p : Lo → Bool) (cap : List Value) (H : List Row) (hl : SlE H a cLo 4 l) (hb : l.length ≤ 9223372036854775807) (hf : ∀ e ∈ l, Fc Tryz.prog g ([.agg (cLo e).toArray] ++ cap) H (fun v H' => v = .bool (p e) ∧ H' = H)) :
    Fc Tryz.prog 140 [.slice a l.length c, .func (.func g) #[] cap.toArray] H (fun v H' => (∃ z, v = .int .i64 z ∧ IdxR p l z) ∧ H' = H) := by
  refine Fc.mk (callable Tryz.call140) Tryz.func140 rfl Tryz.ntmps140 rfl ?_; dsimp only [fr]
  repeat' (first | (refine XO.op rfl ?_; (first | ((first | refine Xo.ng rfl ?_); (first | (refine Xg.ev (EvF.move rfl rfl) rfl rfl ?_) | (refine Xg.ev (EvF.assign rfl rfl) rfl rfl ?_) | (refine Xg.ev (EvF.cmp rfl rfl rfl rfl) rfl rfl ?_) | (refine Xg.ev (EvF.lenSlice rfl rfl (te rfl)) rfl rfl ?_))))) | (refine XO.done rfl ?_; refine hK _ _ ?_; clear hK K) | refine X.seq rfl ?_ | refine X.region rfl (fun K hK => ?_) | refine X.block rfl ?_ | (refine X.brk rfl ?_; repeat (first | refine blockX_hit rfl ?_ | refine blockX_miss (by decide) ?_)) | refine X.skip rfl ?_ | refine X.ret rfl ?_ | (refine X.ite rfl rfl (fun hc => ?_); (first | (with_reducible refine Xb.case hc (fun h => ?_) (fun h => ?_))) <;> clear hc))
  refine X.lp rfl (fun q F' H' => ∃ k : Nat, q = l.length - k ∧ k ≤ l.length ∧ (∀ i e, i < k → l[i]? = some e → p e = false) ∧ H = H' ∧
      F' = [(0, .slice a l.length c), (1, .func (.func g) #[] cap.toArray), (7, .int .i64 l.length), (8, .int .i64 k)])
    l.length [(0, .slice a l.length c), (1, .func (.func g) #[] cap.toArray), (7, .int .i64 l.length), (8, .int .i64 (0 : Nat))] _ (by (repeat (first | exact Sub.nil _ | refine Sub.cons rfl ?_)); done) (by (repeat (first | exact List.Sublist.refl _ | apply List.Sublist.cons_cons | apply List.Sublist.cons)); done) ⟨0, by omega, by omega, (fun i e hi => absurd hi (by omega)), rfl, rfl⟩ ?_
  rintro _ _ H2 ⟨k, rfl, hk, hn, hH, rfl⟩
  subst hH
  repeat' (first | (refine XO.op rfl ?_; (first | ((first | refine Xo.ng rfl ?_); (first | (refine Xg.ev (EvF.move rfl rfl) rfl rfl ?_) | (refine Xg.ev (EvF.assign rfl rfl) rfl rfl ?_) | (refine Xg.ev (EvF.cmp rfl rfl rfl rfl) rfl rfl ?_) | (refine Xg.ev (EvF.lenSlice rfl rfl (te rfl)) rfl rfl ?_))))) | (refine XO.done rfl ?_; refine hK _ _ ?_; clear hK K) | refine X.seq rfl ?_ | refine X.region rfl (fun K hK => ?_) | refine X.block rfl ?_ | (refine X.brk rfl ?_; repeat (first | refine blockX_hit rfl ?_ | refine blockX_miss (by decide) ?_)) | refine X.skip rfl ?_ | refine X.ret rfl ?_ | (refine X.ite rfl rfl (fun hc => ?_); (first | (with_reducible refine Xb.case hc (fun h => ?_) (fun h => ?_))) <;> clear hc))
  · obtain ⟨b, off, e, rfl, he⟩ := hl.elem (i := k) (by omega)
    repeat' (first | (refine XO.op rfl ?_; (first | ((first | refine Xo.ng rfl ?_); (first | (refine Xg.ev (EvF.loadV rfl rfl (LoadV.elA0 hl he (te rfl) rfl (fun _ hm => hm) rfl)) rfl rfl ?_) | (refine Xg.call (EnF.dyn0 rfl rfl (by (repeat (first | exact Args.nil | refine Args.cons rfl ?_)); done)) rfl rfl (hf e (List.mem_of_getElem? he)) ?_; rintro _ H9 ⟨rfl, hH9⟩; subst H9) | (refine Xg.ev (EvF.move rfl rfl) rfl rfl ?_) | (refine Xg.ev (EvF.assign rfl rfl) rfl rfl ?_) | (refine Xg.ev (EvF.add64 rfl rfl rfl (by omega) (by omega)) rfl rfl ?_) | (refine Xg.ev (EvF.indexSlice rfl rfl rfl (te rfl) (te rfl) (by omega) (by omega)) rfl rfl ?_))))) | (refine XO.done rfl ?_; refine hK _ _ ?_; clear hK K) | refine X.seq rfl ?_ | refine X.region rfl (fun K hK => ?_) | refine X.skip rfl ?_ | refine X.ret rfl ?_ | (refine X.ite rfl rfl (fun hc => ?_); (first | (with_reducible refine Xb.caseB hc (fun h => ?_) (fun h => ?_))) <;> clear hc))
    · refine ret_one (by first | exact .inr rfl | exact .inl rfl) Tryz.results140 rfl (H' := H) (by (repeat (first | exact List.Sublist.refl _ | apply List.Sublist.cons)); done) ?_; simp only [and_true, true_and]
      exact ⟨_, rfl, .inr ⟨k, e, rfl, he, by assumption, hn⟩⟩
    · refine ⟨_, _, _, (by (repeat (first | exact Sub.nil _ | refine Sub.cons rfl ?_)); done), (by (repeat (first | exact List.Sublist.refl _ | apply List.Sublist.cons_cons | apply List.Sublist.cons)); done), ⟨k + 1, rfl, by omega, (fun i e' hi he' => ?_), rfl, rfl⟩, by omega⟩
      rcases Nat.lt_or_ge i k with h1 | h1
      · exact hn i e' h1 he'
      · obtain rfl : i = k := by omega
        rw [he] at he'; cases he'; assumption
  · refine ret_one (by first | exact .inr rfl | exact .inl rfl) Tryz.results140 rfl (H' := H) (by (repeat (first | exact List.Sublist.refl _ | apply List.Sublist.cons)); done) ?_; simp only [and_true, true_and]
    refine ⟨_, rfl, .inl ⟨rfl, fun e he => ?_⟩⟩
    obtain ⟨i, hi, rfl⟩ := List.mem_iff_getElem.1 he
    exact hn i _ (by omega) (List.getElem?_eq_getElem hi)
theorem containsFunc_specLo (l : List Lo) (a : Option Addr) (c g : Nat) (p : Lo → Bool) (cap : List Value) (H : List Row) (hl : SlE H a cLo 4 l) (hb : l.length ≤ 9223372036854775807) (hf : ∀ e ∈ l, Fc Tryz.prog g ([.agg (cLo e).toArray] ++ cap) H (fun v H' => v = .bool (p e) ∧ H' = H)) :
    Fc Tryz.prog 136 [.slice a l.length c, .func (.func g) #[] cap.toArray] H (fun v H' => v = .bool (decide (∃ e ∈ l, p e = true)) ∧ H' = H) := by
  refine Fc.mk (callable Tryz.call136) Tryz.func136 rfl Tryz.ntmps136 rfl ?_; dsimp only [fr]
  repeat' (first | (refine XO.op rfl ?_; (first | ((first | refine Xo.ng rfl ?_); (first | (refine Xg.call (EnF.st rfl (Args.cons rfl (Args.cons rfl Args.nil))) rfl rfl (indexFunc_specLo l a c g p cap H hl hb hf) ?_; rintro _ H9 ⟨⟨z, rfl, hz⟩, hH9⟩; subst H9) | (refine Xg.ev (EvF.move rfl rfl) rfl rfl ?_) | (refine Xg.ev (EvF.assign rfl rfl) rfl rfl ?_) | (refine Xg.ev (EvF.cmp rfl rfl rfl rfl) rfl rfl ?_))))) | (refine XO.done rfl ?_; refine hK _ _ ?_; clear hK K) | refine X.seq rfl ?_ | refine X.region rfl (fun K hK => ?_) | refine X.ret rfl ?_)
  refine ret_one (by first | exact .inr rfl | exact .inl rfl) Tryz.results136 rfl (H' := H) (by (repeat (first | exact List.Sublist.refl _ | apply List.Sublist.cons)); done) ?_; simp only [and_true, true_and]
  congr 1
  exact decide_eq_decide.2 hz.ge
theorem indexFunc_specDy (l : List Dy) (a : Option Addr) (c g : Nat) (p : Dy → Bool) (cap : List Value) (H : List Row) (hl : SlE H a cDy 3 l) (hb : l.length ≤ 9223372036854775807) (hf : ∀ e ∈ l, Fc Tryz.prog g ([.agg (cDy e).toArray] ++ cap) H (fun v H' => v = .bool (p e) ∧ H' = H)) :
    Fc Tryz.prog 135 [.slice a l.length c, .func (.func g) #[] cap.toArray] H (fun v H' => (∃ z, v = .int .i64 z ∧ IdxR p l z) ∧ H' = H) := by
  refine Fc.mk (callable Tryz.call135) Tryz.func135 rfl Tryz.ntmps135 rfl ?_; dsimp only [fr]
  repeat' (first | (refine XO.op rfl ?_; (first | ((first | refine Xo.ng rfl ?_); (first | (refine Xg.ev (EvF.move rfl rfl) rfl rfl ?_) | (refine Xg.ev (EvF.assign rfl rfl) rfl rfl ?_) | (refine Xg.ev (EvF.cmp rfl rfl rfl rfl) rfl rfl ?_) | (refine Xg.ev (EvF.lenSlice rfl rfl (te rfl)) rfl rfl ?_))))) | (refine XO.done rfl ?_; refine hK _ _ ?_; clear hK K) | refine X.seq rfl ?_ | refine X.region rfl (fun K hK => ?_) | refine X.block rfl ?_ | (refine X.brk rfl ?_; repeat (first | refine blockX_hit rfl ?_ | refine blockX_miss (by decide) ?_)) | refine X.skip rfl ?_ | refine X.ret rfl ?_ | (refine X.ite rfl rfl (fun hc => ?_); (first | (with_reducible refine Xb.case hc (fun h => ?_) (fun h => ?_))) <;> clear hc))
  refine X.lp rfl (fun q F' H' => ∃ k : Nat, q = l.length - k ∧ k ≤ l.length ∧ (∀ i e, i < k → l[i]? = some e → p e = false) ∧ H = H' ∧
      F' = [(0, .slice a l.length c), (1, .func (.func g) #[] cap.toArray), (7, .int .i64 l.length), (8, .int .i64 k)])
    l.length [(0, .slice a l.length c), (1, .func (.func g) #[] cap.toArray), (7, .int .i64 l.length), (8, .int .i64 (0 : Nat))] _ (by (repeat (first | exact Sub.nil _ | refine Sub.cons rfl ?_)); done) (by (repeat (first | exact List.Sublist.refl _ | apply List.Sublist.cons_cons | apply List.Sublist.cons)); done) ⟨0, by omega, by omega, (fun i e hi => absurd hi (by omega)), rfl, rfl⟩ ?_
  rintro _ _ H2 ⟨k, rfl, hk, hn, hH, rfl⟩
  subst hH
  repeat' (first | (refine XO.op rfl ?_; (first | ((first | refine Xo.ng rfl ?_); (first | (refine Xg.ev (EvF.move rfl rfl) rfl rfl ?_) | (refine Xg.ev (EvF.assign rfl rfl) rfl rfl ?_) | (refine Xg.ev (EvF.cmp rfl rfl rfl rfl) rfl rfl ?_) | (refine Xg.ev (EvF.lenSlice rfl rfl (te rfl)) rfl rfl ?_))))) | (refine XO.done rfl ?_; refine hK _ _ ?_; clear hK K) | refine X.seq rfl ?_ | refine X.region rfl (fun K hK => ?_) | refine X.block rfl ?_ | (refine X.brk rfl ?_; repeat (first | refine blockX_hit rfl ?_ | refine blockX_miss (by decide) ?_)) | refine X.skip rfl ?_ | refine X.ret rfl ?_ | (refine X.ite rfl rfl (fun hc => ?_); (first | (with_reducible refine Xb.case hc (fun h => ?_) (fun h => ?_))) <;> clear hc))
  · obtain ⟨b, off, e, rfl, he⟩ := hl.elem (i := k) (by omega)
    repeat' (first | (refine XO.op rfl ?_; (first | ((first | refine Xo.ng rfl ?_); (first | (refine Xg.ev (EvF.loadV rfl rfl (LoadV.elA0 hl he (te rfl) rfl (fun _ hm => hm) rfl)) rfl rfl ?_) | (refine Xg.call (EnF.dyn0 rfl rfl (by (repeat (first | exact Args.nil | refine Args.cons rfl ?_)); done)) rfl rfl (hf e (List.mem_of_getElem? he)) ?_; rintro _ H9 ⟨rfl, hH9⟩; subst H9) | (refine Xg.ev (EvF.move rfl rfl) rfl rfl ?_) | (refine Xg.ev (EvF.assign rfl rfl) rfl rfl ?_) | (refine Xg.ev (EvF.add64 rfl rfl rfl (by omega) (by omega)) rfl rfl ?_) | (refine Xg.ev (EvF.indexSlice rfl rfl rfl (te rfl) (te rfl) (by omega) (by omega)) rfl rfl ?_))))) | (refine XO.done rfl ?_; refine hK _ _ ?_; clear hK K) | refine X.seq rfl ?_ | refine X.region rfl (fun K hK => ?_) | refine X.skip rfl ?_ | refine X.ret rfl ?_ | (refine X.ite rfl rfl (fun hc => ?_); (first | (with_reducible refine Xb.caseB hc (fun h => ?_) (fun h => ?_))) <;> clear hc))
    · refine ret_one (by first | exact .inr rfl | exact .inl rfl) Tryz.results135 rfl (H' := H) (by (repeat (first | exact List.Sublist.refl _ | apply List.Sublist.cons)); done) ?_; simp only [and_true, true_and]
      exact ⟨_, rfl, .inr ⟨k, e, rfl, he, by assumption, hn⟩⟩
    · refine ⟨_, _, _, (by (repeat (first | exact Sub.nil _ | refine Sub.cons rfl ?_)); done), (by (repeat (first | exact List.Sublist.refl _ | apply List.Sublist.cons_cons | apply List.Sublist.cons)); done), ⟨k + 1, rfl, by omega, (fun i e' hi he' => ?_), rfl, rfl⟩, by omega⟩
      rcases Nat.lt_or_ge i k with h1 | h1
      · exact hn i e' h1 he'
      · obtain rfl : i = k := by omega
        rw [he] at he'; cases he'; assumption
  · refine ret_one (by first | exact .inr rfl | exact .inl rfl) Tryz.results135 rfl (H' := H) (by (repeat (first | exact List.Sublist.refl _ | apply List.Sublist.cons)); done) ?_; simp only [and_true, true_and]
    refine ⟨_, rfl, .inl ⟨rfl, fun e he => ?_⟩⟩
    obtain ⟨i, hi, rfl⟩ := List.mem_iff_getElem.1 he
    exact hn i _ (by omega) (List.getElem?_eq_getElem hi)
theorem containsFunc_specDy (l : List Dy) (a : Option Addr) (c g : Nat) (p : Dy → Bool) (cap : List Value) (H : List Row) (hl : SlE H a cDy 3 l) (hb : l.length ≤ 9223372036854775807) (hf : ∀ e ∈ l, Fc Tryz.prog g ([.agg (cDy e).toArray] ++ cap) H (fun v H' => v = .bool (p e) ∧ H' = H)) :
    Fc Tryz.prog 109 [.slice a l.length c, .func (.func g) #[] cap.toArray] H (fun v H' => v = .bool (decide (∃ e ∈ l, p e = true)) ∧ H' = H) := by
  refine Fc.mk (callable Tryz.call109) Tryz.func109 rfl Tryz.ntmps109 rfl ?_; dsimp only [fr]
  repeat' (first | (refine XO.op rfl ?_; (first | ((first | refine Xo.ng rfl ?_); (first | (refine Xg.call (EnF.st rfl (Args.cons rfl (Args.cons rfl Args.nil))) rfl rfl (indexFunc_specDy l a c g p cap H hl hb hf) ?_; rintro _ H9 ⟨⟨z, rfl, hz⟩, hH9⟩; subst H9) | (refine Xg.ev (EvF.move rfl rfl) rfl rfl ?_) | (refine Xg.ev (EvF.assign rfl rfl) rfl rfl ?_) | (refine Xg.ev (EvF.cmp rfl rfl rfl rfl) rfl rfl ?_))))) | (refine XO.done rfl ?_; refine hK _ _ ?_; clear hK K) | refine X.seq rfl ?_ | refine X.region rfl (fun K hK => ?_) | refine X.ret rfl ?_)
  refine ret_one (by first | exact .inr rfl | exact .inl rfl) Tryz.results109 rfl (H' := H) (by (repeat (first | exact List.Sublist.refl _ | apply List.Sublist.cons)); done) ?_; simp only [and_true, true_and]
  congr 1
  exact decide_eq_decide.2 hz.ge
def partOk (a b : Int) : Prop := a ≤ b ∧ (1 ≤ a ∧ a ≤ 9) ∧ (1 ≤ b ∧ b ≤ 9)
instance (a b : Int) : Decidable (partOk a b) := by unfold partOk; infer_instance
theorem areGrades1_spec (l : Lo) (H : List Row) : Fc Tryz.prog 137 ([.agg (cLo l).toArray] ++ []) H (fun v H' => v = .bool (!decide (partOk l.g1 l.g2)) ∧ H' = H) := by
  show Fc Tryz.prog 137 [.agg (cLo l).toArray] H _
  refine Fc.mk (callable Tryz.call137) Tryz.func137 rfl Tryz.ntmps137 rfl ?_; dsimp only [fr]
  repeat' (first | (refine XO.op rfl ?_; (first | ((first | refine Xo.ng rfl ?_); (first | (refine Xg.call (EnF.st rfl (Args.cons rfl (Args.cons rfl (Args.cons rfl Args.nil)))) rfl rfl (part_spec ⟨l.g1, l.g2⟩ _ _ _) ?_; rintro _ H9 ⟨rfl, hH9⟩; subst H9) | (refine Xg.ev (EvF.loadV rfl rfl (LoadV.ownAgg (vs := cSp ⟨l.g1, l.g2⟩) (te rfl) rfl (List.Mem.head _) rfl rfl)) rfl rfl ?_) | (refine Xg.ev (EvF.assign rfl rfl) rfl rfl ?_) | (refine Xg.ev (EvF.not rfl rfl) rfl rfl ?_) | (refine Xg.ev (EvF.fieldAddr rfl rfl (te rfl) rfl (te rfl) (by decide)) rfl rfl ?_) | (refine Xg.st (StF.boxAgg rfl rfl) rfl rfl ?_; rintro _ _ ⟨bx, rfl, rfl⟩))))) | (refine XO.done rfl ?_; refine hK _ _ ?_; clear hK K) | refine X.seq rfl ?_ | refine X.region rfl (fun K hK => ?_) | refine X.ret rfl ?_)
  refine ret_one (by first | exact .inr rfl | exact .inl rfl) Tryz.results137 rfl (H' := H) (by (repeat (first | exact List.Sublist.refl _ | apply List.Sublist.cons)); done) ?_; simp only [and_true, true_and]
  rfl
theorem areStaples1_spec (l : Lo) (H : List Row) : Fc Tryz.prog 138 ([.agg (cLo l).toArray] ++ []) H (fun v H' => v = .bool (!decide (partOk l.s1 l.s2)) ∧ H' = H) := by
  show Fc Tryz.prog 138 [.agg (cLo l).toArray] H _
  refine Fc.mk (callable Tryz.call138) Tryz.func138 rfl Tryz.ntmps138 rfl ?_; dsimp only [fr]
  repeat' (first | (refine XO.op rfl ?_; (first | ((first | refine Xo.ng rfl ?_); (first | (refine Xg.call (EnF.st rfl (Args.cons rfl (Args.cons rfl (Args.cons rfl Args.nil)))) rfl rfl (part_spec ⟨l.s1, l.s2⟩ _ _ _) ?_; rintro _ H9 ⟨rfl, hH9⟩; subst H9) | (refine Xg.ev (EvF.loadV rfl rfl (LoadV.ownAgg (vs := cSp ⟨l.s1, l.s2⟩) (te rfl) rfl (List.Mem.head _) rfl rfl)) rfl rfl ?_) | (refine Xg.ev (EvF.assign rfl rfl) rfl rfl ?_) | (refine Xg.ev (EvF.not rfl rfl) rfl rfl ?_) | (refine Xg.ev (EvF.fieldAddr rfl rfl (te rfl) rfl (te rfl) (by decide)) rfl rfl ?_) | (refine Xg.st (StF.boxAgg rfl rfl) rfl rfl ?_; rintro _ _ ⟨bx, rfl, rfl⟩))))) | (refine XO.done rfl ?_; refine hK _ _ ?_; clear hK K) | refine X.seq rfl ?_ | refine X.region rfl (fun K hK => ?_) | refine X.ret rfl ?_)
  refine ret_one (by first | exact .inr rfl | exact .inl rfl) Tryz.results138 rfl (H' := H) (by (repeat (first | exact List.Sublist.refl _ | apply List.Sublist.cons)); done) ?_; simp only [and_true, true_and]
  rfl
def inb (l : Lo) : Prop := (1 ≤ l.g1 ∧ l.g1 ≤ 9) ∧ (1 ≤ l.g2 ∧ l.g2 ≤ 9) ∧ (1 ≤ l.s1 ∧ l.s1 ≤ 9) ∧ (1 ≤ l.s2 ∧ l.s2 ≤ 9)
theorem flatMap_le {α β : Type} {f : α → List β} {n : Nat} : ∀ (l : List α), (∀ x ∈ l, (f x).length ≤ n) → (l.flatMap f).length ≤ l.length * n
  | [], _ => by simp
  | x :: l, h => by
    rw [List.flatMap_cons, List.length_append, List.length_cons, Nat.succ_mul]
    have := flatMap_le l (fun y hy => h y (List.mem_cons_of_mem _ hy))
    have := h x List.mem_cons_self
    omega
theorem cls_len (T : Tm) {l : Lo} (h : inb l) : (cls T l).length ≤ 81 := by
  unfold inb at h
  have h1 : (cls T l).length ≤ (ir l.g1 l.g2).length * 9 := flatMap_le _ (fun g _ => by
    unfold rowC
    refine Nat.le_trans (List.length_filter_le _ _) ?_
    rw [List.length_map, ir_len]; omega)
  rw [ir_len] at h1
  have : (l.g2 - l.g1 + 1).toNat ≤ 9 := by omega
  have := Nat.mul_le_mul_right 9 this
  omega
theorem allowSome1_spec (T : Tm) (p : Pt) (l : Lo) (b cap : Nat) (ow : Option Kd) (H : List Row) (hm : ⟨b, 0, cTm T p, ow, cap⟩ ∈ H) (h : inb l) : Fc Tryz.prog 139 ([.agg (cLo l).toArray] ++ [.pointer (some ⟨b, 0, none⟩)]) H (fun v H' => v = .bool (decide ((cls T l).length = 0)) ∧ H' = H) := by
  show Fc Tryz.prog 139 [.agg (cLo l).toArray, .pointer (some ⟨b, 0, none⟩)] H _
  have hc := cls_len T h
  refine Fc.mk (callable Tryz.call139) Tryz.func139 rfl Tryz.ntmps139 rfl ?_; dsimp only [fr]
  repeat' (first | (refine XO.op rfl ?_; (first | ((first | refine Xo.ng rfl ?_); (first | (refine Xg.ev (EvF.loadV rfl rfl (LoadV.whole (te rfl) rfl (List.Mem.tail _ hm) rfl)) rfl rfl ?_) | (refine Xg.ev (EvF.build (cs := cTm T p) rfl (ArgsP.cons rfl ArgsP.nil) (te rfl) (Places.cons (te rfl) Places.nil) Tryz.zeroValue99 rfl) rfl rfl ?_) | (refine Xg.call (EnF.st rfl (Args.cons rfl (Args.cons rfl Args.nil))) rfl rfl (count_spec T p l _ h (by omega)) ?_; rintro _ H9 ⟨rfl, hH9⟩; subst H9) | (refine Xg.ev (EvF.assign rfl rfl) rfl rfl ?_) | (refine Xg.ev (EvF.cmp rfl rfl rfl rfl) rfl rfl ?_) | (refine Xg.ev (EvF.loadV rfl rfl (LoadV.whole (te rfl) rfl (List.Mem.head _) rfl)) rfl rfl ?_) | (refine Xg.st (StF.boxAgg rfl rfl) rfl rfl ?_; rintro _ _ ⟨bx, rfl, rfl⟩))))) | (refine XO.done rfl ?_; refine hK _ _ ?_; clear hK K) | refine X.seq rfl ?_ | refine X.region rfl (fun K hK => ?_) | refine X.ret rfl ?_)
  refine ret_one (by first | exact .inr rfl | exact .inl rfl) Tryz.results139 rfl (H' := H) (by (repeat (first | exact List.Sublist.refl _ | apply List.Sublist.cons)); done) ?_; simp only [and_true, true_and]
  simp
end Go.Proofs.YtjejppodhpdckaaGreat
end
section
set_option linter.unusedVariables false
set_option linter.unusedSimpArgs false
namespace Go.Proofs.YtjejppodhpdckaaGreat
open Go Go.Fw
set_option maxRecDepth 10000
def dayOk (d : Dy) : Prop := (0 ≤ d.price ∧ d.price ≤ 1000000) ∧ tab d.G ∧ tab d.S ∧ ∀ g s, 1 ≤ g ∧ g ≤ 9 → 1 ≤ s ∧ s ≤ 9 → 0 ≤ d.price + at1 d.G g + at1 d.S s
noncomputable instance (d : Dy) : Decidable (dayOk d) := Classical.propDecidable _
def askD (A : Ab) : Prop := ∀ d ∈ A.days, dayOk d
def askG (A : Ab) : Prop := ∀ l ∈ A.lots, partOk l.g1 l.g2
def askS (A : Ab) : Prop := ∀ l ∈ A.lots, partOk l.s1 l.s2
def askM (A : Ab) : Prop := ∀ n ∈ A.months, 0 ≤ n ∧ n ≤ 60
def askN (T : Tm) (A : Ab) : Prop := ∀ l ∈ A.some, (cls T l).length ≠ 0
noncomputable instance (A : Ab) : Decidable (askD A) := Classical.propDecidable _
noncomputable instance (A : Ab) : Decidable (askG A) := Classical.propDecidable _
noncomputable instance (A : Ab) : Decidable (askS A) := Classical.propDecidable _
noncomputable instance (A : Ab) : Decidable (askM A) := Classical.propDecidable _
noncomputable instance (T : Tm) (A : Ab) : Decidable (askN T A) := Classical.propDecidable _
theorem areValid_spec (T : Tm) (p : Pt) (A : Ab) (q : Pa) (H : List Row) (hT : TmOk H T p) : Fc Tryz.prog 121 ([.agg (cTm T p).toArray, .agg (cAb A q).toArray] ++ []) H (fun v H' => v = .bool (decide (tmOk T)) ∧ H' = H) := by
  show Fc Tryz.prog 121 [.agg (cTm T p).toArray, .agg (cAb A q).toArray] H _
  refine Fc.mk (callable Tryz.call121) Tryz.func121 rfl Tryz.ntmps121 rfl ?_; dsimp only [fr]
  repeat' (first | (refine XO.op rfl ?_; (first | ((first | refine Xo.ng rfl ?_); (first | (refine Xg.call (EnF.st rfl (Args.cons rfl Args.nil)) rfl rfl (check_spec T p _ (hT.sub (fun _ h => List.Mem.tail _ (List.Mem.tail _ h)))) ?_; rintro _ H9 ⟨rfl, hH9⟩; subst H9) | (refine Xg.ev (EvF.assign rfl rfl) rfl rfl ?_) | (refine Xg.ev (EvF.cmp rfl rfl rfl rfl) rfl rfl ?_) | (refine Xg.ev (EvF.loadV rfl rfl (LoadV.whole (te rfl) rfl (List.Mem.tail _ (List.Mem.head _)) rfl)) rfl rfl ?_) | (refine Xg.st (StF.boxAgg rfl rfl) rfl rfl ?_; rintro _ _ ⟨bx, rfl, rfl⟩))))) | (refine XO.done rfl ?_; refine hK _ _ ?_; clear hK K) | refine X.seq rfl ?_ | refine X.region rfl (fun K hK => ?_) | refine X.ret rfl ?_)
  refine ret_one (by first | exact .inr rfl | exact .inl rfl) Tryz.results121 rfl (H' := H) (by (repeat (first | exact List.Sublist.refl _ | apply List.Sublist.cons)); done) ?_; simp only [and_true, true_and]
  congr 1
  by_cases h : tmOk T <;> simp [h]
theorem areDays_spec (T : Tm) (p : Pt) (A : Ab) (q : Pa) (H : List Row) (hA : AbOk H A q) (hd : ∀ d ∈ A.days, ∀ H', DyOk H' d → Fc Tryz.prog 110 ([.agg (cDy d).toArray] ++ []) H' (fun v H'' => v = .bool (!decide (dayOk d)) ∧ H'' = H')) : Fc Tryz.prog 77 ([.agg (cTm T p).toArray, .agg (cAb A q).toArray] ++ []) H (fun v H' => v = .bool (decide (askD A)) ∧ H' = H) := by
  show Fc Tryz.prog 77 [.agg (cTm T p).toArray, .agg (cAb A q).toArray] H _
  refine Fc.mk (callable Tryz.call77) Tryz.func77 rfl Tryz.ntmps77 rfl ?_; dsimp only [fr]
  repeat' (first | (refine XO.op rfl ?_; (first | ((first | refine Xo.ng rfl ?_); (first | (refine Xg.call (EnF.st rfl (Args.cons rfl (Args.cons rfl Args.nil))) rfl rfl (containsFunc_specDy A.days q.a0 q.c0 _ _ [] _ (hA.days.sub (fun _ h => List.Mem.tail _ (List.Mem.tail _ h))) (by have := hA.l0; omega) (fun e he => hd e he _ ((hA.each e he).sub (fun _ h => List.Mem.tail _ (List.Mem.tail _ h))))) ?_; rintro _ H9 ⟨rfl, hH9⟩; subst H9) | (refine Xg.ev (EvF.assign rfl rfl) rfl rfl ?_) | (refine Xg.ev (EvF.not rfl rfl) rfl rfl ?_) | (refine Xg.ev (EvF.fieldAddr rfl rfl (te rfl) rfl (te rfl) (by decide)) rfl rfl ?_) | (refine Xg.ev (EvF.loadV rfl rfl (LoadV.own (te rfl) rfl (List.Mem.head _) rfl)) rfl rfl ?_) | (refine Xg.st (StF.boxAgg rfl rfl) rfl rfl ?_; rintro _ _ ⟨bx, rfl, rfl⟩))))) | (refine XO.done rfl ?_; refine hK _ _ ?_; clear hK K) | refine X.seq rfl ?_ | refine X.region rfl (fun K hK => ?_) | refine X.ret rfl ?_)
  refine ret_one (by first | exact .inr rfl | exact .inl rfl) Tryz.results77 rfl (H' := H) (by (repeat (first | exact List.Sublist.refl _ | apply List.Sublist.cons)); done) ?_; simp only [and_true, true_and]
  exact congrArg _ (all_dec (fun e => by simp) Iff.rfl)
theorem areGrades_spec (T : Tm) (p : Pt) (A : Ab) (q : Pa) (H : List Row) (hA : AbOk H A q) : Fc Tryz.prog 122 ([.agg (cTm T p).toArray, .agg (cAb A q).toArray] ++ []) H (fun v H' => v = .bool (decide (askG A)) ∧ H' = H) := by
  show Fc Tryz.prog 122 [.agg (cTm T p).toArray, .agg (cAb A q).toArray] H _
  refine Fc.mk (callable Tryz.call122) Tryz.func122 rfl Tryz.ntmps122 rfl ?_; dsimp only [fr]
  repeat' (first | (refine XO.op rfl ?_; (first | ((first | refine Xo.ng rfl ?_); (first | (refine Xg.call (EnF.st rfl (Args.cons rfl (Args.cons rfl Args.nil))) rfl rfl (containsFunc_specLo A.lots q.a1 q.c1 _ _ [] _ (hA.lots.sub (fun _ h => List.Mem.tail _ (List.Mem.tail _ h))) (by have := hA.l1; omega) (fun e he => areGrades1_spec e _)) ?_; rintro _ H9 ⟨rfl, hH9⟩; subst H9) | (refine Xg.ev (EvF.assign rfl rfl) rfl rfl ?_) | (refine Xg.ev (EvF.not rfl rfl) rfl rfl ?_) | (refine Xg.ev (EvF.fieldAddr rfl rfl (te rfl) rfl (te rfl) (by decide)) rfl rfl ?_) | (refine Xg.ev (EvF.loadV rfl rfl (LoadV.own (te rfl) rfl (List.Mem.head _) rfl)) rfl rfl ?_) | (refine Xg.st (StF.boxAgg rfl rfl) rfl rfl ?_; rintro _ _ ⟨bx, rfl, rfl⟩))))) | (refine XO.done rfl ?_; refine hK _ _ ?_; clear hK K) | refine X.seq rfl ?_ | refine X.region rfl (fun K hK => ?_) | refine X.ret rfl ?_)
  refine ret_one (by first | exact .inr rfl | exact .inl rfl) Tryz.results122 rfl (H' := H) (by (repeat (first | exact List.Sublist.refl _ | apply List.Sublist.cons)); done) ?_; simp only [and_true, true_and]
  exact congrArg _ (all_dec (fun e => by simp) Iff.rfl)
theorem areStaples_spec (T : Tm) (p : Pt) (A : Ab) (q : Pa) (H : List Row) (hA : AbOk H A q) : Fc Tryz.prog 123 ([.agg (cTm T p).toArray, .agg (cAb A q).toArray] ++ []) H (fun v H' => v = .bool (decide (askS A)) ∧ H' = H) := by
  show Fc Tryz.prog 123 [.agg (cTm T p).toArray, .agg (cAb A q).toArray] H _
  refine Fc.mk (callable Tryz.call123) Tryz.func123 rfl Tryz.ntmps123 rfl ?_; dsimp only [fr]
  repeat' (first | (refine XO.op rfl ?_; (first | ((first | refine Xo.ng rfl ?_); (first | (refine Xg.call (EnF.st rfl (Args.cons rfl (Args.cons rfl Args.nil))) rfl rfl (containsFunc_specLo A.lots q.a1 q.c1 _ _ [] _ (hA.lots.sub (fun _ h => List.Mem.tail _ (List.Mem.tail _ h))) (by have := hA.l1; omega) (fun e he => areStaples1_spec e _)) ?_; rintro _ H9 ⟨rfl, hH9⟩; subst H9) | (refine Xg.ev (EvF.assign rfl rfl) rfl rfl ?_) | (refine Xg.ev (EvF.not rfl rfl) rfl rfl ?_) | (refine Xg.ev (EvF.fieldAddr rfl rfl (te rfl) rfl (te rfl) (by decide)) rfl rfl ?_) | (refine Xg.ev (EvF.loadV rfl rfl (LoadV.own (te rfl) rfl (List.Mem.head _) rfl)) rfl rfl ?_) | (refine Xg.st (StF.boxAgg rfl rfl) rfl rfl ?_; rintro _ _ ⟨bx, rfl, rfl⟩))))) | (refine XO.done rfl ?_; refine hK _ _ ?_; clear hK K) | refine X.seq rfl ?_ | refine X.region rfl (fun K hK => ?_) | refine X.ret rfl ?_)
  refine ret_one (by first | exact .inr rfl | exact .inl rfl) Tryz.results123 rfl (H' := H) (by (repeat (first | exact List.Sublist.refl _ | apply List.Sublist.cons)); done) ?_; simp only [and_true, true_and]
  exact congrArg _ (all_dec (fun e => by simp) Iff.rfl)
theorem areMonths_spec (T : Tm) (p : Pt) (A : Ab) (q : Pa) (H : List Row) (hA : AbOk H A q) : Fc Tryz.prog 124 ([.agg (cTm T p).toArray, .agg (cAb A q).toArray] ++ []) H (fun v H' => v = .bool (decide (askM A)) ∧ H' = H) := by
  show Fc Tryz.prog 124 [.agg (cTm T p).toArray, .agg (cAb A q).toArray] H _
  refine Fc.mk (callable Tryz.call124) Tryz.func124 rfl Tryz.ntmps124 rfl ?_; dsimp only [fr]
  repeat' (first | (refine XO.op rfl ?_; (first | ((first | refine Xo.ng rfl ?_); (first | (refine Xg.ev (EvF.build (cs := cSp ⟨0, 60⟩) rfl (ArgsP.cons rfl (ArgsP.cons rfl ArgsP.nil)) (te rfl) (Places.cons (te rfl) (Places.cons (te rfl) Places.nil)) Tryz.zeroValue30 rfl) rfl rfl ?_) | (refine Xg.call (EnF.st rfl (Args.cons rfl (Args.cons rfl Args.nil))) rfl rfl (withinL_spec ⟨0, 60⟩ A.months q.a2 q.c2 _ (hA.months.sub (fun _ h => List.Mem.tail _ (List.Mem.tail _ h))) (by have := hA.l2; omega)) ?_; rintro _ H9 ⟨rfl, hH9⟩; subst H9) | (refine Xg.ev (EvF.assign rfl rfl) rfl rfl ?_) | (refine Xg.ev (EvF.fieldAddr rfl rfl (te rfl) rfl (te rfl) (by decide)) rfl rfl ?_) | (refine Xg.ev (EvF.loadV rfl rfl (LoadV.own (te rfl) rfl (List.Mem.head _) rfl)) rfl rfl ?_) | (refine Xg.st (StF.boxAgg rfl rfl) rfl rfl ?_; rintro _ _ ⟨bx, rfl, rfl⟩))))) | (refine XO.done rfl ?_; refine hK _ _ ?_; clear hK K) | refine X.seq rfl ?_ | refine X.region rfl (fun K hK => ?_) | refine X.ret rfl ?_)
  refine ret_one (by first | exact .inr rfl | exact .inl rfl) Tryz.results124 rfl (H' := H) (by (repeat (first | exact List.Sublist.refl _ | apply List.Sublist.cons)); done) ?_; simp only [and_true, true_and]
  exact congrArg _ (decide_eq_decide.2 Iff.rfl)
theorem allowSome_spec (T : Tm) (p : Pt) (A : Ab) (q : Pa) (H : List Row) (hA : AbOk H A q) (hi : ∀ l ∈ A.some, inb l) : Fc Tryz.prog 125 ([.agg (cTm T p).toArray, .agg (cAb A q).toArray] ++ []) H (fun v H' => v = .bool (decide (askN T A)) ∧ H' = H) := by
  show Fc Tryz.prog 125 [.agg (cTm T p).toArray, .agg (cAb A q).toArray] H _
  refine Fc.mk (callable Tryz.call125) Tryz.func125 rfl Tryz.ntmps125 rfl ?_; dsimp only [fr]
  repeat' (first | (refine XO.op rfl ?_; (first | ((first | refine Xo.ng rfl ?_); (first | (refine Xg.ev (EvF.makeFunc rfl Args.nil (Args.cons rfl Args.nil)) rfl rfl ?_) | (refine Xg.call (EnF.st rfl (Args.cons rfl (Args.cons rfl Args.nil))) rfl rfl (containsFunc_specLo A.some q.a3 q.c3 _ (fun l => decide ((cls T l).length = 0)) [_] _ (hA.some.sub (fun _ h => List.Mem.tail _ (List.Mem.tail _ h))) (by have := hA.l3; omega) (fun e he => allowSome1_spec T p e _ _ _ _ (List.Mem.tail _ (List.Mem.head _)) (hi e he))) ?_; rintro _ H9 ⟨rfl, hH9⟩; subst H9) | (refine Xg.ev (EvF.assign rfl rfl) rfl rfl ?_) | (refine Xg.ev (EvF.not rfl rfl) rfl rfl ?_) | (refine Xg.ev (EvF.fieldAddr rfl rfl (te rfl) rfl (te rfl) (by decide)) rfl rfl ?_) | (refine Xg.ev (EvF.loadV rfl rfl (LoadV.own (te rfl) rfl (List.Mem.head _) rfl)) rfl rfl ?_) | (refine Xg.st (StF.boxAgg rfl rfl) rfl rfl ?_; rintro _ _ ⟨bx, rfl, rfl⟩))))) | (refine XO.done rfl ?_; refine hK _ _ ?_; clear hK K) | refine X.seq rfl ?_ | refine X.region rfl (fun K hK => ?_) | refine X.ret rfl ?_)
  refine ret_one (by first | exact .inr rfl | exact .inl rfl) Tryz.results125 rfl (H' := H) (by (repeat (first | exact List.Sublist.refl _ | apply List.Sublist.cons)); done) ?_; simp only [and_true, true_and]
  exact congrArg _ (all_dec (fun e => by simp) Iff.rfl)
/-- a question and its error -/
structure Qn where
  f : Nat
  e : Int
def cQn (q : Qn) : List Value := [.func (.func q.f) #[] #[], .int .i64 q.e]
def qs6 : List Qn := [⟨121, 40⟩, ⟨77, 43⟩, ⟨122, 41⟩, ⟨123, 42⟩, ⟨124, 44⟩, ⟨125, 6⟩]
def cQ6 : List Value := qs6.flatMap cQn
theorem questions_spec (H : List Row) : Fc Tryz.prog 93 [] H (fun v H' => v = .agg cQ6.toArray ∧ H' = H) := by
  refine Fc.mk (callable Tryz.call93) Tryz.func93 rfl Tryz.ntmps93 rfl ?_; dsimp only [fr]
  repeat' (first | (refine XO.op rfl ?_; (first | ((first | refine Xo.ng rfl ?_); (first | (refine Xg.ev (EvF.build (cs := cQn ⟨121, 40⟩) rfl (ArgsP.cons rfl (ArgsP.cons rfl ArgsP.nil)) (te rfl) (Places.cons (te rfl) (Places.cons (te rfl) Places.nil)) Tryz.zeroValue146 rfl) rfl rfl ?_) | (refine Xg.ev (EvF.build (cs := cQn ⟨77, 43⟩) rfl (ArgsP.cons rfl (ArgsP.cons rfl ArgsP.nil)) (te rfl) (Places.cons (te rfl) (Places.cons (te rfl) Places.nil)) Tryz.zeroValue146 rfl) rfl rfl ?_) | (refine Xg.ev (EvF.build (cs := cQn ⟨122, 41⟩) rfl (ArgsP.cons rfl (ArgsP.cons rfl ArgsP.nil)) (te rfl) (Places.cons (te rfl) (Places.cons (te rfl) Places.nil)) Tryz.zeroValue146 rfl) rfl rfl ?_) | (refine Xg.ev (EvF.build (cs := cQn ⟨123, 42⟩) rfl (ArgsP.cons rfl (ArgsP.cons rfl ArgsP.nil)) (te rfl) (Places.cons (te rfl) (Places.cons (te rfl) Places.nil)) Tryz.zeroValue146 rfl) rfl rfl ?_) | (refine Xg.ev (EvF.build (cs := cQn ⟨124, 44⟩) rfl (ArgsP.cons rfl (ArgsP.cons rfl ArgsP.nil)) (te rfl) (Places.cons (te rfl) (Places.cons (te rfl) Places.nil)) Tryz.zeroValue146 rfl) rfl rfl ?_) | (refine Xg.ev (EvF.build (cs := cQn ⟨125, 6⟩) rfl (ArgsP.cons rfl (ArgsP.cons rfl ArgsP.nil)) (te rfl) (Places.cons (te rfl) (Places.cons (te rfl) Places.nil)) Tryz.zeroValue146 rfl) rfl rfl ?_) | (refine Xg.ev (EvF.buildArr (cs := cQ6) rfl (ArgsP.cons rfl (ArgsP.cons rfl (ArgsP.cons rfl (ArgsP.cons rfl (ArgsP.cons rfl (ArgsP.cons rfl ArgsP.nil)))))) (te rfl) (te rfl) Tryz.zeroValue147 rfl) rfl rfl ?_) | (refine Xg.st (StF.alloc rfl Tryz.zeroValue147 rfl) rfl rfl ?_; rintro _ _ ⟨bx, rfl, rfl⟩) | (refine Xg.st0 (StF.storeAll (i := 0) rfl rfl rfl (te rfl) rfl rfl rfl rfl) rfl ?_; rintro _ _ ⟨rfl, rfl⟩; dsimp only [List.set]))))) | (refine XO.done rfl ?_; refine hK _ _ ?_; clear hK K) | refine X.seq rfl ?_ | refine X.region rfl (fun K hK => ?_) | refine X.ret rfl ?_)
  exact ret_one (by first | exact .inr rfl | exact .inl rfl) Tryz.results93 ⟨_, rfl, LoadV.whole (te rfl) rfl (List.Mem.head _) rfl⟩ (H' := H) (by (repeat (first | exact List.Sublist.refl _ | apply List.Sublist.cons)); done) ⟨rfl, rfl⟩
set_option maxHeartbeats 4000000 in
theorem asked_spec (T : Tm) (p : Pt) (A : Ab) (q : Pa) (qs : List Qn) (a : Option Addr) (c : Nat) (ok : Nat → Bool) (H : List Row) (hq : SlE H a cQn 2 qs) (hb : qs.length ≤ 1000)
    (hf : ∀ k x, qs[k]? = some x → (∀ j, j < k → ok j = true) → ∀ Z : List Row, Fc Tryz.prog x.f ([.agg (cTm T p).toArray, .agg (cAb A q).toArray] ++ []) (Z ++ H) (fun v H' => v = .bool (ok k) ∧ H' = Z ++ H)) :
    Fc Tryz.prog 94 [.agg (cTm T p).toArray, .agg (cAb A q).toArray, .slice a qs.length c] H (fun v H' => ((v = .int .i64 0 ∧ ∀ j, j < qs.length → ok j = true) ∨ ∃ k x, qs[k]? = some x ∧ ok k = false ∧ (∀ j, j < k → ok j = true) ∧ v = .int .i64 x.e) ∧ H' = H) := by
  refine Fc.mk (callable Tryz.call94) Tryz.func94 rfl Tryz.ntmps94 rfl ?_; dsimp only [fr]
  repeat' (first | (refine XO.op rfl ?_; (first | ((first | refine Xo.ng rfl ?_); (first | (refine Xg.ev (EvF.move rfl rfl) rfl rfl ?_) | (refine Xg.ev (EvF.assign rfl rfl) rfl rfl ?_) | (refine Xg.ev (EvF.cmp rfl rfl rfl rfl) rfl rfl ?_) | (refine Xg.ev (EvF.lenSlice rfl rfl (te rfl)) rfl rfl ?_) | (refine Xg.st (StF.boxAgg rfl rfl) rfl rfl ?_; rintro _ _ ⟨bx, rfl, rfl⟩))))) | (refine XO.done rfl ?_; refine hK _ _ ?_; clear hK K) | refine X.seq rfl ?_ | refine X.region rfl (fun K hK => ?_) | refine X.block rfl ?_ | (refine X.brk rfl ?_; repeat (first | refine blockX_hit rfl ?_ | refine blockX_miss (by decide) ?_)) | refine X.skip rfl ?_ | refine X.ret rfl ?_ | (refine X.ite rfl rfl (fun hc => ?_); (first | (with_reducible refine Xb.case hc (fun h => ?_) (fun h => ?_))) <;> clear hc))
  rename_i b1; rename Nat => b2
  refine X.lp rfl (fun m F' H' => ∃ k : Nat, m = qs.length - k ∧ k ≤ qs.length ∧ (∀ j, j < k → ok j = true) ∧ ⟨b2, 0, cAb A q, some 97, 4⟩ :: ⟨b1, 0, cTm T p, some 32, 11⟩ :: H = H' ∧
      F' = [(3, .pointer (some ⟨b1, 0, none⟩)), (4, .pointer (some ⟨b2, 0, none⟩)), (9, .slice a qs.length c), (10, .int .i64 qs.length), (11, .int .i64 k)])
    qs.length [(3, .pointer (some ⟨b1, 0, none⟩)), (4, .pointer (some ⟨b2, 0, none⟩)), (9, .slice a qs.length c), (10, .int .i64 qs.length), (11, .int .i64 (0 : Nat))] _ (by (repeat (first | exact Sub.nil _ | refine Sub.cons rfl ?_)); done) (by (repeat (first | exact List.Sublist.refl _ | apply List.Sublist.cons_cons | apply List.Sublist.cons)); done) ⟨0, by omega, by omega, (fun j hj => absurd hj (by omega)), rfl, rfl⟩ ?_
  rintro _ _ H2 ⟨k, rfl, hk, hn, hH, rfl⟩
  subst hH
  repeat' (first | (refine XO.op rfl ?_; (first | ((first | refine Xo.ng rfl ?_); (first | (refine Xg.ev (EvF.move rfl rfl) rfl rfl ?_) | (refine Xg.ev (EvF.assign rfl rfl) rfl rfl ?_) | (refine Xg.ev (EvF.cmp rfl rfl rfl rfl) rfl rfl ?_) | (refine Xg.ev (EvF.lenSlice rfl rfl (te rfl)) rfl rfl ?_) | (refine Xg.st (StF.boxAgg rfl rfl) rfl rfl ?_; rintro _ _ ⟨bx, rfl, rfl⟩))))) | (refine XO.done rfl ?_; refine hK _ _ ?_; clear hK K) | refine X.seq rfl ?_ | refine X.region rfl (fun K hK => ?_) | refine X.block rfl ?_ | (refine X.brk rfl ?_; repeat (first | refine blockX_hit rfl ?_ | refine blockX_miss (by decide) ?_)) | refine X.skip rfl ?_ | refine X.ret rfl ?_ | (refine X.ite rfl rfl (fun hc => ?_); (first | (with_reducible refine Xb.case hc (fun h => ?_) (fun h => ?_))) <;> clear hc))
  · obtain ⟨b, off, e, rfl, he⟩ := hq.elem (i := k) (by omega)
    have hq2 : ∀ r1 r2, SlE (r1 :: r2 :: H) (some ⟨b, off, none⟩) cQn 2 qs := fun r1 r2 => hq.sub (fun _ h => List.Mem.tail _ (List.Mem.tail _ h))
    obtain ⟨f, er⟩ := e
    repeat' (first | (refine XO.op rfl ?_; (first | ((first | refine Xo.ng rfl ?_); (first | (refine Xg.ev (EvF.loadV rfl rfl (LoadV.elA0 (hq2 _ _) he (te rfl) rfl (fun _ hm => hm) rfl)) rfl rfl ?_) | (refine Xg.call (EnF.dyn0 rfl rfl (by (repeat (first | exact Args.nil | refine Args.cons rfl ?_)); done)) rfl rfl (hf k ⟨f, er⟩ he hn [_, _, _]) ?_; rintro _ H9 ⟨rfl, hH9⟩; subst H9) | (refine Xg.ev (EvF.move rfl rfl) rfl rfl ?_) | (refine Xg.ev (EvF.assign rfl rfl) rfl rfl ?_) | (refine Xg.ev (EvF.add64 rfl rfl rfl (by omega) (by omega)) rfl rfl ?_) | (refine Xg.ev (EvF.not rfl rfl) rfl rfl ?_) | (refine Xg.ev (EvF.fieldAddr rfl rfl (te rfl) rfl (te rfl) (by decide)) rfl rfl ?_) | (refine Xg.ev (EvF.indexSlice rfl rfl rfl (te rfl) (te rfl) (by omega) (by omega)) rfl rfl ?_) | (refine Xg.ev (EvF.loadV rfl rfl (LoadV.own (te rfl) rfl (List.Mem.head _) rfl)) rfl rfl ?_) | (refine Xg.ev (EvF.loadV rfl rfl (LoadV.whole (te rfl) rfl (List.Mem.tail _ (List.Mem.head _)) rfl)) rfl rfl ?_) | (refine Xg.ev (EvF.loadV rfl rfl (LoadV.whole (te rfl) rfl (List.Mem.tail _ (List.Mem.tail _ (List.Mem.head _))) rfl)) rfl rfl ?_) | (refine Xg.st (StF.alloc rfl Tryz.zeroValue146 rfl) rfl rfl ?_; rintro _ _ ⟨bx, rfl, rfl⟩) | (refine Xg.st0 (StF.storeAll (i := 0) rfl rfl rfl (te rfl) rfl rfl rfl rfl) rfl ?_; rintro _ _ ⟨rfl, rfl⟩; dsimp only [List.set]))))) | (refine XO.done rfl ?_; refine hK _ _ ?_; clear hK K) | refine X.seq rfl ?_ | refine X.region rfl (fun K hK => ?_) | refine X.skip rfl ?_ | refine X.ret rfl ?_ | (refine X.ite rfl rfl (fun hc => ?_); (first | (with_reducible refine Xb.caseB hc (fun h => ?_) (fun h => ?_))) <;> clear hc))
    · refine ret_one (by first | exact .inr rfl | exact .inl rfl) Tryz.results94 rfl (H' := H) (by simp only [List.cons_append, List.nil_append]; exact (by (repeat (first | exact List.Sublist.refl _ | apply List.Sublist.cons)); done)) ⟨.inr ⟨k, _, he, ?_, hn, rfl⟩, rfl⟩
      simpa using (by assumption : (!ok k) = true)
    · refine ⟨_, _, _, (by (repeat (first | exact Sub.nil _ | refine Sub.cons rfl ?_)); done), (by simp only [List.cons_append, List.nil_append]; exact (by (repeat (first | exact List.Sublist.refl _ | apply List.Sublist.cons_cons | apply List.Sublist.cons)); done)), ⟨k + 1, rfl, by omega, (fun j hj => ?_), rfl, rfl⟩, by omega⟩
      rcases Nat.lt_or_ge j k with h1 | h1
      · exact hn j h1
      · obtain rfl : j = k := by omega
        simpa using (by assumption : (!ok j) = false)
  · refine ret_one (by first | exact .inr rfl | exact .inl rfl) Tryz.results94 rfl (H' := H) (by (repeat (first | exact List.Sublist.refl _ | apply List.Sublist.cons)); done) ⟨.inl ⟨rfl, fun j hj => hn j (by omega)⟩, rfl⟩
noncomputable def openE (T : Tm) (A : Ab) : Int := if tmOk T then (if askD A then (if askG A then (if askS A then (if askM A then (if askN T A then 0 else 6) else 44) else 42) else 41) else 43) else 40
noncomputable def okQ (T : Tm) (A : Ab) : Nat → Bool
  | 0 => decide (tmOk T)
  | 1 => decide (askD A)
  | 2 => decide (askG A)
  | 3 => decide (askS A)
  | 4 => decide (askM A)
  | 5 => decide (askN T A)
  | _ => true
def Tz : Tm := ⟨0, 0, 0, 0, 0, [], [], 0, 0, 0, 0⟩
def pz : Pt := ⟨none, 0, none, 0⟩
set_option maxHeartbeats 4000000 in
theorem asked6_spec (T : Tm) (p : Pt) (A : Ab) (q : Pa) (b cap : Nat) (ow : Option Kd) (H : List Row) (hT : TmOk H T p) (hA : AbOk H A q) (hm : ⟨b, 0, cQ6, ow, cap⟩ ∈ H)
    (hd : ∀ d ∈ A.days, ∀ H', DyOk H' d → Fc Tryz.prog 110 ([.agg (cDy d).toArray] ++ []) H' (fun v H'' => v = .bool (!decide (dayOk d)) ∧ H'' = H')) (hi : askG A → askS A → ∀ l ∈ A.some, inb l) :
    Fc Tryz.prog 94 [.agg (cTm T p).toArray, .agg (cAb A q).toArray, .slice (some ⟨b, 0, none⟩) 6 6] H (fun v H' => v = .int .i64 (openE T A) ∧ H' = H) := by
  refine (asked_spec T p A q qs6 (some ⟨b, 0, none⟩) 6 (okQ T A) H (SlE.ofRow (cap := cap) (ow := ow) hm (fun _ _ => rfl)) (by decide) ?_).mono ?_
  · intro k x hx hok Z
    have hT' : TmOk (Z ++ H) T p := hT.sub (fun _ h => List.mem_append_right _ h)
    have hA' : AbOk (Z ++ H) A q := hA.sub (fun _ h => List.mem_append_right _ h)
    rcases (show k = 0 ∨ k = 1 ∨ k = 2 ∨ k = 3 ∨ k = 4 ∨ k = 5 by have := (List.getElem?_eq_some_iff.1 hx).1; simp [qs6] at this; omega) with rfl | rfl | rfl | rfl | rfl | rfl
    all_goals (simp [qs6] at hx; subst hx)
    · exact areValid_spec T p A q _ hT'
    · exact areDays_spec T p A q _ hA' hd
    · exact areGrades_spec T p A q _ hA'
    · exact areStaples_spec T p A q _ hA'
    · exact areMonths_spec T p A q _ hA'
    · exact allowSome_spec T p A q _ hA' (hi (of_decide_eq_true (hok 2 (by decide))) (of_decide_eq_true (hok 3 (by decide))))
  · rintro v H' ⟨⟨rfl, hok⟩ | ⟨k, x, hx, hno, hok, rfl⟩, rfl⟩
    · refine ⟨?_, rfl⟩
      have h0 := of_decide_eq_true (hok 0 (by decide)); have h1 := of_decide_eq_true (hok 1 (by decide)); have h2 := of_decide_eq_true (hok 2 (by decide)); have h3 := of_decide_eq_true (hok 3 (by decide)); have h4 := of_decide_eq_true (hok 4 (by decide)); have h5 := of_decide_eq_true (hok 5 (by decide))
      unfold openE
      rw [if_pos h0, if_pos h1, if_pos h2, if_pos h3, if_pos h4, if_pos h5]
    · refine ⟨?_, rfl⟩
      have hk : ∀ j, j < k → okQ T A j = true := hok
      rcases (show k = 0 ∨ k = 1 ∨ k = 2 ∨ k = 3 ∨ k = 4 ∨ k = 5 by have := (List.getElem?_eq_some_iff.1 hx).1; simp [qs6] at this; omega) with rfl | rfl | rfl | rfl | rfl | rfl
      all_goals (simp [qs6] at hx; subst hx; unfold openE)
      · rw [if_neg (of_decide_eq_false hno)]
      · rw [if_pos (of_decide_eq_true (hk 0 (by decide))), if_neg (of_decide_eq_false hno)]
      · rw [if_pos (of_decide_eq_true (hk 0 (by decide))), if_pos (of_decide_eq_true (hk 1 (by decide))), if_neg (of_decide_eq_false hno)]
      · rw [if_pos (of_decide_eq_true (hk 0 (by decide))), if_pos (of_decide_eq_true (hk 1 (by decide))), if_pos (of_decide_eq_true (hk 2 (by decide))), if_neg (of_decide_eq_false hno)]
      · rw [if_pos (of_decide_eq_true (hk 0 (by decide))), if_pos (of_decide_eq_true (hk 1 (by decide))), if_pos (of_decide_eq_true (hk 2 (by decide))), if_pos (of_decide_eq_true (hk 3 (by decide))), if_neg (of_decide_eq_false hno)]
      · rw [if_pos (of_decide_eq_true (hk 0 (by decide))), if_pos (of_decide_eq_true (hk 1 (by decide))), if_pos (of_decide_eq_true (hk 2 (by decide))), if_pos (of_decide_eq_true (hk 3 (by decide))), if_pos (of_decide_eq_true (hk 4 (by decide))), if_neg (of_decide_eq_false hno)]
abbrev HD (A : Ab) : Prop := ∀ d ∈ A.days, ∀ H', DyOk H' d → Fc Tryz.prog 110 ([.agg (cDy d).toArray] ++ []) H' (fun v H'' => v = .bool (!decide (dayOk d)) ∧ H'' = H')
abbrev HI (A : Ab) : Prop := askG A → askS A → ∀ l ∈ A.some, inb l
set_option maxHeartbeats 4000000 in
theorem open_spec (T : Tm) (p : Pt) (A : Ab) (q : Pa) (H : List Row) (hT : TmOk H T p) (hA : AbOk H A q) (hd : HD A) (hi : HI A) :
    Fc Tryz.prog 59 [.agg (cTm T p).toArray, .agg (cAb A q).toArray] H (fun v H' => ((openE T A = 0 ∧ v = .tuple #[.agg (cTm T p).toArray, .int .i64 0]) ∨ (openE T A ≠ 0 ∧ v = .tuple #[.agg (cTm Tz pz).toArray, .int .i64 (openE T A)])) ∧ H' = H) := by
  have hT4 : ∀ r1 r2 r3 r4, TmOk (r1 :: r2 :: r3 :: r4 :: H) T p := fun r1 r2 r3 r4 => hT.sub (fun _ h => List.Mem.tail _ (List.Mem.tail _ (List.Mem.tail _ (List.Mem.tail _ h))))
  have hA4 : ∀ r1 r2 r3 r4, AbOk (r1 :: r2 :: r3 :: r4 :: H) A q := fun r1 r2 r3 r4 => hA.sub (fun _ h => List.Mem.tail _ (List.Mem.tail _ (List.Mem.tail _ (List.Mem.tail _ h))))
  refine Fc.mk (callable Tryz.call59) Tryz.func59 rfl Tryz.ntmps59 rfl ?_; dsimp only [fr]
  repeat' (first | (refine XO.op rfl ?_; (first | ((first | refine Xo.ng rfl ?_); (first | (refine Xg.call (EnF.st rfl (by (repeat (first | exact Args.nil | refine Args.cons rfl ?_)); done)) rfl rfl (questions_spec _) ?_; rintro _ H9 ⟨rfl, hH9⟩; subst H9) | (refine Xg.st (StF.alloc rfl Tryz.zeroValue147 rfl) rfl rfl ?_; rintro _ _ ⟨bx, rfl, rfl⟩) | (refine Xg.st0 (StF.storeAll (i := 0) (vs := cQ6) rfl rfl rfl (te rfl) rfl rfl rfl rfl) rfl ?_; rintro _ _ ⟨rfl, rfl⟩; dsimp only [List.set]) | (refine Xg.ev (EvF.build (cs := cTm T p) rfl (ArgsP.cons rfl ArgsP.nil) (te rfl) (Places.cons (te rfl) Places.nil) Tryz.zeroValue99 rfl) rfl rfl ?_) | (refine Xg.ev (EvF.build (cs := cTm Tz pz) rfl ArgsP.nil (te rfl) (Places.cons (te rfl) Places.nil) Tryz.zeroValue99 rfl) rfl rfl ?_) | (refine Xg.ev (EvF.move rfl rfl) rfl rfl ?_) | (refine Xg.ev (EvF.assign rfl rfl) rfl rfl ?_) | (refine Xg.ev (EvF.cmp rfl rfl rfl rfl) rfl rfl ?_) | (refine Xg.ev (EvF.loadV rfl rfl (LoadV.whole (te rfl) rfl (List.Mem.tail _ (List.Mem.tail _ (List.Mem.tail _ (List.Mem.head _)))) rfl)) rfl rfl ?_) | (refine Xg.st (StF.boxAgg rfl rfl) rfl rfl ?_; rintro _ _ ⟨bx, rfl, rfl⟩) | (refine Xg.st (StF.alloc rfl Tryz.zeroValue32 rfl) rfl rfl ?_; rintro _ _ ⟨bx, rfl, rfl⟩) | (refine Xg.st0 (StF.storeAll (i := 1) rfl rfl rfl (te rfl) rfl rfl rfl rfl) rfl ?_; rintro _ _ ⟨rfl, rfl⟩; dsimp only [List.set]))))) | (refine XO.done rfl ?_; refine hK _ _ ?_; clear hK K) | (refine XQ.op rfl ?_; (first | ((first | refine Yo.ng rfl ?_); (first | (refine Yg.ev (EvF.sliceArrAll rfl rfl (te rfl) (te rfl)) rfl rfl ?_) | (refine Yg.call (EnF.st rfl (Args.cons rfl (Args.cons rfl (Args.cons rfl Args.nil)))) rfl rfl (asked6_spec T p A q _ _ _ _ (hT4 _ _ _ _) (hA4 _ _ _ _) (List.Mem.head _) hd hi) ?_) | (refine Yg.ev (EvF.assign rfl rfl) rfl rfl ?_) | (refine Yg.ev (EvF.loadV rfl rfl (LoadV.whole (te rfl) rfl (List.Mem.tail _ (List.Mem.tail _ (List.Mem.head _))) rfl)) rfl rfl ?_) | (refine Yg.ev (EvF.loadV rfl rfl (LoadV.whole (te rfl) rfl (List.Mem.tail _ (List.Mem.tail _ (List.Mem.tail _ (List.Mem.head _)))) rfl)) rfl rfl ?_))))) | (refine XQ.done rfl ?_; refine hK _ ?_; clear hK K) | refine X.seq rfl ?_ | refine X.region rfl (fun K hK => ?_) | refine X.regionD rfl mixed (by kernel_rfl) (fun K hK => ?_) | refine X.skip rfl ?_ | refine X.ret rfl ?_ | (refine X.ite rfl rfl (fun hc => ?_); (first | (with_reducible refine Xb.caseN hc (fun h => ?_) (fun h => ?_))) <;> clear hc))
  · exact ret_two (by first | exact .inr rfl | exact .inl rfl) Tryz.results59 ⟨_, rfl, LoadV.whole (te rfl) rfl (List.Mem.tail _ (List.Mem.head _)) rfl⟩ rfl (H' := H) (by (repeat (first | exact List.Sublist.refl _ | apply List.Sublist.cons)); done) ⟨.inr ⟨by assumption, rfl⟩, rfl⟩
  · exact ret_two (by first | exact .inr rfl | exact .inl rfl) Tryz.results59 ⟨_, rfl, LoadV.whole (te rfl) rfl (List.Mem.tail _ (List.Mem.head _)) rfl⟩ rfl (H' := H) (by (repeat (first | exact List.Sublist.refl _ | apply List.Sublist.cons)); done) ⟨.inl ⟨by assumption, rfl⟩, rfl⟩
end Go.Proofs.YtjejppodhpdckaaGreat
end
section
set_option linter.unusedVariables false
set_option linter.unusedSimpArgs false
namespace Go.Proofs.YtjejppodhpdckaaGreat
open Go Go.Fw
set_option maxRecDepth 10000
theorem open_fn (T : Tm) (p : Pt) (A : Ab) (hd : HD A) (hi : HI A) : ∃ (TX : Tm) (q : Pt), (openE T A = 0 → TX = T ∧ q = p) ∧ ∀ (pa : Pa) (H : List Row), TmOk H T p → AbOk H A pa →
    Fc Tryz.prog 59 [.agg (cTm T p).toArray, .agg (cAb A pa).toArray] H (fun v H' => v = .tuple #[.agg (cTm TX q).toArray, .int .i64 (openE T A)] ∧ H' = H) := by
  by_cases h : openE T A = 0
  · refine ⟨T, p, fun _ => ⟨rfl, rfl⟩, fun pa H hT hA => (open_spec T p A pa H hT hA hd hi).mono fun v H' ⟨h1, h2⟩ => ⟨?_, h2⟩⟩
    rcases h1 with ⟨_, h1⟩ | ⟨h0, _⟩
    · rw [h1, h]
    · exact absurd h h0
  · refine ⟨Tz, pz, fun h0 => absurd h0 h, fun pa H hT hA => (open_spec T p A pa H hT hA hd hi).mono fun v H' ⟨h1, h2⟩ => ⟨?_, h2⟩⟩
    rcases h1 with ⟨h0, _⟩ | ⟨_, h1⟩
    · exact absurd h0 h
    · exact h1
theorem lttoldB_spec (T : Tm) (p : Pt) (e : Int) (f : Nat) (cap : List Value) (r : Bool) (H : List Row)
    (ht : e = 0 → ∀ Z : List Row, Fc Tryz.prog f ([.agg (cTm T p).toArray] ++ cap) (Z ++ H) (fun v H' => v = Value.bool r ∧ H' = Z ++ H)) :
    Fc Tryz.prog 91 [.agg (cTm T p).toArray, .int .i64 e, .func (.func f) #[] cap.toArray] H (fun v H' => v = .tuple #[Value.bool (if e = 0 then r else false), .int .i64 e] ∧ H' = H) := by
  by_cases h0 : e = 0
  · subst h0
    rw [if_pos rfl]
    refine Fc.mk (callable Tryz.call91) Tryz.func91 rfl Tryz.ntmps91 rfl ?_; dsimp only [fr]
    repeat' (first | (refine XO.op rfl ?_; (first | ((first | refine Xo.ng rfl ?_); (first | (refine Xg.call (EnF.dyn0 rfl rfl (by (repeat (first | exact Args.nil | refine Args.cons rfl ?_)); done)) rfl rfl (ht rfl [_]) ?_; rintro _ H9 ⟨rfl, hH9⟩; subst H9) | (refine Xg.ev (EvF.move rfl rfl) rfl rfl ?_) | (refine Xg.ev (EvF.assign rfl rfl) rfl rfl ?_) | (refine Xg.ev (EvF.cmp rfl rfl rfl rfl) rfl rfl ?_) | (refine Xg.ev (EvF.loadV rfl rfl (LoadV.whole (te rfl) rfl (List.Mem.head _) rfl)) rfl rfl ?_) | (refine Xg.st (StF.boxAgg rfl rfl) rfl rfl ?_; rintro _ _ ⟨bx, rfl, rfl⟩))))) | (refine XO.done rfl ?_; refine hK _ _ ?_; clear hK K) | refine X.seq rfl ?_ | refine X.region rfl (fun K hK => ?_) | refine X.skip rfl ?_ | refine X.ret rfl ?_ | (refine X.ite rfl rfl (fun hc => ?_); (first | (with_reducible refine Xb.caseN hc (fun h => ?_) (fun h => ?_))) <;> clear hc))
    all_goals try (exfalso; contradiction)
    exact ret_two (by first | exact .inr rfl | exact .inl rfl) Tryz.results91 rfl rfl (H' := H) (by simp only [List.cons_append, List.nil_append]; exact (by (repeat (first | exact List.Sublist.refl _ | apply List.Sublist.cons)); done)) ⟨rfl, rfl⟩
  · rw [if_neg h0]
    refine Fc.mk (callable Tryz.call91) Tryz.func91 rfl Tryz.ntmps91 rfl ?_; dsimp only [fr]
    repeat' (first | (refine XO.op rfl ?_; (first | ((first | refine Xo.ng rfl ?_); (first | (refine Xg.ev (EvF.cmp (b := true) rfl rfl rfl (congrArg some (by simp [h0]))) rfl rfl ?_) | (refine Xg.ev (EvF.move rfl rfl) rfl rfl ?_) | (refine Xg.ev (EvF.assign rfl rfl) rfl rfl ?_) | (refine Xg.st (StF.boxAgg rfl rfl) rfl rfl ?_; rintro _ _ ⟨bx, rfl, rfl⟩))))) | (refine XO.done rfl ?_; refine hK _ _ ?_; clear hK K) | refine X.seq rfl ?_ | refine X.region rfl (fun K hK => ?_) | refine X.ret rfl ?_ | (refine X.ite rfl rfl (fun hc => ?_); (first | (with_reducible refine Xb.t hc ?_)) <;> clear hc))
    all_goals try (exfalso; contradiction)
    exact ret_two (by first | exact .inr rfl | exact .inl rfl) Tryz.results91 rfl rfl (H' := H) (by (repeat (first | exact List.Sublist.refl _ | apply List.Sublist.cons)); done) ⟨rfl, rfl⟩
set_option maxHeartbeats 4000000 in
theorem toldB_spec (T : Tm) (p : Pt) (A : Ab) (q : Pa) (f : Nat) (cap : List Value) (r : Bool) (H : List Row) (hT : TmOk H T p) (hA : AbOk H A q) (hd : HD A) (hi : HI A)
    (ht : openE T A = 0 → ∀ Z : List Row, Fc Tryz.prog f ([.agg (cTm T p).toArray] ++ cap) (Z ++ H) (fun v H' => v = Value.bool r ∧ H' = Z ++ H)) :
    Fc Tryz.prog 49 [.agg (cTm T p).toArray, .agg (cAb A q).toArray, .func (.func f) #[] cap.toArray] H (fun v H' => v = .tuple #[Value.bool (if openE T A = 0 then r else false), .int .i64 (openE T A)] ∧ H' = H) := by
  have hT4 : ∀ Z : List Row, TmOk (Z ++ H) T p := fun Z => hT.sub (fun _ h => List.mem_append_right _ h)
  have hA4 : ∀ Z : List Row, AbOk (Z ++ H) A q := fun Z => hA.sub (fun _ h => List.mem_append_right _ h)
  obtain ⟨TX, pX, hTX, hop⟩ := open_fn T p A hd hi
  have hl : ∀ Z : List Row, Fc Tryz.prog 91 [.agg (cTm TX pX).toArray, .int .i64 (openE T A), .func (.func f) #[] cap.toArray] (Z ++ H) (fun v H' => v = .tuple #[Value.bool (if openE T A = 0 then r else false), .int .i64 (openE T A)] ∧ H' = Z ++ H) := fun Z => lttoldB_spec TX pX _ f cap r _ (fun h0 Z' => by obtain ⟨rfl, rfl⟩ := hTX h0; rw [← List.append_assoc]; exact ht h0 _)
  obtain ⟨er, her⟩ : ∃ e, openE T A = e := ⟨_, rfl⟩
  obtain ⟨rr, hrr⟩ : ∃ x, (if openE T A = 0 then r else false) = x := ⟨_, rfl⟩
  rw [hrr, her] at hl
  rw [hrr, her]
  rw [her] at hop
  refine Fc.mk (callable Tryz.call49) Tryz.func49 rfl Tryz.ntmps49 rfl ?_; dsimp only [fr]
  repeat' (first | (refine XO.op rfl ?_; (first | ((first | refine Xo.ng rfl ?_); (first | (refine Xg.call (EnF.st rfl (Args.cons rfl (Args.cons rfl Args.nil))) rfl rfl (hop q _ (hT4 [_, _]) (hA4 [_, _])) ?_; rintro _ H9 ⟨rfl, hH9⟩; subst H9) | (refine Xg.call (EnF.st rfl (Args.cons rfl (Args.cons rfl (Args.cons rfl Args.nil)))) rfl rfl (hl [_, _, _]) ?_; rintro _ H9 ⟨rfl, hH9⟩; subst H9) | (refine Xg.ev (EvF.move rfl rfl) rfl rfl ?_) | (refine Xg.ev (EvF.assign rfl rfl) rfl rfl ?_) | (refine Xg.ev (EvF.loadV rfl rfl (LoadV.whole (te rfl) rfl (List.Mem.head _) rfl)) rfl rfl ?_) | (refine Xg.ev (EvF.loadV rfl rfl (LoadV.whole (te rfl) rfl (List.Mem.tail _ (List.Mem.head _)) rfl)) rfl rfl ?_) | (refine Xg.ev (EvF.extract rfl rfl rfl) rfl rfl ?_) | (refine Xg.st (StF.boxAgg rfl rfl) rfl rfl ?_; rintro _ _ ⟨bx, rfl, rfl⟩) | (refine Xg.st (StF.alloc rfl Tryz.zeroValue32 rfl) rfl rfl ?_; rintro _ _ ⟨bx, rfl, rfl⟩) | (refine Xg.st0 (StF.storeAll (i := 0) rfl rfl rfl (te rfl) rfl rfl rfl rfl) rfl ?_; rintro _ _ ⟨rfl, rfl⟩; dsimp only [List.set]))))) | (refine XO.done rfl ?_; refine hK _ _ ?_; clear hK K) | refine X.seq rfl ?_ | refine X.region rfl (fun K hK => ?_) | refine X.ret rfl ?_)
  exact ret_two (by first | exact .inr rfl | exact .inl rfl) Tryz.results49 rfl rfl (H' := H) (by (repeat (first | exact List.Sublist.refl _ | apply List.Sublist.cons)); done) ⟨rfl, rfl⟩
theorem lttoldI_spec (T : Tm) (p : Pt) (e : Int) (f : Nat) (cap : List Value) (r : Int) (H : List Row)
    (ht : e = 0 → ∀ Z : List Row, Fc Tryz.prog f ([.agg (cTm T p).toArray] ++ cap) (Z ++ H) (fun v H' => v = Value.int IntKind.i64 r ∧ H' = Z ++ H)) :
    Fc Tryz.prog 90 [.agg (cTm T p).toArray, .int .i64 e, .func (.func f) #[] cap.toArray] H (fun v H' => v = .tuple #[Value.int IntKind.i64 (if e = 0 then r else 0), .int .i64 e] ∧ H' = H) := by
  by_cases h0 : e = 0
  · subst h0
    rw [if_pos rfl]
    refine Fc.mk (callable Tryz.call90) Tryz.func90 rfl Tryz.ntmps90 rfl ?_; dsimp only [fr]
    repeat' (first | (refine XO.op rfl ?_; (first | ((first | refine Xo.ng rfl ?_); (first | (refine Xg.call (EnF.dyn0 rfl rfl (by (repeat (first | exact Args.nil | refine Args.cons rfl ?_)); done)) rfl rfl (ht rfl [_]) ?_; rintro _ H9 ⟨rfl, hH9⟩; subst H9) | (refine Xg.ev (EvF.move rfl rfl) rfl rfl ?_) | (refine Xg.ev (EvF.assign rfl rfl) rfl rfl ?_) | (refine Xg.ev (EvF.cmp rfl rfl rfl rfl) rfl rfl ?_) | (refine Xg.ev (EvF.loadV rfl rfl (LoadV.whole (te rfl) rfl (List.Mem.head _) rfl)) rfl rfl ?_) | (refine Xg.st (StF.boxAgg rfl rfl) rfl rfl ?_; rintro _ _ ⟨bx, rfl, rfl⟩))))) | (refine XO.done rfl ?_; refine hK _ _ ?_; clear hK K) | refine X.seq rfl ?_ | refine X.region rfl (fun K hK => ?_) | refine X.skip rfl ?_ | refine X.ret rfl ?_ | (refine X.ite rfl rfl (fun hc => ?_); (first | (with_reducible refine Xb.caseN hc (fun h => ?_) (fun h => ?_))) <;> clear hc))
    all_goals try (exfalso; contradiction)
    exact ret_two (by first | exact .inr rfl | exact .inl rfl) Tryz.results90 rfl rfl (H' := H) (by simp only [List.cons_append, List.nil_append]; exact (by (repeat (first | exact List.Sublist.refl _ | apply List.Sublist.cons)); done)) ⟨rfl, rfl⟩
  · rw [if_neg h0]
    refine Fc.mk (callable Tryz.call90) Tryz.func90 rfl Tryz.ntmps90 rfl ?_; dsimp only [fr]
    repeat' (first | (refine XO.op rfl ?_; (first | ((first | refine Xo.ng rfl ?_); (first | (refine Xg.ev (EvF.cmp (b := true) rfl rfl rfl (congrArg some (by simp [h0]))) rfl rfl ?_) | (refine Xg.ev (EvF.move rfl rfl) rfl rfl ?_) | (refine Xg.ev (EvF.assign rfl rfl) rfl rfl ?_) | (refine Xg.st (StF.boxAgg rfl rfl) rfl rfl ?_; rintro _ _ ⟨bx, rfl, rfl⟩))))) | (refine XO.done rfl ?_; refine hK _ _ ?_; clear hK K) | refine X.seq rfl ?_ | refine X.region rfl (fun K hK => ?_) | refine X.ret rfl ?_ | (refine X.ite rfl rfl (fun hc => ?_); (first | (with_reducible refine Xb.t hc ?_)) <;> clear hc))
    all_goals try (exfalso; contradiction)
    exact ret_two (by first | exact .inr rfl | exact .inl rfl) Tryz.results90 rfl rfl (H' := H) (by (repeat (first | exact List.Sublist.refl _ | apply List.Sublist.cons)); done) ⟨rfl, rfl⟩
set_option maxHeartbeats 4000000 in
theorem toldI_spec (T : Tm) (p : Pt) (A : Ab) (q : Pa) (f : Nat) (cap : List Value) (r : Int) (H : List Row) (hT : TmOk H T p) (hA : AbOk H A q) (hd : HD A) (hi : HI A)
    (ht : openE T A = 0 → ∀ Z : List Row, Fc Tryz.prog f ([.agg (cTm T p).toArray] ++ cap) (Z ++ H) (fun v H' => v = Value.int IntKind.i64 r ∧ H' = Z ++ H)) :
    Fc Tryz.prog 46 [.agg (cTm T p).toArray, .agg (cAb A q).toArray, .func (.func f) #[] cap.toArray] H (fun v H' => v = .tuple #[Value.int IntKind.i64 (if openE T A = 0 then r else 0), .int .i64 (openE T A)] ∧ H' = H) := by
  have hT4 : ∀ Z : List Row, TmOk (Z ++ H) T p := fun Z => hT.sub (fun _ h => List.mem_append_right _ h)
  have hA4 : ∀ Z : List Row, AbOk (Z ++ H) A q := fun Z => hA.sub (fun _ h => List.mem_append_right _ h)
  obtain ⟨TX, pX, hTX, hop⟩ := open_fn T p A hd hi
  have hl : ∀ Z : List Row, Fc Tryz.prog 90 [.agg (cTm TX pX).toArray, .int .i64 (openE T A), .func (.func f) #[] cap.toArray] (Z ++ H) (fun v H' => v = .tuple #[Value.int IntKind.i64 (if openE T A = 0 then r else 0), .int .i64 (openE T A)] ∧ H' = Z ++ H) := fun Z => lttoldI_spec TX pX _ f cap r _ (fun h0 Z' => by obtain ⟨rfl, rfl⟩ := hTX h0; rw [← List.append_assoc]; exact ht h0 _)
  obtain ⟨er, her⟩ : ∃ e, openE T A = e := ⟨_, rfl⟩
  obtain ⟨rr, hrr⟩ : ∃ x, (if openE T A = 0 then r else 0) = x := ⟨_, rfl⟩
  rw [hrr, her] at hl
  rw [hrr, her]
  rw [her] at hop
  refine Fc.mk (callable Tryz.call46) Tryz.func46 rfl Tryz.ntmps46 rfl ?_; dsimp only [fr]
  repeat' (first | (refine XO.op rfl ?_; (first | ((first | refine Xo.ng rfl ?_); (first | (refine Xg.call (EnF.st rfl (Args.cons rfl (Args.cons rfl Args.nil))) rfl rfl (hop q _ (hT4 [_, _]) (hA4 [_, _])) ?_; rintro _ H9 ⟨rfl, hH9⟩; subst H9) | (refine Xg.call (EnF.st rfl (Args.cons rfl (Args.cons rfl (Args.cons rfl Args.nil)))) rfl rfl (hl [_, _, _]) ?_; rintro _ H9 ⟨rfl, hH9⟩; subst H9) | (refine Xg.ev (EvF.move rfl rfl) rfl rfl ?_) | (refine Xg.ev (EvF.assign rfl rfl) rfl rfl ?_) | (refine Xg.ev (EvF.loadV rfl rfl (LoadV.whole (te rfl) rfl (List.Mem.head _) rfl)) rfl rfl ?_) | (refine Xg.ev (EvF.loadV rfl rfl (LoadV.whole (te rfl) rfl (List.Mem.tail _ (List.Mem.head _)) rfl)) rfl rfl ?_) | (refine Xg.ev (EvF.extract rfl rfl rfl) rfl rfl ?_) | (refine Xg.st (StF.boxAgg rfl rfl) rfl rfl ?_; rintro _ _ ⟨bx, rfl, rfl⟩) | (refine Xg.st (StF.alloc rfl Tryz.zeroValue32 rfl) rfl rfl ?_; rintro _ _ ⟨bx, rfl, rfl⟩) | (refine Xg.st0 (StF.storeAll (i := 0) rfl rfl rfl (te rfl) rfl rfl rfl rfl) rfl ?_; rintro _ _ ⟨rfl, rfl⟩; dsimp only [List.set]))))) | (refine XO.done rfl ?_; refine hK _ _ ?_; clear hK K) | refine X.seq rfl ?_ | refine X.region rfl (fun K hK => ?_) | refine X.ret rfl ?_)
  exact ret_two (by first | exact .inr rfl | exact .inl rfl) Tryz.results46 rfl rfl (H' := H) (by (repeat (first | exact List.Sublist.refl _ | apply List.Sublist.cons)); done) ⟨rfl, rfl⟩
theorem lttoldU_spec (T : Tm) (p : Pt) (e : Int) (f : Nat) (cap : List Value) (r : Int) (H : List Row)
    (ht : e = 0 → ∀ Z : List Row, Fc Tryz.prog f ([.agg (cTm T p).toArray] ++ cap) (Z ++ H) (fun v H' => v = Value.int IntKind.u8 r ∧ H' = Z ++ H)) :
    Fc Tryz.prog 92 [.agg (cTm T p).toArray, .int .i64 e, .func (.func f) #[] cap.toArray] H (fun v H' => v = .tuple #[Value.int IntKind.u8 (if e = 0 then r else 0), .int .i64 e] ∧ H' = H) := by
  by_cases h0 : e = 0
  · subst h0
    rw [if_pos rfl]
    refine Fc.mk (callable Tryz.call92) Tryz.func92 rfl Tryz.ntmps92 rfl ?_; dsimp only [fr]
    repeat' (first | (refine XO.op rfl ?_; (first | ((first | refine Xo.ng rfl ?_); (first | (refine Xg.call (EnF.dyn0 rfl rfl (by (repeat (first | exact Args.nil | refine Args.cons rfl ?_)); done)) rfl rfl (ht rfl [_]) ?_; rintro _ H9 ⟨rfl, hH9⟩; subst H9) | (refine Xg.ev (EvF.move rfl rfl) rfl rfl ?_) | (refine Xg.ev (EvF.assign rfl rfl) rfl rfl ?_) | (refine Xg.ev (EvF.cmp rfl rfl rfl rfl) rfl rfl ?_) | (refine Xg.ev (EvF.loadV rfl rfl (LoadV.whole (te rfl) rfl (List.Mem.head _) rfl)) rfl rfl ?_) | (refine Xg.st (StF.boxAgg rfl rfl) rfl rfl ?_; rintro _ _ ⟨bx, rfl, rfl⟩))))) | (refine XO.done rfl ?_; refine hK _ _ ?_; clear hK K) | refine X.seq rfl ?_ | refine X.region rfl (fun K hK => ?_) | refine X.skip rfl ?_ | refine X.ret rfl ?_ | (refine X.ite rfl rfl (fun hc => ?_); (first | (with_reducible refine Xb.caseN hc (fun h => ?_) (fun h => ?_))) <;> clear hc))
    all_goals try (exfalso; contradiction)
    exact ret_two (by first | exact .inr rfl | exact .inl rfl) Tryz.results92 rfl rfl (H' := H) (by simp only [List.cons_append, List.nil_append]; exact (by (repeat (first | exact List.Sublist.refl _ | apply List.Sublist.cons)); done)) ⟨rfl, rfl⟩
  · rw [if_neg h0]
    refine Fc.mk (callable Tryz.call92) Tryz.func92 rfl Tryz.ntmps92 rfl ?_; dsimp only [fr]
    repeat' (first | (refine XO.op rfl ?_; (first | ((first | refine Xo.ng rfl ?_); (first | (refine Xg.ev (EvF.cmp (b := true) rfl rfl rfl (congrArg some (by simp [h0]))) rfl rfl ?_) | (refine Xg.ev (EvF.move rfl rfl) rfl rfl ?_) | (refine Xg.ev (EvF.assign rfl rfl) rfl rfl ?_) | (refine Xg.st (StF.boxAgg rfl rfl) rfl rfl ?_; rintro _ _ ⟨bx, rfl, rfl⟩))))) | (refine XO.done rfl ?_; refine hK _ _ ?_; clear hK K) | refine X.seq rfl ?_ | refine X.region rfl (fun K hK => ?_) | refine X.ret rfl ?_ | (refine X.ite rfl rfl (fun hc => ?_); (first | (with_reducible refine Xb.t hc ?_)) <;> clear hc))
    all_goals try (exfalso; contradiction)
    exact ret_two (by first | exact .inr rfl | exact .inl rfl) Tryz.results92 rfl rfl (H' := H) (by (repeat (first | exact List.Sublist.refl _ | apply List.Sublist.cons)); done) ⟨rfl, rfl⟩
set_option maxHeartbeats 4000000 in
theorem toldU_spec (T : Tm) (p : Pt) (A : Ab) (q : Pa) (f : Nat) (cap : List Value) (r : Int) (H : List Row) (hT : TmOk H T p) (hA : AbOk H A q) (hd : HD A) (hi : HI A)
    (ht : openE T A = 0 → ∀ Z : List Row, Fc Tryz.prog f ([.agg (cTm T p).toArray] ++ cap) (Z ++ H) (fun v H' => v = Value.int IntKind.u8 r ∧ H' = Z ++ H)) :
    Fc Tryz.prog 53 [.agg (cTm T p).toArray, .agg (cAb A q).toArray, .func (.func f) #[] cap.toArray] H (fun v H' => v = .tuple #[Value.int IntKind.u8 (if openE T A = 0 then r else 0), .int .i64 (openE T A)] ∧ H' = H) := by
  have hT4 : ∀ Z : List Row, TmOk (Z ++ H) T p := fun Z => hT.sub (fun _ h => List.mem_append_right _ h)
  have hA4 : ∀ Z : List Row, AbOk (Z ++ H) A q := fun Z => hA.sub (fun _ h => List.mem_append_right _ h)
  obtain ⟨TX, pX, hTX, hop⟩ := open_fn T p A hd hi
  have hl : ∀ Z : List Row, Fc Tryz.prog 92 [.agg (cTm TX pX).toArray, .int .i64 (openE T A), .func (.func f) #[] cap.toArray] (Z ++ H) (fun v H' => v = .tuple #[Value.int IntKind.u8 (if openE T A = 0 then r else 0), .int .i64 (openE T A)] ∧ H' = Z ++ H) := fun Z => lttoldU_spec TX pX _ f cap r _ (fun h0 Z' => by obtain ⟨rfl, rfl⟩ := hTX h0; rw [← List.append_assoc]; exact ht h0 _)
  obtain ⟨er, her⟩ : ∃ e, openE T A = e := ⟨_, rfl⟩
  obtain ⟨rr, hrr⟩ : ∃ x, (if openE T A = 0 then r else 0) = x := ⟨_, rfl⟩
  rw [hrr, her] at hl
  rw [hrr, her]
  rw [her] at hop
  refine Fc.mk (callable Tryz.call53) Tryz.func53 rfl Tryz.ntmps53 rfl ?_; dsimp only [fr]
  repeat' (first | (refine XO.op rfl ?_; (first | ((first | refine Xo.ng rfl ?_); (first | (refine Xg.call (EnF.st rfl (Args.cons rfl (Args.cons rfl Args.nil))) rfl rfl (hop q _ (hT4 [_, _]) (hA4 [_, _])) ?_; rintro _ H9 ⟨rfl, hH9⟩; subst H9) | (refine Xg.call (EnF.st rfl (Args.cons rfl (Args.cons rfl (Args.cons rfl Args.nil)))) rfl rfl (hl [_, _, _]) ?_; rintro _ H9 ⟨rfl, hH9⟩; subst H9) | (refine Xg.ev (EvF.move rfl rfl) rfl rfl ?_) | (refine Xg.ev (EvF.assign rfl rfl) rfl rfl ?_) | (refine Xg.ev (EvF.loadV rfl rfl (LoadV.whole (te rfl) rfl (List.Mem.head _) rfl)) rfl rfl ?_) | (refine Xg.ev (EvF.loadV rfl rfl (LoadV.whole (te rfl) rfl (List.Mem.tail _ (List.Mem.head _)) rfl)) rfl rfl ?_) | (refine Xg.ev (EvF.extract rfl rfl rfl) rfl rfl ?_) | (refine Xg.st (StF.boxAgg rfl rfl) rfl rfl ?_; rintro _ _ ⟨bx, rfl, rfl⟩) | (refine Xg.st (StF.alloc rfl Tryz.zeroValue32 rfl) rfl rfl ?_; rintro _ _ ⟨bx, rfl, rfl⟩) | (refine Xg.st0 (StF.storeAll (i := 0) rfl rfl rfl (te rfl) rfl rfl rfl rfl) rfl ?_; rintro _ _ ⟨rfl, rfl⟩; dsimp only [List.set]))))) | (refine XO.done rfl ?_; refine hK _ _ ?_; clear hK K) | refine X.seq rfl ?_ | refine X.region rfl (fun K hK => ?_) | refine X.ret rfl ?_)
  exact ret_two (by first | exact .inr rfl | exact .inl rfl) Tryz.results53 rfl rfl (H' := H) (by (repeat (first | exact List.Sublist.refl _ | apply List.Sublist.cons)); done) ⟨rfl, rfl⟩
end Go.Proofs.YtjejppodhpdckaaGreat
end
section
set_option linter.unusedVariables false
set_option linter.unusedSimpArgs false
namespace Go.Proofs.YtjejppodhpdckaaGreat
open Go Go.Fw
set_option maxRecDepth 10000
theorem HD0 {l : List Lo} {m : List Int} {s : List Lo} : HD ⟨[], l, m, s⟩ := fun d hd => absurd hd List.not_mem_nil
def dueB (T : Tm) (m : Int) : Bool := decide (T.dl ≤ m ∧ m ≤ T.dh)
theorem allows1_spec (T : Tm) (p : Pt) (c : Cl) (m : Int) (bc bm capc capm : Nat) (owc owm : Option Kd) (H : List Row) (hc : ⟨bc, 0, cCl c, owc, capc⟩ ∈ H) (hm : ⟨bm, 0, [.int .i64 m], owm, capm⟩ ∈ H) :
    Fc Tryz.prog 50 ([.agg (cTm T p).toArray] ++ [.pointer (some ⟨bc, 0, none⟩), .pointer (some ⟨bm, 0, none⟩)]) H (fun v H' => v = .bool (may T c && dueB T m) ∧ H' = H) := by
  show Fc Tryz.prog 50 [.agg (cTm T p).toArray, .pointer (some ⟨bc, 0, none⟩), .pointer (some ⟨bm, 0, none⟩)] H _
  refine Fc.mk (callable Tryz.call50) Tryz.func50 rfl Tryz.ntmps50 rfl ?_; dsimp only [fr]
  repeat' (first | (refine XO.op rfl ?_; (first | ((first | refine Xo.ng rfl ?_ | (refine Xo.g rfl rfl ?_; with_reducible refine Xw.tt ?_)); (first | (refine Xg.ev (EvF.loadV rfl rfl (LoadV.whole (te rfl) rfl (List.Mem.tail _ hc) rfl)) rfl rfl ?_) | (refine Xg.ev (EvF.loadV rfl rfl (LoadV.own (te rfl) rfl (List.Mem.tail _ hm) rfl)) rfl rfl ?_) | (refine Xg.call (EnF.st rfl (Args.cons rfl (Args.cons rfl Args.nil))) rfl rfl (allows_spec T p c _) ?_; rintro _ H9 ⟨rfl, hH9⟩; subst H9) | (refine Xg.ev (EvF.loadV rfl rfl (LoadV.ownAgg (vs := cSp ⟨T.dl, T.dh⟩) (te rfl) rfl (List.Mem.head _) rfl rfl)) rfl rfl ?_) | (refine Xg.st (StF.buildOne rfl elI rfl rfl rfl (by decide) (by decide)) rfl rfl ?_; rintro _ _ ⟨bs, rfl, rfl⟩) | (refine Xg.call (EnF.st rfl (Args.cons rfl (Args.cons rfl Args.nil))) rfl rfl (within1_spec ⟨T.dl, T.dh⟩ m _ _ _ _ _ (List.Mem.head _)) ?_; rintro _ H9 ⟨rfl, hH9⟩; subst H9) | (refine Xg.ev (EvF.move rfl rfl) rfl rfl ?_) | (refine Xg.ev (EvF.assign rfl rfl) rfl rfl ?_) | (refine Xg.ev (EvF.pickT rfl rfl rfl) rfl rfl ?_) | (refine Xg.ev (EvF.pickF rfl rfl rfl) rfl rfl ?_) | (refine Xg.ev (EvF.fieldAddr rfl rfl (te rfl) rfl (te rfl) (by decide)) rfl rfl ?_) | (refine Xg.ev (EvF.loadV rfl rfl (LoadV.whole (te rfl) rfl (List.Mem.head _) rfl)) rfl rfl ?_) | (refine Xg.st (StF.boxAgg rfl rfl) rfl rfl ?_; rintro _ _ ⟨bx, rfl, rfl⟩))) | (refine Xo.g rfl rfl ?_; (first | (with_reducible refine Xw.ft rfl rfl ?_) | (with_reducible refine Xw.case (fun h => ?_) (fun h => ?_) <;> simp only [h, decide_true, decide_false, Bool.not_true, Bool.not_false, and_self, and_true, true_and, and_false, false_and]))))) | (refine XO.done rfl ?_; refine hK _ _ ?_; clear hK K) | refine X.seq rfl ?_ | refine X.region rfl (fun K hK => ?_) | refine X.ret rfl ?_)
  all_goals (refine ret_one (by first | exact .inr rfl | exact .inl rfl) Tryz.results50 rfl (H' := H) (by (repeat (first | exact List.Sublist.refl _ | apply List.Sublist.cons)); done) ?_; simp only [and_true, true_and])
  all_goals (unfold may dueB; congr 1; simp [*])
def lo1 (c : Cl) : Lo := ⟨c.g, c.g, c.s, c.s⟩
def abA (c : Cl) (m : Int) : Ab := ⟨[], [lo1 c], [m], []⟩
def tsAl : List TOp := [⟨some 8, [], [], []⟩, ⟨some 9, [], [], []⟩, ⟨some 10, [1], [1], []⟩, ⟨some 11, [1, 2], [2], []⟩, ⟨some 12, [], [], []⟩, ⟨some 13, [4], [4], []⟩, ⟨some 14, [1, 2, 3, 4, 5], [3, 5], []⟩, ⟨some 15, [], [], []⟩, ⟨some 16, [0, 1, 2, 3, 4, 5, 6, 7], [0, 6, 7], [3, 5]⟩, ⟨some 17, [0, 1, 2, 3, 4, 5, 6, 7, 8], [8], []⟩, ⟨some 18, [0, 1, 2, 3, 4, 5, 6, 7, 8], [8], []⟩, ⟨some 6, [0, 1, 2, 3, 4, 5, 6, 7, 8, 9, 10], [9], []⟩, ⟨some 7, [0, 1, 2, 3, 4, 5, 6, 7, 8, 9, 10, 11], [10], []⟩]
def valAl (b1 b2 b3 : Nat) (T : Tm) (p : Pt) (c : Cl) (m : Int) (r : Bool) (er : Int) (k : Nat) (env : Env) : Value :=
  match k with
  | 0 => .agg (cTm T p).toArray
  | 1 => .agg (cCl c).toArray
  | 2 => .agg (cLo (lo1 c)).toArray
  | 3 => .slice (some ⟨(env 3).1, 0, none⟩) 1 1
  | 4 => .int .i64 m
  | 5 => .slice (some ⟨(env 5).1, 0, none⟩) 1 1
  | 6 => .agg (cAb (abA c m) ⟨none, 0, some ⟨(env 3).1, 0, none⟩, 1, some ⟨(env 5).1, 0, none⟩, 1, none, 0⟩).toArray
  | 7 => .func (.func 50) #[] #[.pointer (some ⟨b2, 0, none⟩), .pointer (some ⟨b3, 0, none⟩)]
  | 8 => .tuple #[.bool r, .int .i64 er]
  | 9 => .bool r
  | 10 => .int .i64 er
  | 11 => .bool r
  | 12 => .int .i64 er
  | _ => undef
def rowsAl (b1 b2 b3 : Nat) (T : Tm) (p : Pt) (c : Cl) (m : Int) (r : Bool) (er : Int) (k : Nat) (env : Env) : List Row :=
  match k with
  | 3 => [⟨(env 3).1, 0, cLo (lo1 c), some 92, 1 * 4⟩]
  | 5 => [⟨(env 5).1, 0, [.int .i64 m], some 3, 1 * 1⟩]
  | _ => []
theorem locAl (b1 b2 b3 : Nat) (T : Tm) (p : Pt) (c : Cl) (m : Int) (r : Bool) (er : Int) : ∀ k env i q9, i ≠ k → (tAt tsAl k).sup.contains i = false → valAl b1 b2 b3 T p c m r er k (upd env i q9) = valAl b1 b2 b3 T p c m r er k env ∧ rowsAl b1 b2 b3 T p c m r er k (upd env i q9) = rowsAl b1 b2 b3 T p c m r er k env := by
  intro k env i q hk hs
  have hu : ∀ j, j ≠ i → upd env i q j = env j := fun j hj => by unfold upd; rw [if_neg hj]
  match k, hk, hs with
  | 0, _, _ => exact ⟨rfl, rfl⟩
  | 1, _, _ => exact ⟨rfl, rfl⟩
  | 2, _, _ => exact ⟨rfl, rfl⟩
  | 3, hk, hs => exact ⟨by simp only [valAl, hu 3 (fun e => hk e.symm)], by simp only [rowsAl, hu 3 (fun e => hk e.symm)]⟩
  | 4, _, _ => exact ⟨rfl, rfl⟩
  | 5, hk, hs => exact ⟨by simp only [valAl, hu 5 (fun e => hk e.symm)], by simp only [rowsAl, hu 5 (fun e => hk e.symm)]⟩
  | 6, hk, hs => exact ⟨by simp only [valAl, hu 3 (by rintro rfl; cases hs), hu 5 (by rintro rfl; cases hs)], by simp only [rowsAl, hu 3 (by rintro rfl; cases hs), hu 5 (by rintro rfl; cases hs)]⟩
  | 7, _, _ => exact ⟨rfl, rfl⟩
  | 8, _, _ => exact ⟨rfl, rfl⟩
  | 9, _, _ => exact ⟨rfl, rfl⟩
  | 10, _, _ => exact ⟨rfl, rfl⟩
  | 11, _, _ => exact ⟨rfl, rfl⟩
  | 12, _, _ => exact ⟨rfl, rfl⟩
  | _ + 13, _, _ => exact ⟨rfl, rfl⟩
noncomputable def allowsR (T : Tm) (c : Cl) (m : Int) : Bool := if openE T (abA c m) = 0 then (may T c && dueB T m) else false
set_option maxHeartbeats 4000000 in
theorem kallows_spec (T : Tm) (p : Pt) (c : Cl) (m : Int) (H : List Row) (hT : TmOk H T p) :
    Fc Tryz.prog 17 [.agg (cTm T p).toArray, .agg (cCl c).toArray, .int .i64 m] H (fun v H' => v = .tuple #[.bool (allowsR T c m), .int .i64 (openE T (abA c m))] ∧ H' = H) := by
  obtain ⟨r, hr⟩ : ∃ r, allowsR T c m = r := ⟨_, rfl⟩
  obtain ⟨er, her⟩ : ∃ r, openE T (abA c m) = r := ⟨_, rfl⟩
  rw [hr, her]
  refine Fc.mk (callable Tryz.call17) Tryz.func17 rfl Tryz.ntmps17 rfl ?_; dsimp only [fr]
  refine X.seq rfl ?_; refine X.region rfl (fun K hK => ?_); repeat' (first | (refine XO.op rfl ?_; (first | ((first | refine Xo.ng rfl ?_); (first | (refine Xg.ev (EvF.assign rfl rfl) rfl rfl ?_) | (refine Xg.st (StF.boxAgg rfl rfl) rfl rfl ?_; rintro _ _ ⟨bx, rfl, rfl⟩) | (refine Xg.st (StF.boxOne rfl rfl rfl) rfl rfl ?_; rintro _ _ ⟨bx, rfl, rfl⟩))))) | (refine XO.done rfl ?_; refine hK _ _ ?_; clear hK K))
  rename_i b1 b2; rename Nat => b3
  refine X.seq rfl ?_
  refine X.regionOb tsAl [3, 4, 5] [(3, .pointer (some ⟨b1, 0, none⟩)), (4, .pointer (some ⟨b2, 0, none⟩)), (5, .pointer (some ⟨b3, 0, none⟩))] (valAl b1 b2 b3 T p c m r er) (rowsAl b1 b2 b3 T p c m r er) (fun _ => (0, 0)) (⟨b3, 0, [.int .i64 m], some 3, 1⟩ :: ⟨b2, 0, cCl c, some 27, 2⟩ :: ⟨b1, 0, cTm T p, some 32, 11⟩ :: H) rfl mixed (by (repeat (first | exact Sub.nil _ | refine Sub.cons rfl ?_)); done) rfl (by kernel_rfl) (locAl b1 b2 b3 T p c m r er) (List.Sublist.refl _) ?_ ?_
  · repeat' (first | exact AllF.done rfl | (refine AllF.step rfl ?_ ?_; · (first | fail | ((first | refine Ob.ng rfl ?_); (first | exact ObK.pure (fun env R hR => by exact ⟨_, EvF.assign rfl rfl, rfl⟩) rfl (fun _ => rfl) | exact ObK.pure (fun env R hR => by exact ⟨_, EvF.loadV rfl rfl (LoadV.own (te rfl) rfl (hR _ (List.Mem.head _)) rfl), rfl⟩) rfl (fun _ => rfl) | exact ObK.pure (fun env R hR => by exact ⟨_, EvF.loadV rfl rfl (LoadV.whole (te rfl) rfl (hR _ (List.Mem.tail _ (List.Mem.head _))) rfl), rfl⟩) rfl (fun _ => rfl) | exact ObK.pure (fun env R hR => by exact ⟨_, EvF.loadV rfl rfl (LoadV.whole (te rfl) rfl (hR _ (List.Mem.tail _ (List.Mem.tail _ (List.Mem.head _)))) rfl), rfl⟩) rfl (fun _ => rfl) | (exact fun env S hS => (StF.buildOne rfl elI rfl rfl rfl (by decide) (by decide)).op.mono (fun v H' ⟨b, hv, hH⟩ => ⟨(b, 0), fun _ => hv, by rw [hH]; exact List.Perm.refl _⟩)) | (exact fun env S hS => (StF.buildOne rfl elLo rfl rfl rfl (by decide) (by decide)).op.mono (fun v H' ⟨b, hv, hH⟩ => ⟨(b, 0), fun _ => hv, by rw [hH]; exact List.Perm.refl _⟩)) | (exact fun env S hS => OpF.callV (Z := []) (EnF.st rfl (Args.cons rfl Args.nil)) (only_spec c _) rfl rfl) | (exact ObK.pure (fun env S hS => ⟨_, EvF.build (cs := cAb (abA c m) ⟨none, 0, some ⟨(env 3).1, 0, none⟩, 1, some ⟨(env 5).1, 0, none⟩, 1, none, 0⟩) rfl (ArgsP.cons rfl (ArgsP.cons rfl ArgsP.nil)) (te rfl) (Places.cons (te rfl) (Places.cons (te rfl) (Places.cons (te rfl) (Places.cons (te rfl) Places.nil)))) Tryz.zeroValue97 rfl, rfl⟩) rfl (fun _ => rfl)) | (exact ObK.pure (fun env S hS => ⟨_, EvF.makeFunc rfl Args.nil (Args.cons rfl (Args.cons rfl Args.nil)), rfl⟩) rfl (fun _ => rfl)) | (exact ObK.pure (fun env S hS => ⟨_, EvF.extract rfl rfl rfl, rfl⟩) rfl (fun _ => rfl)) | (exact fun env S hS => OpF.callV (Z := [_, _]) (EnF.st rfl (Args.cons rfl (Args.cons rfl (Args.cons rfl Args.nil)))) (toldB_spec T p (abA c m) ⟨none, 0, some ⟨(env 3).1, 0, none⟩, 1, some ⟨(env 5).1, 0, none⟩, 1, none, 0⟩ _ [.pointer (some ⟨b2, 0, none⟩), .pointer (some ⟨b3, 0, none⟩)] (may T c && dueB T m) _ (hT.sub (fun _ h => List.mem_append_right _ (hS _ (List.Mem.tail _ (List.Mem.tail _ (List.Mem.tail _ h)))))) ⟨sleNil, SlE.ofRow (List.Mem.head _) (fun _ _ => rfl), SlE.ofRow (List.Mem.tail _ (List.Mem.head _)) (fun _ _ => rfl), sleNil, (fun d hd => absurd hd List.not_mem_nil), Nat.zero_le _, Nat.le_of_ble_eq_true rfl, Nat.le_of_ble_eq_true rfl, Nat.zero_le _⟩ HD0 (fun _ _ l hl => absurd hl List.not_mem_nil) (fun _ Z => allows1_spec T p c m b2 b3 _ _ _ _ _ (List.mem_append_right _ (List.mem_append_right _ (hS _ (List.Mem.tail _ (List.Mem.head _))))) (List.mem_append_right _ (List.mem_append_right _ (hS _ (List.Mem.head _)))))) (by rw [her, ← hr]; unfold allowsR; rw [her]; rfl) rfl))))))
  · intro env t ha hv
    refine ⟨_, ((ha.sub (F' := []) (Sub.nil _)).cons (hv 11 6 (Nat.le_of_ble_eq_true rfl) rfl)).cons (hv 12 7 (Nat.le_of_ble_eq_true rfl) rfl), ?_⟩
    show X _ _ _ _ (⟨b3, 0, [.int .i64 m], some 3, 1⟩ :: ⟨b2, 0, cCl c, some 27, 2⟩ :: ⟨b1, 0, cTm T p, some 32, 11⟩ :: H) _
    repeat' (first | refine X.ret rfl ?_)
    exact ret_two (by first | exact .inr rfl | exact .inl rfl) Tryz.results17 rfl rfl (H' := H) (by (repeat (first | exact List.Sublist.refl _ | apply List.Sublist.cons)); done) ⟨rfl, rfl⟩
end Go.Proofs.YtjejppodhpdckaaGreat
end
section
set_option linter.unusedVariables false
set_option linter.unusedSimpArgs false
namespace Go.Proofs.YtjejppodhpdckaaGreat
open Go Go.Fw
set_option maxRecDepth 10000
theorem openE_zero {T : Tm} {A : Ab} (h : openE T A = 0) : tmOk T ∧ askD A ∧ askG A ∧ askS A ∧ askM A ∧ askN T A := by
  unfold openE at h
  by_cases h1 : tmOk T
  · by_cases h2 : askD A
    · by_cases h3 : askG A
      · by_cases h4 : askS A
        · by_cases h5 : askM A
          · by_cases h6 : askN T A
            · exact ⟨h1, h2, h3, h4, h5, h6⟩
            · simp [h1, h2, h3, h4, h5, h6] at h
          · simp [h1, h2, h3, h4, h5] at h
        · simp [h1, h2, h3, h4] at h
      · simp [h1, h2, h3] at h
    · simp [h1, h2] at h
  · simp [h1] at h
def abI (c : Cl) : Ab := ⟨[], [lo1 c], [], [lo1 c]⟩
theorem ask1 {c : Cl} {A : Ab} (hl : lo1 c ∈ A.lots) (hG : askG A) (hS : askS A) : (1 ≤ c.g ∧ c.g ≤ 9) ∧ (1 ≤ c.s ∧ c.s ≤ 9) := by
  have h1 := hG _ hl
  have h2 := hS _ hl
  unfold partOk lo1 at h1 h2
  exact ⟨h1.2.1, h2.2.1⟩
theorem HI1 {c : Cl} {d : List Dy} {m : List Int} {l : List Lo} : HI ⟨d, lo1 c :: l, m, [lo1 c]⟩ := by
  intro hG hS l hl
  simp only [List.mem_cons, List.not_mem_nil, or_false] at hl
  subst hl
  obtain ⟨h1, h2⟩ := ask1 (c := c) List.mem_cons_self hG hS
  exact ⟨h1, h1, h2, h2⟩
theorem invoice1_spec (T : Tm) (p : Pt) (c : Cl) (bc capc : Nat) (owc : Option Kd) (H : List Row) (hT : TmOk H T p) (hok : tmOk T) (hg : (1 ≤ c.g ∧ c.g ≤ 9) ∧ (1 ≤ c.s ∧ c.s ≤ 9)) (hc : ⟨bc, 0, cCl c, owc, capc⟩ ∈ H) :
    Fc Tryz.prog 47 ([.agg (cTm T p).toArray] ++ [.pointer (some ⟨bc, 0, none⟩)]) H (fun v H' => v = .int .i64 (val T c.g c.s) ∧ H' = H) := by
  show Fc Tryz.prog 47 [.agg (cTm T p).toArray, .pointer (some ⟨bc, 0, none⟩)] H _
  have hp := hok.num.1
  refine Fc.mk (callable Tryz.call47) Tryz.func47 rfl Tryz.ntmps47 rfl ?_; dsimp only [fr]
  repeat' (first | (refine XO.op rfl ?_; (first | ((first | refine Xo.ng rfl ?_); (first | (refine Xg.ev (EvF.loadV rfl rfl (LoadV.whole (te rfl) rfl (List.Mem.tail _ hc) rfl)) rfl rfl ?_) | (refine Xg.call (EnF.st rfl (Args.cons rfl (Args.cons rfl Args.nil))) rfl rfl (value_spec T p c _ (hT.sub (fun _ h => List.Mem.tail _ h)) hok.gr hok.st (by omega) hg.1 hg.2) ?_; rintro _ H9 ⟨rfl, hH9⟩; subst H9) | (refine Xg.ev (EvF.assign rfl rfl) rfl rfl ?_) | (refine Xg.ev (EvF.loadV rfl rfl (LoadV.whole (te rfl) rfl (List.Mem.head _) rfl)) rfl rfl ?_) | (refine Xg.st (StF.boxAgg rfl rfl) rfl rfl ?_; rintro _ _ ⟨bx, rfl, rfl⟩))))) | (refine XO.done rfl ?_; refine hK _ _ ?_; clear hK K) | refine X.seq rfl ?_ | refine X.region rfl (fun K hK => ?_) | refine X.ret rfl ?_)
  refine ret_one (by first | exact .inr rfl | exact .inl rfl) Tryz.results47 rfl (H' := H) (by (repeat (first | exact List.Sublist.refl _ | apply List.Sublist.cons)); done) ?_; simp only [and_true, true_and]
noncomputable def invR (T : Tm) (c : Cl) : Int := if openE T (abI c) = 0 then val T c.g c.s else 0
set_option maxHeartbeats 4000000 in
theorem kinvoice_spec (T : Tm) (p : Pt) (c : Cl) (H : List Row) (hT : TmOk H T p) :
    Fc Tryz.prog 14 [.agg (cTm T p).toArray, .agg (cCl c).toArray] H (fun v H' => v = .tuple #[.int .i64 (invR T c), .int .i64 (openE T (abI c))] ∧ H' = H) := by
  have hT3 : ∀ Z : List Row, TmOk (Z ++ H) T p := fun Z => hT.sub (fun _ h => List.mem_append_right _ h)
  refine Fc.mk (callable Tryz.call14) Tryz.func14 rfl Tryz.ntmps14 rfl ?_; dsimp only [fr]
  repeat' (first | (refine XO.op rfl ?_; (first | ((first | refine Xo.ng rfl ?_); (first | (refine Xg.call (EnF.st rfl (Args.cons rfl Args.nil)) rfl rfl (only_spec c _) ?_; rintro _ H9 ⟨rfl, hH9⟩; subst H9) | (refine Xg.st (StF.buildOne rfl elLo rfl rfl rfl (by decide) (by decide)) rfl rfl ?_; rintro _ _ ⟨bs, rfl, rfl⟩) | (refine Xg.ev (EvF.build (cs := cAb (abI c) ⟨none, 0, some ⟨bs, 0, none⟩, 1, none, 0, some ⟨bs, 0, none⟩, 1⟩) rfl (ArgsP.cons rfl (ArgsP.cons rfl ArgsP.nil)) (te rfl) (Places.cons (te rfl) (Places.cons (te rfl) (Places.cons (te rfl) (Places.cons (te rfl) Places.nil)))) Tryz.zeroValue97 rfl) rfl rfl ?_) | (refine Xg.ev (EvF.makeFunc rfl Args.nil (Args.cons rfl Args.nil)) rfl rfl ?_) | (refine Xg.call (EnF.st rfl (Args.cons rfl (Args.cons rfl (Args.cons rfl Args.nil)))) rfl rfl (toldI_spec T p (abI c) ⟨none, 0, some ⟨bs, 0, none⟩, 1, none, 0, some ⟨bs, 0, none⟩, 1⟩ _ [_] (val T c.g c.s) _ (hT3 [_, _, _]) ⟨sleNil, SlE.ofRow (List.Mem.head _) (fun _ _ => rfl), sleNil, SlE.ofRow (List.Mem.head _) (fun _ _ => rfl), (fun d hd => absurd hd List.not_mem_nil), Nat.zero_le _, Nat.le_of_ble_eq_true rfl, Nat.zero_le _, Nat.le_of_ble_eq_true rfl⟩ HD0 HI1 (fun hE Z => invoice1_spec T p c _ _ _ _ ((hT3 [_, _, _]).sub (fun _ h => List.mem_append_right _ h)) (openE_zero hE).1 (ask1 (A := abI c) List.mem_cons_self (openE_zero hE).2.2.1 (openE_zero hE).2.2.2.1) (List.mem_append_right _ (List.Mem.tail _ (List.Mem.head _))))) ?_; rintro _ H9 ⟨rfl, hH9⟩; subst H9) | (refine Xg.ev (EvF.move rfl rfl) rfl rfl ?_) | (refine Xg.ev (EvF.assign rfl rfl) rfl rfl ?_) | (refine Xg.ev (EvF.loadV rfl rfl (LoadV.whole (te rfl) rfl (List.Mem.head _) rfl)) rfl rfl ?_) | (refine Xg.ev (EvF.loadV rfl rfl (LoadV.whole (te rfl) rfl (List.Mem.tail _ (List.Mem.tail _ (List.Mem.head _))) rfl)) rfl rfl ?_) | (refine Xg.ev (EvF.extract rfl rfl rfl) rfl rfl ?_) | (refine Xg.st (StF.boxAgg rfl rfl) rfl rfl ?_; rintro _ _ ⟨bx, rfl, rfl⟩))))) | (refine XO.done rfl ?_; refine hK _ _ ?_; clear hK K) | refine X.seq rfl ?_ | refine X.region rfl (fun K hK => ?_) | refine X.ret rfl ?_)
  exact ret_two (by first | exact .inr rfl | exact .inl rfl) Tryz.results14 rfl rfl (H' := H) (by (repeat (first | exact List.Sublist.refl _ | apply List.Sublist.cons)); done) ⟨rfl, rfl⟩
noncomputable instance (l : List Int) : Decidable (tab l) := Classical.propDecidable _
end Go.Proofs.YtjejppodhpdckaaGreat
end
section
set_option linter.unusedVariables false
set_option linter.unusedSimpArgs false
namespace Go.Proofs.YtjejppodhpdckaaGreat
open Go Go.Fw
set_option maxRecDepth 10000
def clsE (c : Cl) : Int := if 1 ≤ c.g ∧ c.g ≤ 9 then (if 1 ≤ c.s ∧ c.s ≤ 9 then 0 else 42) else 41
noncomputable def askedE (T : Tm) (c : Cl) : Int := if tmOk T then clsE c else 40
end Go.Proofs.YtjejppodhpdckaaGreat
end
section
set_option linter.unusedVariables false
set_option linter.unusedSimpArgs false
namespace Go.Proofs.YtjejppodhpdckaaGreat
open Go Go.Fw
set_option maxRecDepth 10000
noncomputable instance : DecidableEq Sp := fun _ _ => Classical.propDecidable _
noncomputable instance : DecidableEq Cl := fun _ _ => Classical.propDecidable _
noncomputable instance : DecidableEq Tm := fun _ _ => Classical.propDecidable _
theorem eqI (d : Nat) (a b : Int) (w : World) : (Op.equalIn (d + 1) 3 (.int .i64 a) (.int .i64 b)).run Tryz.prog w = .ok (decide (a = b)) w := by
  rw [run_equalIn_int w d 3 .i64 .i64 a b (by kernel_rfl)]
  by_cases h : a = b <;> simp [h]
theorem eqSp (d : Nat) (e f : Sp) (w : World) : (Op.equalIn (d + 2) 30 (.agg (cSp e).toArray) (.agg (cSp f).toArray)).run Tryz.prog w = .ok (decide (e = f)) w := by
  have hS : Tryz.prog.underlying 30 = some (.struct (Tryz.prog.fieldsOf 30)) := by kernel_rfl
  rw [run_equalIn_agg w (d + 1) 30 _ _ hS (by kernel_rfl)]
  simp only [Program.fieldsOf, Tryz.underlying30]
  go_simp
  obtain ⟨e1, e2⟩ := e
  obtain ⟨f1, f2⟩ := f
  by_cases h1 : e1 = f1 <;> by_cases h2 : e2 = f2 <;> simp [cSp, eqI, Result.andThen, h1, h2]
theorem eqCl (d : Nat) (e f : Cl) (w : World) : (Op.equalIn (d + 2) 27 (.agg (cCl e).toArray) (.agg (cCl f).toArray)).run Tryz.prog w = .ok (decide (e = f)) w := by
  have hS : Tryz.prog.underlying 27 = some (.struct (Tryz.prog.fieldsOf 27)) := by kernel_rfl
  rw [run_equalIn_agg w (d + 1) 27 _ _ hS (by kernel_rfl)]
  simp only [Program.fieldsOf, Tryz.underlying27]
  go_simp
  obtain ⟨e1, e2⟩ := e
  obtain ⟨f1, f2⟩ := f
  by_cases h1 : e1 = f1 <;> by_cases h2 : e2 = f2 <;> simp [cCl, eqI, Result.andThen, h1, h2]
theorem sameInts_spec (l m : List Int) (a a' : Option Addr) (c c' : Nat) (H : List Row) (hl : SlE H a cI 1 l) (hm : SlE H a' cI 1 m) (hb : l.length ≤ 1000000) (hb' : m.length ≤ 1000000) :
    Fc Tryz.prog 44 [.slice a l.length c, .slice a' m.length c'] H (fun v H' => v = .bool (decide (l = m)) ∧ H' = H) := by
  refine Fc.mk (callable Tryz.call44) Tryz.func44 rfl Tryz.ntmps44 rfl ?_; dsimp only [fr]
  repeat' (first | (refine XO.op rfl ?_; (first | ((first | refine Xo.ng rfl ?_ | (refine Xo.g rfl rfl ?_; with_reducible refine Xw.ff ?_)); (first | (refine Xg.ev (EvF.move rfl rfl) rfl rfl ?_) | (refine Xg.ev (EvF.assign rfl rfl) rfl rfl ?_) | (refine Xg.ev (EvF.pickT rfl rfl rfl) rfl rfl ?_) | (refine Xg.ev (EvF.pickF rfl rfl rfl) rfl rfl ?_) | (refine Xg.ev (EvF.cmp rfl rfl rfl rfl) rfl rfl ?_) | (refine Xg.ev (EvF.fieldAddr rfl rfl (te rfl) rfl (te rfl) (by decide)) rfl rfl ?_) | (refine Xg.ev (EvF.lenSlice rfl rfl (te rfl)) rfl rfl ?_) | (refine Xg.ev (EvF.loadV rfl rfl (LoadV.own (te rfl) rfl (List.Mem.head _) rfl)) rfl rfl ?_) | (refine Xg.st (StF.boxAgg rfl rfl) rfl rfl ?_; rintro _ _ ⟨bx, rfl, rfl⟩))) | (refine Xo.g rfl rfl ?_; (first | (with_reducible refine Xw.tf rfl rfl ?_) | (with_reducible refine Xw.case (fun h => ?_) (fun h => ?_) <;> simp only [h, decide_true, decide_false, Bool.not_true, Bool.not_false, and_self, and_true, true_and, and_false, false_and]))))) | (refine XO.done rfl ?_; refine hK _ _ ?_; clear hK K) | refine X.seq rfl ?_ | refine X.region rfl (fun K hK => ?_) | refine X.block rfl ?_ | refine X.skip rfl ?_ | refine X.ret rfl ?_ | (refine X.ite rfl rfl (fun hc => ?_); (first | (with_reducible refine Xb.caseN hc (fun h => ?_) (fun h => ?_))) <;> clear hc))
  · refine ret_one (by first | exact .inr rfl | exact .inl rfl) Tryz.results44 rfl (H' := H) (by (repeat (first | exact List.Sublist.refl _ | apply List.Sublist.cons)); done) ?_; simp only [and_true, true_and]
    congr 1; symm; exact decide_eq_false (fun q => by subst q; omega)
  have hlm : l.length = m.length := by omega
  refine X.lp rfl (fun q F' H' => ∃ k : Nat, q = l.length - k ∧ k ≤ l.length ∧ (l = m ↔ l.drop k = m.drop k) ∧ H = H' ∧
      F' = [(0, .slice a l.length c), (1, .slice a' m.length c'), (5, .int .i64 k)])
    l.length [(0, .slice a l.length c), (1, .slice a' m.length c'), (5, .int .i64 (0 : Nat))] _ (by (repeat (first | exact Sub.nil _ | refine Sub.cons rfl ?_)); done) (by (repeat (first | exact List.Sublist.refl _ | apply List.Sublist.cons_cons | apply List.Sublist.cons)); done) ⟨0, by omega, by omega, by simp, rfl, rfl⟩ ?_
  rintro _ _ H2 ⟨k, rfl, hk, hn, hH, rfl⟩
  subst hH
  repeat' (first | (refine XO.op rfl ?_; (first | ((first | refine Xo.ng rfl ?_); (first | (refine Xg.ev (EvF.move rfl rfl) rfl rfl ?_) | (refine Xg.ev (EvF.assign rfl rfl) rfl rfl ?_) | (refine Xg.ev (EvF.cmp rfl rfl rfl rfl) rfl rfl ?_) | (refine Xg.ev (EvF.lenSlice rfl rfl (te rfl)) rfl rfl ?_))))) | (refine XO.done rfl ?_; refine hK _ _ ?_; clear hK K) | refine X.seq rfl ?_ | refine X.region rfl (fun K hK => ?_) | refine X.block rfl ?_ | (refine X.brk rfl ?_; repeat (first | refine blockX_hit rfl ?_ | refine blockX_miss (by decide) ?_)) | refine X.skip rfl ?_ | refine X.ret rfl ?_ | (refine X.ite rfl rfl (fun hc => ?_); (first | (with_reducible refine Xb.case hc (fun h => ?_) (fun h => ?_))) <;> clear hc))
  · obtain ⟨b, off, e, rfl, he⟩ := hl.elem (i := k) (by omega)
    obtain ⟨b2, off2, f, rfl, hf⟩ := hm.elem (i := k) (by omega)
    rw [drop_cons he, drop_cons hf, List.cons.injEq] at hn
    repeat' (first | (refine XO.op rfl ?_; (first | ((first | refine Xo.ng rfl ?_); (first | (refine Xg.ev (EvF.move rfl rfl) rfl rfl ?_) | (refine Xg.ev (EvF.assign rfl rfl) rfl rfl ?_) | (refine Xg.ev (EvF.add64 rfl rfl rfl (by omega) (by omega)) rfl rfl ?_))))) | (refine XO.done rfl ?_; refine hK _ _ ?_; clear hK K) | (refine XQ.op rfl ?_; (first | ((first | refine Yo.ng rfl ?_); (first | (refine Yg.ev (EvF.indexSlice rfl rfl rfl (te rfl) (te rfl) (by omega) (by omega)) rfl rfl ?_) | (refine Yg.ev (EvF.loadV rfl rfl (LoadV.el0 hl he (te rfl) rfl (fun _ hm => hm) rfl)) rfl rfl ?_) | (refine Yg.ev (EvF.loadV rfl rfl (LoadV.el0 hm hf (te rfl) rfl (fun _ hm => hm) rfl)) rfl rfl ?_) | (refine Yg.ev (EvF.move rfl rfl) rfl rfl ?_) | (refine Yg.ev (EvF.cmp rfl rfl rfl rfl) rfl rfl ?_))))) | (refine XQ.done rfl ?_; refine hK _ ?_; clear hK K) | refine X.seq rfl ?_ | refine X.region rfl (fun K hK => ?_) | refine X.regionD rfl mixed (by kernel_rfl) (fun K hK => ?_) | refine X.skip rfl ?_ | refine X.ret rfl ?_ | (refine X.ite rfl rfl (fun hc => ?_); (first | (with_reducible refine Xb.caseN hc (fun h => ?_) (fun h => ?_))) <;> clear hc))
    all_goals first
      | (refine ret_one (by first | exact .inr rfl | exact .inl rfl) Tryz.results44 rfl (H' := H) (by (repeat (first | exact List.Sublist.refl _ | apply List.Sublist.cons)); done) ?_; simp only [and_true, true_and]; congr 1; symm; exact decide_eq_false (fun q => absurd (hn.1 q).1 (by assumption)))
      | (refine ⟨_, _, _, (by (repeat (first | exact Sub.nil _ | refine Sub.cons rfl ?_)); done), (by (repeat (first | exact List.Sublist.refl _ | apply List.Sublist.cons_cons | apply List.Sublist.cons)); done), ⟨k + 1, rfl, by omega, hn.trans (and_iff_right (by assumption)), rfl, rfl⟩, by omega⟩)
  · rw [List.drop_eq_nil_of_le (by omega), List.drop_eq_nil_of_le (by omega)] at hn
    refine ret_one (by first | exact .inr rfl | exact .inl rfl) Tryz.results44 rfl (H' := H) (by (repeat (first | exact List.Sublist.refl _ | apply List.Sublist.cons)); done) ?_; simp only [and_true, true_and]
    congr 1; symm; exact decide_eq_true (hn.2 rfl)
theorem Tm.ext' {R S : Tm} (h1 : R.g = S.g) (h2 : R.s = S.s) (h3 : R.price = S.price) (h4 : R.worst = S.worst) (h5 : R.short = S.short) (h6 : R.G = S.G) (h7 : R.S = S.S) (h8 : R.dl = S.dl) (h9 : R.dh = S.dh) (h10 : R.bales = S.bales) (h11 : R.fee = S.fee) : R = S := by
  cases R; cases S; simp_all
set_option maxHeartbeats 4000000 in
theorem sameT_spec (T U : Tm) (p q : Pt) (H : List Row) (hT : TmOk H T p) (hU : TmOk H U q) : Fc Tryz.prog 43 [.agg (cTm T p).toArray, .agg (cTm U q).toArray] H (fun v H' => v = .bool (decide (T = U)) ∧ H' = H) := by
  have hT2 : ∀ Z : List Row, TmOk (Z ++ H) T p := fun Z => hT.sub (fun _ h => List.mem_append_right _ h)
  have hU2 : ∀ Z : List Row, TmOk (Z ++ H) U q := fun Z => hU.sub (fun _ h => List.mem_append_right _ h)
  refine Fc.mk (callable Tryz.call43) Tryz.func43 rfl Tryz.ntmps43 rfl ?_; dsimp only [fr]
  repeat' (first | (refine XO.op rfl ?_; (first | ((first | refine Xo.ng rfl ?_ | (refine Xo.g rfl rfl ?_; with_reducible refine Xw.tt ?_)); (first | (refine Xg.ev (EvF.loadV rfl rfl (LoadV.ownAgg (vs := cCl ⟨T.g, T.s⟩) (te rfl) rfl (List.Mem.tail _ (List.Mem.head _)) rfl rfl)) rfl rfl ?_) | (refine Xg.ev (EvF.loadV rfl rfl (LoadV.ownAgg (vs := cCl ⟨U.g, U.s⟩) (te rfl) rfl (List.Mem.head _) rfl rfl)) rfl rfl ?_) | (refine Xg.ev (EvF.loadV rfl rfl (LoadV.ownAgg (vs := cSp ⟨T.dl, T.dh⟩) (te rfl) rfl (List.Mem.tail _ (List.Mem.head _)) rfl rfl)) rfl rfl ?_) | (refine Xg.ev (EvF.loadV rfl rfl (LoadV.ownAgg (vs := cSp ⟨U.dl, U.dh⟩) (te rfl) rfl (List.Mem.head _) rfl rfl)) rfl rfl ?_) | (refine Xg.ev (EvF.eqSt rfl rfl rfl (by kernel_rfl) (fun w => eqCl 9998 ⟨T.g, T.s⟩ ⟨U.g, U.s⟩ w) rfl) rfl rfl ?_) | (refine Xg.ev (EvF.eqSt rfl rfl rfl (by kernel_rfl) (fun w => eqSp 9998 ⟨T.dl, T.dh⟩ ⟨U.dl, U.dh⟩ w) rfl) rfl rfl ?_) | (refine Xg.call (EnF.st rfl (Args.cons rfl (Args.cons rfl Args.nil))) rfl rfl (sameInts_spec T.G U.G p.a1 q.a1 p.c1 q.c1 _ (hT2 [_, _]).gr (hU2 [_, _]).gr hT.l1 hU.l1) ?_; rintro _ H9 ⟨rfl, hH9⟩; subst H9) | (refine Xg.call (EnF.st rfl (Args.cons rfl (Args.cons rfl Args.nil))) rfl rfl (sameInts_spec T.S U.S p.a2 q.a2 p.c2 q.c2 _ (hT2 [_, _]).st (hU2 [_, _]).st hT.l2 hU.l2) ?_; rintro _ H9 ⟨rfl, hH9⟩; subst H9) | (refine Xg.ev (EvF.move rfl rfl) rfl rfl ?_) | (refine Xg.ev (EvF.assign rfl rfl) rfl rfl ?_) | (refine Xg.ev (EvF.pickT rfl rfl rfl) rfl rfl ?_) | (refine Xg.ev (EvF.pickF rfl rfl rfl) rfl rfl ?_) | (refine Xg.ev (EvF.cmp rfl rfl rfl rfl) rfl rfl ?_) | (refine Xg.ev (EvF.fieldAddr rfl rfl (te rfl) rfl (te rfl) (by decide)) rfl rfl ?_) | (refine Xg.ev (EvF.loadV rfl rfl (LoadV.own (te rfl) rfl (List.Mem.head _) rfl)) rfl rfl ?_) | (refine Xg.ev (EvF.loadV rfl rfl (LoadV.own (te rfl) rfl (List.Mem.tail _ (List.Mem.head _)) rfl)) rfl rfl ?_) | (refine Xg.st (StF.boxAgg rfl rfl) rfl rfl ?_; rintro _ _ ⟨bx, rfl, rfl⟩))) | (refine Xo.g rfl rfl ?_; (first | (with_reducible refine Xw.ft rfl rfl ?_) | (with_reducible refine Xw.case (fun h => ?_) (fun h => ?_) <;> simp only [h, decide_true, decide_false, Bool.not_true, Bool.not_false, and_self, and_true, true_and, and_false, false_and]))))) | (refine XO.done rfl ?_; refine hK _ _ ?_; clear hK K) | refine X.seq rfl ?_ | refine X.region rfl (fun K hK => ?_) | refine X.ret rfl ?_)
  all_goals (refine ret_one (by first | exact .inr rfl | exact .inl rfl) Tryz.results43 rfl (H' := H) (by (repeat (first | exact List.Sublist.refl _ | apply List.Sublist.cons)); done) ?_; simp only [and_true, true_and])
  all_goals (congr 1; (try simp only [Cl.mk.injEq, Sp.mk.injEq] at *))
  all_goals first
    | (symm; exact decide_eq_false (fun q => by subst q; simp_all; done))
    | (exact decide_eq_decide.2 ⟨fun q => Tm.ext' (by omega) (by omega) (by omega) (by omega) (by omega) (by assumption) (by assumption) (by omega) (by omega) (by omega) (by omega), fun q => by subst q; rfl⟩)
end Go.Proofs.YtjejppodhpdckaaGreat
end
section
set_option linter.unusedVariables false
set_option linter.unusedSimpArgs false
namespace Go.Proofs.YtjejppodhpdckaaGreat
open Go Go.Fw
set_option maxRecDepth 10000
theorem cls_lo1 (T : Tm) (c : Cl) : cls T (lo1 c) = if may T c then [c] else [] := by
  have e : ∀ a : Int, ir a a = [a] := fun a => by unfold ir; rw [show (a - a + 1).toNat = 1 by omega]; simp
  unfold cls clsI lo1
  simp only [e, rowC, List.flatMap_cons, List.flatMap_nil, List.map_cons, List.map_nil, List.append_nil, List.filter_cons, List.filter_nil]
theorem openI (T : Tm) (c : Cl) : openE T (abI c) = if tmOk T then (if 1 ≤ c.g ∧ c.g ≤ 9 then (if 1 ≤ c.s ∧ c.s ≤ 9 then (if may T c = true then 0 else 6) else 42) else 41) else 40 := by
  unfold openE
  have h1 : askD (abI c) := fun d hd => absurd hd List.not_mem_nil
  have h2 : askG (abI c) ↔ 1 ≤ c.g ∧ c.g ≤ 9 := by simp [askG, abI, lo1, partOk]
  have h3 : askS (abI c) ↔ 1 ≤ c.s ∧ c.s ≤ 9 := by simp [askS, abI, lo1, partOk]
  have h4 : askM (abI c) := fun d hd => absurd hd List.not_mem_nil
  have h5 : askN T (abI c) ↔ may T c = true := by
    simp only [askN, abI, List.mem_cons, List.not_mem_nil, or_false, forall_eq, cls_lo1]
    split <;> simp_all
  simp only [h1, h2, h3, h4, h5, if_true]
theorem openI' (T : Tm) (c : Cl) : openE T (abI c) = if askedE T c = 0 then (if may T c = true then 0 else 6) else askedE T c := by
  rw [openI]; unfold askedE clsE
  by_cases h1 : tmOk T <;> by_cases h2 : 1 ≤ c.g ∧ c.g ≤ 9 <;> by_cases h3 : 1 ≤ c.s ∧ c.s ≤ 9 <;> simp only [h1, h2, h3, if_true, if_false] <;> simp
theorem askedE_zero {T : Tm} {c : Cl} (h : askedE T c = 0) : tmOk T ∧ (1 ≤ c.g ∧ c.g ≤ 9) ∧ (1 ≤ c.s ∧ c.s ≤ 9) := by
  unfold askedE clsE at h
  by_cases h1 : tmOk T
  · by_cases h2 : 1 ≤ c.g ∧ c.g ≤ 9
    · by_cases h3 : 1 ≤ c.s ∧ c.s ≤ 9
      · exact ⟨h1, h2, h3⟩
      · simp [h1, h2, h3] at h
    · simp [h1, h2] at h
  · simp [h1] at h
end Go.Proofs.YtjejppodhpdckaaGreat
end
section
set_option linter.unusedVariables false
set_option linter.unusedSimpArgs false
namespace Go.Fw
open Go
end Go.Fw
namespace Go.Proofs.YtjejppodhpdckaaGreat
open Go Go.Fw
set_option maxRecDepth 10000
theorem sameT_self (T : Tm) (p q : Pt) (H : List Row) (hT : TmOk H T p) (hU : TmOk H T q) : Fc Tryz.prog 43 [.agg (cTm T p).toArray, .agg (cTm T q).toArray] H (fun v H' => v = .bool true ∧ H' = H) :=
  (sameT_spec T T p q H hT hU).mono (fun v H' ⟨h1, h2⟩ => ⟨by rw [h1, decide_eq_true rfl], h2⟩)
theorem ownT (T : Tm) (t1 k1 t2 k2 : Nat) (H : List Row) (l1 : T.G.length ≤ 1000000) (l2 : T.S.length ≤ 1000000) (m1 : (⟨t1, 0, T.G.flatMap cI, some 3, k1 * 1⟩ : Row) ∈ H) (m2 : (⟨t2, 0, T.S.flatMap cI, some 3, k2 * 1⟩ : Row) ∈ H) : TmOk H T ⟨some ⟨t1, 0, none⟩, k1, some ⟨t2, 0, none⟩, k2⟩ :=
  ⟨SlE.ofRow m1 (fun _ _ => rfl), SlE.ofRow m2 (fun _ _ => rfl), l1, l2⟩
end Go.Proofs.YtjejppodhpdckaaGreat
end
section
set_option linter.unusedVariables false
namespace Go.Proofs.YtjejppodhpdckaaGreat
open Go Go.Fw Go.ChangeShapes Go.WideShapes Go.ChangeAt Go.RowKit
set_option linter.unusedVariables false
set_option maxRecDepth 100000
instance : Inhabited Sp := ⟨⟨0, 0⟩⟩
instance : Inhabited Cl := ⟨⟨0, 0⟩⟩
section
variable {H : Type} {enc : TypeId × Value → H} {w : World} {base : Nat} {spare : Nat → Bool} {held : Bool} {fuel : Nat} {cs : List Value} {x : DataW H × List MemPlace}
end
structure InTm (w : World) (T : Tm) (p : Pt) : Prop where
  gr : InSl w p.a1 cI 1 T.G
  st : InSl w p.a2 cI 1 T.S
def rowsTm (T : Tm) (p : Pt) : List Row := rowsOf p.a1 cI T.G ++ rowsOf p.a2 cI T.S
theorem InTm.ok {w : World} {T : Tm} {p : Pt} {N : Nat} (h : InTm w T p) : ∀ r ∈ rowsTm T p, r.own = none ∧ r.ok N w := by
  intro r hr
  rcases List.mem_append.1 hr with hr | hr
  · exact h.gr.ok r hr
  · exact h.st.ok r hr
section
variable {H : Type} {enc : TypeId × Value → H} {w : World} {base : Nat} {spare : Nat → Bool} {held : Bool} {v : Value} {d : DataW H} {p : List MemPlace} {r : Reach} {b0 : Nat}
end
theorem ownK : ownKnob Tryz.prog.godebug = none := by kernel_rfl
end Go.Proofs.YtjejppodhpdckaaGreat
end
