/- The program: Put. -/
import Derived.Test.YtmljpmcipcoaaaaP13
import Derived.Test.YtmljpmcipcoaaaaP8
set_option linter.unusedSimpArgs false
namespace Go.Proofs.Ytmljpmcipcoaaaa
open Go Go.Fw
set_option maxRecDepth 10000
def Rz : Rm := ⟨0, 0, [], [], []⟩
def pz : Pl := ⟨none, 0, none, 0, none, 0⟩
def rAges (R : Rm) (t k : Nat) : Row := ⟨t, 0, R.ages.flatMap cSp, some 35, k * 2⟩
def rBoxes (R : Rm) (t k : Nat) : Row := ⟨t, 0, R.boxes.flatMap cBx, some 77, k * 2⟩
def rMats (R : Rm) (t k : Nat) : Row := ⟨t, 0, R.mats.flatMap cMt, some 75, k * 6⟩
/-- a room whose lists lie in memory of one's own, and nothing else there -/
def OwnRm (Z : List Row) (R : Rm) (p : Pl) : Prop :=
  (R = Rz ∧ p = pz ∧ Z = []) ∨ ∃ t1 k1 t2 k2 t3 k3, p = ⟨some ⟨t1, 0, none⟩, k1, some ⟨t2, 0, none⟩, k2, some ⟨t3, 0, none⟩, k3⟩ ∧ Z.Perm [rAges R t1 k1, rBoxes R t2 k2, rMats R t3 k3]
def tup' (R : Rm) (p : Pl) (e : Int) : Value := .tuple #[.agg (cRm R p).toArray, .int .i64 e]
def putRm (R : Rm) (x : Mt) : Rm := { R with mats := insMt x R.mats }
def addRm (R : Rm) (x : Bx) : Rm := { R with boxes := insBx x R.boxes }
def strRm (R : Rm) (l : List Int) : Rm := { R with mats := leftMt R.mats l }
open Classical in
noncomputable def putF (R : Rm) (x : Mt) : Rm × Int := if roomOk R then (if 8 ≤ R.mats.length then (Rz, 9) else if roomOk (putRm R x) then (putRm R x, 0) else (Rz, 12)) else (Rz, 10)
open Classical in
noncomputable def addF (R : Rm) (x : Bx) : Rm × Int := if roomOk R then (if 4 ≤ R.boxes.length then (Rz, 9) else if roomOk (addRm R x) then (addRm R x, 0) else (Rz, 13)) else (Rz, 10)
open Classical in
noncomputable def strF (R : Rm) (l : List Int) : Rm × Int := if roomOk R then (if strOk R.mats l then (strRm R l, 0) else (Rz, 12)) else (Rz, 10)
theorem ownSl {α : Type} {enc : α → List Value} {sz b cap : Nat} {l : List α} {ow : Option TypeId} {H : List Row} (hl : ∀ e, (enc e).length = sz) (hm : ⟨b, 0, l.flatMap enc, ow, cap⟩ ∈ H) : SlE H (some ⟨b, 0, none⟩) enc sz l := SlE.ofRow hm (fun e _ => hl e)
def ProgR (F : Rm × Int) (H : List Row) (v : Value) (H' : List Row) : Prop := ∃ p Z, v = tup' F.1 p F.2 ∧ H' = Z ++ H ∧ OwnRm Z F.1 p
set_option maxHeartbeats 4000000 in
theorem putB_spec (R : Rm) (x : Mt) (d1 : Addr) (c1 : Nat) (d2 : Addr) (c2 : Nat) (d3 : Addr) (c3 : Nat) (H : List Row) (hR : RmOk H R ⟨some d1, c1, some d2, c2, some d3, c3⟩) (h1 : R.ages.length ≤ 1000000) (h2 : R.boxes.length ≤ 1000000) (h3 : R.mats.length ≤ 1000000) :
    Fc Try.prog 43 [.agg (cRm R ⟨some d1, c1, some d2, c2, some d3, c3⟩).toArray, .agg (cMt x).toArray] H (ProgR (putF R x) H) := by
  have hR3 : ∀ r1 r2 r3, RmOk (r1 :: r2 :: r3 :: H) R ⟨some d1, c1, some d2, c2, some d3, c3⟩ := fun r1 r2 r3 => hR.sub (fun _ h => List.Mem.tail _ (List.Mem.tail _ (List.Mem.tail _ h)))
  have hR7 : ∀ r1 r2 r3 r4 r5 r6 r7, SlE (r1 :: r2 :: r3 :: r4 :: r5 :: r6 :: r7 :: H) (some d3) cMt 6 R.mats := fun r1 r2 r3 r4 r5 r6 r7 => hR.mats.sub (fun _ h => List.Mem.tail _ (List.Mem.tail _ (List.Mem.tail _ (List.Mem.tail _ (List.Mem.tail _ (List.Mem.tail _ (List.Mem.tail _ h)))))))
  have hil := insMt_len x R.mats
  have l1 := hR.l1
  have l2 := hR.l2
  refine Fc.mk (callable Try.call43) Try.func43 rfl Try.ntmps43 rfl ?_; dsimp only [fr]
  repeat' (first | (refine XO.op rfl ?_; (first | ((first | refine Xo.ng rfl ?_); (first | (refine Xg.ev (EvF.build (cs := zR) rfl ArgsP.nil (te rfl) (Places.cons (te rfl) (Places.cons (te rfl) (Places.cons (te rfl) (Places.cons (te rfl) (Places.cons (te rfl) Places.nil))))) Try.zeroValue26 rfl) rfl rfl ?_) | (refine Xg.call (EnF.st rfl (by (repeat (first | exact Args.nil | refine Args.cons rfl ?_)); done)) rfl rfl (check_spec R _ _ (hR3 _ _ _)) ?_; rintro _ H9 ⟨⟨hr, rfl⟩ | ⟨hr, rfl⟩, hH9⟩ <;> subst H9) | (refine Xg.call (EnF.st rfl (by (repeat (first | exact Args.nil | refine Args.cons rfl ?_)); done)) rfl rfl (check_spec (putRm R x) ⟨some ⟨t1, 0, none⟩, k1, some ⟨t2, 0, none⟩, k2, some ⟨bi, 0, none⟩, ki⟩ _ ⟨ownSl (fun _ => rfl) (List.Mem.tail _ (List.Mem.tail _ (List.Mem.head _))), ownSl (fun _ => rfl) (List.Mem.tail _ (List.Mem.tail _ (List.Mem.tail _ (List.Mem.head _)))), ownSl (fun _ => rfl) (List.Mem.head _), l1, l2, (by show (insMt x R.mats).length ≤ _; omega)⟩) ?_; rintro _ H9 ⟨⟨hr', rfl⟩ | ⟨hr', rfl⟩, hH9⟩ <;> subst H9) | (refine Xg.call (EnF.st rfl (by (repeat (first | exact Args.nil | refine Args.cons rfl ?_)); done)) rfl rfl (copied_spec R d1 c1 d2 c2 d3 c3 _ (hR3 _ _ _) h1 h2 h3) ?_; rintro _ _ ⟨t1, k1, t2, k2, t3, k3, rfl, rfl⟩) | (refine Xg.call (EnF.st rfl (by (repeat (first | exact Args.nil | refine Args.cons rfl ?_)); done)) rfl rfl (put_specMt R.mats x d3 c3 _ (hR7 _ _ _ _ _ _ _) h3) ?_; rintro _ _ ⟨bi, ki, rfl, rfl⟩) | (refine Xg.ev (EvF.move rfl rfl) rfl rfl ?_) | (refine Xg.ev (EvF.assign rfl rfl) rfl rfl ?_) | (refine Xg.ev (EvF.cmp rfl rfl rfl rfl) rfl rfl ?_) | (refine Xg.ev (EvF.fieldAddr rfl rfl (te rfl) rfl (te rfl) (by decide)) rfl rfl ?_) | (refine Xg.ev (EvF.lenSlice rfl rfl (te rfl)) rfl rfl ?_) | (refine Xg.ev (EvF.loadV rfl rfl (LoadV.own (te rfl) rfl (List.Mem.tail _ (List.Mem.tail _ (List.Mem.head _))) rfl)) rfl rfl ?_) | (refine Xg.ev (EvF.loadV rfl rfl (LoadV.own (te rfl) rfl (List.Mem.tail _ (List.Mem.tail _ (List.Mem.tail _ (List.Mem.tail _ (List.Mem.tail _ (List.Mem.tail _ (List.Mem.head _))))))) rfl)) rfl rfl ?_) | (refine Xg.ev (EvF.loadV rfl rfl (LoadV.whole (te rfl) rfl (List.Mem.tail _ (List.Mem.head _)) rfl)) rfl rfl ?_) | (refine Xg.ev (EvF.loadV rfl rfl (LoadV.whole (te rfl) rfl (List.Mem.tail _ (List.Mem.tail _ (List.Mem.head _))) rfl)) rfl rfl ?_) | (refine Xg.ev (EvF.loadV rfl rfl (LoadV.whole (te rfl) rfl (List.Mem.tail _ (List.Mem.tail _ (List.Mem.tail _ (List.Mem.tail _ (List.Mem.tail _ (List.Mem.head _)))))) rfl)) rfl rfl ?_) | (refine Xg.st (StF.boxAgg rfl rfl) rfl rfl ?_; rintro _ _ ⟨bx, rfl, rfl⟩) | (refine Xg.st (StF.alloc rfl Try.zeroValue26 rfl) rfl rfl ?_; rintro _ _ ⟨bx, rfl, rfl⟩) | (refine Xg.st0 (StF.storeAll (i := 0) rfl rfl rfl (te rfl) rfl rfl rfl rfl) rfl ?_; rintro _ _ ⟨rfl, rfl⟩; dsimp only [List.set]) | (refine Xg.st0 (StF.storeOne (i := 1) rfl rfl rfl rfl (te rfl) rfl rfl (Nat.le_of_ble_eq_true rfl)) rfl ?_; rintro _ _ ⟨rfl, rfl⟩; dsimp only [List.set]) | (refine Xg.st0 (StF.storeAll (i := 5) rfl rfl rfl (te rfl) rfl rfl rfl rfl) rfl ?_; rintro _ _ ⟨rfl, rfl⟩; dsimp only [List.set]))))) | (refine XO.done rfl ?_; refine hK _ _ ?_; clear hK K) | refine X.seq rfl ?_ | refine X.region rfl (fun K hK => ?_) | refine X.skip rfl ?_ | refine X.ret rfl ?_ | (refine X.ite rfl rfl (fun hc => ?_); (first | (with_reducible refine Xb.case hc (fun h => ?_) (fun h => ?_)) | (with_reducible refine Xb.caseN hc (fun h => ?_) (fun h => ?_))) <;> clear hc))
  any_goals (exfalso; omega)
  · refine ret_two (by first | exact .inr rfl | exact .inl rfl) Try.results43 ⟨_, rfl, LoadV.whole (te rfl) rfl (List.Mem.head _) rfl⟩ rfl (H' := H) (by (repeat (first | exact List.Sublist.refl _ | apply List.Sublist.cons)); done) ?_
    have e : putF R x = (Rz, 9) := by unfold putF; rw [if_pos hr, if_pos (by omega)]
    unfold ProgR; rw [e]
    exact ⟨pz, [], rfl, rfl, .inl ⟨rfl, rfl, rfl⟩⟩
  · refine ret_two (by first | exact .inr rfl | exact .inl rfl) Try.results43 ⟨_, rfl, LoadV.whole (te rfl) rfl (List.Mem.tail _ (List.Mem.tail _ (List.Mem.tail _ (List.Mem.tail _ (List.Mem.tail _ (List.Mem.head _)))))) rfl⟩ rfl (H' := [rMats (putRm R x) bi ki, rAges R t1 k1, rBoxes R t2 k2] ++ H) (by (repeat (first | exact List.Sublist.refl _ | apply List.Sublist.cons_cons | apply List.Sublist.cons)); done) ?_
    have e : putF R x = (putRm R x, 0) := by unfold putF; rw [if_pos hr, if_neg (by omega), if_pos hr']
    unfold ProgR; rw [e]
    exact ⟨_, _, rfl, rfl, .inr ⟨t1, k1, t2, k2, bi, ki, rfl, List.perm_append_comm (l₁ := [_]) (l₂ := [_, _])⟩⟩
  · refine ret_two (by first | exact .inr rfl | exact .inl rfl) Try.results43 ⟨_, rfl, LoadV.whole (te rfl) rfl (List.Mem.tail _ (List.Mem.tail _ (List.Mem.tail _ (List.Mem.tail _ (List.Mem.tail _ (List.Mem.head _)))))) rfl⟩ rfl (H' := H) (by (repeat (first | exact List.Sublist.refl _ | apply List.Sublist.cons)); done) ?_
    have e : putF R x = (Rz, 12) := by unfold putF; rw [if_pos hr, if_neg (by omega), if_neg hr']
    unfold ProgR; rw [e]
    exact ⟨pz, [], rfl, rfl, .inl ⟨rfl, rfl, rfl⟩⟩
  · refine ret_two (by first | exact .inr rfl | exact .inl rfl) Try.results43 ⟨_, rfl, LoadV.whole (te rfl) rfl (List.Mem.head _) rfl⟩ rfl (H' := H) (by (repeat (first | exact List.Sublist.refl _ | apply List.Sublist.cons)); done) ?_
    have e : putF R x = (Rz, 10) := by unfold putF; rw [if_neg hr]
    unfold ProgR; rw [e]
    exact ⟨pz, [], rfl, rfl, .inl ⟨rfl, rfl, rfl⟩⟩
end Go.Proofs.Ytmljpmcipcoaaaa
