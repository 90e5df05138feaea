/- TermsTotals: for all terms, every month and every list of classes the law returns true (what the bales come to and which are refused, or the error, is that of the reference, and all stays), and each argument reads afterwards as before. No condition. -/
import Derived.Test.YtfpmhdjhcoogpaaW03
section
set_option linter.unusedVariables false
set_option linter.unusedSimpArgs false
namespace Go.Proofs.Ytfpmhdjhcoogpaa
open Go Go.Fw
set_option maxRecDepth 10000
theorem OutI.sl {k : List Int} {v : Value} {Z H : List Row} (h : OutI k v Z) (hs : ∀ r ∈ Z, r ∈ H) : ∃ a c, v = .slice a k.length c ∧ SlE H a cI 1 k := by
  rcases h with ⟨rfl, rfl, rfl⟩ | ⟨b, q, rfl, rfl⟩
  · exact ⟨_, _, rfl, sleNil⟩
  · exact ⟨_, _, rfl, SlE.ofRow (hs _ (List.Mem.head _)) (fun _ _ => rfl)⟩
theorem OutI.len {k : List Int} {v : Value} {Z : List Row} (h : OutI k v Z) : ∃ a c, v = .slice a k.length c := by
  rcases h with ⟨rfl, rfl, rfl⟩ | ⟨b, q, rfl, rfl⟩ <;> exact ⟨_, _, rfl⟩
theorem totI_len (T : Tm) (m : Int) (l : List Cl) : (totI T m l).length ≤ l.length := by
  unfold totI; split
  · exact refsA_len T l 0
  · exact Nat.zero_le _
theorem sameI_self (l : List Int) (a a' : Option Addr) (c c' : Nat) (H : List Row) (hl : SlE H a cI 1 l) (hm : SlE H a' cI 1 l) (hb : l.length ≤ 1000000) : Fc Try.prog 40 [.slice a l.length c, .slice a' l.length c'] H (fun v H' => v = .bool true ∧ H' = H) :=
  (sameInts_spec l l a a' c c' H hl hm hb hb).mono (fun v H' ⟨h1, h2⟩ => ⟨by rw [h1, decide_eq_true rfl], h2⟩)
set_option maxHeartbeats 8000000 in
theorem termsTotals_spec (T : Tm) (p : Pt) (m : Int) (l : List Cl) (a : Option Addr) (cc : Nat) (H : List Row) (hg : SlE H p.a1 cI 1 T.G) (hs : SlE H p.a2 cI 1 T.S) (hl : SlE H a cCl 2 l) :
    Fc Try.prog 8 [.agg (cTm T p).toArray, .int .i64 m, .slice a l.length cc] H (fun v _ => v = .bool true) := by
  by_cases hgr : (T.G.length > 30 ∨ T.S.length > 30)
  · have hG := greatT T p hgr
    refine Fc.mk (callable Try.call8) Try.func8 rfl Try.ntmps8 rfl ?_; dsimp only [fr]
    repeat' (first | (refine XO.op rfl ?_; (first | ((first | refine Xo.ng rfl ?_); (first | (refine Xg.call (EnF.st rfl (Args.cons rfl Args.nil)) rfl rfl (hG _) ?_; rintro _ H9 ⟨rfl, hH9⟩; subst H9) | (refine Xg.ev (EvF.move rfl rfl) rfl rfl ?_) | (refine Xg.ev (EvF.assign rfl rfl) rfl rfl ?_) | (refine Xg.ev (EvF.pickT rfl rfl rfl) rfl rfl ?_) | (refine Xg.ev (EvF.loadV rfl rfl (LoadV.whole (te rfl) rfl (List.Mem.head _) rfl)) rfl rfl ?_) | (refine Xg.st (StF.boxAgg rfl rfl) rfl rfl ?_; rintro _ _ ⟨bx, rfl, rfl⟩))) | (refine Xo.g rfl rfl ?_; (first | (with_reducible refine Xw.tf rfl rfl ?_))))) | (refine XO.done rfl ?_; refine hK _ _ ?_; clear hK K) | refine X.seq rfl ?_ | refine X.region rfl (fun K hK => ?_) | refine X.ret rfl ?_ | (refine X.ite rfl rfl (fun hc => ?_); (first | (with_reducible refine Xb.t hc ?_)) <;> clear hc))
    all_goals try (exfalso; contradiction)
    exact ret_one (by first | exact .inr rfl | exact .inl rfl) Try.results8 rfl (H' := _) (List.Sublist.refl _) rfl
  · have hG := greatF T p hgr
    have hT : TmOk H T p := ⟨hg, hs, by omega, by omega⟩
    have hT' : ∀ H', (∀ r ∈ H, r ∈ H') → TmOk H' T p := fun H' hs => hT.sub hs
    refine Fc.mk (callable Try.call8) Try.func8 rfl Try.ntmps8 rfl ?_; dsimp only [fr]
    repeat' (first | (refine XO.op rfl ?_; (first | ((first | refine Xo.ng rfl ?_ | (refine Xo.g rfl rfl ?_; with_reducible refine Xw.ff ?_)); (first | (refine Xg.call (EnF.st rfl (Args.cons rfl Args.nil)) rfl rfl (hG _) ?_; rintro _ H9 ⟨rfl, hH9⟩; subst H9) | (refine Xg.ev (EvF.move rfl rfl) rfl rfl ?_) | (refine Xg.ev (EvF.assign rfl rfl) rfl rfl ?_) | (refine Xg.ev (EvF.pickF rfl rfl rfl) rfl rfl ?_) | (refine Xg.ev (EvF.cmp rfl rfl rfl rfl) rfl rfl ?_) | (refine Xg.ev (EvF.lenSlice rfl rfl (te rfl)) rfl rfl ?_) | (refine Xg.ev (EvF.loadV rfl rfl (LoadV.whole (te rfl) rfl (List.Mem.head _) rfl)) rfl rfl ?_) | (refine Xg.st (StF.boxAgg rfl rfl) rfl rfl ?_; rintro _ _ ⟨bx, rfl, rfl⟩))))) | (refine XO.done rfl ?_; refine hK _ _ ?_; clear hK K) | refine X.seq rfl ?_ | refine X.region rfl (fun K hK => ?_) | refine X.skip rfl ?_ | refine X.ret rfl ?_ | (refine X.ite rfl rfl (fun hc => ?_); (first | (with_reducible refine Xb.case hc (fun h => ?_) (fun h => ?_))) <;> clear hc))
    all_goals try (exfalso; contradiction)
    · exact ret_one (by first | exact .inr rfl | exact .inl rfl) Try.results8 rfl (H' := _) (List.Sublist.refl _) rfl
    have hl40 : l.length ≤ 40 := by omega
    obtain ⟨b3, hb3⟩ : ∃ b, b = bx := ⟨_, rfl⟩
    rw [← hb3]
    clear hb3
    repeat' (first | (refine XO.op rfl ?_; (first | ((first | refine Xo.ng rfl ?_); (first | (refine Xg.call (EnF.st rfl (by (repeat (first | exact Args.nil | refine Args.cons rfl ?_)); done)) rfl rfl (twin_spec T p _ (hT' _ (fun _ hm => List.Mem.tail _ hm))) ?_; rintro _ _ ⟨t1, k1, t2, k2, rfl, rfl⟩) | (refine Xg.st (StF.buildNil rfl elCl) rfl rfl ?_; rintro _ _ ⟨bn, rfl, rfl⟩) | (refine Xg.st (StF.appendSl (i := 0) rfl elCl rfl rfl rfl (hl.sub (fun _ h => List.mem_append_right [_, _, _, _] h)) (fun e _ => one_cl e) rfl (by decide) (by omega)) rfl rfl ?_; rintro _ _ ⟨bm, km, rfl, rfl⟩; dsimp only [List.eraseIdx]) | (refine Xg.ev (EvF.move rfl rfl) rfl rfl ?_) | (refine Xg.ev (EvF.assign rfl rfl) rfl rfl ?_) | (refine Xg.ev (EvF.loadV rfl rfl (LoadV.whole (te rfl) rfl (List.Mem.head _) rfl)) rfl rfl ?_) | (refine Xg.st (StF.alloc rfl Try.zeroValue28 rfl) rfl rfl ?_; rintro _ _ ⟨bx, rfl, rfl⟩) | (refine Xg.st0 (StF.storeAll (i := 0) rfl rfl rfl (te rfl) rfl rfl rfl rfl) rfl ?_; rintro _ _ ⟨rfl, rfl⟩; dsimp only [List.set]))))) | (refine XO.done rfl ?_; refine hK _ _ ?_; clear hK K) | refine X.seq rfl ?_ | refine X.region rfl (fun K hK => ?_))
    obtain ⟨b7, hb7⟩ : ∃ b, b = bx := ⟨_, rfl⟩
    rw [← hb7]
    clear hb7
    rw [Nat.zero_add l.length]
    obtain ⟨HH, hHH⟩ : ∃ HH, HH = (⟨b7, 0, cTm T ⟨some ⟨t1, 0, none⟩, k1, some ⟨t2, 0, none⟩, k2⟩, some 28, 11⟩ :: ⟨bm, 0, l.flatMap cCl, some 23, km * 2⟩ :: ⟨t1, 0, T.G.flatMap cI, some 3, k1 * 1⟩ :: ⟨t2, 0, T.S.flatMap cI, some 3, k2 * 1⟩ :: ⟨b3, 0, cTm T p, some 28, 11⟩ :: H : List Row) := ⟨_, rfl⟩
    have hm7 : (⟨b7, 0, cTm T ⟨some ⟨t1, 0, none⟩, k1, some ⟨t2, 0, none⟩, k2⟩, some 28, 11⟩ : Row) ∈ HH := by rw [hHH]; exact List.Mem.head _
    have hm3 : (⟨b3, 0, cTm T p, some 28, 11⟩ : Row) ∈ HH := by rw [hHH]; repeat (first | exact List.Mem.head _ | apply List.Mem.tail)
    have hmm : SlE HH (some ⟨bm, 0, none⟩) cCl 2 l := SlE.ofRow (cap := km * 2) (ow := some 23) (by rw [hHH]; repeat (first | exact List.Mem.head _ | apply List.Mem.tail)) (fun _ _ => rfl)
    have hsH : ∀ r ∈ H, r ∈ HH := fun r hr => by rw [hHH]; exact List.mem_append_right [_, _, _, _, _] hr
    have hO : TmOk HH T ⟨some ⟨t1, 0, none⟩, k1, some ⟨t2, 0, none⟩, k2⟩ := ownT T t1 k1 t2 k2 _ (by omega) (by omega) (by rw [hHH]; repeat (first | exact List.Mem.head _ | apply List.Mem.tail)) (by rw [hHH]; repeat (first | exact List.Mem.head _ | apply List.Mem.tail))
    have hI : TmOk HH T p := hT' _ hsH
    have hll : SlE HH a cCl 2 l := hl.sub hsH
    show XO _ _ _ _ _ (⟨b7, 0, cTm T ⟨some ⟨t1, 0, none⟩, k1, some ⟨t2, 0, none⟩, k2⟩, some 28, 11⟩ :: ⟨bm, 0, l.flatMap cCl, some 23, km * 2⟩ :: ⟨t1, 0, T.G.flatMap cI, some 3, k1 * 1⟩ :: ⟨t2, 0, T.S.flatMap cI, some 3, k2 * 1⟩ :: ⟨b3, 0, cTm T p, some 28, 11⟩ :: H) _
    rw [← hHH]
    have ap : ∀ {r : Row} (Z : List Row), r ∈ HH → r ∈ Z ++ HH := fun Z h => List.mem_append_right Z h
    have ap2 : ∀ {r : Row} (Z Z' : List Row), r ∈ HH → r ∈ Z ++ (Z' ++ HH) := fun Z Z' h => List.mem_append_right Z (List.mem_append_right Z' h)
    repeat' (first | (refine XO.op rfl ?_; (first | ((first | refine Xo.ng rfl ?_); (first | (refine Xg.call (EnF.st rfl (by (repeat (first | exact Args.nil | refine Args.cons rfl ?_)); done)) rfl rfl (ktotal_spec T _ m l (some ⟨bm, 0, none⟩) km _ hO hmm (by omega)) ?_; rintro _ _ ⟨w1, Z1, rfl, hw1, rfl⟩) | (refine Xg.call (EnF.st rfl (by (repeat (first | exact Args.nil | refine Args.cons rfl ?_)); done)) rfl rfl (rtotal_spec T p m l a cc _ (hI.sub (fun _ h => ap Z1 h)) (hll.sub (fun _ h => ap Z1 h)) (by omega)) ?_; rintro _ _ ⟨w2, Z2, rfl, hw2, rfl⟩) | (refine Xg.ev (EvF.loadV rfl rfl (LoadV.whole (te rfl) rfl (ap Z1 hm3) rfl)) rfl rfl ?_) | (refine Xg.ev (EvF.move rfl rfl) rfl rfl ?_) | (refine Xg.ev (EvF.assign rfl rfl) rfl rfl ?_) | (refine Xg.ev (EvF.lenSlice rfl rfl (te rfl)) rfl rfl ?_) | (refine Xg.ev (EvF.extract rfl rfl rfl) rfl rfl ?_))))) | (refine XO.done rfl ?_; refine hK _ _ ?_; clear hK K) | refine X.seq rfl ?_ | refine X.region rfl (fun K hK => ?_) | refine X.block rfl ?_)
    have hk := totI_len T m l
    obtain ⟨a1, c1, rfl, hs1⟩ := hw1.sl (H := Z2 ++ (Z1 ++ HH)) (fun r hr => List.mem_append_right Z2 (List.mem_append_left HH hr))
    obtain ⟨a2, c2, rfl, hs2⟩ := hw2.sl (H := Z2 ++ (Z1 ++ HH)) (fun r hr => List.mem_append_left _ hr)
    obtain ⟨HX, hHX⟩ : ∃ HX, HX = Z2 ++ (Z1 ++ HH) := ⟨_, rfl⟩
    rw [← hHX] at hs1 hs2 ⊢
    have hsX : ∀ r ∈ HH, r ∈ HX := fun r hr => by rw [hHX]; exact List.mem_append_right Z2 (List.mem_append_right Z1 hr)
    have hO2 := hO.sub hsX
    have hI2 := hI.sub hsX
    have hl2 : ∀ Z : List Row, SlE (Z ++ HX) a cCl 2 l := fun Z => hll.sub (fun r hr => List.mem_append_right Z (hsX r hr))
    have hmm2 : SlE HX (some ⟨bm, 0, none⟩) cCl 2 l := hmm.sub hsX
    clear hmm hll hI hO
    refine X.lp rfl (fun q F' H' => ∃ k : Nat, q = l.length - k ∧ k ≤ l.length ∧ HX = H' ∧ F' = [(2, .slice a l.length cc), (3, .pointer (some ⟨b3, 0, none⟩)), (7, .pointer (some ⟨b7, 0, none⟩)), (9, .int .i64 (totS T m l)), (10, .slice a1 (totI T m l).length c1), (11, .int .i64 (totE T m l)), (12, .int .i64 (totS T m l)), (13, .slice a2 (totI T m l).length c2), (14, .int .i64 (totE T m l)), (45, .slice (some ⟨bm, 0, none⟩) l.length km), (46, .int .i64 l.length), (47, .int .i64 k)])
      l.length [(2, .slice a l.length cc), (3, .pointer (some ⟨b3, 0, none⟩)), (7, .pointer (some ⟨b7, 0, none⟩)), (9, .int .i64 (totS T m l)), (10, .slice a1 (totI T m l).length c1), (11, .int .i64 (totE T m l)), (12, .int .i64 (totS T m l)), (13, .slice a2 (totI T m l).length c2), (14, .int .i64 (totE T m l)), (45, .slice (some ⟨bm, 0, none⟩) l.length km), (46, .int .i64 l.length), (47, .int .i64 (0 : Nat))] _ (by (repeat (first | exact Sub.nil _ | refine Sub.cons rfl ?_)); done) (by (repeat (first | exact List.Sublist.refl _ | apply List.Sublist.cons_cons | apply List.Sublist.cons)); done) ⟨0, by omega, by omega, rfl, rfl⟩ ?_
    rintro _ _ H2 ⟨k, rfl, hk2, hH, rfl⟩
    subst hH
    repeat' (first | (refine XO.op rfl ?_; (first | ((first | refine Xo.ng rfl ?_ | (refine Xo.g rfl rfl ?_; with_reducible refine Xw.tt ?_)); (first | (refine Xg.ev (EvF.move rfl rfl) rfl rfl ?_) | (refine Xg.ev (EvF.cmp rfl rfl rfl rfl) rfl rfl ?_) | (refine Xg.ev (EvF.indexSlice rfl rfl rfl (te rfl) (te rfl) (by omega) (by omega)) rfl rfl ?_))) | (refine Xo.g rfl rfl ?_; (first | (with_reducible refine Xw.case (fun h => ?_) (fun h => ?_) <;> simp only [h, decide_true, decide_false, Bool.not_true, Bool.not_false, and_self, and_true, true_and, and_false, false_and]))))) | (refine XO.done rfl ?_; refine hK _ _ ?_; clear hK K) | refine X.seq rfl ?_ | refine X.region rfl (fun K hK => ?_) | refine X.block rfl ?_ | (refine X.brk rfl ?_; repeat (first | refine blockX_hit rfl ?_ | refine blockX_miss (by decide) ?_)) | refine X.skip rfl ?_ | (refine X.ite rfl rfl (fun hc => ?_); (first | (with_reducible refine Xb.case hc (fun h => ?_) (fun h => ?_))) <;> clear hc))
    · obtain ⟨b, off, c, rfl, he⟩ := hl2 [] |>.elem (i := k) (by omega)
      repeat' (first | (refine XO.op rfl ?_; (first | ((first | refine Xo.ng rfl ?_); (first | (refine Xg.ev (EvF.loadV rfl rfl (LoadV.elA0 hmm2 he (te rfl) rfl (fun _ hm => hm) rfl)) rfl rfl ?_) | (refine Xg.ev (EvF.move rfl rfl) rfl rfl ?_) | (refine Xg.ev (EvF.assign rfl rfl) rfl rfl ?_) | (refine Xg.ev (EvF.add64 rfl rfl rfl (by omega) (by omega)) rfl rfl ?_) | (refine Xg.st (StF.alloc rfl Try.zeroValue26 rfl) rfl rfl ?_; rintro _ _ ⟨bx, rfl, rfl⟩) | (refine Xg.st0 (StF.storeAll (i := 0) rfl rfl rfl (te rfl) rfl rfl rfl rfl) rfl ?_; rintro _ _ ⟨rfl, rfl⟩; dsimp only [List.set]))))) | (refine XO.done rfl ?_; refine hK _ _ ?_; clear hK K) | (refine XQ.op rfl ?_; (first | ((first | refine Yo.ng rfl ?_); (first | (refine Yg.ev (EvF.loadV rfl rfl (LoadV.elA0 (hl2 [_]) he (te rfl) rfl (fun _ hm => hm) rfl)) rfl rfl ?_) | (refine Yg.ev (EvF.eqSt rfl rfl rfl (by kernel_rfl) (fun w => eqCl 9998 c c w) rfl) rfl rfl ?_) | (refine Yg.ev (EvF.move rfl rfl) rfl rfl ?_) | (refine Yg.ev (EvF.indexSlice rfl rfl rfl (te rfl) (te rfl) (by omega) (by omega)) rfl rfl ?_) | (refine Yg.ev (EvF.loadV rfl rfl (LoadV.whole (te rfl) rfl (List.Mem.head _) rfl)) rfl rfl ?_))))) | (refine XQ.done rfl ?_; refine hK _ ?_; clear hK K) | refine X.seq rfl ?_ | refine X.region rfl (fun K hK => ?_) | refine X.regionD rfl mixed (by kernel_rfl) (fun K hK => ?_) | refine X.skip rfl ?_ | refine X.ret rfl ?_ | (refine X.ite rfl rfl (fun hc => ?_); (first | (with_reducible refine Xb.caseN hc (fun h => ?_) (fun h => ?_))) <;> clear hc))
      · exfalso; exact absurd rfl (by assumption : ¬ c = c)
      · refine ⟨_, _, _, (by (repeat (first | exact Sub.nil _ | refine Sub.cons rfl ?_)); done), (by (repeat (first | exact List.Sublist.refl _ | apply List.Sublist.cons)); done), ⟨k + 1, rfl, by omega, rfl, rfl⟩, by omega⟩
    · repeat' (first | (refine XO.op rfl ?_; (first | ((first | refine Xo.ng rfl ?_ | (refine Xo.g rfl rfl ?_; with_reducible refine Xw.tt ?_)); (first | (refine Xg.ev (EvF.eqSelf rfl rfl rfl) rfl rfl ?_) | (refine Xg.ev (EvF.loadV rfl rfl (LoadV.whole (te rfl) rfl (hsX _ hm7) rfl)) rfl rfl ?_) | (refine Xg.ev (EvF.loadV rfl rfl (LoadV.whole (te rfl) rfl (hsX _ hm3) rfl)) rfl rfl ?_) | (refine Xg.call (EnF.st rfl (Args.cons rfl (Args.cons rfl Args.nil))) rfl rfl (sameI_self (totI T m l) a1 a2 c1 c2 _ hs1 hs2 (by omega)) ?_; rintro _ H9 ⟨rfl, hH9⟩; subst H9) | (refine Xg.call (EnF.st rfl (Args.cons rfl (Args.cons rfl Args.nil))) rfl rfl (sameT_self T _ p _ hO2 hI2) ?_; rintro _ H9 ⟨rfl, hH9⟩; subst H9) | (refine Xg.ev (EvF.move rfl rfl) rfl rfl ?_) | (refine Xg.ev (EvF.assign rfl rfl) rfl rfl ?_) | (refine Xg.ev (EvF.pickT rfl rfl rfl) rfl rfl ?_))))) | (refine XO.done rfl ?_; refine hK _ _ ?_; clear hK K) | refine X.ret rfl ?_)
      exact ret_one (by first | exact .inr rfl | exact .inl rfl) Try.results8 rfl (H' := _) (List.Sublist.refl _) rfl
    · exact absurd rfl (by assumption : ¬ totS T m l = totS T m l)
end Go.Proofs.Ytfpmhdjhcoogpaa
end
section
set_option linter.unusedVariables false
namespace Go.Proofs.Ytfpmhdjhcoogpaa
open Go Go.Fw Go.ChangeShapes Go.WideShapes Go.ChangeAt Go.RowKit
set_option linter.unusedVariables false
set_option maxRecDepth 100000
section
variable {H : Type} {enc : TypeId × Value → H} {w : World} {base : Nat} {spare : Nat → Bool} {held : Bool} {v : Value} {d : DataW H} {p : List MemPlace} {r : Reach} {b0 : Nat}
theorem open_classes (hv : Value.okWide Try.prog w r b0 82 v) (h : DataW.Trod enc Try.prog w base spare held 82 v d p) : ∃ (l : List Cl) (a : Option Addr) (c : Nat), v = .slice a l.length c ∧ InSl w a cCl 2 l := by
  obtain ⟨a, len, cap, rfl⟩ := okWide_slice Try.underlying82 hv
  obtain ⟨fuel, hf⟩ := h
  obtain ⟨l, a, c, e, hi, _⟩ := open_sl (te rfl) (te rfl) rfl (by decide) (fun _ _ _ => open_cl) (fun _ => rfl) hf
  exact ⟨l, a, c, e, hi⟩
end
theorem termsTotals_run (T : Tm) (p : Pt) (m : Int) (l : List Cl) (a : Option Addr) (cc : Nat) (w : World) (hT : InTm w T p) (hl : InSl w a cCl 2 l) :
    Calls Try.prog 8 #[.agg (cTm T p).toArray, .int .i64 m, .slice a l.length cc] w fun e w' => e = .returned (.bool true) ∧ Below w.heap.size w w' :=
  Fc.calls (H := rowsTm T p ++ rowsOf a cCl l) (termsTotals_spec T p m l a cc _ (hT.g (fun _ h => List.mem_append_left _ h)) (hT.s (fun _ h => List.mem_append_left _ h)) (hl.sl (fun _ h => List.mem_append_right _ h))) (fun r hr => by
    rcases List.mem_append.1 hr with hr | hr
    · exact hT.ok r hr
    · exact hl.ok r hr)
theorem lifted (os : Os) (started : os.Started) (H : Type) (enc : TypeId × Value → H) :
    ReturnsInHanded {} Try.checked os 8 .any (Rows.termsTotalsSpec.pre6 enc Try.prog Try.f8 Rows.termsTotalsRow.domain false) (Rows.termsTotalsSpec.post enc Try.prog Try.f8 false true false false) := by
  refine returnsInHanded_of_change (C := Try.checked) ownK started (by kernel_rfl) Try.func8
    (ChangeSpec.witness6 (enc := enc) (C := Try.checked) false ⟨#[], #[.agg (cTm Tz pz).toArray, .int .i64 0, .slice none 0 0], []⟩ 8 (by kernel_rfl) (by kernel_rfl) (by kernel_rfl) (by kernel_rfl)) ?_
  intro W base args ds gs before hval0 hW hcnd _
  have hval : ∀ (j : Nat) t v, Try.f8.params[j]? = some t → args[j]? = some v → Value.okWide Try.prog W .any base t v := hval0
  have hW' := hW
  obtain ⟨p, q, hA0, hV, rfl, hfz, hnd⟩ := hW
  have hA : DataW.TrodAll enc Try.prog W 0 (fun _ => true) true Try.f8.params.toList args.toList ds p := hA0
  rw [Try.params8] at hA hval
  obtain ⟨v0, vs0, d0, ds0, p0, q0, hargs, rfl, rfl, h0, r0⟩ := trodAll_cons hA
  obtain ⟨v1, vs1, d1, ds1, p1, q1, rfl, rfl, rfl, h1, r1⟩ := trodAll_cons r0
  obtain ⟨v2, vs2, d2, ds2, p2, q2, rfl, rfl, rfl, h2, r2⟩ := trodAll_cons r1
  obtain ⟨rfl, rfl, rfl⟩ := trodAll_nil r2
  obtain rfl : args = #[v0, v1, v2] := by cases args; simp_all
  obtain ⟨rfl, rfl⟩ := trodVars_none hV
  have lt : ∀ {t v d ps}, DataW.Trod enc Try.prog W 0 (fun _ => true) true t v d ps → ∀ x ∈ ps, x.block < W.heap.size := fun h => by obtain ⟨m, hm⟩ := h; exact DataW.trod_lt m _ _ _ hm
  obtain ⟨T, pl, rfl, hT⟩ := open_terms (hval 0 _ v0 rfl rfl) h0
  obtain ⟨m, rfl⟩ := open_int (hval 1 _ v1 rfl rfl)
  obtain ⟨l, a, cc, rfl, hl⟩ := open_classes (hval 2 _ v2 rfl rfl) h2
  clear hA0 hval0
  refine (termsTotals_run T pl m l a cc W hT hl).mono fun e W' ⟨he, bel⟩ => ?_
  subst he
  exact ⟨_, rfl, _, _, _, [], _, [], hW', trodAll_mk1 (shut_bool Try.underlying4 _), (trodAll_cons_mk (Below.trod laidO (by kernel_rfl) (of_decide_eq_true (by kernel_rfl)) h0 bel (lt h0)) (trodAll_cons_mk (Below.trod laidO (by kernel_rfl) (of_decide_eq_true (by kernel_rfl)) h1 bel (lt h1)) (trodAll_cons_mk (Below.trod laidO (by kernel_rfl) (of_decide_eq_true (by kernel_rfl)) h2 bel (lt h2)) trodAll_mk0))), rfl, bel.frame _, fun h => by cases h⟩
theorem over : Rows.termsTotalsRow.holds Try.pinned (OpenSpec.ofChange Rows.termsTotalsSpec) :=
  OpenClaim.holds_of_wide 8 Try.f8 rfl rfl rfl rfl rfl rfl rfl ⟨rfl, rfl, rfl, rfl, rfl⟩ rfl rfl rfl rfl rfl (by kernel_rfl) Try.func8 (by kernel_rfl)
    (of_decide_eq_true (by kernel_rfl)) (by unfold Func.isWrapper; first | (rw [if_pos (by decide +kernel)]; kernel_rfl) | (rw [if_neg (by decide +kernel)]; exact ⟨rfl, rfl⟩))
    (fun os started H enc _ => lifted os started H enc)
theorem termsTotals_proved : Rows.TermsTotalsSaid := over
#print axioms termsTotals_proved
end Go.Proofs.Ytfpmhdjhcoogpaa
end
