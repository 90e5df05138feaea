/- Own work: contracts of functions, from rows of what is known of the memory; contracts of functions, from rows of what is known of the memory; contracts of functions, from rows of what is known of the memory; contracts of functions, from rows of what is known of the memory; contracts of functions, from rows of what is known of the memory; contracts of functions, from rows of what is known of the memory; contracts of functions, from rows of what is known of the memory; contracts of functions, from rows of what is known of the memory; contracts of functions, from rows of what is known of the memory; contracts of functions, from rows of what is known of the memory; contracts of functions, from rows of what is known of the memory; contracts of functions, from rows of what is known of the memory; contract -/
import Derived.Test.YtjejppodhpdckaaW03
section
set_option linter.unusedVariables false
set_option linter.unusedSimpArgs false
namespace Go.Proofs.Ytjejppodhpdckaa
open Go Go.Fw
set_option maxRecDepth 10000
/-- what the receiver loses -/
def los (T : Tm) (sd s : Int) (ask : Bool) (g : Int) : Int := (stl T ⟨sd, s⟩ ⟨g, s⟩ ask).pays - (stl T ⟨sd, s⟩ ⟨g, s⟩ ask).has
theorem stl_bd {T : Tm} (hok : tmOk T) (s f : Cl) (ask : Bool) : (-3000 ≤ (stl T s f ask).gets ∧ (stl T s f ask).gets ≤ 1003000) ∧ (-3000 ≤ (stl T s f ask).pays ∧ (stl T s f ask).pays ≤ 1003000) ∧ (-3000 ≤ (stl T s f ask).has ∧ (stl T s f ask).has ≤ 1003000) := by
  have b1 := val_bd hok s.g s.s
  have b2 := val_bd hok f.g f.s
  have b3 := hok.num
  unfold stl
  by_cases h1 : ask = false
  · rw [if_pos h1]; dsimp only; omega
  · rw [if_neg h1]
    by_cases h2 : f.g ≤ s.g
    · rw [if_pos h2]; dsimp only; omega
    · rw [if_neg h2]
      by_cases h3 : f.g ≤ T.worst ∧ T.short ≤ f.s
      · rw [if_pos h3]; dsimp only; omega
      · rw [if_neg h3]; dsimp only; omega
theorem los_bd {T : Tm} (hok : tmOk T) (sd s : Int) (ask : Bool) (g : Int) : -1010000 ≤ los T sd s ask g ∧ los T sd s ask g ≤ 1010000 := by
  have := stl_bd hok ⟨sd, s⟩ ⟨g, s⟩ ask
  unfold los; omega
noncomputable def payE (T : Tm) (sd g s : Int) : Int := if tmOk T then (if (1 ≤ sd ∧ sd ≤ 9) ∧ (1 ≤ g ∧ g ≤ 9) then (if 1 ≤ s ∧ s ≤ 9 then (if may T ⟨sd, s⟩ = true then 0 else 6) else 42) else 41) else 40
noncomputable def payG (T : Tm) (sd g s : Int) (ask : Bool) : Int := if payE T sd g s = 0 then (stl T ⟨sd, s⟩ ⟨g, s⟩ ask).gets else 0
noncomputable def payP (T : Tm) (sd g s : Int) (ask : Bool) : Int := if payE T sd g s = 0 then (stl T ⟨sd, s⟩ ⟨g, s⟩ ask).pays else 0
set_option maxHeartbeats 8000000 in
theorem rPays_spec (T : Tm) (p : Pt) (sd g s : Int) (ask : Bool) (H : List Row) (hT : TmOk H T p) :
    Fc Try.prog 24 [.agg (cTm T p).toArray, .int .i64 sd, .int .i64 g, .int .i64 s, .bool ask] H (fun v H' => v = .tuple #[.int .i64 (payG T sd g s ask), .int .i64 (payP T sd g s ask), .int .i64 (payE T sd g s)] ∧ H' = H) := by
  have hT1 : ∀ Z : List Row, TmOk (Z ++ H) T p := fun Z => hT.sub (fun _ h => List.mem_append_right _ h)
  by_cases hok : tmOk T
  · have ht := rtermsT T p hok
    by_cases h1 : (1 ≤ sd ∧ sd ≤ 9) ∧ (1 ≤ g ∧ g ≤ 9)
    · by_cases h2 : 1 ≤ s ∧ s ≤ 9
      · cases hm : may T ⟨sd, s⟩
        · have hE : payE T sd g s = 6 := by unfold payE; rw [if_pos hok, if_pos h1, if_pos h2, if_neg (by rw [hm]; decide)]
          unfold payG payP
          rw [hE, if_neg (by decide), if_neg (by decide)]
          have rm := fun H => rmay_spec T p ⟨sd, s⟩ H
          rw [hm] at rm
          refine Fc.mk (callable Try.call24) Try.func24 rfl Try.ntmps24 rfl ?_; dsimp only [fr]
          repeat' (first | (refine XO.op rfl ?_; (first | ((first | refine Xo.ng rfl ?_ | (refine Xo.g rfl rfl ?_; with_reducible refine Xw.ff ?_)); (first | (refine Xg.call (EnF.st rfl (Args.cons rfl Args.nil)) rfl rfl (ht _ (hT1 [_])) ?_; rintro _ H9 ⟨rfl, hH9⟩; subst H9) | (refine Xg.call (EnF.st rfl (Args.cons rfl (Args.cons rfl (Args.cons rfl Args.nil)))) rfl rfl (w4_spec _ _ _ _) ?_; rintro _ H9 ⟨rfl, hH9⟩; subst H9) | (refine Xg.call (EnF.st rfl (Args.cons rfl (Args.cons rfl Args.nil))) rfl rfl (rm _) ?_; rintro _ H9 ⟨rfl, hH9⟩; subst H9) | (refine Xg.ev (EvF.build (cs := cCl ⟨sd, s⟩) rfl (ArgsP.cons rfl (ArgsP.cons rfl ArgsP.nil)) (te rfl) (Places.cons (te rfl) (Places.cons (te rfl) Places.nil)) Try.zeroValue23 rfl) rfl rfl ?_) | (refine Xg.ev (EvF.move rfl rfl) rfl rfl ?_) | (refine Xg.ev (EvF.assign rfl rfl) rfl rfl ?_) | (refine Xg.ev (EvF.pickT rfl rfl rfl) rfl rfl ?_) | (refine Xg.ev (EvF.pickF rfl rfl rfl) rfl rfl ?_) | (refine Xg.ev (EvF.not rfl rfl) rfl rfl ?_) | (refine Xg.ev (EvF.loadV rfl rfl (LoadV.whole (te rfl) rfl (List.Mem.head _) rfl)) rfl rfl ?_) | (refine Xg.st (StF.boxAgg rfl rfl) rfl rfl ?_; rintro _ _ ⟨bx, rfl, rfl⟩))) | (refine Xo.g rfl rfl ?_; (first | (with_reducible refine Xw.tf rfl rfl ?_) | (with_reducible refine Xw.caseN (fun h => ?_) (fun h => ?_) <;> simp only [h, decide_true, decide_false, Bool.not_true, Bool.not_false, and_self, and_true, true_and, and_false, false_and]))))) | (refine XO.done rfl ?_; refine hK _ _ ?_; clear hK K) | refine X.seq rfl ?_ | refine X.region rfl (fun K hK => ?_) | refine X.skip rfl ?_ | refine X.ret rfl ?_ | (refine X.ite rfl rfl (fun hc => ?_); (first | (with_reducible refine Xb.t hc ?_) | (with_reducible refine Xb.caseN hc (fun h => ?_) (fun h => ?_)) | (with_reducible refine Xb.caseB hc (fun h => ?_) (fun h => ?_))) <;> clear hc))
          all_goals try (exfalso; first | contradiction | omega)
          exact ret_three (by first | exact .inr rfl | exact .inl rfl) Try.results24 rfl rfl rfl (H' := H) (by (repeat (first | exact List.Sublist.refl _ | apply List.Sublist.cons)); done) ⟨rfl, rfl⟩
        · have hE : payE T sd g s = 0 := by unfold payE; rw [if_pos hok, if_pos h1, if_pos h2, if_pos hm]
          unfold payG payP
          rw [hE, if_pos rfl, if_pos rfl]
          have rm := fun H => rmay_spec T p ⟨sd, s⟩ H
          rw [hm] at rm
          refine Fc.mk (callable Try.call24) Try.func24 rfl Try.ntmps24 rfl ?_; dsimp only [fr]
          repeat' (first | (refine XO.op rfl ?_; (first | ((first | refine Xo.ng rfl ?_ | (refine Xo.g rfl rfl ?_; with_reducible refine Xw.ff ?_)); (first | (refine Xg.call (EnF.st rfl (Args.cons rfl Args.nil)) rfl rfl (ht _ (hT1 [_])) ?_; rintro _ H9 ⟨rfl, hH9⟩; subst H9) | (refine Xg.call (EnF.st rfl (Args.cons rfl (Args.cons rfl (Args.cons rfl Args.nil)))) rfl rfl (w4_spec _ _ _ _) ?_; rintro _ H9 ⟨rfl, hH9⟩; subst H9) | (refine Xg.call (EnF.st rfl (Args.cons rfl (Args.cons rfl Args.nil))) rfl rfl (rm _) ?_; rintro _ H9 ⟨rfl, hH9⟩; subst H9) | (refine Xg.ev (EvF.build (cs := cCl ⟨sd, s⟩) rfl (ArgsP.cons rfl (ArgsP.cons rfl ArgsP.nil)) (te rfl) (Places.cons (te rfl) (Places.cons (te rfl) Places.nil)) Try.zeroValue23 rfl) rfl rfl ?_) | (refine Xg.call (EnF.st rfl (by (repeat (first | exact Args.nil | refine Args.cons rfl ?_)); done)) rfl rfl (paid_spec T p sd g s ask _ (hT1 [_]) hok ⟨h1.1, h2⟩ ⟨h1.2, h2⟩) ?_; rintro _ H9 ⟨rfl, hH9⟩; subst H9) | (refine Xg.ev (EvF.move rfl rfl) rfl rfl ?_) | (refine Xg.ev (EvF.assign rfl rfl) rfl rfl ?_) | (refine Xg.ev (EvF.pickT rfl rfl rfl) rfl rfl ?_) | (refine Xg.ev (EvF.pickF rfl rfl rfl) rfl rfl ?_) | (refine Xg.ev (EvF.not rfl rfl) rfl rfl ?_) | (refine Xg.ev (EvF.loadV rfl rfl (LoadV.whole (te rfl) rfl (List.Mem.head _) rfl)) rfl rfl ?_) | (refine Xg.ev (EvF.extract rfl rfl rfl) rfl rfl ?_) | (refine Xg.st (StF.boxAgg rfl rfl) rfl rfl ?_; rintro _ _ ⟨bx, rfl, rfl⟩))) | (refine Xo.g rfl rfl ?_; (first | (with_reducible refine Xw.tf rfl rfl ?_) | (with_reducible refine Xw.caseN (fun h => ?_) (fun h => ?_) <;> simp only [h, decide_true, decide_false, Bool.not_true, Bool.not_false, and_self, and_true, true_and, and_false, false_and]))))) | (refine XO.done rfl ?_; refine hK _ _ ?_; clear hK K) | refine X.seq rfl ?_ | refine X.region rfl (fun K hK => ?_) | refine X.skip rfl ?_ | refine X.ret rfl ?_ | (refine X.ite rfl rfl (fun hc => ?_); (first | (with_reducible refine Xb.t hc ?_) | (with_reducible refine Xb.caseN hc (fun h => ?_) (fun h => ?_)) | (with_reducible refine Xb.caseB hc (fun h => ?_) (fun h => ?_))) <;> clear hc))
          all_goals try (exfalso; first | contradiction | omega)
          exact ret_three (by first | exact .inr rfl | exact .inl rfl) Try.results24 rfl rfl rfl (H' := H) (by (repeat (first | exact List.Sublist.refl _ | apply List.Sublist.cons)); done) ⟨rfl, rfl⟩
      · have hE : payE T sd g s = 42 := by unfold payE; rw [if_pos hok, if_pos h1, if_neg h2]
        unfold payG payP
        rw [hE, if_neg (by decide), if_neg (by decide)]
        refine Fc.mk (callable Try.call24) Try.func24 rfl Try.ntmps24 rfl ?_; dsimp only [fr]
        repeat' (first | (refine XO.op rfl ?_; (first | ((first | refine Xo.ng rfl ?_ | (refine Xo.g rfl rfl ?_; with_reducible refine Xw.ff ?_)); (first | (refine Xg.call (EnF.st rfl (Args.cons rfl Args.nil)) rfl rfl (ht _ (hT1 [_])) ?_; rintro _ H9 ⟨rfl, hH9⟩; subst H9) | (refine Xg.call (EnF.st rfl (Args.cons rfl (Args.cons rfl (Args.cons rfl Args.nil)))) rfl rfl (w4_spec _ _ _ _) ?_; rintro _ H9 ⟨rfl, hH9⟩; subst H9) | (refine Xg.ev (EvF.move rfl rfl) rfl rfl ?_) | (refine Xg.ev (EvF.assign rfl rfl) rfl rfl ?_) | (refine Xg.ev (EvF.pickT rfl rfl rfl) rfl rfl ?_) | (refine Xg.ev (EvF.pickF rfl rfl rfl) rfl rfl ?_) | (refine Xg.ev (EvF.not rfl rfl) rfl rfl ?_) | (refine Xg.ev (EvF.loadV rfl rfl (LoadV.whole (te rfl) rfl (List.Mem.head _) rfl)) rfl rfl ?_) | (refine Xg.st (StF.boxAgg rfl rfl) rfl rfl ?_; rintro _ _ ⟨bx, rfl, rfl⟩))) | (refine Xo.g rfl rfl ?_; (first | (with_reducible refine Xw.tf rfl rfl ?_) | (with_reducible refine Xw.caseN (fun h => ?_) (fun h => ?_) <;> simp only [h, decide_true, decide_false, Bool.not_true, Bool.not_false, and_self, and_true, true_and, and_false, false_and]))))) | (refine XO.done rfl ?_; refine hK _ _ ?_; clear hK K) | refine X.seq rfl ?_ | refine X.region rfl (fun K hK => ?_) | refine X.skip rfl ?_ | refine X.ret rfl ?_ | (refine X.ite rfl rfl (fun hc => ?_); (first | (with_reducible refine Xb.t hc ?_) | (with_reducible refine Xb.caseN hc (fun h => ?_) (fun h => ?_)) | (with_reducible refine Xb.caseB hc (fun h => ?_) (fun h => ?_))) <;> clear hc))
        all_goals try (exfalso; first | contradiction | omega)
        exact ret_three (by first | exact .inr rfl | exact .inl rfl) Try.results24 rfl rfl rfl (H' := H) (by (repeat (first | exact List.Sublist.refl _ | apply List.Sublist.cons)); done) ⟨rfl, rfl⟩
    · have hE : payE T sd g s = 41 := by unfold payE; rw [if_pos hok, if_neg h1]
      unfold payG payP
      rw [hE, if_neg (by decide), if_neg (by decide)]
      refine Fc.mk (callable Try.call24) Try.func24 rfl Try.ntmps24 rfl ?_; dsimp only [fr]
      repeat' (first | (refine XO.op rfl ?_; (first | ((first | refine Xo.ng rfl ?_ | (refine Xo.g rfl rfl ?_; with_reducible refine Xw.ff ?_)); (first | (refine Xg.call (EnF.st rfl (Args.cons rfl Args.nil)) rfl rfl (ht _ (hT1 [_])) ?_; rintro _ H9 ⟨rfl, hH9⟩; subst H9) | (refine Xg.call (EnF.st rfl (Args.cons rfl (Args.cons rfl (Args.cons rfl Args.nil)))) rfl rfl (w4_spec _ _ _ _) ?_; rintro _ H9 ⟨rfl, hH9⟩; subst H9) | (refine Xg.ev (EvF.move rfl rfl) rfl rfl ?_) | (refine Xg.ev (EvF.assign rfl rfl) rfl rfl ?_) | (refine Xg.ev (EvF.pickT rfl rfl rfl) rfl rfl ?_) | (refine Xg.ev (EvF.pickF rfl rfl rfl) rfl rfl ?_) | (refine Xg.ev (EvF.not rfl rfl) rfl rfl ?_) | (refine Xg.ev (EvF.loadV rfl rfl (LoadV.whole (te rfl) rfl (List.Mem.head _) rfl)) rfl rfl ?_) | (refine Xg.st (StF.boxAgg rfl rfl) rfl rfl ?_; rintro _ _ ⟨bx, rfl, rfl⟩))) | (refine Xo.g rfl rfl ?_; (first | (with_reducible refine Xw.tf rfl rfl ?_) | (with_reducible refine Xw.caseN (fun h => ?_) (fun h => ?_) <;> simp only [h, decide_true, decide_false, Bool.not_true, Bool.not_false, and_self, and_true, true_and, and_false, false_and]))))) | (refine XO.done rfl ?_; refine hK _ _ ?_; clear hK K) | refine X.seq rfl ?_ | refine X.region rfl (fun K hK => ?_) | refine X.skip rfl ?_ | refine X.ret rfl ?_ | (refine X.ite rfl rfl (fun hc => ?_); (first | (with_reducible refine Xb.t hc ?_) | (with_reducible refine Xb.caseN hc (fun h => ?_) (fun h => ?_)) | (with_reducible refine Xb.caseB hc (fun h => ?_) (fun h => ?_))) <;> clear hc))
      all_goals try (exfalso; first | contradiction | omega)
      all_goals exact ret_three (by first | exact .inr rfl | exact .inl rfl) Try.results24 rfl rfl rfl (H' := H) (by (repeat (first | exact List.Sublist.refl _ | apply List.Sublist.cons)); done) ⟨rfl, rfl⟩
  · have ht := rtermsF T p hok
    have hE : payE T sd g s = 40 := by unfold payE; rw [if_neg hok]
    unfold payG payP
    rw [hE, if_neg (by decide), if_neg (by decide)]
    refine Fc.mk (callable Try.call24) Try.func24 rfl Try.ntmps24 rfl ?_; dsimp only [fr]
    repeat' (first | (refine XO.op rfl ?_; (first | ((first | refine Xo.ng rfl ?_); (first | (refine Xg.call (EnF.st rfl (Args.cons rfl Args.nil)) rfl rfl (ht _ (hT1 [_])) ?_; rintro _ H9 ⟨rfl, hH9⟩; subst H9) | (refine Xg.ev (EvF.move rfl rfl) rfl rfl ?_) | (refine Xg.ev (EvF.assign rfl rfl) rfl rfl ?_) | (refine Xg.ev (EvF.not rfl rfl) rfl rfl ?_) | (refine Xg.ev (EvF.loadV rfl rfl (LoadV.whole (te rfl) rfl (List.Mem.head _) rfl)) rfl rfl ?_) | (refine Xg.st (StF.boxAgg rfl rfl) rfl rfl ?_; rintro _ _ ⟨bx, rfl, rfl⟩))))) | (refine XO.done rfl ?_; refine hK _ _ ?_; clear hK K) | refine X.seq rfl ?_ | refine X.region rfl (fun K hK => ?_) | refine X.skip rfl ?_ | refine X.ret rfl ?_ | (refine X.ite rfl rfl (fun hc => ?_); (first | (with_reducible refine Xb.caseB hc (fun h => ?_) (fun h => ?_))) <;> clear hc))
    all_goals try (exfalso; first | contradiction | omega)
    exact ret_three (by first | exact .inr rfl | exact .inl rfl) Try.results24 rfl rfl rfl (H' := H) (by (repeat (first | exact List.Sublist.refl _ | apply List.Sublist.cons)); done) ⟨rfl, rfl⟩
/-- what the receiver loses at most -/
def lsL (T : Tm) (sd s : Int) (gs : Sp) (ask : Bool) : Int := maxL ((ir gs.lo gs.hi).map (los T sd s ask))
theorem los_has {T : Tm} {sd g s : Int} {ask : Bool} (h : ask = false ∨ g ≤ sd ∨ may T ⟨g, s⟩ = true) : (stl T ⟨sd, s⟩ ⟨g, s⟩ ask).pays - val T g s = los T sd s ask g := by
  unfold los stl
  dsimp only
  by_cases h1 : ask = false
  · rw [if_pos h1]
  · rw [if_neg h1]
    by_cases h2 : g ≤ sd
    · rw [if_pos h2]
    · rw [if_neg h2]
      have h3 : may T ⟨g, s⟩ = true := by rcases h with h | h | h <;> first | contradiction | exact h
      rw [if_pos (of_decide_eq_true h3)]
theorem los_none {T : Tm} {sd g s : Int} {ask : Bool} (h1 : ¬ ask = false) (h2 : ¬ g ≤ sd) (h3 : may T ⟨g, s⟩ = false) : (stl T ⟨sd, s⟩ ⟨g, s⟩ ask).pays = los T sd s ask g := by
  unfold los stl
  dsimp only
  rw [if_neg h1, if_neg h2, if_neg (of_decide_eq_false h3)]
  rfl
set_option maxHeartbeats 16000000 in
theorem rloses_spec (T : Tm) (p : Pt) (sd s : Int) (gs : Sp) (ask : Bool) (H : List Row) (hT : TmOk H T p) (hok : tmOk T) (h1 : 1 ≤ sd ∧ sd ≤ 9) (h2 : 1 ≤ s ∧ s ≤ 9) (h3 : (1 ≤ gs.lo ∧ gs.lo ≤ gs.hi) ∧ gs.hi ≤ 9) :
    Fc Try.prog 119 [.agg (cTm T p).toArray, .int .i64 sd, .agg (cSp gs).toArray, .int .i64 s, .bool ask] H (fun v H' => v = .int .i64 (lsL T sd s gs ask) ∧ H' = H) := by
  have hT1 : ∀ Z : List Row, TmOk (Z ++ H) T p := fun Z => hT.sub (fun _ h => List.mem_append_right _ h)
  refine Fc.mk (callable Try.call119) Try.func119 rfl Try.ntmps119 rfl ?_; dsimp only [fr]
  repeat' (first | (refine XO.op rfl ?_; (first | ((first | refine Xo.ng rfl ?_); (first | (refine Xg.ev (EvF.assign rfl rfl) rfl rfl ?_) | (refine Xg.ev (EvF.fieldAddr rfl rfl (te rfl) rfl (te rfl) (by decide)) rfl rfl ?_) | (refine Xg.ev (EvF.loadV rfl rfl (LoadV.own (te rfl) rfl (List.Mem.head _) rfl)) rfl rfl ?_) | (refine Xg.st (StF.boxAgg rfl rfl) rfl rfl ?_; rintro _ _ ⟨bx, rfl, rfl⟩))))) | (refine XO.done rfl ?_; refine hK _ _ ?_; clear hK K) | refine X.seq rfl ?_ | refine X.region rfl (fun K hK => ?_) | refine X.block rfl ?_)
  rename_i b5
  obtain ⟨b7, hb7⟩ : ∃ b, b = bx := ⟨_, rfl⟩
  rw [← hb7]
  clear hb7
  refine X.lp rfl (fun w F' H' => ∃ (k : Nat) (m : Int), w = (gs.hi - gs.lo + 1).toNat - k ∧ k ≤ (gs.hi - gs.lo + 1).toNat ∧ m = maxL (((ir gs.lo gs.hi).take k).map (los T sd s ask)) ∧ H' = ⟨b7, 0, cSp gs, some 26, 2⟩ :: ⟨b5, 0, cTm T p, some 28, 11⟩ :: H ∧
      F' = [(1, .int .i64 sd), (3, .int .i64 s), (4, .bool ask), (5, .pointer (some ⟨b5, 0, none⟩)), (7, .pointer (some ⟨b7, 0, none⟩)), (11, .int .i64 m), (12, .int .i64 (gs.lo + k))])
    _ [(1, .int .i64 sd), (3, .int .i64 s), (4, .bool ask), (5, .pointer (some ⟨b5, 0, none⟩)), (7, .pointer (some ⟨b7, 0, none⟩)), (11, .int .i64 0), (12, .int .i64 (gs.lo + (0 : Nat)))] _ (by rw [show gs.lo + ((0 : Nat) : Int) = gs.lo by omega]; exact (by (repeat (first | exact Sub.nil _ | refine Sub.cons rfl ?_)); done)) (List.Sublist.refl _) ⟨0, 0, rfl, by omega, rfl, rfl, rfl⟩ ?_
  rintro _ _ _ ⟨k, m, rfl, hk, hm, rfl, rfl⟩
  repeat' (first | (refine XO.op rfl ?_; (first | ((first | refine Xo.ng rfl ?_); (first | (refine Xg.ev (EvF.move rfl rfl) rfl rfl ?_) | (refine Xg.ev (EvF.assign rfl rfl) rfl rfl ?_) | (refine Xg.ev (EvF.cmp rfl rfl rfl rfl) rfl rfl ?_) | (refine Xg.ev (EvF.fieldAddr rfl rfl (te rfl) rfl (te rfl) (by decide)) rfl rfl ?_) | (refine Xg.ev (EvF.loadV rfl rfl (LoadV.own (te rfl) rfl (List.Mem.head _) rfl)) rfl rfl ?_) | (refine Xg.ev (EvF.loadV rfl rfl (LoadV.whole (te rfl) rfl (List.Mem.tail _ (List.Mem.head _)) rfl)) rfl rfl ?_))))) | (refine XO.done rfl ?_; refine hK _ _ ?_; clear hK K) | refine X.seq rfl ?_ | refine X.region rfl (fun K hK => ?_) | refine X.block rfl ?_ | (refine X.brk rfl ?_; repeat (first | refine blockX_hit rfl ?_ | refine blockX_miss (by decide) ?_)) | refine X.skip rfl ?_ | refine X.ret rfl ?_ | (refine X.ite rfl rfl (fun hc => ?_); (first | (with_reducible refine Xb.case hc (fun h => ?_) (fun h => ?_))) <;> clear hc))
  · have hkk : (k : Int) < gs.hi - gs.lo + 1 := by omega
    have he := ir_get hkk
    have hst : maxL (((ir gs.lo gs.hi).take (k + 1)).map (los T sd s ask)) = if k = 0 then los T sd s ask (gs.lo + k) else max m (los T sd s ask (gs.lo + k)) := by
      rw [take_snoc he, List.map_append]
      by_cases hk0 : k = 0
      · subst hk0; rfl
      · rw [if_neg hk0, hm]
        exact maxL_snoc _ (by rw [List.length_map, List.length_take, ir_len]; omega)
    have hb := los_bd hok sd s ask (gs.lo + k)
    have hbs := stl_bd hok ⟨sd, s⟩ ⟨gs.lo + k, s⟩ ask
    have hpd := fun H h => paid_spec T p sd (gs.lo + k) s ask H h hok ⟨h1, h2⟩ (show in9 ⟨gs.lo + k, s⟩ from ⟨by dsimp only; omega, h2⟩)
    have hrv := fun H h => rval_spec T p ⟨gs.lo + k, s⟩ H h hok (show in9 ⟨gs.lo + k, s⟩ from ⟨by dsimp only; omega, h2⟩)
    have hvb := val_bd hok (gs.lo + k) s
    have hrm := fun H => rmay_spec T p ⟨gs.lo + k, s⟩ H
    dsimp only at hrv
    have e1 := @los_has T sd (gs.lo + k) s ask
    have e2 := @los_none T sd (gs.lo + k) s ask
    generalize (stl T ⟨sd, s⟩ ⟨gs.lo + k, s⟩ ask).gets = G at hpd hbs
    generalize (stl T ⟨sd, s⟩ ⟨gs.lo + k, s⟩ ask).pays = Y at hpd hbs e1 e2
    generalize (stl T ⟨sd, s⟩ ⟨gs.lo + k, s⟩ ask).has = Z at hbs
    generalize los T sd s ask (gs.lo + k) = L at e1 e2 hst hb
    generalize val T (gs.lo + k) s = V at e1 hrv hvb
    clear hm he
    cases hmm : may T ⟨gs.lo + k, s⟩ <;> rw [hmm] at hrm e1 e2 <;> cases ask <;> by_cases hle : gs.lo + (k : Int) ≤ sd <;> by_cases hk0 : k = 0
    all_goals (first | have hL := e1 (by first | exact .inl rfl | exact .inr (.inl hle) | exact .inr (.inr rfl)) | have hL := e2 (by decide) hle rfl)
    all_goals (
      repeat' (first | (refine XO.op rfl ?_; (first | ((first | refine Xo.ng rfl ?_ | (refine Xo.g rfl rfl ?_; with_reducible refine Xw.ff ?_)); (first | (refine Xg.ev (EvF.cmp (b := true) rfl rfl rfl (congrArg some (decide_eq_true (by omega)))) rfl rfl ?_) | (refine Xg.ev (EvF.cmp (b := false) rfl rfl rfl (congrArg some (decide_eq_false (by omega)))) rfl rfl ?_) | (refine Xg.call (EnF.st rfl (by (repeat (first | exact Args.nil | refine Args.cons rfl ?_)); done)) rfl rfl (hpd _ (hT1 [_, _])) ?_; rintro _ H9 ⟨rfl, hH9⟩; subst H9) | (refine Xg.call (EnF.st rfl (Args.cons rfl (Args.cons rfl Args.nil))) rfl rfl (hrm _) ?_; rintro _ H9 ⟨rfl, hH9⟩; subst H9) | (refine Xg.call (EnF.st rfl (Args.cons rfl (Args.cons rfl Args.nil))) rfl rfl (hrv _ (hT1 [_, _, _])) ?_; rintro _ H9 ⟨rfl, hH9⟩; subst H9) | (refine Xg.ev (EvF.build (cs := cCl ⟨gs.lo + k, s⟩) rfl (ArgsP.cons rfl (ArgsP.cons rfl ArgsP.nil)) (te rfl) (Places.cons (te rfl) (Places.cons (te rfl) Places.nil)) Try.zeroValue23 rfl) rfl rfl ?_) | (refine Xg.ev (EvF.move rfl rfl) rfl rfl ?_) | (refine Xg.ev (EvF.assign rfl rfl) rfl rfl ?_) | (refine Xg.ev (EvF.pickT rfl rfl rfl) rfl rfl ?_) | (refine Xg.ev (EvF.pickF rfl rfl rfl) rfl rfl ?_) | (refine Xg.ev (EvF.cmp rfl rfl rfl rfl) rfl rfl ?_) | (refine Xg.ev (EvF.add64 rfl rfl rfl (by omega) (by omega)) rfl rfl ?_) | (refine Xg.ev (EvF.sub64 rfl rfl rfl (by omega) (by omega)) rfl rfl ?_) | (refine Xg.ev (EvF.not rfl rfl) rfl rfl ?_) | (refine Xg.ev (EvF.fieldAddr rfl rfl (te rfl) rfl (te rfl) (by decide)) rfl rfl ?_) | (refine Xg.ev (EvF.loadV rfl rfl (LoadV.own (te rfl) rfl (List.Mem.tail _ (List.Mem.head _)) rfl)) rfl rfl ?_) | (refine Xg.ev (EvF.loadV rfl rfl (LoadV.whole (te rfl) rfl (List.Mem.head _) rfl)) rfl rfl ?_) | (refine Xg.ev (EvF.loadV rfl rfl (LoadV.whole (te rfl) rfl (List.Mem.tail _ (List.Mem.tail _ (List.Mem.head _))) rfl)) rfl rfl ?_) | (refine Xg.ev (EvF.extract rfl rfl rfl) rfl rfl ?_) | (refine Xg.st (StF.alloc rfl Try.zeroValue26 rfl) rfl rfl ?_; rintro _ _ ⟨bx, rfl, rfl⟩) | (refine Xg.st0 (StF.storeAll (i := 0) rfl rfl rfl (te rfl) rfl rfl rfl rfl) rfl ?_; rintro _ _ ⟨rfl, rfl⟩; dsimp only [List.set]))) | (refine Xo.g rfl rfl ?_; (first | (with_reducible refine Xw.tf rfl rfl ?_) | (with_reducible refine Xw.caseB (fun h => ?_) (fun h => ?_) <;> simp only [h, decide_true, decide_false, Bool.not_true, Bool.not_false, and_self, and_true, true_and, and_false, false_and]))))) | (refine XO.done rfl ?_; refine hK _ _ ?_; clear hK K) | refine X.seq rfl ?_ | refine X.region rfl (fun K hK => ?_) | refine X.skip rfl ?_ | (refine X.ite rfl rfl (fun hc => ?_); (first | (with_reducible refine Xb.t hc ?_) | (with_reducible refine Xb.f hc ?_) | (with_reducible refine Xb.case hc (fun h => ?_) (fun h => ?_))) <;> clear hc)))
    all_goals try (exfalso; first | contradiction | omega)
    all_goals refine ⟨_, [(1, .int .i64 sd), (3, .int .i64 s), (4, .bool _), (5, .pointer (some ⟨b5, 0, none⟩)), (7, .pointer (some ⟨b7, 0, none⟩)), (11, .int .i64 _), (12, .int .i64 (gs.lo + (k + 1 : Nat)))], _, (by rw [show gs.lo + ((k + 1 : Nat) : Int) = gs.lo + k + 1 by omega]; exact (by (repeat (first | exact Sub.nil _ | refine Sub.cons rfl ?_)); done)), (by (repeat (first | exact List.Sublist.refl _ | apply List.Sublist.cons_cons | apply List.Sublist.cons)); done), ⟨k + 1, _, rfl, by omega, (by rw [hst]; clear hst hpd hrv hrm hT1; split <;> omega), rfl, rfl⟩, by omega⟩
  · obtain rfl : k = (gs.hi - gs.lo + 1).toNat := by omega
    rw [List.take_of_length_le (by rw [ir_len]; omega)] at hm
    subst hm
    refine ret_one (by first | exact .inr rfl | exact .inl rfl) Try.results119 rfl (H' := H) (by (repeat (first | exact List.Sublist.refl _ | apply List.Sublist.cons)); done) ?_; simp only [and_true, true_and]
    rfl
end Go.Proofs.Ytjejppodhpdckaa
end
section
set_option linter.unusedVariables false
set_option linter.unusedSimpArgs false
namespace Go.Proofs.Ytjejppodhpdckaa
open Go Go.Fw
set_option maxRecDepth 10000
/-- whether the receiver should ask, and what it loses then -/
def shA (T : Tm) (sd s : Int) (gs : Sp) : Bool := decide (lsL T sd s gs true < lsL T sd s gs false)
def shN (T : Tm) (sd s : Int) (gs : Sp) : Int := if lsL T sd s gs true < lsL T sd s gs false then lsL T sd s gs true else lsL T sd s gs false
set_option maxHeartbeats 8000000 in
theorem rshould_spec (T : Tm) (p : Pt) (sd s : Int) (gs : Sp) (H : List Row) (hT : TmOk H T p) (hok : tmOk T) (h1 : 1 ≤ sd ∧ sd ≤ 9) (h2 : 1 ≤ s ∧ s ≤ 9) (h3 : (1 ≤ gs.lo ∧ gs.lo ≤ gs.hi) ∧ gs.hi ≤ 9) :
    Fc Try.prog 87 [.agg (cTm T p).toArray, .int .i64 sd, .agg (cSp gs).toArray, .int .i64 s] H (fun v H' => v = .tuple #[.bool (shA T sd s gs), .int .i64 (shN T sd s gs)] ∧ H' = H) := by
  have hT1 : ∀ Z : List Row, TmOk (Z ++ H) T p := fun Z => hT.sub (fun _ h => List.mem_append_right _ h)
  unfold shA shN
  by_cases hAB : lsL T sd s gs true < lsL T sd s gs false
  · rw [if_pos hAB, decide_eq_true hAB]
    refine Fc.mk (callable Try.call87) Try.func87 rfl Try.ntmps87 rfl ?_; dsimp only [fr]
    repeat' (first | (refine XO.op rfl ?_; (first | ((first | refine Xo.ng rfl ?_); (first | (refine Xg.ev (EvF.move rfl rfl) rfl rfl ?_) | (refine Xg.ev (EvF.assign rfl rfl) rfl rfl ?_) | (refine Xg.ev (EvF.cmp rfl rfl rfl rfl) rfl rfl ?_) | (refine Xg.st (StF.boxAgg rfl rfl) rfl rfl ?_; rintro _ _ ⟨bx, rfl, rfl⟩))))) | (refine XO.done rfl ?_; refine hK _ _ ?_; clear hK K) | (refine XQ.op rfl ?_; (first | ((first | refine Yo.ng rfl ?_); (first | (refine Yg.call (EnF.st rfl (by (repeat (first | exact Args.nil | refine Args.cons rfl ?_)); done)) rfl rfl (rloses_spec T p sd s gs _ _ (hT1 [_, _]) hok h1 h2 h3) ?_) | (refine Yg.ev (EvF.move rfl rfl) rfl rfl ?_) | (refine Yg.ev (EvF.assign rfl rfl) rfl rfl ?_) | (refine Yg.ev (EvF.loadV rfl rfl (LoadV.whole (te rfl) rfl (List.Mem.head _) rfl)) rfl rfl ?_) | (refine Yg.ev (EvF.loadV rfl rfl (LoadV.whole (te rfl) rfl (List.Mem.tail _ (List.Mem.head _)) rfl)) rfl rfl ?_))))) | (refine XQ.done rfl ?_; refine hK _ ?_; clear hK K) | refine X.seq rfl ?_ | refine X.region rfl (fun K hK => ?_) | refine X.regionD rfl mixed (by kernel_rfl) (fun K hK => ?_) | refine X.skip rfl ?_ | refine X.ret rfl ?_ | (refine X.ite rfl rfl (fun hc => ?_); (first | (with_reducible refine Xb.case hc (fun h => ?_) (fun h => ?_))) <;> clear hc))
    all_goals try (exfalso; first | contradiction | omega)
    exact ret_two (by first | exact .inr rfl | exact .inl rfl) Try.results87 rfl rfl (H' := H) (by (repeat (first | exact List.Sublist.refl _ | apply List.Sublist.cons)); done) ⟨rfl, rfl⟩
  · rw [if_neg hAB, decide_eq_false hAB]
    refine Fc.mk (callable Try.call87) Try.func87 rfl Try.ntmps87 rfl ?_; dsimp only [fr]
    repeat' (first | (refine XO.op rfl ?_; (first | ((first | refine Xo.ng rfl ?_); (first | (refine Xg.ev (EvF.move rfl rfl) rfl rfl ?_) | (refine Xg.ev (EvF.assign rfl rfl) rfl rfl ?_) | (refine Xg.ev (EvF.cmp rfl rfl rfl rfl) rfl rfl ?_) | (refine Xg.st (StF.boxAgg rfl rfl) rfl rfl ?_; rintro _ _ ⟨bx, rfl, rfl⟩))))) | (refine XO.done rfl ?_; refine hK _ _ ?_; clear hK K) | (refine XQ.op rfl ?_; (first | ((first | refine Yo.ng rfl ?_); (first | (refine Yg.call (EnF.st rfl (by (repeat (first | exact Args.nil | refine Args.cons rfl ?_)); done)) rfl rfl (rloses_spec T p sd s gs _ _ (hT1 [_, _]) hok h1 h2 h3) ?_) | (refine Yg.ev (EvF.move rfl rfl) rfl rfl ?_) | (refine Yg.ev (EvF.assign rfl rfl) rfl rfl ?_) | (refine Yg.ev (EvF.loadV rfl rfl (LoadV.whole (te rfl) rfl (List.Mem.head _) rfl)) rfl rfl ?_) | (refine Yg.ev (EvF.loadV rfl rfl (LoadV.whole (te rfl) rfl (List.Mem.tail _ (List.Mem.head _)) rfl)) rfl rfl ?_))))) | (refine XQ.done rfl ?_; refine hK _ ?_; clear hK K) | refine X.seq rfl ?_ | refine X.region rfl (fun K hK => ?_) | refine X.regionD rfl mixed (by kernel_rfl) (fun K hK => ?_) | refine X.skip rfl ?_ | refine X.ret rfl ?_ | (refine X.ite rfl rfl (fun hc => ?_); (first | (with_reducible refine Xb.case hc (fun h => ?_) (fun h => ?_))) <;> clear hc))
    all_goals try (exfalso; first | contradiction | omega)
    exact ret_two (by first | exact .inr rfl | exact .inl rfl) Try.results87 rfl rfl (H' := H) (by (repeat (first | exact List.Sublist.refl _ | apply List.Sublist.cons)); done) ⟨rfl, rfl⟩
noncomputable def askE (T : Tm) (sd s : Int) (gs : Sp) : Int := if tmOk T then (if (1 ≤ sd ∧ sd ≤ 9) ∧ partOk gs.lo gs.hi then (if 1 ≤ s ∧ s ≤ 9 then (if may T ⟨sd, s⟩ = true then 0 else 6) else 42) else 41) else 40
noncomputable def askA (T : Tm) (sd s : Int) (gs : Sp) : Bool := if askE T sd s gs = 0 then shA T sd s gs else false
noncomputable def askL (T : Tm) (sd s : Int) (gs : Sp) : Int := if askE T sd s gs = 0 then shN T sd s gs else 0
set_option maxHeartbeats 8000000 in
theorem rAsk_spec (T : Tm) (p : Pt) (sd s : Int) (gs : Sp) (H : List Row) (hT : TmOk H T p) :
    Fc Try.prog 26 [.agg (cTm T p).toArray, .int .i64 sd, .agg (cSp gs).toArray, .int .i64 s] H (fun v H' => v = .tuple #[.bool (askA T sd s gs), .int .i64 (askL T sd s gs), .int .i64 (askE T sd s gs)] ∧ H' = H) := by
  have hT1 : ∀ Z : List Row, TmOk (Z ++ H) T p := fun Z => hT.sub (fun _ h => List.mem_append_right _ h)
  by_cases hok : tmOk T
  · have ht := rtermsT T p hok
    by_cases h1 : 1 ≤ sd ∧ sd ≤ 9
    · have hw : ∀ H, Fc Try.prog 56 [.int .i64 sd, .int .i64 1, .int .i64 9] H (fun v H' => v = .bool true ∧ H' = H) := fun H => by
        have := w4_spec sd 1 9 H
        rwa [decide_eq_true h1] at this
      by_cases h3 : partOk gs.lo gs.hi
      · have hp : ∀ H, Fc Try.prog 86 [.agg (cSp gs).toArray] H (fun v H' => v = .bool true ∧ H' = H) := fun H => by
          have := spanned_spec gs H
          rwa [decide_eq_true h3] at this
        by_cases h2 : 1 ≤ s ∧ s ≤ 9
        · have hx : ∀ H, Fc Try.prog 56 [.int .i64 s, .int .i64 1, .int .i64 9] H (fun v H' => v = .bool true ∧ H' = H) := fun H => by
            have := w4_spec s 1 9 H
            rwa [decide_eq_true h2] at this
          cases hm : may T ⟨sd, s⟩
          · have hE : askE T sd s gs = 6 := by unfold askE; rw [if_pos hok, if_pos ⟨h1, h3⟩, if_pos h2, if_neg (by rw [hm]; decide)]
            unfold askA askL
            rw [hE, if_neg (by decide), if_neg (by decide)]
            have rm := fun H => rmay_spec T p ⟨sd, s⟩ H
            rw [hm] at rm
            refine Fc.mk (callable Try.call26) Try.func26 rfl Try.ntmps26 rfl ?_; dsimp only [fr]
            repeat' (first | (refine XO.op rfl ?_; (first | ((first | refine Xo.ng rfl ?_ | (refine Xo.g rfl rfl ?_; with_reducible refine Xw.ff ?_)); (first | (refine Xg.call (EnF.st rfl (Args.cons rfl Args.nil)) rfl rfl (ht _ (hT1 [_, _])) ?_; rintro _ H9 ⟨rfl, hH9⟩; subst H9) | (refine Xg.call (EnF.st rfl (Args.cons rfl (Args.cons rfl (Args.cons rfl Args.nil)))) rfl rfl (hw _) ?_; rintro _ H9 ⟨rfl, hH9⟩; subst H9) | (refine Xg.call (EnF.st rfl (Args.cons rfl (Args.cons rfl (Args.cons rfl Args.nil)))) rfl rfl (hx _) ?_; rintro _ H9 ⟨rfl, hH9⟩; subst H9) | (refine Xg.call (EnF.st rfl (Args.cons rfl Args.nil)) rfl rfl (hp _) ?_; rintro _ H9 ⟨rfl, hH9⟩; subst H9) | (refine Xg.call (EnF.st rfl (Args.cons rfl (Args.cons rfl Args.nil))) rfl rfl (rm _) ?_; rintro _ H9 ⟨rfl, hH9⟩; subst H9) | (refine Xg.ev (EvF.build (cs := cCl ⟨sd, s⟩) rfl (ArgsP.cons rfl (ArgsP.cons rfl ArgsP.nil)) (te rfl) (Places.cons (te rfl) (Places.cons (te rfl) Places.nil)) Try.zeroValue23 rfl) rfl rfl ?_) | (refine Xg.ev (EvF.move rfl rfl) rfl rfl ?_) | (refine Xg.ev (EvF.assign rfl rfl) rfl rfl ?_) | (refine Xg.ev (EvF.pickT rfl rfl rfl) rfl rfl ?_) | (refine Xg.ev (EvF.pickF rfl rfl rfl) rfl rfl ?_) | (refine Xg.ev (EvF.not rfl rfl) rfl rfl ?_) | (refine Xg.ev (EvF.loadV rfl rfl (LoadV.whole (te rfl) rfl (List.Mem.head _) rfl)) rfl rfl ?_) | (refine Xg.ev (EvF.loadV rfl rfl (LoadV.whole (te rfl) rfl (List.Mem.tail _ (List.Mem.head _)) rfl)) rfl rfl ?_) | (refine Xg.st (StF.boxAgg rfl rfl) rfl rfl ?_; rintro _ _ ⟨bx, rfl, rfl⟩))) | (refine Xo.g rfl rfl ?_; (first | (with_reducible refine Xw.tf rfl rfl ?_) | (with_reducible refine Xw.caseB (fun h => ?_) (fun h => ?_) <;> simp only [h, decide_true, decide_false, Bool.not_true, Bool.not_false, and_self, and_true, true_and, and_false, false_and]))))) | (refine XO.done rfl ?_; refine hK _ _ ?_; clear hK K) | refine X.seq rfl ?_ | refine X.region rfl (fun K hK => ?_) | refine X.skip rfl ?_ | refine X.ret rfl ?_ | (refine X.ite rfl rfl (fun hc => ?_); (first | (with_reducible refine Xb.t hc ?_) | (with_reducible refine Xb.caseB hc (fun h => ?_) (fun h => ?_))) <;> clear hc))
            all_goals try (exfalso; first | contradiction | omega)
            exact ret_three (by first | exact .inr rfl | exact .inl rfl) Try.results26 rfl rfl rfl (H' := H) (by (repeat (first | exact List.Sublist.refl _ | apply List.Sublist.cons)); done) ⟨rfl, rfl⟩
          · have hE : askE T sd s gs = 0 := by unfold askE; rw [if_pos hok, if_pos ⟨h1, h3⟩, if_pos h2, if_pos hm]
            unfold askA askL
            rw [hE, if_pos rfl, if_pos rfl]
            have rm := fun H => rmay_spec T p ⟨sd, s⟩ H
            rw [hm] at rm
            have hh : (1 ≤ gs.lo ∧ gs.lo ≤ gs.hi) ∧ gs.hi ≤ 9 := by unfold partOk at h3; omega
            refine Fc.mk (callable Try.call26) Try.func26 rfl Try.ntmps26 rfl ?_; dsimp only [fr]
            repeat' (first | (refine XO.op rfl ?_; (first | ((first | refine Xo.ng rfl ?_ | (refine Xo.g rfl rfl ?_; with_reducible refine Xw.ff ?_)); (first | (refine Xg.call (EnF.st rfl (Args.cons rfl Args.nil)) rfl rfl (ht _ (hT1 [_, _])) ?_; rintro _ H9 ⟨rfl, hH9⟩; subst H9) | (refine Xg.call (EnF.st rfl (Args.cons rfl (Args.cons rfl (Args.cons rfl Args.nil)))) rfl rfl (hw _) ?_; rintro _ H9 ⟨rfl, hH9⟩; subst H9) | (refine Xg.call (EnF.st rfl (Args.cons rfl (Args.cons rfl (Args.cons rfl Args.nil)))) rfl rfl (hx _) ?_; rintro _ H9 ⟨rfl, hH9⟩; subst H9) | (refine Xg.call (EnF.st rfl (Args.cons rfl Args.nil)) rfl rfl (hp _) ?_; rintro _ H9 ⟨rfl, hH9⟩; subst H9) | (refine Xg.call (EnF.st rfl (Args.cons rfl (Args.cons rfl Args.nil))) rfl rfl (rm _) ?_; rintro _ H9 ⟨rfl, hH9⟩; subst H9) | (refine Xg.ev (EvF.build (cs := cCl ⟨sd, s⟩) rfl (ArgsP.cons rfl (ArgsP.cons rfl ArgsP.nil)) (te rfl) (Places.cons (te rfl) (Places.cons (te rfl) Places.nil)) Try.zeroValue23 rfl) rfl rfl ?_) | (refine Xg.call (EnF.st rfl (by (repeat (first | exact Args.nil | refine Args.cons rfl ?_)); done)) rfl rfl (rshould_spec T p sd s gs _ (hT1 [_, _]) hok h1 h2 hh) ?_; rintro _ H9 ⟨rfl, hH9⟩; subst H9) | (refine Xg.ev (EvF.move rfl rfl) rfl rfl ?_) | (refine Xg.ev (EvF.assign rfl rfl) rfl rfl ?_) | (refine Xg.ev (EvF.pickT rfl rfl rfl) rfl rfl ?_) | (refine Xg.ev (EvF.pickF rfl rfl rfl) rfl rfl ?_) | (refine Xg.ev (EvF.not rfl rfl) rfl rfl ?_) | (refine Xg.ev (EvF.loadV rfl rfl (LoadV.whole (te rfl) rfl (List.Mem.head _) rfl)) rfl rfl ?_) | (refine Xg.ev (EvF.loadV rfl rfl (LoadV.whole (te rfl) rfl (List.Mem.tail _ (List.Mem.head _)) rfl)) rfl rfl ?_) | (refine Xg.ev (EvF.extract rfl rfl rfl) rfl rfl ?_) | (refine Xg.st (StF.boxAgg rfl rfl) rfl rfl ?_; rintro _ _ ⟨bx, rfl, rfl⟩))) | (refine Xo.g rfl rfl ?_; (first | (with_reducible refine Xw.tf rfl rfl ?_) | (with_reducible refine Xw.caseB (fun h => ?_) (fun h => ?_) <;> simp only [h, decide_true, decide_false, Bool.not_true, Bool.not_false, and_self, and_true, true_and, and_false, false_and]))))) | (refine XO.done rfl ?_; refine hK _ _ ?_; clear hK K) | refine X.seq rfl ?_ | refine X.region rfl (fun K hK => ?_) | refine X.skip rfl ?_ | refine X.ret rfl ?_ | (refine X.ite rfl rfl (fun hc => ?_); (first | (with_reducible refine Xb.t hc ?_) | (with_reducible refine Xb.caseB hc (fun h => ?_) (fun h => ?_))) <;> clear hc))
            all_goals try (exfalso; first | contradiction | omega)
            exact ret_three (by first | exact .inr rfl | exact .inl rfl) Try.results26 rfl rfl rfl (H' := H) (by (repeat (first | exact List.Sublist.refl _ | apply List.Sublist.cons)); done) ⟨rfl, rfl⟩
        · have hx : ∀ H, Fc Try.prog 56 [.int .i64 s, .int .i64 1, .int .i64 9] H (fun v H' => v = .bool false ∧ H' = H) := fun H => by
            have := w4_spec s 1 9 H
            rwa [decide_eq_false h2] at this
          have hE : askE T sd s gs = 42 := by unfold askE; rw [if_pos hok, if_pos ⟨h1, h3⟩, if_neg h2]
          unfold askA askL
          rw [hE, if_neg (by decide), if_neg (by decide)]
          refine Fc.mk (callable Try.call26) Try.func26 rfl Try.ntmps26 rfl ?_; dsimp only [fr]
          repeat' (first | (refine XO.op rfl ?_; (first | ((first | refine Xo.ng rfl ?_ | (refine Xo.g rfl rfl ?_; with_reducible refine Xw.ff ?_)); (first | (refine Xg.call (EnF.st rfl (Args.cons rfl Args.nil)) rfl rfl (ht _ (hT1 [_, _])) ?_; rintro _ H9 ⟨rfl, hH9⟩; subst H9) | (refine Xg.call (EnF.st rfl (Args.cons rfl (Args.cons rfl (Args.cons rfl Args.nil)))) rfl rfl (hw _) ?_; rintro _ H9 ⟨rfl, hH9⟩; subst H9) | (refine Xg.call (EnF.st rfl (Args.cons rfl (Args.cons rfl (Args.cons rfl Args.nil)))) rfl rfl (hx _) ?_; rintro _ H9 ⟨rfl, hH9⟩; subst H9) | (refine Xg.call (EnF.st rfl (Args.cons rfl Args.nil)) rfl rfl (hp _) ?_; rintro _ H9 ⟨rfl, hH9⟩; subst H9) | (refine Xg.ev (EvF.move rfl rfl) rfl rfl ?_) | (refine Xg.ev (EvF.assign rfl rfl) rfl rfl ?_) | (refine Xg.ev (EvF.pickT rfl rfl rfl) rfl rfl ?_) | (refine Xg.ev (EvF.pickF rfl rfl rfl) rfl rfl ?_) | (refine Xg.ev (EvF.not rfl rfl) rfl rfl ?_) | (refine Xg.ev (EvF.loadV rfl rfl (LoadV.whole (te rfl) rfl (List.Mem.head _) rfl)) rfl rfl ?_) | (refine Xg.ev (EvF.loadV rfl rfl (LoadV.whole (te rfl) rfl (List.Mem.tail _ (List.Mem.head _)) rfl)) rfl rfl ?_) | (refine Xg.st (StF.boxAgg rfl rfl) rfl rfl ?_; rintro _ _ ⟨bx, rfl, rfl⟩))) | (refine Xo.g rfl rfl ?_; (first | (with_reducible refine Xw.tf rfl rfl ?_) | (with_reducible refine Xw.caseB (fun h => ?_) (fun h => ?_) <;> simp only [h, decide_true, decide_false, Bool.not_true, Bool.not_false, and_self, and_true, true_and, and_false, false_and]))))) | (refine XO.done rfl ?_; refine hK _ _ ?_; clear hK K) | refine X.seq rfl ?_ | refine X.region rfl (fun K hK => ?_) | refine X.skip rfl ?_ | refine X.ret rfl ?_ | (refine X.ite rfl rfl (fun hc => ?_); (first | (with_reducible refine Xb.t hc ?_) | (with_reducible refine Xb.caseB hc (fun h => ?_) (fun h => ?_))) <;> clear hc))
          all_goals try (exfalso; first | contradiction | omega)
          exact ret_three (by first | exact .inr rfl | exact .inl rfl) Try.results26 rfl rfl rfl (H' := H) (by (repeat (first | exact List.Sublist.refl _ | apply List.Sublist.cons)); done) ⟨rfl, rfl⟩
      · have hp : ∀ H, Fc Try.prog 86 [.agg (cSp gs).toArray] H (fun v H' => v = .bool false ∧ H' = H) := fun H => by
          have := spanned_spec gs H
          rwa [decide_eq_false h3] at this
        have hE : askE T sd s gs = 41 := by unfold askE; rw [if_pos hok, if_neg (fun q => h3 q.2)]
        unfold askA askL
        rw [hE, if_neg (by decide), if_neg (by decide)]
        refine Fc.mk (callable Try.call26) Try.func26 rfl Try.ntmps26 rfl ?_; dsimp only [fr]
        repeat' (first | (refine XO.op rfl ?_; (first | ((first | refine Xo.ng rfl ?_ | (refine Xo.g rfl rfl ?_; with_reducible refine Xw.ff ?_)); (first | (refine Xg.call (EnF.st rfl (Args.cons rfl Args.nil)) rfl rfl (ht _ (hT1 [_, _])) ?_; rintro _ H9 ⟨rfl, hH9⟩; subst H9) | (refine Xg.call (EnF.st rfl (Args.cons rfl (Args.cons rfl (Args.cons rfl Args.nil)))) rfl rfl (hw _) ?_; rintro _ H9 ⟨rfl, hH9⟩; subst H9) | (refine Xg.call (EnF.st rfl (Args.cons rfl Args.nil)) rfl rfl (hp _) ?_; rintro _ H9 ⟨rfl, hH9⟩; subst H9) | (refine Xg.ev (EvF.move rfl rfl) rfl rfl ?_) | (refine Xg.ev (EvF.assign rfl rfl) rfl rfl ?_) | (refine Xg.ev (EvF.pickT rfl rfl rfl) rfl rfl ?_) | (refine Xg.ev (EvF.pickF rfl rfl rfl) rfl rfl ?_) | (refine Xg.ev (EvF.not rfl rfl) rfl rfl ?_) | (refine Xg.ev (EvF.loadV rfl rfl (LoadV.whole (te rfl) rfl (List.Mem.head _) rfl)) rfl rfl ?_) | (refine Xg.ev (EvF.loadV rfl rfl (LoadV.whole (te rfl) rfl (List.Mem.tail _ (List.Mem.head _)) rfl)) rfl rfl ?_) | (refine Xg.st (StF.boxAgg rfl rfl) rfl rfl ?_; rintro _ _ ⟨bx, rfl, rfl⟩))) | (refine Xo.g rfl rfl ?_; (first | (with_reducible refine Xw.tf rfl rfl ?_) | (with_reducible refine Xw.caseB (fun h => ?_) (fun h => ?_) <;> simp only [h, decide_true, decide_false, Bool.not_true, Bool.not_false, and_self, and_true, true_and, and_false, false_and]))))) | (refine XO.done rfl ?_; refine hK _ _ ?_; clear hK K) | refine X.seq rfl ?_ | refine X.region rfl (fun K hK => ?_) | refine X.skip rfl ?_ | refine X.ret rfl ?_ | (refine X.ite rfl rfl (fun hc => ?_); (first | (with_reducible refine Xb.t hc ?_) | (with_reducible refine Xb.caseB hc (fun h => ?_) (fun h => ?_))) <;> clear hc))
        all_goals try (exfalso; first | contradiction | omega)
        exact ret_three (by first | exact .inr rfl | exact .inl rfl) Try.results26 rfl rfl rfl (H' := H) (by (repeat (first | exact List.Sublist.refl _ | apply List.Sublist.cons)); done) ⟨rfl, rfl⟩
    · have hw : ∀ H, Fc Try.prog 56 [.int .i64 sd, .int .i64 1, .int .i64 9] H (fun v H' => v = .bool false ∧ H' = H) := fun H => by
        have := w4_spec sd 1 9 H
        rwa [decide_eq_false h1] at this
      have hE : askE T sd s gs = 41 := by unfold askE; rw [if_pos hok, if_neg (fun q => h1 q.1)]
      unfold askA askL
      rw [hE, if_neg (by decide), if_neg (by decide)]
      refine Fc.mk (callable Try.call26) Try.func26 rfl Try.ntmps26 rfl ?_; dsimp only [fr]
      repeat' (first | (refine XO.op rfl ?_; (first | ((first | refine Xo.ng rfl ?_ | (refine Xo.g rfl rfl ?_; with_reducible refine Xw.ff ?_)); (first | (refine Xg.call (EnF.st rfl (Args.cons rfl Args.nil)) rfl rfl (ht _ (hT1 [_, _])) ?_; rintro _ H9 ⟨rfl, hH9⟩; subst H9) | (refine Xg.call (EnF.st rfl (Args.cons rfl (Args.cons rfl (Args.cons rfl Args.nil)))) rfl rfl (hw _) ?_; rintro _ H9 ⟨rfl, hH9⟩; subst H9) | (refine Xg.ev (EvF.move rfl rfl) rfl rfl ?_) | (refine Xg.ev (EvF.assign rfl rfl) rfl rfl ?_) | (refine Xg.ev (EvF.pickT rfl rfl rfl) rfl rfl ?_) | (refine Xg.ev (EvF.not rfl rfl) rfl rfl ?_) | (refine Xg.ev (EvF.loadV rfl rfl (LoadV.whole (te rfl) rfl (List.Mem.head _) rfl)) rfl rfl ?_) | (refine Xg.ev (EvF.loadV rfl rfl (LoadV.whole (te rfl) rfl (List.Mem.tail _ (List.Mem.head _)) rfl)) rfl rfl ?_) | (refine Xg.st (StF.boxAgg rfl rfl) rfl rfl ?_; rintro _ _ ⟨bx, rfl, rfl⟩))) | (refine Xo.g rfl rfl ?_; (first | (with_reducible refine Xw.tf rfl rfl ?_) | (with_reducible refine Xw.caseB (fun h => ?_) (fun h => ?_) <;> simp only [h, decide_true, decide_false, Bool.not_true, Bool.not_false, and_self, and_true, true_and, and_false, false_and]))))) | (refine XO.done rfl ?_; refine hK _ _ ?_; clear hK K) | refine X.seq rfl ?_ | refine X.region rfl (fun K hK => ?_) | refine X.skip rfl ?_ | refine X.ret rfl ?_ | (refine X.ite rfl rfl (fun hc => ?_); (first | (with_reducible refine Xb.t hc ?_) | (with_reducible refine Xb.caseB hc (fun h => ?_) (fun h => ?_))) <;> clear hc))
      all_goals try (exfalso; first | contradiction | omega)
      exact ret_three (by first | exact .inr rfl | exact .inl rfl) Try.results26 rfl rfl rfl (H' := H) (by (repeat (first | exact List.Sublist.refl _ | apply List.Sublist.cons)); done) ⟨rfl, rfl⟩
  · have ht := rtermsF T p hok
    have hE : askE T sd s gs = 40 := by unfold askE; rw [if_neg hok]
    unfold askA askL
    rw [hE, if_neg (by decide), if_neg (by decide)]
    refine Fc.mk (callable Try.call26) Try.func26 rfl Try.ntmps26 rfl ?_; dsimp only [fr]
    repeat' (first | (refine XO.op rfl ?_; (first | ((first | refine Xo.ng rfl ?_); (first | (refine Xg.call (EnF.st rfl (Args.cons rfl Args.nil)) rfl rfl (ht _ (hT1 [_, _])) ?_; rintro _ H9 ⟨rfl, hH9⟩; subst H9) | (refine Xg.ev (EvF.move rfl rfl) rfl rfl ?_) | (refine Xg.ev (EvF.assign rfl rfl) rfl rfl ?_) | (refine Xg.ev (EvF.not rfl rfl) rfl rfl ?_) | (refine Xg.ev (EvF.loadV rfl rfl (LoadV.whole (te rfl) rfl (List.Mem.tail _ (List.Mem.head _)) rfl)) rfl rfl ?_) | (refine Xg.st (StF.boxAgg rfl rfl) rfl rfl ?_; rintro _ _ ⟨bx, rfl, rfl⟩))))) | (refine XO.done rfl ?_; refine hK _ _ ?_; clear hK K) | refine X.seq rfl ?_ | refine X.region rfl (fun K hK => ?_) | refine X.skip rfl ?_ | refine X.ret rfl ?_ | (refine X.ite rfl rfl (fun hc => ?_); (first | (with_reducible refine Xb.caseB hc (fun h => ?_) (fun h => ?_))) <;> clear hc))
    all_goals try (exfalso; first | contradiction | omega)
    exact ret_three (by first | exact .inr rfl | exact .inl rfl) Try.results26 rfl rfl rfl (H' := H) (by (repeat (first | exact List.Sublist.refl _ | apply List.Sublist.cons)); done) ⟨rfl, rfl⟩
end Go.Proofs.Ytjejppodhpdckaa
end
section
set_option linter.unusedVariables false
set_option linter.unusedSimpArgs false
namespace Go.Proofs.Ytjejppodhpdckaa
open Go Go.Fw
set_option maxRecDepth 10000
def abP (sd g s : Int) : Ab := ⟨[], [lo1 ⟨sd, s⟩, lo1 ⟨g, s⟩], [], [lo1 ⟨sd, s⟩]⟩
theorem openPay (T : Tm) (sd g s : Int) : openE T (abP sd g s) = payE T sd g s := by
  unfold openE payE
  have h1 : askD (abP sd g s) := fun d hd => absurd hd List.not_mem_nil
  have h2 : askG (abP sd g s) ↔ (1 ≤ sd ∧ sd ≤ 9) ∧ (1 ≤ g ∧ g ≤ 9) := by simp [askG, abP, lo1, partOk]
  have h3 : askS (abP sd g s) ↔ 1 ≤ s ∧ s ≤ 9 := by simp [askS, abP, lo1, partOk]
  have h4 : askM (abP sd g s) := fun d hd => absurd hd List.not_mem_nil
  have h5 : askN T (abP sd g s) ↔ may T ⟨sd, s⟩ = true := by
    simp only [askN, abP, List.mem_cons, List.not_mem_nil, or_false, forall_eq, cls_lo1]
    split <;> simp_all
  simp only [h1, h2, h3, h4, h5, if_true]
theorem payE_zero {T : Tm} {sd g s : Int} (h : payE T sd g s = 0) : tmOk T ∧ in9 ⟨sd, s⟩ ∧ in9 ⟨g, s⟩ := by
  unfold payE at h
  by_cases h1 : tmOk T
  · by_cases h2 : (1 ≤ sd ∧ sd ≤ 9) ∧ (1 ≤ g ∧ g ≤ 9)
    · by_cases h3 : 1 ≤ s ∧ s ≤ 9
      · exact ⟨h1, ⟨h2.1, h3⟩, ⟨h2.2, h3⟩⟩
      · simp [h1, h2, h3] at h
    · simp [h1, h2] at h
  · simp [h1] at h
/-- what open gives -/
def tsPy : List TOp := [⟨some 24, [], [], []⟩, ⟨some 25, [], [], []⟩, ⟨some 26, [1], [1], []⟩, ⟨some 27, [], [], []⟩, ⟨some 28, [1, 2, 3], [3], []⟩, ⟨some 29, [1, 2, 3, 4], [2, 4], []⟩, ⟨some 30, [], [], []⟩, ⟨some 31, [1, 2, 3, 4, 6], [6], []⟩, ⟨some 32, [1, 2, 3, 4, 6, 7], [7], []⟩, ⟨some 33, [1, 2, 3, 4, 5, 6, 7, 8], [5, 8], []⟩, ⟨some 34, [0, 1, 2, 3, 4, 5, 6, 7, 8, 9], [0, 9], [5, 8]⟩, ⟨some 23, [0, 1, 2, 3, 4, 5, 6, 7, 8, 9, 10], [10], []⟩, ⟨some 35, [0, 1, 2, 3, 4, 5, 6, 7, 8, 9, 10, 11], [11], []⟩, ⟨some 36, [0, 1, 2, 3, 4, 5, 6, 7, 8, 9, 10, 11], [11], []⟩, ⟨some 15, [], [], []⟩, ⟨none, [0, 1, 2, 3, 4, 5, 6, 7, 8, 9, 10, 11, 12, 14], [14, 12], [14]⟩, ⟨some 12, [0, 1, 2, 3, 4, 5, 6, 7, 8, 9, 10, 11, 12, 13, 14, 15], [13], []⟩]
def valPy (b5 b13 b14 : Nat) (T TX : Tm) (p q : Pt) (sd g s e : Int) (ask : Bool) (k : Nat) (env : Env) : Value :=
  match k with
  | 0 => .agg (cTm T p).toArray
  | 1 => .agg (cCl ⟨sd, s⟩).toArray
  | 2 => .agg (cLo (lo1 ⟨sd, s⟩)).toArray
  | 3 => .agg (cCl ⟨g, s⟩).toArray
  | 4 => .agg (cLo (lo1 ⟨g, s⟩)).toArray
  | 5 => .slice (some ⟨(env 5).1, 0, none⟩) 2 2
  | 6 => .agg (cCl ⟨sd, s⟩).toArray
  | 7 => .agg (cLo (lo1 ⟨sd, s⟩)).toArray
  | 8 => .slice (some ⟨(env 8).1, 0, none⟩) 1 1
  | 9 => .agg (cAb (abP sd g s) ⟨none, 0, some ⟨(env 5).1, 0, none⟩, 2, none, 0, some ⟨(env 8).1, 0, none⟩, 1⟩).toArray
  | 10 => .tuple #[.agg (cTm TX q).toArray, .int .i64 e]
  | 11 => .tuple #[.agg (cTm TX q).toArray, .int .i64 e]
  | 12 => .agg (cTm TX q).toArray
  | 13 => .int .i64 e
  | 14 => .pointer (some ⟨(env 14).1, 0, none⟩)
  | 15 => undef
  | 16 => .int .i64 e
  | _ => undef
def rowsPy (b5 b13 b14 : Nat) (T TX : Tm) (p q : Pt) (sd g s e : Int) (ask : Bool) (k : Nat) (env : Env) : List Row :=
  match k with
  | 5 => [⟨(env 5).1, 0, (cLo (lo1 ⟨sd, s⟩) ++ cLo (lo1 ⟨g, s⟩)), some 105, 2 * 4⟩]
  | 8 => [⟨(env 8).1, 0, cLo (lo1 ⟨sd, s⟩), some 105, 1 * 4⟩]
  | 14 => [⟨(env 14).1, 0, cTm Tz pz, some 111, 11⟩]
  | 15 => [⟨(env 14).1, 0, cTm TX q, some 111, 11⟩]
  | _ => []
theorem locPy (b5 b13 b14 : Nat) (T TX : Tm) (p q : Pt) (sd g s e : Int) (ask : Bool) : ∀ k env i q9, i ≠ k → (tAt tsPy k).sup.contains i = false → valPy b5 b13 b14 T TX p q sd g s e ask k (upd env i q9) = valPy b5 b13 b14 T TX p q sd g s e ask k env ∧ rowsPy b5 b13 b14 T TX p q sd g s e ask k (upd env i q9) = rowsPy b5 b13 b14 T TX p q sd g s e ask k env := by
  intro k env i q hk hs
  have hu : ∀ j, j ≠ i → upd env i q j = env j := fun j hj => by unfold upd; rw [if_neg hj]
  match k, hk, hs with
  | 0, _, _ => exact ⟨rfl, rfl⟩
  | 1, _, _ => exact ⟨rfl, rfl⟩
  | 2, _, _ => exact ⟨rfl, rfl⟩
  | 3, _, _ => exact ⟨rfl, rfl⟩
  | 4, _, _ => exact ⟨rfl, rfl⟩
  | 5, hk, hs => exact ⟨by simp only [valPy, hu 5 (fun e => hk e.symm)], by simp only [rowsPy, hu 5 (fun e => hk e.symm)]⟩
  | 6, _, _ => exact ⟨rfl, rfl⟩
  | 7, _, _ => exact ⟨rfl, rfl⟩
  | 8, hk, hs => exact ⟨by simp only [valPy, hu 8 (fun e => hk e.symm)], by simp only [rowsPy, hu 8 (fun e => hk e.symm)]⟩
  | 9, hk, hs => exact ⟨by simp only [valPy, hu 5 (by rintro rfl; cases hs), hu 8 (by rintro rfl; cases hs)], by simp only [rowsPy, hu 5 (by rintro rfl; cases hs), hu 8 (by rintro rfl; cases hs)]⟩
  | 10, _, _ => exact ⟨rfl, rfl⟩
  | 11, _, _ => exact ⟨rfl, rfl⟩
  | 12, _, _ => exact ⟨rfl, rfl⟩
  | 13, _, _ => exact ⟨rfl, rfl⟩
  | 14, hk, hs => exact ⟨by simp only [valPy, hu 14 (fun e => hk e.symm)], by simp only [rowsPy, hu 14 (fun e => hk e.symm)]⟩
  | 15, hk, hs => exact ⟨by simp only [valPy, hu 14 (by rintro rfl; cases hs)], by simp only [rowsPy, hu 14 (by rintro rfl; cases hs)]⟩
  | 16, _, _ => exact ⟨rfl, rfl⟩
  | _ + 17, _, _ => exact ⟨rfl, rfl⟩
set_option maxHeartbeats 16000000 in
theorem kPays_spec (T : Tm) (p : Pt) (sd g s : Int) (ask : Bool) (H : List Row) (hT : TmOk H T p) :
    Fc Try.prog 23 [.agg (cTm T p).toArray, .int .i64 sd, .int .i64 g, .int .i64 s, .bool ask] H (fun v H' => v = .tuple #[.int .i64 (payG T sd g s ask), .int .i64 (payP T sd g s ask), .int .i64 (payE T sd g s)] ∧ H' = H) := by
  have hT1 : ∀ Z : List Row, TmOk (Z ++ H) T p := fun Z => hT.sub (fun _ h => List.mem_append_right _ h)
  obtain ⟨TX, q, hTX, hop⟩ := open_fn T p (abP sd g s) (fun d hd => absurd hd List.not_mem_nil) HI1
  rw [openPay] at hTX hop
  have hz := @payE_zero T sd g s
  unfold payG payP
  obtain ⟨e, he⟩ : ∃ e, payE T sd g s = e := ⟨_, rfl⟩
  rw [he] at hTX hop hz ⊢
  refine Fc.mk (callable Try.call23) Try.func23 rfl Try.ntmps23 rfl ?_; dsimp only [fr]
  repeat' (first | (refine XO.op rfl ?_; (first | ((first | refine Xo.ng rfl ?_); (first | (refine Xg.call (EnF.st rfl (Args.cons rfl (Args.cons rfl Args.nil))) rfl rfl (class_spec _ _ _) ?_; rintro _ H9 ⟨rfl, hH9⟩; subst H9) | (refine Xg.ev (EvF.move rfl rfl) rfl rfl ?_) | (refine Xg.ev (EvF.assign rfl rfl) rfl rfl ?_) | (refine Xg.st (StF.boxAgg rfl rfl) rfl rfl ?_; rintro _ _ ⟨bx, rfl, rfl⟩) | (refine Xg.st (StF.alloc rfl Try.zeroValue26 rfl) rfl rfl ?_; rintro _ _ ⟨bx, rfl, rfl⟩) | (refine Xg.st0 (StF.storeAll (i := 0) rfl rfl rfl (te rfl) rfl rfl rfl rfl) rfl ?_; rintro _ _ ⟨rfl, rfl⟩; dsimp only [List.set]) | (refine Xg.st0 (StF.storeAll (i := 1) rfl rfl rfl (te rfl) rfl rfl rfl rfl) rfl ?_; rintro _ _ ⟨rfl, rfl⟩; dsimp only [List.set]))))) | (refine XO.done rfl ?_; refine hK _ _ ?_; clear hK K) | refine X.seq rfl ?_ | refine X.region rfl (fun K hK => ?_))
  rename_i b5 b13
  obtain ⟨b14, hb14⟩ : ∃ b, b = bx := ⟨_, rfl⟩
  rw [← hb14]
  clear hb14
  refine X.weakR (H' := ⟨b14, 0, cCl ⟨g, s⟩, some 23, 2⟩ :: ⟨b13, 0, cCl ⟨sd, s⟩, some 23, 2⟩ :: ⟨b5, 0, cTm T p, some 28, 11⟩ :: H) (by (repeat (first | exact List.Sublist.refl _ | apply List.Sublist.cons_cons | apply List.Sublist.cons)); done) ?_
  refine X.regionOb tsPy [4, 5, 13, 14] [(4, .bool ask), (5, .pointer (some ⟨b5, 0, none⟩)), (13, .pointer (some ⟨b13, 0, none⟩)), (14, .pointer (some ⟨b14, 0, none⟩))] (valPy b5 b13 b14 T TX p q sd g s e ask) (rowsPy b5 b13 b14 T TX p q sd g s e ask) (fun _ => (0, 0)) (⟨b14, 0, cCl ⟨g, s⟩, some 23, 2⟩ :: ⟨b13, 0, cCl ⟨sd, s⟩, some 23, 2⟩ :: ⟨b5, 0, cTm T p, some 28, 11⟩ :: H) rfl mixed (by (repeat (first | exact Sub.nil _ | refine Sub.cons rfl ?_)); done) rfl (by kernel_rfl) (locPy b5 b13 b14 T TX p q sd g s e ask) (List.Sublist.refl _) ?_ ?_
  · have hs : ∀ (Y Z : List Row), (∀ r ∈ ⟨b14, 0, cCl ⟨g, s⟩, some 23, 2⟩ :: ⟨b13, 0, cCl ⟨sd, s⟩, some 23, 2⟩ :: ⟨b5, 0, cTm T p, some 28, 11⟩ :: H, r ∈ Y) → TmOk (Z ++ Y) T p := fun Y Z hS => hT.sub (fun r hr => List.mem_append_right _ (hS r (List.mem_append_right [_, _, _] hr)))
    repeat' (first | exact AllF.done rfl | (refine AllF.step rfl ?_ ?_; · (first | fail | ((first | refine Ob.ng rfl ?_); (first | exact ObK.pure (fun env R hR => by exact ⟨_, EvF.move rfl rfl, rfl⟩) rfl (fun _ => rfl) | exact ObK.pure (fun env R hR => by exact ⟨_, EvF.assign rfl rfl, rfl⟩) rfl (fun _ => rfl) | exact ObK.pure (fun env R hR => by exact ⟨_, EvF.loadV rfl rfl (LoadV.whole (te rfl) rfl (hR _ (List.Mem.head _)) rfl), rfl⟩) rfl (fun _ => rfl) | exact ObK.pure (fun env R hR => by exact ⟨_, EvF.loadV rfl rfl (LoadV.whole (te rfl) rfl (hR _ (List.Mem.tail _ (List.Mem.head _))) rfl), rfl⟩) rfl (fun _ => rfl) | exact ObK.pure (fun env R hR => by exact ⟨_, EvF.loadV rfl rfl (LoadV.whole (te rfl) rfl (hR _ (List.Mem.tail _ (List.Mem.tail _ (List.Mem.head _)))) rfl), rfl⟩) rfl (fun _ => rfl) | (exact fun env S hS => OpF.callV (Z := []) (EnF.st rfl (Args.cons rfl Args.nil)) (only_spec ⟨sd, s⟩ _) rfl rfl) | (exact fun env S hS => OpF.callV (Z := []) (EnF.st rfl (Args.cons rfl Args.nil)) (only_spec ⟨g, s⟩ _) rfl rfl) | (exact fun env S hS => (StF.buildTwo rfl elLo rfl rfl rfl rfl rfl rfl (by decide) (by decide)).op.mono (fun v H' ⟨b, hv, hH⟩ => ⟨(b, 0), fun _ => hv, by rw [hH]; exact List.Perm.refl _⟩)) | (exact fun env S hS => (StF.buildOne rfl elLo rfl rfl rfl (by decide) (by decide)).op.mono (fun v H' ⟨b, hv, hH⟩ => ⟨(b, 0), fun _ => hv, by rw [hH]; exact List.Perm.refl _⟩)) | (exact ObK.pure (fun env S hS => ⟨_, EvF.build (cs := cAb (abP sd g s) ⟨none, 0, some ⟨(env 5).1, 0, none⟩, 2, none, 0, some ⟨(env 8).1, 0, none⟩, 1⟩) rfl (ArgsP.cons rfl (ArgsP.cons rfl ArgsP.nil)) (te rfl) (Places.cons (te rfl) (Places.cons (te rfl) (Places.cons (te rfl) (Places.cons (te rfl) Places.nil)))) Try.zeroValue109 rfl, rfl⟩) rfl (fun _ => rfl)) | (exact fun env S hS => OpF.callV (Z := [_, _]) (EnF.st rfl (Args.cons rfl (Args.cons rfl Args.nil))) (hop ⟨none, 0, some ⟨(env 5).1, 0, none⟩, 2, none, 0, some ⟨(env 8).1, 0, none⟩, 1⟩ _ (hs S [_, _] hS) ⟨sleNil, SlE.ofRow (List.Mem.head _) (fun _ _ => rfl), sleNil, SlE.ofRow (List.Mem.tail _ (List.Mem.head _)) (fun _ _ => rfl), (fun d hd => absurd hd List.not_mem_nil), Nat.zero_le _, Nat.le_of_ble_eq_true rfl, Nat.zero_le _, Nat.le_of_ble_eq_true rfl⟩) rfl rfl) | (exact ObK.pure (fun env S hS => ⟨_, EvF.extract rfl rfl rfl, rfl⟩) rfl (fun _ => rfl)) | (exact fun env S hS => (StF.alloc rfl Try.zeroValue111 rfl).op.mono (fun v H' ⟨b, hv, hH⟩ => ⟨(b, 0), fun _ => hv, by rw [hH]; exact List.Perm.refl _⟩)) | (exact fun env S hS => (StF.storeAll (i := 0) (vs := cTm TX q) (cs := cTm Tz pz) rfl rfl rfl (te rfl) rfl rfl rfl rfl).op.mono (fun v H' ⟨hv, hH⟩ => ⟨(0, 0), fun h => absurd rfl h, by rw [hH]; exact List.Perm.refl _⟩)))))))
  intro env t ha hv
  refine ⟨_, (ha.cons (hv 14 15 (Nat.le_of_ble_eq_true rfl) rfl)).cons (hv 16 12 (Nat.le_of_ble_eq_true rfl) rfl), ?_⟩
  clear hv ha
  show X _ _ _ ((12, .int .i64 e) :: (15, .pointer (some ⟨(env 14).1, 0, none⟩)) :: _) (⟨(env 14).1, 0, cTm TX q, some 111, 11⟩ :: ⟨b14, 0, cCl ⟨g, s⟩, some 23, 2⟩ :: ⟨b13, 0, cCl ⟨sd, s⟩, some 23, 2⟩ :: ⟨b5, 0, cTm T p, some 28, 11⟩ :: H) _
  by_cases h0 : e = 0
  · obtain ⟨rfl, rfl⟩ := hTX h0
    obtain ⟨hok, h1, h2⟩ := hz h0
    subst h0
    rw [if_pos rfl, if_pos rfl]
    repeat' (first | (refine XO.op rfl ?_; (first | ((first | refine Xo.ng rfl ?_); (first | (refine Xg.call (EnF.st rfl (by (repeat (first | exact Args.nil | refine Args.cons rfl ?_)); done)) rfl rfl (settle_spec TX q ⟨sd, s⟩ ⟨g, s⟩ ask _ (hT1 [_, _, _, _]) hok h1 h2) ?_; rintro _ H9 ⟨rfl, hH9⟩; subst H9) | (refine Xg.ev (EvF.move rfl rfl) rfl rfl ?_) | (refine Xg.ev (EvF.assign rfl rfl) rfl rfl ?_) | (refine Xg.ev (EvF.cmp rfl rfl rfl rfl) rfl rfl ?_) | (refine Xg.ev (EvF.loadV rfl rfl (LoadV.whole (te rfl) rfl (List.Mem.head _) rfl)) rfl rfl ?_) | (refine Xg.ev (EvF.loadV rfl rfl (LoadV.whole (te rfl) rfl (List.Mem.tail _ (List.Mem.head _)) rfl)) rfl rfl ?_) | (refine Xg.ev (EvF.loadV rfl rfl (LoadV.whole (te rfl) rfl (List.Mem.tail _ (List.Mem.tail _ (List.Mem.head _))) rfl)) rfl rfl ?_) | (refine Xg.st (StF.alloc rfl Try.zeroValue139 rfl) rfl rfl ?_; rintro _ _ ⟨bx, rfl, rfl⟩) | (refine Xg.st0 (StF.storeAll (i := 0) rfl rfl rfl (te rfl) rfl rfl rfl rfl) rfl ?_; rintro _ _ ⟨rfl, rfl⟩; dsimp only [List.set]))))) | (refine XO.done rfl ?_; refine hK _ _ ?_; clear hK K) | (refine XQ.op rfl ?_; (first | ((first | refine Yo.ng rfl ?_); (first | (refine Yg.ev (EvF.assign rfl rfl) rfl rfl ?_) | (refine Yg.ev (EvF.fieldAddr rfl rfl (te rfl) rfl (te rfl) (by decide)) rfl rfl ?_) | (refine Yg.ev (EvF.loadV rfl rfl (LoadV.own (te rfl) rfl (List.Mem.head _) rfl)) rfl rfl ?_))))) | (refine XQ.done rfl ?_; refine hK _ ?_; clear hK K) | refine X.seq rfl ?_ | refine X.region rfl (fun K hK => ?_) | refine X.regionD rfl mixed (by kernel_rfl) (fun K hK => ?_) | refine X.skip rfl ?_ | refine X.ret rfl ?_ | (refine X.ite rfl rfl (fun hc => ?_); (first | (with_reducible refine Xb.caseN hc (fun h => ?_) (fun h => ?_))) <;> clear hc))
    all_goals try (exfalso; contradiction)
    exact ret_three (by first | exact .inr rfl | exact .inl rfl) Try.results23 rfl rfl rfl (H' := H) (by (repeat (first | exact List.Sublist.refl _ | apply List.Sublist.cons)); done) ⟨rfl, rfl⟩
  · rw [if_neg h0, if_neg h0]
    repeat' (first | (refine XO.op rfl ?_; (first | ((first | refine Xo.ng rfl ?_); (first | (refine Xg.ev (EvF.move rfl rfl) rfl rfl ?_) | (refine Xg.ev (EvF.assign rfl rfl) rfl rfl ?_) | (refine Xg.ev (EvF.cmp rfl rfl rfl rfl) rfl rfl ?_) | (refine Xg.ev (EvF.loadV rfl rfl (LoadV.whole (te rfl) rfl (List.Mem.head _) rfl)) rfl rfl ?_) | (refine Xg.ev (EvF.loadV rfl rfl (LoadV.whole (te rfl) rfl (List.Mem.tail _ (List.Mem.head _)) rfl)) rfl rfl ?_) | (refine Xg.ev (EvF.loadV rfl rfl (LoadV.whole (te rfl) rfl (List.Mem.tail _ (List.Mem.tail _ (List.Mem.head _))) rfl)) rfl rfl ?_))))) | (refine XO.done rfl ?_; refine hK _ _ ?_; clear hK K) | refine X.seq rfl ?_ | refine X.region rfl (fun K hK => ?_) | refine X.skip rfl ?_ | refine X.ret rfl ?_ | (refine X.ite rfl rfl (fun hc => ?_); (first | (with_reducible refine Xb.caseN hc (fun h => ?_) (fun h => ?_))) <;> clear hc))
    all_goals try (exfalso; contradiction)
    exact ret_three (by first | exact .inr rfl | exact .inl rfl) Try.results23 rfl rfl rfl (H' := H) (by (repeat (first | exact List.Sublist.refl _ | apply List.Sublist.cons)); done) ⟨rfl, rfl⟩
end Go.Proofs.Ytjejppodhpdckaa
end
section
set_option linter.unusedVariables false
set_option linter.unusedSimpArgs false
namespace Go.Proofs.Ytjejppodhpdckaa
open Go Go.Fw
set_option maxRecDepth 10000
set_option maxHeartbeats 4000000 in
theorem numbersOut_spec (g : Nat) (first cap : List Value) (f : Out → Int) (l : List Out) (a : Option Addr) (c : Nat) (H : List Row) (hl : SlE H a cOut 3 l) (hb : l.length ≤ 1000000) (h0 : 0 < l.length) (hg : ∀ e ∈ l, ∀ Z : List Row, Fc Try.prog g (first ++ [.agg (cOut e).toArray] ++ cap) (Z ++ H) (fun v H' => v = .int .i64 (f e) ∧ H' = Z ++ H)) :
    Fc Try.prog 141 [.slice a l.length c, .func (.func g) first.toArray cap.toArray] H (fun v H' => ∃ b k, v = .slice (some ⟨b, 0, none⟩) l.length k ∧ H' = ⟨b, 0, (l.map f).flatMap cI, some 3, k * 1⟩ :: H) := by
  refine Fc.mk (callable Try.call141) Try.func141 rfl Try.ntmps141 rfl ?_; dsimp only [fr]
  repeat' (first | (refine XO.op rfl ?_; (first | ((first | refine Xo.ng rfl ?_); (first | (refine Xg.ev (EvF.move rfl rfl) rfl rfl ?_) | (refine Xg.ev (EvF.assign rfl rfl) rfl rfl ?_) | (refine Xg.ev (EvF.lenSlice rfl rfl (te rfl)) rfl rfl ?_))))) | (refine XO.done rfl ?_; refine hK _ _ ?_; clear hK K) | refine X.seq rfl ?_ | refine X.region rfl (fun K hK => ?_) | refine X.block rfl ?_)
  refine X.lp rfl (fun q F' H' => ∃ (k : Nat) (out : Value) (Z : List Row), q = l.length - k ∧ k ≤ l.length ∧ ((k = 0 ∧ out = .slice none 0 0 ∧ Z = []) ∨ ∃ b q, out = .slice (some ⟨b, 0, none⟩) k q ∧ Z = [⟨b, 0, ((l.take k).map f).flatMap cI, some 3, q * 1⟩]) ∧ Z ++ H = H' ∧
      F' = [(1, .func (.func g) first.toArray cap.toArray), (5, out), (8, .slice a l.length c), (9, .int .i64 l.length), (10, .int .i64 k)])
    l.length [(1, .func (.func g) first.toArray cap.toArray), (5, .slice none 0 0), (8, .slice a l.length c), (9, .int .i64 l.length), (10, .int .i64 (0 : Nat))] _ (by (repeat (first | exact Sub.nil _ | refine Sub.cons rfl ?_)); done) (by (repeat (first | exact List.Sublist.refl _ | apply List.Sublist.cons_cons | apply List.Sublist.cons)); done) ⟨0, _, [], by omega, by omega, .inl ⟨rfl, rfl, rfl⟩, rfl, rfl⟩ ?_
  rintro _ _ H2 ⟨k, out, Z, rfl, hk, ⟨rfl, rfl, rfl⟩ | ⟨b0, q0, rfl, rfl⟩, hH, rfl⟩
  · rw [List.nil_append] at hH
    subst hH
    repeat' (first | (refine XO.op rfl ?_; (first | ((first | refine Xo.ng rfl ?_); (first | (refine Xg.ev (EvF.move rfl rfl) rfl rfl ?_) | (refine Xg.ev (EvF.assign rfl rfl) rfl rfl ?_) | (refine Xg.ev (EvF.cmp rfl rfl rfl rfl) rfl rfl ?_))))) | (refine XO.done rfl ?_; refine hK _ _ ?_; clear hK K) | refine X.seq rfl ?_ | refine X.region rfl (fun K hK => ?_) | refine X.block rfl ?_ | (refine X.brk rfl ?_; repeat (first | refine blockX_hit rfl ?_ | refine blockX_miss (by decide) ?_)) | refine X.skip rfl ?_ | refine X.ret rfl ?_ | (refine X.ite rfl rfl (fun hc => ?_); (first | (with_reducible refine Xb.case hc (fun h => ?_) (fun h => ?_))) <;> clear hc))
    · obtain ⟨b, off, e, rfl, he⟩ := hl.elem (i := 0) (by omega)
      have hge : ∀ r, Fc Try.prog g (first ++ [.agg (cOut e).toArray] ++ cap) (r :: H) (fun v H' => v = .int .i64 (f e) ∧ H' = r :: H) := fun r => hg e (List.mem_of_getElem? he) [r]
      repeat' (first | (refine XO.op rfl ?_; (first | ((first | refine Xo.ng rfl ?_); (first | (refine Xg.ev (EvF.loadV rfl rfl (LoadV.elA0 hl he (te rfl) rfl (fun _ hm => hm) rfl)) rfl rfl ?_) | (refine Xg.call (EnF.dyn (first := first) rfl rfl (Args.cons rfl Args.nil)) rfl rfl (hge _) ?_; rintro _ H9 ⟨rfl, hH9⟩; subst H9) | (refine Xg.st (StF.buildOne rfl elI rfl rfl rfl (by decide) (by decide)) rfl rfl ?_; rintro _ _ ⟨bs, rfl, rfl⟩) | (refine Xg.st (StF.appendNew rfl elI rfl rfl (by decide) rfl (Rd.own (List.Mem.head _)) (by decide)) rfl rfl ?_; rintro _ _ ⟨bn, kn, rfl, rfl⟩) | (refine Xg.ev (EvF.move rfl rfl) rfl rfl ?_) | (refine Xg.ev (EvF.assign rfl rfl) rfl rfl ?_) | (refine Xg.ev (EvF.add64 rfl rfl rfl (by omega) (by omega)) rfl rfl ?_) | (refine Xg.ev (EvF.indexSlice rfl rfl rfl (te rfl) (te rfl) (by omega) (by omega)) rfl rfl ?_) | (refine Xg.ev (EvF.loadV rfl rfl (LoadV.whole (te rfl) rfl (List.Mem.head _) rfl)) rfl rfl ?_) | (refine Xg.st (StF.alloc rfl Try.zeroValue139 rfl) rfl rfl ?_; rintro _ _ ⟨bx, rfl, rfl⟩) | (refine Xg.st0 (StF.storeAll (i := 0) rfl rfl rfl (te rfl) rfl rfl rfl rfl) rfl ?_; rintro _ _ ⟨rfl, rfl⟩; dsimp only [List.set]))))) | (refine XO.done rfl ?_; refine hK _ _ ?_; clear hK K) | refine X.region rfl (fun K hK => ?_))
      refine ⟨_, _, _, (by (repeat (first | exact Sub.nil _ | refine Sub.cons rfl ?_)); done), ?_, ⟨0 + 1, _, [⟨bn, 0, ((l.take (0 + 1)).map f).flatMap cI, some 3, kn * 1⟩], rfl, by omega, .inr ⟨_, _, rfl, rfl⟩, rfl, rfl⟩, by omega⟩
      rw [take_snoc he]
      exact (by (repeat (first | exact List.Sublist.refl _ | apply List.Sublist.cons_cons | apply List.Sublist.cons)); done)
    · exfalso; omega
  · have hlen : (((l.take k).map f).flatMap cI).length = k * 1 := by rw [lenI, List.length_map, List.length_take]; omega
    simp only [List.cons_append, List.nil_append] at hH
    subst hH
    repeat' (first | (refine XO.op rfl ?_; (first | ((first | refine Xo.ng rfl ?_); (first | (refine Xg.ev (EvF.move rfl rfl) rfl rfl ?_) | (refine Xg.ev (EvF.assign rfl rfl) rfl rfl ?_) | (refine Xg.ev (EvF.cmp rfl rfl rfl rfl) rfl rfl ?_))))) | (refine XO.done rfl ?_; refine hK _ _ ?_; clear hK K) | refine X.seq rfl ?_ | refine X.region rfl (fun K hK => ?_) | refine X.block rfl ?_ | (refine X.brk rfl ?_; repeat (first | refine blockX_hit rfl ?_ | refine blockX_miss (by decide) ?_)) | refine X.skip rfl ?_ | refine X.ret rfl ?_ | (refine X.ite rfl rfl (fun hc => ?_); (first | (with_reducible refine Xb.case hc (fun h => ?_) (fun h => ?_))) <;> clear hc))
    · obtain ⟨b, off, e, rfl, he⟩ := hl.elem (i := k) (by omega)
      have hl1 : ∀ r, SlE (r :: H) (some ⟨b, off, none⟩) cOut 3 l := fun r => hl.sub (fun _ h => List.mem_cons_of_mem _ h)
      have hge : ∀ r r', Fc Try.prog g (first ++ [.agg (cOut e).toArray] ++ cap) (r :: r' :: H) (fun v H' => v = .int .i64 (f e) ∧ H' = r :: r' :: H) := fun r r' => hg e (List.mem_of_getElem? he) [r, r']
      repeat' (first | (refine XO.op rfl ?_; (first | ((first | refine Xo.ng rfl ?_); (first | (refine Xg.ev (EvF.loadV rfl rfl (LoadV.elA0 (hl1 _) he (te rfl) rfl (fun _ hm => hm) rfl)) rfl rfl ?_) | (refine Xg.call (EnF.dyn (first := first) rfl rfl (Args.cons rfl Args.nil)) rfl rfl (hge _ _) ?_; rintro _ H9 ⟨rfl, hH9⟩; subst H9) | (refine Xg.st (StF.buildOne rfl elI rfl rfl rfl (by decide) (by decide)) rfl rfl ?_; rintro _ _ ⟨bs, rfl, rfl⟩) | (refine Xg.st (StF.appendOwn (i := 2) rfl elI rfl rfl rfl hlen rfl (Rd.own (List.Mem.head _)) rfl (by omega)) rfl rfl ?_; rintro _ _ ⟨bn, kn, rfl, rfl⟩; dsimp only [List.eraseIdx]) | (refine Xg.ev (EvF.move rfl rfl) rfl rfl ?_) | (refine Xg.ev (EvF.assign rfl rfl) rfl rfl ?_) | (refine Xg.ev (EvF.add64 rfl rfl rfl (by omega) (by omega)) rfl rfl ?_) | (refine Xg.ev (EvF.indexSlice rfl rfl rfl (te rfl) (te rfl) (by omega) (by omega)) rfl rfl ?_) | (refine Xg.ev (EvF.loadV rfl rfl (LoadV.whole (te rfl) rfl (List.Mem.head _) rfl)) rfl rfl ?_) | (refine Xg.st (StF.alloc rfl Try.zeroValue139 rfl) rfl rfl ?_; rintro _ _ ⟨bx, rfl, rfl⟩) | (refine Xg.st0 (StF.storeAll (i := 0) rfl rfl rfl (te rfl) rfl rfl rfl rfl) rfl ?_; rintro _ _ ⟨rfl, rfl⟩; dsimp only [List.set]))))) | (refine XO.done rfl ?_; refine hK _ _ ?_; clear hK K) | refine X.region rfl (fun K hK => ?_))
      refine ⟨_, _, _, (by (repeat (first | exact Sub.nil _ | refine Sub.cons rfl ?_)); done), ?_, ⟨k + 1, _, [⟨bn, 0, ((l.take (k + 1)).map f).flatMap cI, some 3, kn * 1⟩], rfl, by omega, .inr ⟨_, _, rfl, rfl⟩, rfl, rfl⟩, by omega⟩
      rw [take_snoc he, List.map_append, List.flatMap_append]
      exact (by (repeat (first | exact List.Sublist.refl _ | apply List.Sublist.cons_cons | apply List.Sublist.cons)); done)
    · obtain rfl : k = l.length := by omega
      rw [List.take_length]
      exact ret_one (by first | exact .inr rfl | exact .inl rfl) Try.results141 rfl (H' := ⟨b0, 0, (l.map f).flatMap cI, some 3, q0 * 1⟩ :: H) (by (repeat (first | exact List.Sublist.refl _ | apply List.Sublist.cons_cons | apply List.Sublist.cons)); done) ⟨b0, q0, rfl, rfl⟩
end Go.Proofs.Ytjejppodhpdckaa
end
section
set_option linter.unusedVariables false
set_option linter.unusedSimpArgs false
namespace Go.Proofs.Ytjejppodhpdckaa
open Go Go.Fw
set_option maxRecDepth 10000
theorem elOu : ElT Try.prog 198 139 3 24 := ⟨Try.underlying198, Try.t139, .agg #[.int .i64 0, .int .i64 0, .int .i64 0], by kernel_rfl, by kernel_rfl, by kernel_rfl, by kernel_rfl, rfl⟩
theorem lenOu (l : List Out) : (l.flatMap cOut).length = l.length * 3 := flat_len (fun _ _ => rfl)
/-- an offer of a bale of which the grades and the staple are known -/
def cGm (T : Tm) (p : Pt) (gs : Sp) (s : Int) : List Value := cTm T p ++ (cSp gs ++ [.int .i64 s])
def outs (T : Tm) (sd s : Int) (gs : Sp) (ask : Bool) : List Out := (ir gs.lo gs.hi).map (fun g => stl T ⟨sd, s⟩ ⟨g, s⟩ ask)
def tsOa : List TOp := [⟨some 19, [], [], []⟩, ⟨some 20, [], [], []⟩, ⟨some 21, [1], [1], []⟩, ⟨some 22, [], [], []⟩, ⟨some 23, [], [], []⟩, ⟨some 24, [4], [4], []⟩, ⟨some 25, [3, 4, 5], [3, 5], []⟩, ⟨some 26, [], [], []⟩, ⟨some 27, [], [], []⟩, ⟨some 28, [8], [8], []⟩, ⟨some 29, [3, 4, 5, 6, 7, 8, 9], [7, 9], []⟩, ⟨some 30, [], [], []⟩, ⟨some 31, [1, 2, 3, 4, 5, 6, 7, 8, 9, 10, 11], [2, 6, 10, 11], []⟩, ⟨some 32, [1, 2, 3, 4, 5, 6, 7, 8, 9, 10, 11, 12], [12], []⟩, ⟨some 33, [0, 1, 2, 3, 4, 5, 6, 7, 8, 9, 10, 11, 12, 13], [0, 13], []⟩, ⟨some 7, [0, 1, 2, 3, 4, 5, 6, 7, 8, 9, 10, 11, 12, 13, 14], [14], []⟩]
def valOa (b3 : Nat) (T : Tm) (p : Pt) (sd s g : Int) (ask : Bool) (x : Out) (k : Nat) (env : Env) : Value :=
  match k with
  | 0 => .slice none 0 0
  | 1 => .pointer (some ⟨b3, 0, none⟩)
  | 2 => .agg (cTm T p).toArray
  | 3 => .int .i64 sd
  | 4 => .pointer (some ⟨b3, 13, none⟩)
  | 5 => .int .i64 s
  | 6 => .agg (cCl ⟨sd, s⟩).toArray
  | 7 => .int .i64 g
  | 8 => .pointer (some ⟨b3, 13, none⟩)
  | 9 => .int .i64 s
  | 10 => .agg (cCl ⟨g, s⟩).toArray
  | 11 => .bool ask
  | 12 => .agg (cOut x).toArray
  | 13 => .slice (some ⟨(env 13).1, 0, none⟩) 1 1
  | 14 => .slice (some ⟨(env 14).1, 0, none⟩) 1 (env 14).2
  | 15 => .slice (some ⟨(env 14).1, 0, none⟩) 1 (env 14).2
  | _ => undef
def rowsOa (b3 : Nat) (T : Tm) (p : Pt) (sd s g : Int) (ask : Bool) (x : Out) (k : Nat) (env : Env) : List Row :=
  match k with
  | 13 => [⟨(env 13).1, 0, cOut x, some 139, 1 * 3⟩]
  | 14 => [⟨(env 14).1, 0, cOut x, some 139, (env 14).2 * 3⟩]
  | _ => []
theorem locOa (b3 : Nat) (T : Tm) (p : Pt) (sd s g : Int) (ask : Bool) (x : Out) : ∀ k env i q9, i ≠ k → (tAt tsOa k).sup.contains i = false → valOa b3 T p sd s g ask x k (upd env i q9) = valOa b3 T p sd s g ask x k env ∧ rowsOa b3 T p sd s g ask x k (upd env i q9) = rowsOa b3 T p sd s g ask x k env := by
  intro k env i q hk hs
  have hu : ∀ j, j ≠ i → upd env i q j = env j := fun j hj => by unfold upd; rw [if_neg hj]
  match k, hk, hs with
  | 0, _, _ => exact ⟨rfl, rfl⟩
  | 1, _, _ => exact ⟨rfl, rfl⟩
  | 2, _, _ => exact ⟨rfl, rfl⟩
  | 3, _, _ => exact ⟨rfl, rfl⟩
  | 4, _, _ => exact ⟨rfl, rfl⟩
  | 5, _, _ => exact ⟨rfl, rfl⟩
  | 6, _, _ => exact ⟨rfl, rfl⟩
  | 7, _, _ => exact ⟨rfl, rfl⟩
  | 8, _, _ => exact ⟨rfl, rfl⟩
  | 9, _, _ => exact ⟨rfl, rfl⟩
  | 10, _, _ => exact ⟨rfl, rfl⟩
  | 11, _, _ => exact ⟨rfl, rfl⟩
  | 12, _, _ => exact ⟨rfl, rfl⟩
  | 13, hk, hs => exact ⟨by simp only [valOa, hu 13 (fun e => hk e.symm)], by simp only [rowsOa, hu 13 (fun e => hk e.symm)]⟩
  | 14, hk, hs => exact ⟨by simp only [valOa, hu 14 (fun e => hk e.symm)], by simp only [rowsOa, hu 14 (fun e => hk e.symm)]⟩
  | 15, hk, hs => exact ⟨by simp only [valOa, hu 14 (by rintro rfl; cases hs)], by simp only [rowsOa, hu 14 (by rintro rfl; cases hs)]⟩
  | _ + 16, _, _ => exact ⟨rfl, rfl⟩
def rdOa (k : Nat) : List Nat := match k with
  | 14 => [13]
  | _ => []
def tsOb5 : List TOp := [⟨some 19, [], [], []⟩, ⟨some 20, [], [], []⟩, ⟨some 21, [1], [1], []⟩, ⟨some 22, [], [], []⟩, ⟨some 23, [], [], []⟩, ⟨some 24, [4], [4], []⟩, ⟨some 25, [3, 4, 5], [3, 5], []⟩, ⟨some 26, [], [], []⟩, ⟨some 27, [], [], []⟩, ⟨some 28, [8], [8], []⟩, ⟨some 29, [3, 4, 5, 6, 7, 8, 9], [7, 9], []⟩, ⟨some 30, [], [], []⟩, ⟨some 31, [1, 2, 3, 4, 5, 6, 7, 8, 9, 10, 11], [2, 6, 10, 11], []⟩, ⟨some 32, [1, 2, 3, 4, 5, 6, 7, 8, 9, 10, 11, 12], [12], []⟩, ⟨some 33, [0, 1, 2, 3, 4, 5, 6, 7, 8, 9, 10, 11, 12, 13], [0, 13], [16]⟩, ⟨some 7, [0, 1, 2, 3, 4, 5, 6, 7, 8, 9, 10, 11, 12, 13, 14], [14], []⟩, ⟨none, [], [], []⟩]
def valOb5 (b3 bo qo kk : Nat) (ol : List Value) (T : Tm) (p : Pt) (sd s g : Int) (ask : Bool) (x : Out) (k : Nat) (env : Env) : Value :=
  match k with
  | 0 => .slice (some ⟨bo, 0, none⟩) kk qo
  | 1 => .pointer (some ⟨b3, 0, none⟩)
  | 2 => .agg (cTm T p).toArray
  | 3 => .int .i64 sd
  | 4 => .pointer (some ⟨b3, 13, none⟩)
  | 5 => .int .i64 s
  | 6 => .agg (cCl ⟨sd, s⟩).toArray
  | 7 => .int .i64 g
  | 8 => .pointer (some ⟨b3, 13, none⟩)
  | 9 => .int .i64 s
  | 10 => .agg (cCl ⟨g, s⟩).toArray
  | 11 => .bool ask
  | 12 => .agg (cOut x).toArray
  | 13 => .slice (some ⟨(env 13).1, 0, none⟩) 1 1
  | 14 => .slice (some ⟨(env 14).1, 0, none⟩) (kk + 1) (env 14).2
  | 15 => .slice (some ⟨(env 14).1, 0, none⟩) (kk + 1) (env 14).2
  | _ => undef
def rowsOb5 (b3 bo qo kk : Nat) (ol : List Value) (T : Tm) (p : Pt) (sd s g : Int) (ask : Bool) (x : Out) (k : Nat) (env : Env) : List Row :=
  match k with
  | 13 => [⟨(env 13).1, 0, cOut x, some 139, 1 * 3⟩]
  | 14 => [⟨(env 14).1, 0, ol ++ cOut x, some 139, (env 14).2 * 3⟩]
  | 16 => [⟨bo, 0, ol, some 139, qo * 3⟩]
  | _ => []
theorem locOb5 (b3 bo qo kk : Nat) (ol : List Value) (T : Tm) (p : Pt) (sd s g : Int) (ask : Bool) (x : Out) : ∀ k env i q9, i ≠ k → (tAt tsOb5 k).sup.contains i = false → valOb5 b3 bo qo kk ol T p sd s g ask x k (upd env i q9) = valOb5 b3 bo qo kk ol T p sd s g ask x k env ∧ rowsOb5 b3 bo qo kk ol T p sd s g ask x k (upd env i q9) = rowsOb5 b3 bo qo kk ol T p sd s g ask x k env := by
  intro k env i q hk hs
  have hu : ∀ j, j ≠ i → upd env i q j = env j := fun j hj => by unfold upd; rw [if_neg hj]
  match k, hk, hs with
  | 0, _, _ => exact ⟨rfl, rfl⟩
  | 1, _, _ => exact ⟨rfl, rfl⟩
  | 2, _, _ => exact ⟨rfl, rfl⟩
  | 3, _, _ => exact ⟨rfl, rfl⟩
  | 4, _, _ => exact ⟨rfl, rfl⟩
  | 5, _, _ => exact ⟨rfl, rfl⟩
  | 6, _, _ => exact ⟨rfl, rfl⟩
  | 7, _, _ => exact ⟨rfl, rfl⟩
  | 8, _, _ => exact ⟨rfl, rfl⟩
  | 9, _, _ => exact ⟨rfl, rfl⟩
  | 10, _, _ => exact ⟨rfl, rfl⟩
  | 11, _, _ => exact ⟨rfl, rfl⟩
  | 12, _, _ => exact ⟨rfl, rfl⟩
  | 13, hk, hs => exact ⟨by simp only [valOb5, hu 13 (fun e => hk e.symm)], by simp only [rowsOb5, hu 13 (fun e => hk e.symm)]⟩
  | 14, hk, hs => exact ⟨by simp only [valOb5, hu 14 (fun e => hk e.symm)], by simp only [rowsOb5, hu 14 (fun e => hk e.symm)]⟩
  | 15, hk, hs => exact ⟨by simp only [valOb5, hu 14 (by rintro rfl; cases hs)], by simp only [rowsOb5, hu 14 (by rintro rfl; cases hs)]⟩
  | 16, _, _ => exact ⟨rfl, rfl⟩
  | _ + 17, _, _ => exact ⟨rfl, rfl⟩
def rdOb5 (k : Nat) : List Nat := match k with
  | 14 => [13]
  | _ => []
set_option maxHeartbeats 16000000 in
theorem outcomes_spec (T : Tm) (p : Pt) (sd s : Int) (gs : Sp) (ask : Bool) (H : List Row) (hT : TmOk H T p) (hok : tmOk T) (h1 : 1 ≤ sd ∧ sd ≤ 9) (h2 : 1 ≤ s ∧ s ≤ 9) (h3 : (1 ≤ gs.lo ∧ gs.lo ≤ gs.hi) ∧ gs.hi ≤ 9) :
    Fc Try.prog 142 [.agg (cGm T p gs s).toArray, .int .i64 sd, .bool ask] H (fun v H' => ∃ b q, v = .slice (some ⟨b, 0, none⟩) (outs T sd s gs ask).length q ∧ H' = ⟨b, 0, (outs T sd s gs ask).flatMap cOut, some 139, q * 3⟩ :: H) := by
  refine Fc.mk (callable Try.call142) Try.func142 rfl Try.ntmps142 rfl ?_; dsimp only [fr]
  repeat' (first | (refine XO.op rfl ?_; (first | ((first | refine Xo.ng rfl ?_); (first | (refine Xg.ev (EvF.assign rfl rfl) rfl rfl ?_) | (refine Xg.ev (EvF.fieldAddr rfl rfl (te rfl) rfl (te rfl) (by decide)) rfl rfl ?_) | (refine Xg.ev (EvF.loadV rfl rfl (LoadV.own (te rfl) rfl (List.Mem.head _) rfl)) rfl rfl ?_) | (refine Xg.st (StF.boxAgg rfl rfl) rfl rfl ?_; rintro _ _ ⟨bx, rfl, rfl⟩))))) | (refine XO.done rfl ?_; refine hK _ _ ?_; clear hK K) | refine X.seq rfl ?_ | refine X.region rfl (fun K hK => ?_) | refine X.block rfl ?_)
  obtain ⟨b3, hb3⟩ : ∃ b, b = bx := ⟨_, rfl⟩
  rw [← hb3]
  clear hb3
  refine X.lp rfl (fun w F' H' => ∃ (k : Nat) (out : Value) (Z : List Row), w = (gs.hi - gs.lo + 1).toNat - k ∧ k ≤ (gs.hi - gs.lo + 1).toNat ∧ ((k = 0 ∧ out = .slice none 0 0 ∧ Z = []) ∨ ∃ b q, out = .slice (some ⟨b, 0, none⟩) k q ∧ Z = [⟨b, 0, (((ir gs.lo gs.hi).take k).map (fun g => stl T ⟨sd, s⟩ ⟨g, s⟩ ask)).flatMap cOut, some 139, q * 3⟩]) ∧ H' = Z ++ (⟨b3, 0, cGm T p gs s, some 144, 14⟩ :: H) ∧
      F' = [(1, .int .i64 sd), (2, .bool ask), (3, .pointer (some ⟨b3, 0, none⟩)), (7, out), (8, .int .i64 (gs.lo + k))])
    _ [(1, .int .i64 sd), (2, .bool ask), (3, .pointer (some ⟨b3, 0, none⟩)), (7, .slice none 0 0), (8, .int .i64 (gs.lo + (0 : Nat)))] _ (by rw [show gs.lo + ((0 : Nat) : Int) = gs.lo by omega]; exact (by (repeat (first | exact Sub.nil _ | refine Sub.cons rfl ?_)); done)) (List.Sublist.refl _) ⟨0, _, [], rfl, by omega, .inl ⟨rfl, rfl, rfl⟩, rfl, rfl⟩ ?_
  rintro _ _ _ ⟨k, out, Z, rfl, hk, ⟨rfl, rfl, rfl⟩ | ⟨bo, qo, rfl, rfl⟩, rfl, rfl⟩
  · dsimp only [List.nil_append]
    have hi1 : in9 ⟨sd, s⟩ := ⟨h1, h2⟩
    have hi2 : in9 ⟨gs.lo, s⟩ := ⟨by dsimp only; omega, h2⟩
    have hs : ∀ (Y : List Row), (∀ r ∈ ⟨b3, 0, cGm T p gs s, some 144, 14⟩ :: H, r ∈ Y) → TmOk Y T p := fun S hS => hT.sub (fun r hr => hS r (List.Mem.tail _ hr))
    rw [show gs.lo + ((0 : Nat) : Int) = gs.lo by omega]
    repeat' (first | (refine XO.op rfl ?_; (first | ((first | refine Xo.ng rfl ?_); (first | (refine Xg.ev (EvF.move rfl rfl) rfl rfl ?_) | (refine Xg.ev (EvF.assign rfl rfl) rfl rfl ?_) | (refine Xg.ev (EvF.cmp rfl rfl rfl rfl) rfl rfl ?_) | (refine Xg.ev (EvF.fieldAddr rfl rfl (te rfl) rfl (te rfl) (by decide)) rfl rfl ?_) | (refine Xg.ev (EvF.loadV rfl rfl (LoadV.own (te rfl) rfl (List.Mem.head _) rfl)) rfl rfl ?_))))) | (refine XO.done rfl ?_; refine hK _ _ ?_; clear hK K) | refine X.seq rfl ?_ | refine X.region rfl (fun K hK => ?_) | refine X.block rfl ?_ | (refine X.brk rfl ?_; repeat (first | refine blockX_hit rfl ?_ | refine blockX_miss (by decide) ?_)) | refine X.skip rfl ?_ | refine X.ret rfl ?_ | (refine X.ite rfl rfl (fun hc => ?_); (first | (with_reducible refine Xb.case hc (fun h => ?_) (fun h => ?_))) <;> clear hc))
    · refine X.regionRe [] tsOa rdOa [1, 2, 3, 8] [(1, .int .i64 sd), (2, .bool ask), (3, .pointer (some ⟨b3, 0, none⟩)), (8, .int .i64 gs.lo)] (valOa b3 T p sd s gs.lo ask (stl T ⟨sd, s⟩ ⟨gs.lo, s⟩ ask)) (rowsOa b3 T p sd s gs.lo ask (stl T ⟨sd, s⟩ ⟨gs.lo, s⟩ ask)) (fun _ => (0, 0)) (⟨b3, 0, cGm T p gs s, some 144, 14⟩ :: H) rfl mixed (by (repeat (first | exact Sub.nil _ | refine Sub.cons rfl ?_)); done) rfl (by kernel_rfl) (by kernel_rfl) (locOa b3 T p sd s gs.lo ask (stl T ⟨sd, s⟩ ⟨gs.lo, s⟩ ask)) (fun i d hi => by cases hi) (List.Sublist.refl _) 15 (.slice none 0 0) rfl (Nat.le_of_ble_eq_true rfl) rfl ?_ ?_
      · repeat' (first | exact AllF.done rfl | (refine AllF.step rfl ?_ ?_; · (first | exact (Ob.ng rfl (ObK.pure (fun env R hR => by exact ⟨_, EvF.move rfl rfl, rfl⟩) rfl (fun _ => rfl))).toR | exact (Ob.ng rfl (ObK.pure (fun env R hR => by exact ⟨_, EvF.assign rfl rfl, rfl⟩) rfl (fun _ => rfl))).toR | exact (Ob.ng rfl (ObK.pure (fun env R hR => by exact ⟨_, EvF.fieldAddr rfl rfl (te rfl) rfl (te rfl) (by decide), rfl⟩) rfl (fun _ => rfl))).toR | exact (Ob.ng rfl (ObK.pure (fun env R hR => by exact ⟨_, EvF.loadV rfl rfl (LoadV.own (te rfl) rfl (hR _ (List.Mem.head _)) rfl), rfl⟩) rfl (fun _ => rfl))).toR | exact (Ob.ng rfl (ObK.pure (fun env R hR => by exact ⟨_, EvF.loadV rfl rfl (LoadV.ownAgg (te rfl) rfl (hR _ (List.Mem.head _)) rfl rfl), rfl⟩) rfl (fun _ => rfl))).toR | (refine ObR.ng rfl ?_; (first | (exact fun env S hS hrd => OpF.callV (Z := []) (EnF.st rfl (Args.cons rfl (Args.cons rfl Args.nil))) (class_spec sd s _) rfl rfl) | (exact fun env S hS hrd => OpF.callV (Z := []) (EnF.st rfl (Args.cons rfl (Args.cons rfl Args.nil))) (class_spec gs.lo s _) rfl rfl) | (exact fun env S hS hrd => OpF.callV (Z := []) (EnF.st rfl (Args.cons rfl (Args.cons rfl (Args.cons rfl (Args.cons rfl Args.nil))))) (settle_spec T p ⟨sd, s⟩ ⟨gs.lo, s⟩ ask _ (hs S hS) hok hi1 hi2) rfl rfl) | (exact fun env S hS hrd => (StF.buildOne rfl elOu rfl rfl rfl (by decide) (by decide)).op.mono (fun v H' ⟨b, hv, hH⟩ => ⟨(b, 0), fun _ => hv, by rw [hH]; exact List.Perm.refl _⟩)) | (exact fun env S hS hrd => (StF.appendNew rfl elOu rfl rfl (by decide) rfl (Rd.own (hrd 13 (List.Mem.head _) _ (List.Mem.head _))) (by decide)).op.mono (fun v H' ⟨b, c, hv, hH⟩ => ⟨(b, c), fun _ => hv, by rw [hH]; exact List.Perm.refl _⟩)))))))
      intro env t ha hv
      refine ⟨_, ha.cons (hv 15 7 (Nat.le_of_ble_eq_true rfl) rfl), ?_⟩
      clear hv ha
      show X _ _ _ ((7, .slice (some ⟨(env 14).1, 0, none⟩) 1 (env 14).2) :: _) (⟨(env 13).1, 0, cOut (stl T ⟨sd, s⟩ ⟨gs.lo, s⟩ ask), some 139, 1 * 3⟩ :: ⟨(env 14).1, 0, cOut (stl T ⟨sd, s⟩ ⟨gs.lo, s⟩ ask), some 139, (env 14).2 * 3⟩ :: ⟨b3, 0, cGm T p gs s, some 144, 14⟩ :: H) _
      repeat' (first | (refine XO.op rfl ?_; (first | ((first | refine Xo.ng rfl ?_); (first | (refine Xg.ev (EvF.move rfl rfl) rfl rfl ?_) | (refine Xg.ev (EvF.assign rfl rfl) rfl rfl ?_) | (refine Xg.ev (EvF.add64 rfl rfl rfl (by omega) (by omega)) rfl rfl ?_))))) | (refine XO.done rfl ?_; refine hK _ _ ?_; clear hK K) | refine X.region rfl (fun K hK => ?_))
      have he := ir_get (a := gs.lo) (b := gs.hi) (k := 0) (by omega)
      refine ⟨_, [(1, .int .i64 sd), (2, .bool ask), (3, .pointer (some ⟨b3, 0, none⟩)), (7, .slice (some ⟨(env 14).1, 0, none⟩) (0 + 1) (env 14).2), (8, .int .i64 (gs.lo + (0 + 1 : Nat)))], ⟨(env 14).1, 0, cOut (stl T ⟨sd, s⟩ ⟨gs.lo, s⟩ ask), some 139, (env 14).2 * 3⟩ :: ⟨b3, 0, cGm T p gs s, some 144, 14⟩ :: H, (by rw [show gs.lo + ((0 + 1 : Nat) : Int) = gs.lo + 1 by omega]; exact (by (repeat (first | exact Sub.nil _ | refine Sub.cons rfl ?_)); done)), (by (repeat (first | exact List.Sublist.refl _ | apply List.Sublist.cons_cons | apply List.Sublist.cons)); done), ⟨0 + 1, _, [⟨(env 14).1, 0, cOut (stl T ⟨sd, s⟩ ⟨gs.lo, s⟩ ask), some 139, (env 14).2 * 3⟩], rfl, by omega, .inr ⟨_, _, rfl, ?_⟩, rfl, rfl⟩, by omega⟩
      rw [take_snoc he, show gs.lo + ((0 : Nat) : Int) = gs.lo by omega]; rfl
    · exfalso; omega
  · dsimp only [List.cons_append, List.nil_append]
    repeat' (first | (refine XO.op rfl ?_; (first | ((first | refine Xo.ng rfl ?_); (first | (refine Xg.ev (EvF.move rfl rfl) rfl rfl ?_) | (refine Xg.ev (EvF.assign rfl rfl) rfl rfl ?_) | (refine Xg.ev (EvF.cmp rfl rfl rfl rfl) rfl rfl ?_) | (refine Xg.ev (EvF.fieldAddr rfl rfl (te rfl) rfl (te rfl) (by decide)) rfl rfl ?_) | (refine Xg.ev (EvF.loadV rfl rfl (LoadV.own (te rfl) rfl (List.Mem.tail _ (List.Mem.head _)) rfl)) rfl rfl ?_))))) | (refine XO.done rfl ?_; refine hK _ _ ?_; clear hK K) | refine X.seq rfl ?_ | refine X.region rfl (fun K hK => ?_) | refine X.block rfl ?_ | (refine X.brk rfl ?_; repeat (first | refine blockX_hit rfl ?_ | refine blockX_miss (by decide) ?_)) | refine X.skip rfl ?_ | refine X.ret rfl ?_ | (refine X.ite rfl rfl (fun hc => ?_); (first | (with_reducible refine Xb.case hc (fun h => ?_) (fun h => ?_))) <;> clear hc))
    · have hk1 : (k : Int) < gs.hi - gs.lo + 1 := by omega
      have he := ir_get hk1
      have hi1 : in9 ⟨sd, s⟩ := ⟨h1, h2⟩
      have hi2 : in9 ⟨gs.lo + k, s⟩ := ⟨by dsimp only; omega, h2⟩
      have hs : ∀ (Y : List Row), (∀ r ∈ ⟨b3, 0, cGm T p gs s, some 144, 14⟩ :: H, r ∈ Y) → TmOk Y T p := fun S hS => hT.sub (fun r hr => hS r (List.Mem.tail _ hr))
      have hlen : ((((ir gs.lo gs.hi).take k).map (fun g => stl T ⟨sd, s⟩ ⟨g, s⟩ ask)).flatMap cOut).length = k * 3 := by rw [lenOu, List.length_map, List.length_take, ir_len]; omega
      obtain ⟨ol, hol⟩ : ∃ ol, (((ir gs.lo gs.hi).take k).map (fun g => stl T ⟨sd, s⟩ ⟨g, s⟩ ask)).flatMap cOut = ol := ⟨_, rfl⟩
      rw [hol] at hlen ⊢
      refine X.regionRe [] tsOb5 rdOb5 [1, 2, 3, 8] [(1, .int .i64 sd), (2, .bool ask), (3, .pointer (some ⟨b3, 0, none⟩)), (8, .int .i64 (gs.lo + k))] (valOb5 b3 bo qo k ol T p sd s (gs.lo + k) ask (stl T ⟨sd, s⟩ ⟨gs.lo + k, s⟩ ask)) (rowsOb5 b3 bo qo k ol T p sd s (gs.lo + k) ask (stl T ⟨sd, s⟩ ⟨gs.lo + k, s⟩ ask)) (fun _ => (0, 0)) (⟨b3, 0, cGm T p gs s, some 144, 14⟩ :: H) rfl mixed (by (repeat (first | exact Sub.nil _ | refine Sub.cons rfl ?_)); done) rfl (by kernel_rfl) (by kernel_rfl) (locOb5 b3 bo qo k ol T p sd s (gs.lo + k) ask (stl T ⟨sd, s⟩ ⟨gs.lo + k, s⟩ ask)) (fun i d hi => by cases hi) (List.Sublist.refl _) 15 (.slice (some ⟨bo, 0, none⟩) k qo) rfl (Nat.le_of_ble_eq_true rfl) rfl ?_ ?_
      · repeat' (first | exact AllF.done rfl | (refine AllF.step rfl ?_ ?_; · (first | exact (Ob.ng rfl (ObK.pure (fun env R hR => by exact ⟨_, EvF.move rfl rfl, rfl⟩) rfl (fun _ => rfl))).toR | exact (Ob.ng rfl (ObK.pure (fun env R hR => by exact ⟨_, EvF.assign rfl rfl, rfl⟩) rfl (fun _ => rfl))).toR | exact (Ob.ng rfl (ObK.pure (fun env R hR => by exact ⟨_, EvF.fieldAddr rfl rfl (te rfl) rfl (te rfl) (by decide), rfl⟩) rfl (fun _ => rfl))).toR | exact (Ob.ng rfl (ObK.pure (fun env R hR => by exact ⟨_, EvF.loadV rfl rfl (LoadV.own (te rfl) rfl (hR _ (List.Mem.head _)) rfl), rfl⟩) rfl (fun _ => rfl))).toR | exact (Ob.ng rfl (ObK.pure (fun env R hR => by exact ⟨_, EvF.loadV rfl rfl (LoadV.ownAgg (te rfl) rfl (hR _ (List.Mem.head _)) rfl rfl), rfl⟩) rfl (fun _ => rfl))).toR | (refine ObR.ng rfl ?_; (first | (exact fun env S hS hrd => OpF.callV (Z := []) (EnF.st rfl (Args.cons rfl (Args.cons rfl Args.nil))) (class_spec sd s _) rfl rfl) | (exact fun env S hS hrd => OpF.callV (Z := []) (EnF.st rfl (Args.cons rfl (Args.cons rfl Args.nil))) (class_spec (gs.lo + k) s _) rfl rfl) | (exact fun env S hS hrd => OpF.callV (Z := []) (EnF.st rfl (Args.cons rfl (Args.cons rfl (Args.cons rfl (Args.cons rfl Args.nil))))) (settle_spec T p ⟨sd, s⟩ ⟨gs.lo + k, s⟩ ask _ (hs S hS) hok hi1 hi2) rfl rfl) | (exact fun env S hS hrd => (StF.buildOne rfl elOu rfl rfl rfl (by decide) (by decide)).op.mono (fun v H' ⟨b, hv, hH⟩ => ⟨(b, 0), fun _ => hv, by rw [hH]; exact List.Perm.refl _⟩)) | (exact fun env S hS hrd => (StF.appendOwn (i := 0) rfl elOu rfl rfl rfl hlen rfl (Rd.own (List.Mem.tail _ (hrd 13 (List.Mem.head _) _ (List.Mem.head _)))) rfl (by omega)).op.mono (fun v H' ⟨b, c, hv, hH⟩ => ⟨(b, c), fun _ => hv, by rw [hH]; exact List.Perm.refl _⟩)))))))
      intro env t ha hv
      refine ⟨_, ha.cons (hv 15 7 (Nat.le_of_ble_eq_true rfl) rfl), ?_⟩
      clear hv ha
      show X _ _ _ ((7, .slice (some ⟨(env 14).1, 0, none⟩) (k + 1) (env 14).2) :: _) (⟨(env 13).1, 0, cOut (stl T ⟨sd, s⟩ ⟨gs.lo + k, s⟩ ask), some 139, 1 * 3⟩ :: ⟨(env 14).1, 0, ol ++ cOut (stl T ⟨sd, s⟩ ⟨gs.lo + k, s⟩ ask), some 139, (env 14).2 * 3⟩ :: ⟨b3, 0, cGm T p gs s, some 144, 14⟩ :: H) _
      repeat' (first | (refine XO.op rfl ?_; (first | ((first | refine Xo.ng rfl ?_); (first | (refine Xg.ev (EvF.move rfl rfl) rfl rfl ?_) | (refine Xg.ev (EvF.assign rfl rfl) rfl rfl ?_) | (refine Xg.ev (EvF.add64 rfl rfl rfl (by omega) (by omega)) rfl rfl ?_))))) | (refine XO.done rfl ?_; refine hK _ _ ?_; clear hK K) | refine X.region rfl (fun K hK => ?_))
      refine ⟨_, [(1, .int .i64 sd), (2, .bool ask), (3, .pointer (some ⟨b3, 0, none⟩)), (7, .slice (some ⟨(env 14).1, 0, none⟩) (k + 1) (env 14).2), (8, .int .i64 (gs.lo + (k + 1 : Nat)))], ⟨(env 14).1, 0, ol ++ cOut (stl T ⟨sd, s⟩ ⟨gs.lo + k, s⟩ ask), some 139, (env 14).2 * 3⟩ :: ⟨b3, 0, cGm T p gs s, some 144, 14⟩ :: H, (by rw [show gs.lo + ((k + 1 : Nat) : Int) = gs.lo + k + 1 by omega]; exact (by (repeat (first | exact Sub.nil _ | refine Sub.cons rfl ?_)); done)), (by (repeat (first | exact List.Sublist.refl _ | apply List.Sublist.cons_cons | apply List.Sublist.cons)); done), ⟨k + 1, _, [⟨(env 14).1, 0, ol ++ cOut (stl T ⟨sd, s⟩ ⟨gs.lo + k, s⟩ ask), some 139, (env 14).2 * 3⟩], rfl, by omega, .inr ⟨_, _, rfl, ?_⟩, rfl, rfl⟩, by omega⟩
      rw [take_snoc he, List.map_append, List.flatMap_append, hol]; rfl
    · obtain rfl : k = (gs.hi - gs.lo + 1).toNat := by omega
      rw [List.take_of_length_le (by rw [ir_len]; omega)]
      have hlo : (outs T sd s gs ask).length = (gs.hi - gs.lo + 1).toNat := by unfold outs; rw [List.length_map, ir_len]
      exact ret_one (by first | exact .inr rfl | exact .inl rfl) Try.results142 rfl (H' := ⟨bo, 0, (outs T sd s gs ask).flatMap cOut, some 139, qo * 3⟩ :: H) (by (repeat (first | exact List.Sublist.refl _ | apply List.Sublist.cons_cons | apply List.Sublist.cons)); done) ⟨bo, qo, by rw [hlo], rfl⟩
end Go.Proofs.Ytjejppodhpdckaa
end
section
set_option linter.unusedVariables false
set_option linter.unusedSimpArgs false
namespace Go.Proofs.Ytjejppodhpdckaa
open Go Go.Fw
set_option maxRecDepth 10000
theorem outs_len (T : Tm) (sd s : Int) (gs : Sp) (ask : Bool) : (outs T sd s gs ask).length = (gs.hi - gs.lo + 1).toNat := by unfold outs; rw [List.length_map, ir_len]
theorem outs_bd {T : Tm} (hok : tmOk T) {sd s : Int} {gs : Sp} {ask : Bool} : ∀ o ∈ outs T sd s gs ask, (-3000 ≤ o.gets ∧ o.gets ≤ 1003000) ∧ (-3000 ≤ o.pays ∧ o.pays ≤ 1003000) ∧ (-3000 ≤ o.has ∧ o.has ≤ 1003000) := fun o ho => by
  obtain ⟨g, _, rfl⟩ := List.mem_map.1 ho
  exact stl_bd hok _ _ _
theorem outs_los (T : Tm) (sd s : Int) (gs : Sp) (ask : Bool) : maxL ((outs T sd s gs ask).map (fun o => o.pays - o.has)) = lsL T sd s gs ask := by
  unfold outs lsL
  rw [List.map_map]; rfl
set_option maxHeartbeats 4000000 in
theorem loses1_spec (T : Tm) (p : Pt) (sd s : Int) (gs : Sp) (ask : Bool) (b1 b2 c1 c2 : Nat) (o1 o2 : Option Kd) (H : List Row) (hm1 : ⟨b1, 0, cGm T p gs s, o1, c1⟩ ∈ H) (hm2 : ⟨b2, 0, [.bool ask], o2, c2⟩ ∈ H) (hT : TmOk H T p) (hok : tmOk T) (h1 : 1 ≤ sd ∧ sd ≤ 9) (h2 : 1 ≤ s ∧ s ≤ 9) (h3 : (1 ≤ gs.lo ∧ gs.lo ≤ gs.hi) ∧ gs.hi ≤ 9) :
    Fc Try.prog 140 [.int .i64 sd, .pointer (some ⟨b1, 0, none⟩), .pointer (some ⟨b2, 0, none⟩)] H (fun v H' => v = .int .i64 (lsL T sd s gs ask) ∧ H' = H) := by
  have hb := outs_bd hok (sd := sd) (s := s) (gs := gs) (ask := ask)
  have hl := outs_len T sd s gs ask
  have hl0 : ((outs T sd s gs ask).map (fun o => o.pays - o.has)).length = (outs T sd s gs ask).length := List.length_map ..
  rw [← outs_los]
  have hmx := fun a c H h => maxI_spec ((outs T sd s gs ask).map (fun o => o.pays - o.has)) a c H h (by rw [hl0, hl]; omega) (by rw [hl0, hl]; omega)
  rw [hl0] at hmx
  refine Fc.mk (callable Try.call140) Try.func140 rfl Try.ntmps140 rfl ?_; dsimp only [fr]
  repeat' (first | (refine XO.op rfl ?_; (first | ((first | refine Xo.ng rfl ?_); (first | (refine Xg.ev (EvF.loadV rfl rfl (LoadV.whole (te rfl) rfl hm1 rfl)) rfl rfl ?_) | (refine Xg.ev (EvF.loadV rfl rfl (LoadV.own (te rfl) rfl hm2 rfl)) rfl rfl ?_) | (refine Xg.call (EnF.st rfl (Args.cons rfl (Args.cons rfl (Args.cons rfl Args.nil)))) rfl rfl (outcomes_spec T p sd s gs ask _ hT hok h1 h2 h3) ?_; rintro _ _ ⟨bo, qo, rfl, rfl⟩) | (refine Xg.call (EnF.st rfl (Args.cons rfl (Args.cons rfl Args.nil))) rfl rfl (numbersOut_spec 143 [] [] (fun o => o.pays - o.has) (outs T sd s gs ask) _ _ _ (SlE.ofRow (List.Mem.head _) (fun _ _ => rfl)) (by rw [hl]; omega) (by rw [hl]; omega) (fun e he Z => lost_spec e _ (by have := hb e he; omega) (by have := hb e he; omega))) ?_; rintro _ _ ⟨bn, qn, rfl, rfl⟩) | (refine Xg.call (EnF.st rfl (Args.cons rfl Args.nil)) rfl rfl (hmx _ _ _ (SlE.ofRow (List.Mem.head _) (fun _ _ => rfl))) ?_; rintro _ H9 ⟨rfl, hH9⟩; subst H9) | (refine Xg.ev (EvF.move rfl rfl) rfl rfl ?_) | (refine Xg.ev (EvF.assign rfl rfl) rfl rfl ?_))))) | (refine XO.done rfl ?_; refine hK _ _ ?_; clear hK K) | refine X.seq rfl ?_ | refine X.region rfl (fun K hK => ?_) | refine X.ret rfl ?_)
  exact ret_one (by first | exact .inr rfl | exact .inl rfl) Try.results140 rfl (H' := H) (by (repeat (first | exact List.Sublist.refl _ | apply List.Sublist.cons)); done) ⟨rfl, rfl⟩
theorem loses_spec (T : Tm) (p : Pt) (s : Int) (gs : Sp) (ask : Bool) (H : List Row) :
    Fc Try.prog 118 [.agg (cGm T p gs s).toArray, .bool ask] H (fun v H' => ∃ b1 b2, v = .func (.func 140) #[] #[.pointer (some ⟨b1, 0, none⟩), .pointer (some ⟨b2, 0, none⟩)] ∧ H' = ⟨b2, 0, [.bool ask], some 4, 1⟩ :: ⟨b1, 0, cGm T p gs s, some 144, 14⟩ :: H) := by
  refine Fc.mk (callable Try.call118) Try.func118 rfl Try.ntmps118 rfl ?_; dsimp only [fr]
  repeat' (first | (refine XO.op rfl ?_; (first | ((first | refine Xo.ng rfl ?_); (first | (refine Xg.ev (EvF.makeFunc rfl Args.nil (Args.cons rfl (Args.cons rfl Args.nil))) rfl rfl ?_) | (refine Xg.ev (EvF.assign rfl rfl) rfl rfl ?_) | (refine Xg.st (StF.boxAgg rfl rfl) rfl rfl ?_; rintro _ _ ⟨bx, rfl, rfl⟩) | (refine Xg.st (StF.boxOne rfl rfl rfl) rfl rfl ?_; rintro _ _ ⟨bx, rfl, rfl⟩))))) | (refine XO.done rfl ?_; refine hK _ _ ?_; clear hK K) | refine X.seq rfl ?_ | refine X.region rfl (fun K hK => ?_) | refine X.ret rfl ?_)
  exact ret_one (by first | exact .inr rfl | exact .inl rfl) Try.results118 rfl (List.Sublist.refl _) ⟨_, _, rfl, rfl⟩
end Go.Proofs.Ytjejppodhpdckaa
end
section
set_option linter.unusedVariables false
set_option linter.unusedSimpArgs false
namespace Go.Proofs.Ytjejppodhpdckaa
open Go Go.Fw
set_option maxRecDepth 10000
theorem eqLs (d : Nat) (a b c e : Int) (w : World) : (Op.equalIn (d + 2) 179 (.agg ([.int .i64 a, .int .i64 b] : List Value).toArray) (.agg ([.int .i64 c, .int .i64 e] : List Value).toArray)).run Try.prog w = .ok (decide (a = c ∧ b = e)) w := by
  rw [run_equalIn_array w (d + 1) (n := 2) (e := 3) (i := Try.t3) _ _ Try.underlying179 (by kernel_rfl)]
  have hc : Try.prog.cellsOf 3 = 1 := by kernel_rfl
  simp only [List.range_succ, List.range_zero, Op.eqItems, hc, List.nil_append, List.cons_append]
  have hp : ∀ (x y : Int) (k : Nat) (v : Value) (w : World), ([.int .i64 x, .int .i64 y] : List Value).toArray[k]? = some v → (part 3 ([.int .i64 x, .int .i64 y] : List Value).toArray k).run Try.prog w = .ok v w := fun x y k v w h => run_part_plain w (by kernel_rfl) h
  have p0 : ∀ (x y : Int) (w : World), (part 3 ([.int .i64 x, .int .i64 y] : List Value).toArray 0).run Try.prog w = .ok (.int .i64 x) w := fun x y w => hp x y 0 _ w rfl
  have p1 : ∀ (x y : Int) (w : World), (part 3 ([.int .i64 x, .int .i64 y] : List Value).toArray 1).run Try.prog w = .ok (.int .i64 y) w := fun x y w => hp x y 1 _ w rfl
  by_cases h1 : a = c <;> by_cases h2 : b = e <;> simp [h1, h2, p0, p1, eqI, Result.andThen]
def tsCh : List TOp := [⟨some 8, [], [], []⟩, ⟨some 9, [0], [0], []⟩, ⟨some 10, [], [], []⟩, ⟨some 11, [0, 1, 2], [1, 2], []⟩, ⟨some 12, [], [], []⟩, ⟨some 13, [0, 1, 2, 3, 4], [4], []⟩, ⟨some 14, [], [], []⟩, ⟨some 15, [0, 1, 2, 3, 4, 5, 6], [5, 6], []⟩, ⟨some 16, [0, 1, 2, 3, 4, 5, 6, 7], [3, 7], []⟩, ⟨some 6, [], [], []⟩, ⟨none, [0, 1, 2, 3, 4, 5, 6, 7, 8, 9], [9, 8], [9]⟩]
def valCh (b2 : Nat) (T : Tm) (p : Pt) (gs : Sp) (sd s m n : Int) (k : Nat) (env : Env) : Value :=
  match k with
  | 0 => .agg (cGm T p gs s).toArray
  | 1 => .func (.func 140) #[] #[.pointer (some ⟨(env 1).1, 0, none⟩), .pointer (some ⟨(env 1).2, 0, none⟩)]
  | 2 => .int .i64 sd
  | 3 => .int .i64 m
  | 4 => .agg (cGm T p gs s).toArray
  | 5 => .func (.func 140) #[] #[.pointer (some ⟨(env 5).1, 0, none⟩), .pointer (some ⟨(env 5).2, 0, none⟩)]
  | 6 => .int .i64 sd
  | 7 => .int .i64 n
  | 8 => .agg ([.int .i64 m, .int .i64 n] : List Value).toArray
  | 9 => .pointer (some ⟨(env 9).1, 0, none⟩)
  | 10 => undef
  | _ => undef
def rowsCh (b2 : Nat) (T : Tm) (p : Pt) (gs : Sp) (sd s m n : Int) (k : Nat) (env : Env) : List Row :=
  match k with
  | 1 => [⟨(env 1).2, 0, [.bool false], some 4, 1⟩, ⟨(env 1).1, 0, cGm T p gs s, some 144, 14⟩]
  | 5 => [⟨(env 5).2, 0, [.bool true], some 4, 1⟩, ⟨(env 5).1, 0, cGm T p gs s, some 144, 14⟩]
  | 9 => [⟨(env 9).1, 0, [.int .i64 0, .int .i64 0], some 179, 2⟩]
  | 10 => [⟨(env 9).1, 0, [.int .i64 m, .int .i64 n], some 179, 2⟩]
  | _ => []
theorem locCh (b2 : Nat) (T : Tm) (p : Pt) (gs : Sp) (sd s m n : Int) : ∀ k env i q9, i ≠ k → (tAt tsCh k).sup.contains i = false → valCh b2 T p gs sd s m n k (upd env i q9) = valCh b2 T p gs sd s m n k env ∧ rowsCh b2 T p gs sd s m n k (upd env i q9) = rowsCh b2 T p gs sd s m n k env := by
  intro k env i q hk hs
  have hu : ∀ j, j ≠ i → upd env i q j = env j := fun j hj => by unfold upd; rw [if_neg hj]
  match k, hk, hs with
  | 0, _, _ => exact ⟨rfl, rfl⟩
  | 1, hk, hs => exact ⟨by simp only [valCh, hu 1 (fun e => hk e.symm)], by simp only [rowsCh, hu 1 (fun e => hk e.symm)]⟩
  | 2, _, _ => exact ⟨rfl, rfl⟩
  | 3, _, _ => exact ⟨rfl, rfl⟩
  | 4, _, _ => exact ⟨rfl, rfl⟩
  | 5, hk, hs => exact ⟨by simp only [valCh, hu 5 (fun e => hk e.symm)], by simp only [rowsCh, hu 5 (fun e => hk e.symm)]⟩
  | 6, _, _ => exact ⟨rfl, rfl⟩
  | 7, _, _ => exact ⟨rfl, rfl⟩
  | 8, _, _ => exact ⟨rfl, rfl⟩
  | 9, hk, hs => exact ⟨by simp only [valCh, hu 9 (fun e => hk e.symm)], by simp only [rowsCh, hu 9 (fun e => hk e.symm)]⟩
  | 10, hk, hs => exact ⟨by simp only [valCh, hu 9 (by rintro rfl; cases hs)], by simp only [rowsCh, hu 9 (by rintro rfl; cases hs)]⟩
  | _ + 11, _, _ => exact ⟨rfl, rfl⟩
def rdCh (k : Nat) : List Nat := match k with
  | 3 => [1]
  | 7 => [5]
  | _ => []
set_option maxHeartbeats 16000000 in
theorem choice_spec (T : Tm) (p : Pt) (sd s : Int) (gs : Sp) (H : List Row) (hT : TmOk H T p) (hok : tmOk T) (h1 : 1 ≤ sd ∧ sd ≤ 9) (h2 : 1 ≤ s ∧ s ≤ 9) (h3 : (1 ≤ gs.lo ∧ gs.lo ≤ gs.hi) ∧ gs.hi ≤ 9) :
    Fc Try.prog 85 [.agg (cGm T p gs s).toArray, .int .i64 sd] H (fun v H' => v = .tuple #[.bool (shA T sd s gs), .int .i64 (shN T sd s gs)] ∧ H' = H) := by
  have hT1 : ∀ Z : List Row, TmOk (Z ++ H) T p := fun Z => hT.sub (fun _ h => List.mem_append_right _ h)
  have r1 := fun b1 b2 c1 c2 o1 o2 H hm1 hm2 hT => loses1_spec T p sd s gs false b1 b2 c1 c2 o1 o2 H hm1 hm2 hT hok h1 h2 h3
  have r2 := fun b1 b2 c1 c2 o1 o2 H hm1 hm2 hT => loses1_spec T p sd s gs true b1 b2 c1 c2 o1 o2 H hm1 hm2 hT hok h1 h2 h3
  unfold shA shN
  generalize lsL T sd s gs false = m at r1 ⊢
  generalize lsL T sd s gs true = n at r2 ⊢
  refine Fc.mk (callable Try.call85) Try.func85 rfl Try.ntmps85 rfl ?_; dsimp only [fr]
  repeat' (first | (refine XO.op rfl ?_; (first | ((first | refine Xo.ng rfl ?_); (first | (refine Xg.ev (EvF.assign rfl rfl) rfl rfl ?_) | (refine Xg.st (StF.boxAgg rfl rfl) rfl rfl ?_; rintro _ _ ⟨bx, rfl, rfl⟩))))) | (refine XO.done rfl ?_; refine hK _ _ ?_; clear hK K) | refine X.seq rfl ?_ | refine X.region rfl (fun K hK => ?_))
  obtain ⟨b2, hb2⟩ : ∃ b, b = bx := ⟨_, rfl⟩
  rw [← hb2]
  clear hb2
  refine X.weakR (H' := ⟨b2, 0, cGm T p gs s, some 144, 14⟩ :: H) (by (repeat (first | exact List.Sublist.refl _ | apply List.Sublist.cons_cons | apply List.Sublist.cons)); done) ?_
  refine X.regionRd tsCh rdCh [1, 2] [(1, .int .i64 sd), (2, .pointer (some ⟨b2, 0, none⟩))] (valCh b2 T p gs sd s m n) (rowsCh b2 T p gs sd s m n) (fun _ => (0, 0)) (⟨b2, 0, cGm T p gs s, some 144, 14⟩ :: H) rfl mixed (by (repeat (first | exact Sub.nil _ | refine Sub.cons rfl ?_)); done) rfl (by kernel_rfl) (by kernel_rfl) (locCh b2 T p gs sd s m n) (List.Sublist.refl _) ?_ ?_
  · have hs : ∀ (Y : List Row), (∀ r ∈ ⟨b2, 0, cGm T p gs s, some 144, 14⟩ :: H, r ∈ Y) → TmOk Y T p := fun S hS => hT.sub (fun r hr => hS r (List.Mem.tail _ hr))
    repeat' (first | exact AllF.done rfl | (refine AllF.step rfl ?_ ?_; · (first | exact (Ob.ng rfl (ObK.pure (fun env R hR => by exact ⟨_, EvF.move rfl rfl, rfl⟩) rfl (fun _ => rfl))).toR | exact (Ob.ng rfl (ObK.pure (fun env R hR => by exact ⟨_, EvF.loadV rfl rfl (LoadV.whole (te rfl) rfl (hR _ (List.Mem.head _)) rfl), rfl⟩) rfl (fun _ => rfl))).toR | (refine ObR.ng rfl ?_; (first | (exact fun env S hS hrd => (OpF.call (EnF.st rfl (Args.cons rfl (Args.cons rfl Args.nil))) (loses_spec T p s gs false _)).mono (fun v H' ⟨b1, b2, hv, hH⟩ => ⟨(b1, b2), fun _ => hv, by rw [hH]; exact List.Perm.refl _⟩)) | (exact fun env S hS hrd => (OpF.call (EnF.st rfl (Args.cons rfl (Args.cons rfl Args.nil))) (loses_spec T p s gs true _)).mono (fun v H' ⟨b1, b2, hv, hH⟩ => ⟨(b1, b2), fun _ => hv, by rw [hH]; exact List.Perm.refl _⟩)) | (exact fun env S hS hrd => OpF.callV (Z := []) (EnF.dyn (first := []) (cap := [.pointer (some ⟨(env 1).1, 0, none⟩), .pointer (some ⟨(env 1).2, 0, none⟩)]) rfl rfl (Args.cons rfl Args.nil)) (r1 (env 1).1 (env 1).2 _ _ _ _ _ (hrd 1 (List.Mem.head _) _ (List.Mem.tail _ (List.Mem.head _))) (hrd 1 (List.Mem.head _) _ (List.Mem.head _)) (hs S hS)) rfl rfl) | (exact fun env S hS hrd => OpF.callV (Z := []) (EnF.dyn (first := []) (cap := [.pointer (some ⟨(env 5).1, 0, none⟩), .pointer (some ⟨(env 5).2, 0, none⟩)]) rfl rfl (Args.cons rfl Args.nil)) (r2 (env 5).1 (env 5).2 _ _ _ _ _ (hrd 5 (List.Mem.head _) _ (List.Mem.tail _ (List.Mem.head _))) (hrd 5 (List.Mem.head _) _ (List.Mem.head _)) (hs S hS)) rfl rfl) | (exact fun env S hS hrd => (StF.ofEv (v := .agg ([.int .i64 m, .int .i64 n] : List Value).toArray) (EvF.buildArr (cs := [.int .i64 m, .int .i64 n]) rfl (ArgsP.cons rfl (ArgsP.cons rfl ArgsP.nil)) (te rfl) (te rfl) Try.zeroValue179 rfl)).op.mono (fun v H' ⟨hv, hH⟩ => ⟨(0, 0), fun _ => hv, by rw [hH]; exact List.Perm.refl _⟩)) | (exact fun env S hS hrd => (StF.alloc rfl Try.zeroValue179 rfl).op.mono (fun v H' ⟨b, hv, hH⟩ => ⟨(b, 0), fun _ => hv, by rw [hH]; exact List.Perm.refl _⟩)) | (exact fun env S hS hrd => (StF.storeAll (i := 0) (vs := [.int .i64 m, .int .i64 n]) (cs := [.int .i64 0, .int .i64 0]) rfl rfl rfl (te rfl) rfl rfl rfl rfl).op.mono (fun v H' ⟨hv, hH⟩ => ⟨(0, 0), fun h => absurd rfl h, by rw [hH]; exact List.Perm.refl _⟩)))))))
  intro env t ha hv
  refine ⟨_, ha.cons (hv 9 6 (Nat.le_of_ble_eq_true rfl) rfl), ?_⟩
  clear hv ha
  show X _ _ _ ((6, .pointer (some ⟨(env 9).1, 0, none⟩)) :: _) (⟨(env 1).2, 0, [.bool false], some 4, 1⟩ :: ⟨(env 1).1, 0, cGm T p gs s, some 144, 14⟩ :: ⟨(env 5).2, 0, [.bool true], some 4, 1⟩ :: ⟨(env 5).1, 0, cGm T p gs s, some 144, 14⟩ :: ⟨(env 9).1, 0, [.int .i64 m, .int .i64 n], some 179, 2⟩ :: ⟨b2, 0, cGm T p gs s, some 144, 14⟩ :: H) _
  obtain ⟨b6, hb6⟩ : ∃ b, b = (env 9).1 := ⟨_, rfl⟩
  rw [← hb6]
  clear hb6
  refine X.weakR (H' := ⟨b6, 0, [.int .i64 m, .int .i64 n], some 179, 2⟩ :: H) (by (repeat (first | exact List.Sublist.refl _ | apply List.Sublist.cons_cons | apply List.Sublist.cons)); done) ?_
  repeat' (first | (refine XO.op rfl ?_; (first | ((first | refine Xo.ng rfl ?_); (first | (refine Xg.ev (EvF.indexArray (i := 0) rfl rfl rfl (te rfl) (te rfl) (by omega) (by omega)) rfl rfl ?_) | (refine Xg.ev (EvF.indexArray (i := 1) rfl rfl rfl (te rfl) (te rfl) (by omega) (by omega)) rfl rfl ?_) | (refine Xg.ev (EvF.buildArr (cs := [.int .i64 (min m n), .int .i64 (max m n)]) rfl (ArgsP.cons rfl (ArgsP.cons rfl ArgsP.nil)) (te rfl) (te rfl) Try.zeroValue179 rfl) rfl rfl ?_) | (refine Xg.ev (EvF.loadV rfl rfl (LoadV.own (te rfl) rfl (List.Mem.head _) rfl)) rfl rfl ?_) | (refine Xg.ev (EvF.min64 rfl rfl rfl) rfl rfl ?_) | (refine Xg.ev (EvF.max64 rfl rfl rfl) rfl rfl ?_) | (refine Xg.st (StF.alloc rfl Try.zeroValue26 rfl) rfl rfl ?_; rintro _ _ ⟨bx, rfl, rfl⟩) | (refine Xg.st0 (StF.storeAll (i := 0) rfl rfl rfl (te rfl) rfl rfl rfl rfl) rfl ?_; rintro _ _ ⟨rfl, rfl⟩; dsimp only [List.set]))))) | (refine XO.done rfl ?_; refine hK _ _ ?_; clear hK K) | (refine XQ.op rfl ?_; (first | ((first | refine Yo.ng rfl ?_); (first | (refine Yg.ev (EvF.indexArray (i := 0) rfl rfl rfl (te rfl) (te rfl) (by omega) (by omega)) rfl rfl ?_) | (refine Yg.ev (EvF.eqSt rfl rfl rfl (by kernel_rfl) (fun w => eqLs 9998 m n (min m n) (max m n) w) rfl) rfl rfl ?_) | (refine Yg.ev (EvF.assign rfl rfl) rfl rfl ?_) | (refine Yg.ev (EvF.loadV rfl rfl (LoadV.own (te rfl) rfl (List.Mem.head _) rfl)) rfl rfl ?_) | (refine Yg.ev (EvF.loadV rfl rfl (LoadV.whole (te rfl) rfl (List.Mem.head _) rfl)) rfl rfl ?_) | (refine Yg.ev (EvF.loadV rfl rfl (LoadV.whole (te rfl) rfl (List.Mem.tail _ (List.Mem.head _)) rfl)) rfl rfl ?_))))) | (refine XQ.done rfl ?_; refine hK _ ?_; clear hK K) | refine X.seq rfl ?_ | refine X.region rfl (fun K hK => ?_) | refine X.regionD rfl mixed (by kernel_rfl) (fun K hK => ?_) | refine X.ret rfl ?_)
  have e1 : (!decide (m = min m n ∧ n = max m n)) = decide (n < m) := by
    by_cases hnm : n < m
    · rw [decide_eq_true hnm, decide_eq_false (by omega)]; rfl
    · rw [decide_eq_false hnm, decide_eq_true (by omega)]; rfl
  have e2 : min m n = if n < m then n else m := by split <;> omega
  exact ret_two (by first | exact .inr rfl | exact .inl rfl) Try.results85 rfl rfl (H' := H) (by (repeat (first | exact List.Sublist.refl _ | apply List.Sublist.cons)); done) ⟨by rw [e1, e2], rfl⟩
end Go.Proofs.Ytjejppodhpdckaa
end
section
set_option linter.unusedVariables false
set_option linter.unusedSimpArgs false
namespace Go.Proofs.Ytjejppodhpdckaa
open Go Go.Fw
set_option maxRecDepth 10000
def abG (sd s : Int) (gs : Sp) : Ab := ⟨[], [lo1 ⟨sd, s⟩, ⟨gs.lo, gs.hi, s, s⟩], [], [lo1 ⟨sd, s⟩]⟩
theorem openAsk (T : Tm) (sd s : Int) (gs : Sp) : openE T (abG sd s gs) = askE T sd s gs := by
  unfold openE askE
  have h1 : askD (abG sd s gs) := fun d hd => absurd hd List.not_mem_nil
  have h2 : askG (abG sd s gs) ↔ (1 ≤ sd ∧ sd ≤ 9) ∧ partOk gs.lo gs.hi := by simp [askG, abG, lo1, partOk]
  have h3 : askS (abG sd s gs) ↔ 1 ≤ s ∧ s ≤ 9 := by simp [askS, abG, lo1, partOk]
  have h4 : askM (abG sd s gs) := fun d hd => absurd hd List.not_mem_nil
  have h5 : askN T (abG sd s gs) ↔ may T ⟨sd, s⟩ = true := by
    simp only [askN, abG, List.mem_cons, List.not_mem_nil, or_false, forall_eq, cls_lo1]
    split <;> simp_all
  simp only [h1, h2, h3, h4, h5, if_true]
theorem askE_zero {T : Tm} {sd s : Int} {gs : Sp} (h : askE T sd s gs = 0) : tmOk T ∧ (1 ≤ sd ∧ sd ≤ 9) ∧ (1 ≤ s ∧ s ≤ 9) ∧ ((1 ≤ gs.lo ∧ gs.lo ≤ gs.hi) ∧ gs.hi ≤ 9) := by
  unfold askE at h
  by_cases h1 : tmOk T
  · by_cases h2 : (1 ≤ sd ∧ sd ≤ 9) ∧ partOk gs.lo gs.hi
    · by_cases h3 : 1 ≤ s ∧ s ≤ 9
      · exact ⟨h1, h2.1, h3, by have := h2.2; unfold partOk at this; omega⟩
      · simp [h1, h2, h3] at h
    · simp [h1, h2] at h
  · simp [h1] at h
def tsAk : List TOp := [⟨some 18, [], [], []⟩, ⟨some 19, [], [], []⟩, ⟨some 20, [], [], []⟩, ⟨some 21, [], [], []⟩, ⟨some 22, [3], [3], []⟩, ⟨some 23, [2, 3, 4], [2, 4], []⟩, ⟨some 24, [1, 2, 3, 4, 5], [1, 5], []⟩, ⟨some 25, [], [], []⟩, ⟨some 26, [7], [7], []⟩, ⟨some 27, [1, 2, 3, 4, 5, 6, 7, 8], [6, 8], []⟩, ⟨some 28, [0, 1, 2, 3, 4, 5, 6, 7, 8, 9], [0, 9], [6, 8]⟩, ⟨some 17, [0, 1, 2, 3, 4, 5, 6, 7, 8, 9, 10], [10], []⟩, ⟨some 29, [0, 1, 2, 3, 4, 5, 6, 7, 8, 9, 10, 11], [11], []⟩, ⟨some 30, [0, 1, 2, 3, 4, 5, 6, 7, 8, 9, 10, 11], [11], []⟩, ⟨some 12, [], [], []⟩, ⟨none, [0, 1, 2, 3, 4, 5, 6, 7, 8, 9, 10, 11, 12, 14], [14, 12], [14]⟩, ⟨some 10, [0, 1, 2, 3, 4, 5, 6, 7, 8, 9, 10, 11, 12, 13, 14, 15], [13], []⟩]
def valAk (b4 b6 b11 : Nat) (T TX : Tm) (p q : Pt) (gs : Sp) (sd s e : Int) (k : Nat) (env : Env) : Value :=
  match k with
  | 0 => .agg (cTm T p).toArray
  | 1 => .agg (cLo (lo1 ⟨sd, s⟩)).toArray
  | 2 => .agg (cSp gs).toArray
  | 3 => .int .i64 s
  | 4 => .agg (cSp ⟨s, s⟩).toArray
  | 5 => .agg (cLo ⟨gs.lo, gs.hi, s, s⟩).toArray
  | 6 => .slice (some ⟨(env 6).1, 0, none⟩) 2 2
  | 7 => .agg (cLo (lo1 ⟨sd, s⟩)).toArray
  | 8 => .slice (some ⟨(env 8).1, 0, none⟩) 1 1
  | 9 => .agg (cAb (abG sd s gs) ⟨none, 0, some ⟨(env 6).1, 0, none⟩, 2, none, 0, some ⟨(env 8).1, 0, none⟩, 1⟩).toArray
  | 10 => .tuple #[.agg (cTm TX q).toArray, .int .i64 e]
  | 11 => .tuple #[.agg (cTm TX q).toArray, .int .i64 e]
  | 12 => .agg (cTm TX q).toArray
  | 13 => .int .i64 e
  | 14 => .pointer (some ⟨(env 14).1, 0, none⟩)
  | 15 => undef
  | 16 => .int .i64 e
  | _ => undef
def rowsAk (b4 b6 b11 : Nat) (T TX : Tm) (p q : Pt) (gs : Sp) (sd s e : Int) (k : Nat) (env : Env) : List Row :=
  match k with
  | 6 => [⟨(env 6).1, 0, (cLo (lo1 ⟨sd, s⟩) ++ cLo ⟨gs.lo, gs.hi, s, s⟩), some 105, 2 * 4⟩]
  | 8 => [⟨(env 8).1, 0, cLo (lo1 ⟨sd, s⟩), some 105, 1 * 4⟩]
  | 14 => [⟨(env 14).1, 0, cTm Tz pz, some 111, 11⟩]
  | 15 => [⟨(env 14).1, 0, cTm TX q, some 111, 11⟩]
  | _ => []
theorem locAk (b4 b6 b11 : Nat) (T TX : Tm) (p q : Pt) (gs : Sp) (sd s e : Int) : ∀ k env i q9, i ≠ k → (tAt tsAk k).sup.contains i = false → valAk b4 b6 b11 T TX p q gs sd s e k (upd env i q9) = valAk b4 b6 b11 T TX p q gs sd s e k env ∧ rowsAk b4 b6 b11 T TX p q gs sd s e k (upd env i q9) = rowsAk b4 b6 b11 T TX p q gs sd s e k env := by
  intro k env i q hk hs
  have hu : ∀ j, j ≠ i → upd env i q j = env j := fun j hj => by unfold upd; rw [if_neg hj]
  match k, hk, hs with
  | 0, _, _ => exact ⟨rfl, rfl⟩
  | 1, _, _ => exact ⟨rfl, rfl⟩
  | 2, _, _ => exact ⟨rfl, rfl⟩
  | 3, _, _ => exact ⟨rfl, rfl⟩
  | 4, _, _ => exact ⟨rfl, rfl⟩
  | 5, _, _ => exact ⟨rfl, rfl⟩
  | 6, hk, hs => exact ⟨by simp only [valAk, hu 6 (fun e => hk e.symm)], by simp only [rowsAk, hu 6 (fun e => hk e.symm)]⟩
  | 7, _, _ => exact ⟨rfl, rfl⟩
  | 8, hk, hs => exact ⟨by simp only [valAk, hu 8 (fun e => hk e.symm)], by simp only [rowsAk, hu 8 (fun e => hk e.symm)]⟩
  | 9, hk, hs => exact ⟨by simp only [valAk, hu 6 (by rintro rfl; cases hs), hu 8 (by rintro rfl; cases hs)], by simp only [rowsAk, hu 6 (by rintro rfl; cases hs), hu 8 (by rintro rfl; cases hs)]⟩
  | 10, _, _ => exact ⟨rfl, rfl⟩
  | 11, _, _ => exact ⟨rfl, rfl⟩
  | 12, _, _ => exact ⟨rfl, rfl⟩
  | 13, _, _ => exact ⟨rfl, rfl⟩
  | 14, hk, hs => exact ⟨by simp only [valAk, hu 14 (fun e => hk e.symm)], by simp only [rowsAk, hu 14 (fun e => hk e.symm)]⟩
  | 15, hk, hs => exact ⟨by simp only [valAk, hu 14 (by rintro rfl; cases hs)], by simp only [rowsAk, hu 14 (by rintro rfl; cases hs)]⟩
  | 16, _, _ => exact ⟨rfl, rfl⟩
  | _ + 17, _, _ => exact ⟨rfl, rfl⟩
set_option maxHeartbeats 16000000 in
theorem kAsk_spec (T : Tm) (p : Pt) (sd s : Int) (gs : Sp) (H : List Row) (hT : TmOk H T p) :
    Fc Try.prog 25 [.agg (cTm T p).toArray, .int .i64 sd, .agg (cSp gs).toArray, .int .i64 s] H (fun v H' => v = .tuple #[.bool (askA T sd s gs), .int .i64 (askL T sd s gs), .int .i64 (askE T sd s gs)] ∧ H' = H) := by
  have hT1 : ∀ Z : List Row, TmOk (Z ++ H) T p := fun Z => hT.sub (fun _ h => List.mem_append_right _ h)
  obtain ⟨TX, q, hTX, hop⟩ := open_fn T p (abG sd s gs) (fun d hd => absurd hd List.not_mem_nil) HI1
  rw [openAsk] at hTX hop
  have hz := @askE_zero T sd s gs
  unfold askA askL
  obtain ⟨e, he⟩ : ∃ e, askE T sd s gs = e := ⟨_, rfl⟩
  rw [he] at hTX hop hz ⊢
  refine Fc.mk (callable Try.call25) Try.func25 rfl Try.ntmps25 rfl ?_; dsimp only [fr]
  repeat' (first | (refine XO.op rfl ?_; (first | ((first | refine Xo.ng rfl ?_); (first | (refine Xg.call (EnF.st rfl (Args.cons rfl (Args.cons rfl Args.nil))) rfl rfl (class_spec _ _ _) ?_; rintro _ H9 ⟨rfl, hH9⟩; subst H9) | (refine Xg.call (EnF.st rfl (Args.cons rfl Args.nil)) rfl rfl (only_spec ⟨sd, s⟩ _) ?_; rintro _ H9 ⟨rfl, hH9⟩; subst H9) | (refine Xg.ev (EvF.move rfl rfl) rfl rfl ?_) | (refine Xg.ev (EvF.assign rfl rfl) rfl rfl ?_) | (refine Xg.st (StF.boxAgg rfl rfl) rfl rfl ?_; rintro _ _ ⟨bx, rfl, rfl⟩) | (refine Xg.st (StF.alloc rfl Try.zeroValue105 rfl) rfl rfl ?_; rintro _ _ ⟨bx, rfl, rfl⟩) | (refine Xg.st0 (StF.storeAll (i := 0) rfl rfl rfl (te rfl) rfl rfl rfl rfl) rfl ?_; rintro _ _ ⟨rfl, rfl⟩; dsimp only [List.set]))))) | (refine XO.done rfl ?_; refine hK _ _ ?_; clear hK K) | refine X.seq rfl ?_ | refine X.region rfl (fun K hK => ?_))
  rename_i b4 b6
  obtain ⟨b11, hb11⟩ : ∃ b, b = bx := ⟨_, rfl⟩
  rw [← hb11]
  clear hb11
  refine X.weakR (H' := ⟨b11, 0, cLo (lo1 ⟨sd, s⟩), some 105, 4⟩ :: ⟨b6, 0, cSp gs, some 26, 2⟩ :: ⟨b4, 0, cTm T p, some 28, 11⟩ :: H) (by (repeat (first | exact List.Sublist.refl _ | apply List.Sublist.cons_cons | apply List.Sublist.cons)); done) ?_
  refine X.regionOb tsAk [1, 3, 4, 6, 11] [(1, .int .i64 sd), (3, .int .i64 s), (4, .pointer (some ⟨b4, 0, none⟩)), (6, .pointer (some ⟨b6, 0, none⟩)), (11, .pointer (some ⟨b11, 0, none⟩))] (valAk b4 b6 b11 T TX p q gs sd s e) (rowsAk b4 b6 b11 T TX p q gs sd s e) (fun _ => (0, 0)) (⟨b11, 0, cLo (lo1 ⟨sd, s⟩), some 105, 4⟩ :: ⟨b6, 0, cSp gs, some 26, 2⟩ :: ⟨b4, 0, cTm T p, some 28, 11⟩ :: H) rfl mixed (by (repeat (first | exact Sub.nil _ | refine Sub.cons rfl ?_)); done) rfl (by kernel_rfl) (locAk b4 b6 b11 T TX p q gs sd s e) (List.Sublist.refl _) ?_ ?_
  · have hs : ∀ (Y Z : List Row), (∀ r ∈ ⟨b11, 0, cLo (lo1 ⟨sd, s⟩), some 105, 4⟩ :: ⟨b6, 0, cSp gs, some 26, 2⟩ :: ⟨b4, 0, cTm T p, some 28, 11⟩ :: H, r ∈ Y) → TmOk (Z ++ Y) T p := fun Y Z hS => hT.sub (fun r hr => List.mem_append_right _ (hS r (List.mem_append_right [_, _, _] hr)))
    repeat' (first | exact AllF.done rfl | (refine AllF.step rfl ?_ ?_; · (first | fail | ((first | refine Ob.ng rfl ?_); (first | exact ObK.pure (fun env R hR => by exact ⟨_, EvF.move rfl rfl, rfl⟩) rfl (fun _ => rfl) | exact ObK.pure (fun env R hR => by exact ⟨_, EvF.assign rfl rfl, rfl⟩) rfl (fun _ => rfl) | exact ObK.pure (fun env R hR => by exact ⟨_, EvF.loadV rfl rfl (LoadV.whole (te rfl) rfl (hR _ (List.Mem.head _)) rfl), rfl⟩) rfl (fun _ => rfl) | exact ObK.pure (fun env R hR => by exact ⟨_, EvF.loadV rfl rfl (LoadV.whole (te rfl) rfl (hR _ (List.Mem.tail _ (List.Mem.head _))) rfl), rfl⟩) rfl (fun _ => rfl) | exact ObK.pure (fun env R hR => by exact ⟨_, EvF.loadV rfl rfl (LoadV.whole (te rfl) rfl (hR _ (List.Mem.tail _ (List.Mem.tail _ (List.Mem.head _)))) rfl), rfl⟩) rfl (fun _ => rfl) | (exact fun env S hS => OpF.callV (Z := []) (EnF.st rfl (Args.cons rfl Args.nil)) (just_spec s _) rfl rfl) | (exact ObK.pure (fun env S hS => ⟨_, EvF.build (cs := cLo ⟨gs.lo, gs.hi, s, s⟩) rfl (ArgsP.cons rfl (ArgsP.cons rfl ArgsP.nil)) (te rfl) (Places.cons (te rfl) (Places.cons (te rfl) Places.nil)) Try.zeroValue105 rfl, rfl⟩) rfl (fun _ => rfl)) | (exact fun env S hS => (StF.buildTwo rfl elLo rfl rfl rfl rfl rfl rfl (by decide) (by decide)).op.mono (fun v H' ⟨b, hv, hH⟩ => ⟨(b, 0), fun _ => hv, by rw [hH]; exact List.Perm.refl _⟩)) | (exact fun env S hS => (StF.buildOne rfl elLo rfl rfl rfl (by decide) (by decide)).op.mono (fun v H' ⟨b, hv, hH⟩ => ⟨(b, 0), fun _ => hv, by rw [hH]; exact List.Perm.refl _⟩)) | (exact ObK.pure (fun env S hS => ⟨_, EvF.build (cs := cAb (abG sd s gs) ⟨none, 0, some ⟨(env 6).1, 0, none⟩, 2, none, 0, some ⟨(env 8).1, 0, none⟩, 1⟩) rfl (ArgsP.cons rfl (ArgsP.cons rfl ArgsP.nil)) (te rfl) (Places.cons (te rfl) (Places.cons (te rfl) (Places.cons (te rfl) (Places.cons (te rfl) Places.nil)))) Try.zeroValue109 rfl, rfl⟩) rfl (fun _ => rfl)) | (exact fun env S hS => OpF.callV (Z := [_, _]) (EnF.st rfl (Args.cons rfl (Args.cons rfl Args.nil))) (hop ⟨none, 0, some ⟨(env 6).1, 0, none⟩, 2, none, 0, some ⟨(env 8).1, 0, none⟩, 1⟩ _ (hs S [_, _] hS) ⟨sleNil, SlE.ofRow (List.Mem.head _) (fun _ _ => rfl), sleNil, SlE.ofRow (List.Mem.tail _ (List.Mem.head _)) (fun _ _ => rfl), (fun d hd => absurd hd List.not_mem_nil), Nat.zero_le _, Nat.le_of_ble_eq_true rfl, Nat.zero_le _, Nat.le_of_ble_eq_true rfl⟩) rfl rfl) | (exact ObK.pure (fun env S hS => ⟨_, EvF.extract rfl rfl rfl, rfl⟩) rfl (fun _ => rfl)) | (exact fun env S hS => (StF.alloc rfl Try.zeroValue111 rfl).op.mono (fun v H' ⟨b, hv, hH⟩ => ⟨(b, 0), fun _ => hv, by rw [hH]; exact List.Perm.refl _⟩)) | (exact fun env S hS => (StF.storeAll (i := 0) (vs := cTm TX q) (cs := cTm Tz pz) rfl rfl rfl (te rfl) rfl rfl rfl rfl).op.mono (fun v H' ⟨hv, hH⟩ => ⟨(0, 0), fun h => absurd rfl h, by rw [hH]; exact List.Perm.refl _⟩)))))))
  intro env t ha hv
  refine ⟨_, (ha.cons (hv 14 12 (Nat.le_of_ble_eq_true rfl) rfl)).cons (hv 16 10 (Nat.le_of_ble_eq_true rfl) rfl), ?_⟩
  clear hv ha
  show X _ _ _ ((10, .int .i64 e) :: (12, .pointer (some ⟨(env 14).1, 0, none⟩)) :: _) (⟨(env 14).1, 0, cTm TX q, some 111, 11⟩ :: ⟨b11, 0, cLo (lo1 ⟨sd, s⟩), some 105, 4⟩ :: ⟨b6, 0, cSp gs, some 26, 2⟩ :: ⟨b4, 0, cTm T p, some 28, 11⟩ :: H) _
  by_cases h0 : e = 0
  · obtain ⟨rfl, rfl⟩ := hTX h0
    obtain ⟨hok, h1, h2, h3⟩ := hz h0
    subst h0
    rw [if_pos rfl, if_pos rfl]
    repeat' (first | (refine XO.op rfl ?_; (first | ((first | refine Xo.ng rfl ?_); (first | (refine Xg.ev (EvF.build (cs := cGm TX q gs s) rfl (ArgsP.cons rfl (ArgsP.cons rfl (ArgsP.cons rfl ArgsP.nil))) (te rfl) (Places.cons (te rfl) (Places.cons (te rfl) (Places.cons (te rfl) Places.nil))) Try.zeroValue144 rfl) rfl rfl ?_) | (refine Xg.call (EnF.st rfl (Args.cons rfl (Args.cons rfl Args.nil))) rfl rfl (choice_spec TX q sd s gs _ (hT1 [_, _, _, _]) hok h1 h2 h3) ?_; rintro _ H9 ⟨rfl, hH9⟩; subst H9) | (refine Xg.ev (EvF.move rfl rfl) rfl rfl ?_) | (refine Xg.ev (EvF.assign rfl rfl) rfl rfl ?_) | (refine Xg.ev (EvF.cmp rfl rfl rfl rfl) rfl rfl ?_) | (refine Xg.ev (EvF.loadV rfl rfl (LoadV.whole (te rfl) rfl (List.Mem.head _) rfl)) rfl rfl ?_) | (refine Xg.ev (EvF.loadV rfl rfl (LoadV.whole (te rfl) rfl (List.Mem.tail _ (List.Mem.tail _ (List.Mem.head _))) rfl)) rfl rfl ?_) | (refine Xg.ev (EvF.extract rfl rfl rfl) rfl rfl ?_))))) | (refine XO.done rfl ?_; refine hK _ _ ?_; clear hK K) | refine X.seq rfl ?_ | refine X.region rfl (fun K hK => ?_) | refine X.skip rfl ?_ | refine X.ret rfl ?_ | (refine X.ite rfl rfl (fun hc => ?_); (first | (with_reducible refine Xb.caseN hc (fun h => ?_) (fun h => ?_))) <;> clear hc))
    all_goals try (exfalso; contradiction)
    exact ret_three (by first | exact .inr rfl | exact .inl rfl) Try.results25 rfl rfl rfl (H' := H) (by (repeat (first | exact List.Sublist.refl _ | apply List.Sublist.cons)); done) ⟨rfl, rfl⟩
  · rw [if_neg h0, if_neg h0]
    repeat' (first | (refine XO.op rfl ?_; (first | ((first | refine Xo.ng rfl ?_); (first | (refine Xg.ev (EvF.move rfl rfl) rfl rfl ?_) | (refine Xg.ev (EvF.assign rfl rfl) rfl rfl ?_) | (refine Xg.ev (EvF.cmp rfl rfl rfl rfl) rfl rfl ?_) | (refine Xg.ev (EvF.loadV rfl rfl (LoadV.whole (te rfl) rfl (List.Mem.head _) rfl)) rfl rfl ?_) | (refine Xg.ev (EvF.loadV rfl rfl (LoadV.whole (te rfl) rfl (List.Mem.tail _ (List.Mem.tail _ (List.Mem.head _))) rfl)) rfl rfl ?_))))) | (refine XO.done rfl ?_; refine hK _ _ ?_; clear hK K) | refine X.seq rfl ?_ | refine X.region rfl (fun K hK => ?_) | refine X.skip rfl ?_ | refine X.ret rfl ?_ | (refine X.ite rfl rfl (fun hc => ?_); (first | (with_reducible refine Xb.caseN hc (fun h => ?_) (fun h => ?_))) <;> clear hc))
    all_goals try (exfalso; contradiction)
    exact ret_three (by first | exact .inr rfl | exact .inl rfl) Try.results25 rfl rfl rfl (H' := H) (by (repeat (first | exact List.Sublist.refl _ | apply List.Sublist.cons)); done) ⟨rfl, rfl⟩
end Go.Proofs.Ytjejppodhpdckaa
end
section
set_option linter.unusedVariables false
set_option linter.unusedSimpArgs false
namespace Go.Proofs.Ytjejppodhpdckaa
open Go Go.Fw
set_option maxRecDepth 10000
/-- what who says a grade gets at least -/
def gnL (T : Tm) (sd s : Int) (gs : Sp) : Int := minL ((outs T sd s gs (shA T sd s gs)).map (fun o => o.gets))
set_option maxHeartbeats 4000000 in
theorem gains_spec (T : Tm) (p : Pt) (sd s : Int) (gs : Sp) (H : List Row) (hT : TmOk H T p) (hok : tmOk T) (h1 : 1 ≤ sd ∧ sd ≤ 9) (h2 : 1 ≤ s ∧ s ≤ 9) (h3 : (1 ≤ gs.lo ∧ gs.lo ≤ gs.hi) ∧ gs.hi ≤ 9) :
    Fc Try.prog 120 [.agg (cGm T p gs s).toArray, .int .i64 sd] H (fun v H' => v = .int .i64 (gnL T sd s gs) ∧ H' = H) := by
  have hT1 : ∀ Z : List Row, TmOk (Z ++ H) T p := fun Z => hT.sub (fun _ h => List.mem_append_right _ h)
  have hch := fun H h => choice_spec T p sd s gs H h hok h1 h2 h3
  unfold gnL
  obtain ⟨ask, hask⟩ : ∃ a, shA T sd s gs = a := ⟨_, rfl⟩
  rw [hask] at hch ⊢
  have hl := outs_len T sd s gs ask
  have hl0 : ((outs T sd s gs ask).map (fun o => o.gets)).length = (outs T sd s gs ask).length := List.length_map ..
  have hmx := fun a c H h => minI_spec ((outs T sd s gs ask).map (fun o => o.gets)) a c H h (by rw [hl0, hl]; omega) (by rw [hl0, hl]; omega)
  rw [hl0] at hmx
  refine Fc.mk (callable Try.call120) Try.func120 rfl Try.ntmps120 rfl ?_; dsimp only [fr]
  repeat' (first | (refine XO.op rfl ?_; (first | ((first | refine Xo.ng rfl ?_); (first | (refine Xg.call (EnF.st rfl (Args.cons rfl (Args.cons rfl Args.nil))) rfl rfl (hch _ (hT1 [_])) ?_; rintro _ H9 ⟨rfl, hH9⟩; subst H9) | (refine Xg.call (EnF.st rfl (Args.cons rfl (Args.cons rfl (Args.cons rfl Args.nil)))) rfl rfl (outcomes_spec T p sd s gs ask _ (hT1 [_]) hok h1 h2 h3) ?_; rintro _ _ ⟨bo, qo, rfl, rfl⟩) | (refine Xg.call (EnF.st rfl (Args.cons rfl (Args.cons rfl Args.nil))) rfl rfl (numbersOut_spec 144 [] [] (fun o => o.gets) (outs T sd s gs ask) _ _ _ (SlE.ofRow (List.Mem.head _) (fun _ _ => rfl)) (by rw [hl]; omega) (by rw [hl]; omega) (fun e he Z => got_spec e _)) ?_; rintro _ _ ⟨bn, qn, rfl, rfl⟩) | (refine Xg.call (EnF.st rfl (Args.cons rfl Args.nil)) rfl rfl (hmx _ _ _ (SlE.ofRow (List.Mem.head _) (fun _ _ => rfl))) ?_; rintro _ H9 ⟨rfl, hH9⟩; subst H9) | (refine Xg.ev (EvF.move rfl rfl) rfl rfl ?_) | (refine Xg.ev (EvF.assign rfl rfl) rfl rfl ?_) | (refine Xg.ev (EvF.loadV rfl rfl (LoadV.whole (te rfl) rfl (List.Mem.head _) rfl)) rfl rfl ?_) | (refine Xg.ev (EvF.extract rfl rfl rfl) rfl rfl ?_) | (refine Xg.st (StF.boxAgg rfl rfl) rfl rfl ?_; rintro _ _ ⟨bx, rfl, rfl⟩))))) | (refine XO.done rfl ?_; refine hK _ _ ?_; clear hK K) | refine X.seq rfl ?_ | refine X.region rfl (fun K hK => ?_) | refine X.ret rfl ?_)
  exact ret_one (by first | exact .inr rfl | exact .inl rfl) Try.results120 rfl (H' := H) (by (repeat (first | exact List.Sublist.refl _ | apply List.Sublist.cons)); done) ⟨rfl, rfl⟩
end Go.Proofs.Ytjejppodhpdckaa
end
section
set_option linter.unusedVariables false
set_option linter.unusedSimpArgs false
namespace Go.Proofs.Ytjejppodhpdckaa
open Go Go.Fw
set_option maxRecDepth 10000
theorem gnL_ir (T : Tm) (sd s : Int) (gs : Sp) : minL ((ir gs.lo gs.hi).map (fun g => (stl T ⟨sd, s⟩ ⟨g, s⟩ (shA T sd s gs)).gets)) = gnL T sd s gs := by
  unfold gnL outs
  rw [List.map_map]; rfl
/-- the grade by which who delivers gets most, and that, of the first grades -/
def byS (T : Tm) (s : Int) (gs : Sp) : Nat → Int × Int
  | 0 => (0, 0)
  | k + 1 => if may T ⟨1 + k, s⟩ = true then (if (byS T s gs k).1 = 0 ∨ (byS T s gs k).2 < gnL T (1 + k) s gs then (1 + (k : Int), gnL T (1 + k) s gs) else byS T s gs k) else byS T s gs k
noncomputable def sayE (T : Tm) (s : Int) (gs : Sp) : Int := if tmOk T then (if partOk gs.lo gs.hi then (if 1 ≤ s ∧ s ≤ 9 then (if (byS T s gs 9).1 = 0 then 6 else 0) else 42) else 41) else 40
noncomputable def sayS (T : Tm) (s : Int) (gs : Sp) : Int := if sayE T s gs = 0 then (byS T s gs 9).1 else 0
noncomputable def sayG (T : Tm) (s : Int) (gs : Sp) : Int := if sayE T s gs = 0 then (byS T s gs 9).2 else 0
set_option maxHeartbeats 16000000 in
theorem rSay_spec (T : Tm) (p : Pt) (s : Int) (gs : Sp) (H : List Row) (hT : TmOk H T p) :
    Fc Try.prog 28 [.agg (cTm T p).toArray, .agg (cSp gs).toArray, .int .i64 s] H (fun v H' => v = .tuple #[.int .i64 (sayS T s gs), .int .i64 (sayG T s gs), .int .i64 (sayE T s gs)] ∧ H' = H) := by
  have hT1 : ∀ Z : List Row, TmOk (Z ++ H) T p := fun Z => hT.sub (fun _ h => List.mem_append_right _ h)
  by_cases hok : tmOk T
  · have ht := rtermsT T p hok
    by_cases hp : partOk gs.lo gs.hi
    · have hpp : ∀ H, Fc Try.prog 86 [.agg (cSp gs).toArray] H (fun v H' => v = .bool true ∧ H' = H) := fun H => by
        have := spanned_spec gs H
        rwa [decide_eq_true hp] at this
      have h3 : (1 ≤ gs.lo ∧ gs.lo ≤ gs.hi) ∧ gs.hi ≤ 9 := by unfold partOk at hp; omega
      by_cases h2 : 1 ≤ s ∧ s ≤ 9
      · have hx : ∀ H, Fc Try.prog 56 [.int .i64 s, .int .i64 1, .int .i64 9] H (fun v H' => v = .bool true ∧ H' = H) := fun H => by
          have := w4_spec s 1 9 H
          rwa [decide_eq_true h2] at this
        refine Fc.mk (callable Try.call28) Try.func28 rfl Try.ntmps28 rfl ?_; dsimp only [fr]
        repeat' (first | (refine XO.op rfl ?_; (first | ((first | refine Xo.ng rfl ?_); (first | (refine Xg.call (EnF.st rfl (Args.cons rfl Args.nil)) rfl rfl (ht _ (hT1 [_, _])) ?_; rintro _ H9 ⟨rfl, hH9⟩; subst H9) | (refine Xg.call (EnF.st rfl (Args.cons rfl (Args.cons rfl (Args.cons rfl Args.nil)))) rfl rfl (hx _) ?_; rintro _ H9 ⟨rfl, hH9⟩; subst H9) | (refine Xg.call (EnF.st rfl (Args.cons rfl Args.nil)) rfl rfl (hpp _) ?_; rintro _ H9 ⟨rfl, hH9⟩; subst H9) | (refine Xg.ev (EvF.move rfl rfl) rfl rfl ?_) | (refine Xg.ev (EvF.assign rfl rfl) rfl rfl ?_) | (refine Xg.ev (EvF.not rfl rfl) rfl rfl ?_) | (refine Xg.ev (EvF.loadV rfl rfl (LoadV.whole (te rfl) rfl (List.Mem.head _) rfl)) rfl rfl ?_) | (refine Xg.ev (EvF.loadV rfl rfl (LoadV.whole (te rfl) rfl (List.Mem.tail _ (List.Mem.head _)) rfl)) rfl rfl ?_) | (refine Xg.st (StF.boxAgg rfl rfl) rfl rfl ?_; rintro _ _ ⟨bx, rfl, rfl⟩))))) | (refine XO.done rfl ?_; refine hK _ _ ?_; clear hK K) | refine X.seq rfl ?_ | refine X.region rfl (fun K hK => ?_) | refine X.block rfl ?_ | refine X.skip rfl ?_ | refine X.ret rfl ?_ | (refine X.ite rfl rfl (fun hc => ?_); (first | (with_reducible refine Xb.caseB hc (fun h => ?_) (fun h => ?_))) <;> clear hc))
        all_goals try (exfalso; first | contradiction | omega)
        rename_i b3 h00 h01
        clear h00 h01
        obtain ⟨b4, hb4⟩ : ∃ b, b = bx := ⟨_, rfl⟩
        rw [← hb4]
        clear hb4
        refine X.lp rfl (fun w F' H' => ∃ (k : Nat) (b m : Int), w = 9 - k ∧ k ≤ 9 ∧ byS T s gs k = (b, m) ∧ H' = ⟨b4, 0, cSp gs, some 26, 2⟩ :: ⟨b3, 0, cTm T p, some 28, 11⟩ :: H ∧ F' = [(2, .int .i64 s), (3, .pointer (some ⟨b3, 0, none⟩)), (4, .pointer (some ⟨b4, 0, none⟩)), (9, .int .i64 b), (10, .int .i64 m), (11, .int .i64 (1 + k))])
          9 [(2, .int .i64 s), (3, .pointer (some ⟨b3, 0, none⟩)), (4, .pointer (some ⟨b4, 0, none⟩)), (9, .int .i64 0), (10, .int .i64 0), (11, .int .i64 (1 + (0 : Nat)))] _ (by rw [show (1 : Int) + ((0 : Nat) : Int) = 1 from rfl]; exact (by (repeat (first | exact Sub.nil _ | refine Sub.cons rfl ?_)); done)) (List.Sublist.refl _) ⟨0, 0, 0, rfl, by omega, rfl, rfl, rfl⟩ ?_
        rintro _ _ _ ⟨k, b, m, rfl, hk, hb, rfl, rfl⟩
        have hrm := fun H => rmay_spec T p ⟨1 + k, s⟩ H
        by_cases hk9 : k < 9
        · have h1 : 1 ≤ 1 + (k : Int) ∧ 1 + (k : Int) ≤ 9 := by omega
          have hsh := fun H h => rshould_spec T p (1 + k) s gs H h hok h1 h2 h3
          have hg := gnL_ir T (1 + k) s gs
          obtain ⟨ask, hask⟩ : ∃ a, shA T (1 + k) s gs = a := ⟨_, rfl⟩
          rw [hask] at hsh hg
          have hpd := fun g hgg H h => paid_spec T p (1 + k) g s ask H h hok ⟨h1, h2⟩ (show in9 ⟨g, s⟩ from ⟨hgg, h2⟩)
          have hgb := fun g => (stl_bd hok ⟨1 + k, s⟩ ⟨g, s⟩ ask).1
          cases hmm : may T ⟨1 + k, s⟩
          · rw [hmm] at hrm
            repeat' (first | (refine XO.op rfl ?_; (first | ((first | refine Xo.ng rfl ?_); (first | (refine Xg.call (EnF.st rfl (Args.cons rfl (Args.cons rfl Args.nil))) rfl rfl (hrm _) ?_; rintro _ H9 ⟨rfl, hH9⟩; subst H9) | (refine Xg.ev (EvF.build (cs := cCl ⟨1 + k, s⟩) rfl (ArgsP.cons rfl (ArgsP.cons rfl ArgsP.nil)) (te rfl) (Places.cons (te rfl) (Places.cons (te rfl) Places.nil)) Try.zeroValue23 rfl) rfl rfl ?_) | (refine Xg.ev (EvF.move rfl rfl) rfl rfl ?_) | (refine Xg.ev (EvF.assign rfl rfl) rfl rfl ?_) | (refine Xg.ev (EvF.cmp rfl rfl rfl rfl) rfl rfl ?_) | (refine Xg.ev (EvF.add64 rfl rfl rfl (by omega) (by omega)) rfl rfl ?_) | (refine Xg.ev (EvF.not rfl rfl) rfl rfl ?_) | (refine Xg.ev (EvF.loadV rfl rfl (LoadV.whole (te rfl) rfl (List.Mem.head _) rfl)) rfl rfl ?_) | (refine Xg.ev (EvF.loadV rfl rfl (LoadV.whole (te rfl) rfl (List.Mem.tail _ (List.Mem.head _)) rfl)) rfl rfl ?_))))) | (refine XO.done rfl ?_; refine hK _ _ ?_; clear hK K) | refine X.seq rfl ?_ | refine X.region rfl (fun K hK => ?_) | refine X.block rfl ?_ | (refine X.brk rfl ?_; repeat (first | refine blockX_hit rfl ?_ | refine blockX_miss (by decide) ?_)) | refine X.skip rfl ?_ | refine X.ret rfl ?_ | (refine X.ite rfl rfl (fun hc => ?_); (first | (with_reducible refine Xb.case hc (fun h => ?_) (fun h => ?_)) | (with_reducible refine Xb.caseB hc (fun h => ?_) (fun h => ?_))) <;> clear hc))
            all_goals try (exfalso; first | contradiction | omega)
            have hs1 : byS T s gs (k + 1) = (b, m) := by
              show (if may T ⟨1 + k, s⟩ = true then _ else _) = _
              rw [hmm, if_neg (by decide), hb]
            refine ⟨_, [(2, .int .i64 s), (3, .pointer (some ⟨b3, 0, none⟩)), (4, .pointer (some ⟨b4, 0, none⟩)), (9, .int .i64 b), (10, .int .i64 m), (11, .int .i64 (1 + (k + 1 : Nat)))], _, (by rw [show (1 : Int) + ((k + 1 : Nat) : Int) = 1 + k + 1 by omega]; exact (by (repeat (first | exact Sub.nil _ | refine Sub.cons rfl ?_)); done)), (by (repeat (first | exact List.Sublist.refl _ | apply List.Sublist.cons_cons | apply List.Sublist.cons)); done), ⟨k + 1, b, m, rfl, by omega, hs1, rfl, rfl⟩, by omega⟩
          · rw [hmm] at hrm
            repeat' (first | (refine XO.op rfl ?_; (first | ((first | refine Xo.ng rfl ?_); (first | (refine Xg.call (EnF.st rfl (Args.cons rfl (Args.cons rfl Args.nil))) rfl rfl (hrm _) ?_; rintro _ H9 ⟨rfl, hH9⟩; subst H9) | (refine Xg.ev (EvF.build (cs := cCl ⟨1 + k, s⟩) rfl (ArgsP.cons rfl (ArgsP.cons rfl ArgsP.nil)) (te rfl) (Places.cons (te rfl) (Places.cons (te rfl) Places.nil)) Try.zeroValue23 rfl) rfl rfl ?_) | (refine Xg.call (EnF.st rfl (by (repeat (first | exact Args.nil | refine Args.cons rfl ?_)); done)) rfl rfl (hsh _ (hT1 [_, _])) ?_; rintro _ H9 ⟨rfl, hH9⟩; subst H9) | (refine Xg.ev (EvF.move rfl rfl) rfl rfl ?_) | (refine Xg.ev (EvF.assign rfl rfl) rfl rfl ?_) | (refine Xg.ev (EvF.cmp rfl rfl rfl rfl) rfl rfl ?_) | (refine Xg.ev (EvF.add64 rfl rfl rfl (by omega) (by omega)) rfl rfl ?_) | (refine Xg.ev (EvF.not rfl rfl) rfl rfl ?_) | (refine Xg.ev (EvF.fieldAddr rfl rfl (te rfl) rfl (te rfl) (by decide)) rfl rfl ?_) | (refine Xg.ev (EvF.loadV rfl rfl (LoadV.own (te rfl) rfl (List.Mem.head _) rfl)) rfl rfl ?_) | (refine Xg.ev (EvF.loadV rfl rfl (LoadV.whole (te rfl) rfl (List.Mem.head _) rfl)) rfl rfl ?_) | (refine Xg.ev (EvF.loadV rfl rfl (LoadV.whole (te rfl) rfl (List.Mem.tail _ (List.Mem.head _)) rfl)) rfl rfl ?_) | (refine Xg.ev (EvF.extract rfl rfl rfl) rfl rfl ?_))))) | (refine XO.done rfl ?_; refine hK _ _ ?_; clear hK K) | refine X.seq rfl ?_ | refine X.region rfl (fun K hK => ?_) | refine X.block rfl ?_ | (refine X.brk rfl ?_; repeat (first | refine blockX_hit rfl ?_ | refine blockX_miss (by decide) ?_)) | refine X.skip rfl ?_ | refine X.ret rfl ?_ | (refine X.ite rfl rfl (fun hc => ?_); (first | (with_reducible refine Xb.case hc (fun h => ?_) (fun h => ?_)) | (with_reducible refine Xb.caseB hc (fun h => ?_) (fun h => ?_))) <;> clear hc))
            all_goals try (exfalso; first | contradiction | omega)
            have hs1 : byS T s gs (k + 1) = if b = 0 ∨ m < gnL T (1 + k) s gs then (1 + (k : Int), gnL T (1 + k) s gs) else (b, m) := by
              show (if may T ⟨1 + k, s⟩ = true then _ else _) = _
              rw [hmm, if_pos rfl, hb]
            refine X.lp rfl (fun w F' H' => ∃ (j : Nat) (c : Int), w = (gs.hi - gs.lo + 1).toNat - j ∧ j ≤ (gs.hi - gs.lo + 1).toNat ∧ c = minL (((ir gs.lo gs.hi).take j).map (fun g => (stl T ⟨1 + k, s⟩ ⟨g, s⟩ ask).gets)) ∧ H' = ⟨b4, 0, cSp gs, some 26, 2⟩ :: ⟨b3, 0, cTm T p, some 28, 11⟩ :: H ∧ F' = [(2, .int .i64 s), (3, .pointer (some ⟨b3, 0, none⟩)), (4, .pointer (some ⟨b4, 0, none⟩)), (9, .int .i64 b), (10, .int .i64 m), (11, .int .i64 (1 + k)), (12, .bool ask), (14, .int .i64 c), (15, .int .i64 (gs.lo + j))])
              _ [(2, .int .i64 s), (3, .pointer (some ⟨b3, 0, none⟩)), (4, .pointer (some ⟨b4, 0, none⟩)), (9, .int .i64 b), (10, .int .i64 m), (11, .int .i64 (1 + k)), (12, .bool ask), (14, .int .i64 0), (15, .int .i64 (gs.lo + (0 : Nat)))] _ (by rw [show gs.lo + ((0 : Nat) : Int) = gs.lo by omega]; exact (by (repeat (first | exact Sub.nil _ | refine Sub.cons rfl ?_)); done)) (List.Sublist.refl _) ⟨0, 0, rfl, by omega, rfl, rfl, rfl⟩ ?_
            rintro _ _ _ ⟨j, c, rfl, hj, hc, rfl, rfl⟩
            by_cases hjn : (j : Int) < gs.hi - gs.lo + 1
            · have he := ir_get hjn
              have hst : minL (((ir gs.lo gs.hi).take (j + 1)).map (fun g => (stl T ⟨1 + k, s⟩ ⟨g, s⟩ ask).gets)) = if j = 0 then (stl T ⟨1 + k, s⟩ ⟨gs.lo + j, s⟩ ask).gets else min c (stl T ⟨1 + k, s⟩ ⟨gs.lo + j, s⟩ ask).gets := by
                rw [take_snoc he, List.map_append]
                by_cases hj0 : j = 0
                · subst hj0; rfl
                · rw [if_neg hj0, hc]
                  exact minL_snoc _ (by rw [List.length_map, List.length_take, ir_len]; omega)
              have hpj := hpd (gs.lo + j) (by dsimp only; omega)
              have hgj := hgb (gs.lo + j)
              generalize (stl T ⟨1 + k, s⟩ ⟨gs.lo + j, s⟩ ask).gets = G at hst hpj hgj
              generalize (stl T ⟨1 + k, s⟩ ⟨gs.lo + j, s⟩ ask).pays = Y at hpj
              clear hc he hpd hgb hs1 hg
              by_cases hj0 : j = 0
              all_goals (
                repeat' (first | (refine XO.op rfl ?_; (first | ((first | refine Xo.ng rfl ?_ | (refine Xo.g rfl rfl ?_; with_reducible refine Xw.ff ?_)); (first | (refine Xg.ev (EvF.cmp (b := true) rfl rfl rfl (congrArg some (decide_eq_true (by omega)))) rfl rfl ?_) | (refine Xg.ev (EvF.cmp (b := false) rfl rfl rfl (congrArg some (decide_eq_false (by omega)))) rfl rfl ?_) | (refine Xg.call (EnF.st rfl (by (repeat (first | exact Args.nil | refine Args.cons rfl ?_)); done)) rfl rfl (hpj _ (hT1 [_, _])) ?_; rintro _ H9 ⟨rfl, hH9⟩; subst H9) | (refine Xg.ev (EvF.move rfl rfl) rfl rfl ?_) | (refine Xg.ev (EvF.assign rfl rfl) rfl rfl ?_) | (refine Xg.ev (EvF.pickT rfl rfl rfl) rfl rfl ?_) | (refine Xg.ev (EvF.pickF rfl rfl rfl) rfl rfl ?_) | (refine Xg.ev (EvF.cmp rfl rfl rfl rfl) rfl rfl ?_) | (refine Xg.ev (EvF.add64 rfl rfl rfl (by omega) (by omega)) rfl rfl ?_) | (refine Xg.ev (EvF.fieldAddr rfl rfl (te rfl) rfl (te rfl) (by decide)) rfl rfl ?_) | (refine Xg.ev (EvF.loadV rfl rfl (LoadV.own (te rfl) rfl (List.Mem.head _) rfl)) rfl rfl ?_) | (refine Xg.ev (EvF.loadV rfl rfl (LoadV.whole (te rfl) rfl (List.Mem.tail _ (List.Mem.head _)) rfl)) rfl rfl ?_) | (refine Xg.ev (EvF.extract rfl rfl rfl) rfl rfl ?_))) | (refine Xo.g rfl rfl ?_; (first | (with_reducible refine Xw.tf rfl rfl ?_))))) | (refine XO.done rfl ?_; refine hK _ _ ?_; clear hK K) | refine X.seq rfl ?_ | refine X.region rfl (fun K hK => ?_) | refine X.block rfl ?_ | refine X.skip rfl ?_ | (refine X.ite rfl rfl (fun hc => ?_); (first | (with_reducible refine Xb.t hc ?_) | (with_reducible refine Xb.case hc (fun h => ?_) (fun h => ?_))) <;> clear hc)))
              all_goals try (exfalso; first | contradiction | omega)
              all_goals refine ⟨_, [(2, .int .i64 s), (3, .pointer (some ⟨b3, 0, none⟩)), (4, .pointer (some ⟨b4, 0, none⟩)), (9, .int .i64 b), (10, .int .i64 m), (11, .int .i64 (1 + k)), (12, .bool ask), (14, .int .i64 _), (15, .int .i64 (gs.lo + (j + 1 : Nat)))], _, (by rw [show gs.lo + ((j + 1 : Nat) : Int) = gs.lo + j + 1 by omega]; exact (by (repeat (first | exact Sub.nil _ | refine Sub.cons rfl ?_)); done)), (by (repeat (first | exact List.Sublist.refl _ | apply List.Sublist.cons_cons | apply List.Sublist.cons)); done), ⟨j + 1, _, rfl, by omega, (by rw [hst]; clear hst hpj hrm hT1; split <;> omega), rfl, rfl⟩, by omega⟩
            · obtain rfl : j = (gs.hi - gs.lo + 1).toNat := by omega
              rw [List.take_of_length_le (by rw [ir_len]; omega), hg] at hc
              generalize gnL T (1 + k) s gs = N at hc hs1
              subst hc
              clear hpd hgb hg
              by_cases hcc : b = 0 ∨ m < c
              · rw [if_pos hcc] at hs1
                repeat' (first | (refine XO.op rfl ?_; (first | ((first | refine Xo.ng rfl ?_ | (refine Xo.g rfl rfl ?_; with_reducible refine Xw.ff ?_)); (first | (refine Xg.ev (EvF.cmp (b := true) rfl rfl rfl (congrArg some (decide_eq_true (by omega)))) rfl rfl ?_) | (refine Xg.ev (EvF.cmp (b := false) rfl rfl rfl (congrArg some (decide_eq_false (by omega)))) rfl rfl ?_) | (refine Xg.ev (EvF.move rfl rfl) rfl rfl ?_) | (refine Xg.ev (EvF.assign rfl rfl) rfl rfl ?_) | (refine Xg.ev (EvF.pickT rfl rfl rfl) rfl rfl ?_) | (refine Xg.ev (EvF.pickF rfl rfl rfl) rfl rfl ?_) | (refine Xg.ev (EvF.cmp rfl rfl rfl rfl) rfl rfl ?_) | (refine Xg.ev (EvF.add64 rfl rfl rfl (by omega) (by omega)) rfl rfl ?_) | (refine Xg.ev (EvF.fieldAddr rfl rfl (te rfl) rfl (te rfl) (by decide)) rfl rfl ?_) | (refine Xg.ev (EvF.loadV rfl rfl (LoadV.own (te rfl) rfl (List.Mem.head _) rfl)) rfl rfl ?_))) | (refine Xo.g rfl rfl ?_; (first | (with_reducible refine Xw.tf rfl rfl ?_) | (with_reducible refine Xw.case (fun h => ?_) (fun h => ?_) <;> simp only [h, decide_true, decide_false, Bool.not_true, Bool.not_false, and_self, and_true, true_and, and_false, false_and]))))) | (refine XO.done rfl ?_; refine hK _ _ ?_; clear hK K) | refine X.seq rfl ?_ | refine X.region rfl (fun K hK => ?_) | (refine X.brk rfl ?_; repeat (first | refine blockX_hit rfl ?_ | refine blockX_miss (by decide) ?_)) | (refine X.ite rfl rfl (fun hc => ?_); (first | (with_reducible refine Xb.t hc ?_) | (with_reducible refine Xb.f hc ?_)) <;> clear hc))
                all_goals try (exfalso; first | contradiction | omega)
                all_goals refine ⟨_, [(2, .int .i64 s), (3, .pointer (some ⟨b3, 0, none⟩)), (4, .pointer (some ⟨b4, 0, none⟩)), (9, .int .i64 (1 + k)), (10, .int .i64 c), (11, .int .i64 (1 + (k + 1 : Nat)))], _, (by rw [show (1 : Int) + ((k + 1 : Nat) : Int) = 1 + k + 1 by omega]; exact (by (repeat (first | exact Sub.nil _ | refine Sub.cons rfl ?_)); done)), (by (repeat (first | exact List.Sublist.refl _ | apply List.Sublist.cons_cons | apply List.Sublist.cons)); done), ⟨k + 1, 1 + k, c, rfl, by omega, hs1, rfl, rfl⟩, by omega⟩
              · rw [if_neg hcc] at hs1
                repeat' (first | (refine XO.op rfl ?_; (first | ((first | refine Xo.ng rfl ?_ | (refine Xo.g rfl rfl ?_; with_reducible refine Xw.ff ?_)); (first | (refine Xg.ev (EvF.cmp (b := false) rfl rfl rfl (congrArg some (decide_eq_false (by omega)))) rfl rfl ?_) | (refine Xg.ev (EvF.move rfl rfl) rfl rfl ?_) | (refine Xg.ev (EvF.assign rfl rfl) rfl rfl ?_) | (refine Xg.ev (EvF.pickF rfl rfl rfl) rfl rfl ?_) | (refine Xg.ev (EvF.add64 rfl rfl rfl (by omega) (by omega)) rfl rfl ?_) | (refine Xg.ev (EvF.fieldAddr rfl rfl (te rfl) rfl (te rfl) (by decide)) rfl rfl ?_) | (refine Xg.ev (EvF.loadV rfl rfl (LoadV.own (te rfl) rfl (List.Mem.head _) rfl)) rfl rfl ?_))))) | (refine XO.done rfl ?_; refine hK _ _ ?_; clear hK K) | refine X.seq rfl ?_ | refine X.region rfl (fun K hK => ?_) | (refine X.brk rfl ?_; repeat (first | refine blockX_hit rfl ?_ | refine blockX_miss (by decide) ?_)) | refine X.skip rfl ?_ | (refine X.ite rfl rfl (fun hc => ?_); (first | (with_reducible refine Xb.f hc ?_)) <;> clear hc))
                all_goals try (exfalso; first | contradiction | omega)
                all_goals refine ⟨_, [(2, .int .i64 s), (3, .pointer (some ⟨b3, 0, none⟩)), (4, .pointer (some ⟨b4, 0, none⟩)), (9, .int .i64 b), (10, .int .i64 m), (11, .int .i64 (1 + (k + 1 : Nat)))], _, (by rw [show (1 : Int) + ((k + 1 : Nat) : Int) = 1 + k + 1 by omega]; exact (by (repeat (first | exact Sub.nil _ | refine Sub.cons rfl ?_)); done)), (by (repeat (first | exact List.Sublist.refl _ | apply List.Sublist.cons_cons | apply List.Sublist.cons)); done), ⟨k + 1, b, m, rfl, by omega, hs1, rfl, rfl⟩, by omega⟩
        · obtain rfl : k = 9 := by omega
          by_cases hb0 : b = 0
          · have hE : sayE T s gs = 6 := by unfold sayE; rw [if_pos hok, if_pos hp, if_pos h2, hb, if_pos hb0]
            unfold sayS sayG
            rw [hE, if_neg (by decide), if_neg (by decide)]
            subst hb0
            repeat' (first | (refine XO.op rfl ?_; (first | ((first | refine Xo.ng rfl ?_); (first | (refine Xg.ev (EvF.move rfl rfl) rfl rfl ?_) | (refine Xg.ev (EvF.assign rfl rfl) rfl rfl ?_) | (refine Xg.ev (EvF.cmp rfl rfl rfl rfl) rfl rfl ?_) | (refine Xg.ev (EvF.loadV rfl rfl (LoadV.whole (te rfl) rfl (List.Mem.tail _ (List.Mem.head _)) rfl)) rfl rfl ?_))))) | (refine XO.done rfl ?_; refine hK _ _ ?_; clear hK K) | refine X.seq rfl ?_ | refine X.region rfl (fun K hK => ?_) | refine X.block rfl ?_ | (refine X.brk rfl ?_; repeat (first | refine blockX_hit rfl ?_ | refine blockX_miss (by decide) ?_)) | refine X.skip rfl ?_ | refine X.ret rfl ?_ | (refine X.ite rfl rfl (fun hc => ?_); (first | (with_reducible refine Xb.case hc (fun h => ?_) (fun h => ?_))) <;> clear hc))
            all_goals try (exfalso; first | contradiction | omega)
            exact ret_three (by first | exact .inr rfl | exact .inl rfl) Try.results28 rfl rfl rfl (H' := H) (by (repeat (first | exact List.Sublist.refl _ | apply List.Sublist.cons)); done) ⟨rfl, rfl⟩
          · have hE : sayE T s gs = 0 := by unfold sayE; rw [if_pos hok, if_pos hp, if_pos h2, hb, if_neg hb0]
            unfold sayS sayG
            rw [hE, if_pos rfl, if_pos rfl, hb]
            repeat' (first | (refine XO.op rfl ?_; (first | ((first | refine Xo.ng rfl ?_); (first | (refine Xg.ev (EvF.cmp (b := false) rfl rfl rfl (congrArg some (decide_eq_false (by omega)))) rfl rfl ?_) | (refine Xg.ev (EvF.move rfl rfl) rfl rfl ?_) | (refine Xg.ev (EvF.assign rfl rfl) rfl rfl ?_))))) | (refine XO.done rfl ?_; refine hK _ _ ?_; clear hK K) | refine X.seq rfl ?_ | refine X.region rfl (fun K hK => ?_) | (refine X.brk rfl ?_; repeat (first | refine blockX_hit rfl ?_ | refine blockX_miss (by decide) ?_)) | refine X.skip rfl ?_ | refine X.ret rfl ?_ | (refine X.ite rfl rfl (fun hc => ?_); (first | (with_reducible refine Xb.f hc ?_)) <;> clear hc))
            all_goals try (exfalso; first | contradiction | omega)
            exact ret_three (by first | exact .inr rfl | exact .inl rfl) Try.results28 rfl rfl rfl (H' := H) (by (repeat (first | exact List.Sublist.refl _ | apply List.Sublist.cons)); done) ⟨rfl, rfl⟩
      · have hx : ∀ H, Fc Try.prog 56 [.int .i64 s, .int .i64 1, .int .i64 9] H (fun v H' => v = .bool false ∧ H' = H) := fun H => by
          have := w4_spec s 1 9 H
          rwa [decide_eq_false h2] at this
        have hE : sayE T s gs = 42 := by unfold sayE; rw [if_pos hok, if_pos hp, if_neg h2]
        unfold sayS sayG
        rw [hE, if_neg (by decide), if_neg (by decide)]
        refine Fc.mk (callable Try.call28) Try.func28 rfl Try.ntmps28 rfl ?_; dsimp only [fr]
        repeat' (first | (refine XO.op rfl ?_; (first | ((first | refine Xo.ng rfl ?_); (first | (refine Xg.call (EnF.st rfl (Args.cons rfl Args.nil)) rfl rfl (ht _ (hT1 [_, _])) ?_; rintro _ H9 ⟨rfl, hH9⟩; subst H9) | (refine Xg.call (EnF.st rfl (Args.cons rfl (Args.cons rfl (Args.cons rfl Args.nil)))) rfl rfl (hx _) ?_; rintro _ H9 ⟨rfl, hH9⟩; subst H9) | (refine Xg.call (EnF.st rfl (Args.cons rfl Args.nil)) rfl rfl (hpp _) ?_; rintro _ H9 ⟨rfl, hH9⟩; subst H9) | (refine Xg.ev (EvF.move rfl rfl) rfl rfl ?_) | (refine Xg.ev (EvF.assign rfl rfl) rfl rfl ?_) | (refine Xg.ev (EvF.not rfl rfl) rfl rfl ?_) | (refine Xg.ev (EvF.loadV rfl rfl (LoadV.whole (te rfl) rfl (List.Mem.head _) rfl)) rfl rfl ?_) | (refine Xg.ev (EvF.loadV rfl rfl (LoadV.whole (te rfl) rfl (List.Mem.tail _ (List.Mem.head _)) rfl)) rfl rfl ?_) | (refine Xg.st (StF.boxAgg rfl rfl) rfl rfl ?_; rintro _ _ ⟨bx, rfl, rfl⟩))))) | (refine XO.done rfl ?_; refine hK _ _ ?_; clear hK K) | refine X.seq rfl ?_ | refine X.region rfl (fun K hK => ?_) | refine X.block rfl ?_ | refine X.skip rfl ?_ | refine X.ret rfl ?_ | (refine X.ite rfl rfl (fun hc => ?_); (first | (with_reducible refine Xb.caseB hc (fun h => ?_) (fun h => ?_))) <;> clear hc))
        all_goals try (exfalso; first | contradiction | omega)
        exact ret_three (by first | exact .inr rfl | exact .inl rfl) Try.results28 rfl rfl rfl (H' := H) (by (repeat (first | exact List.Sublist.refl _ | apply List.Sublist.cons)); done) ⟨rfl, rfl⟩
    · have hpp : ∀ H, Fc Try.prog 86 [.agg (cSp gs).toArray] H (fun v H' => v = .bool false ∧ H' = H) := fun H => by
        have := spanned_spec gs H
        rwa [decide_eq_false hp] at this
      have hE : sayE T s gs = 41 := by unfold sayE; rw [if_pos hok, if_neg hp]
      unfold sayS sayG
      rw [hE, if_neg (by decide), if_neg (by decide)]
      refine Fc.mk (callable Try.call28) Try.func28 rfl Try.ntmps28 rfl ?_; dsimp only [fr]
      repeat' (first | (refine XO.op rfl ?_; (first | ((first | refine Xo.ng rfl ?_); (first | (refine Xg.call (EnF.st rfl (Args.cons rfl Args.nil)) rfl rfl (ht _ (hT1 [_, _])) ?_; rintro _ H9 ⟨rfl, hH9⟩; subst H9) | (refine Xg.call (EnF.st rfl (Args.cons rfl Args.nil)) rfl rfl (hpp _) ?_; rintro _ H9 ⟨rfl, hH9⟩; subst H9) | (refine Xg.ev (EvF.move rfl rfl) rfl rfl ?_) | (refine Xg.ev (EvF.assign rfl rfl) rfl rfl ?_) | (refine Xg.ev (EvF.not rfl rfl) rfl rfl ?_) | (refine Xg.ev (EvF.loadV rfl rfl (LoadV.whole (te rfl) rfl (List.Mem.head _) rfl)) rfl rfl ?_) | (refine Xg.ev (EvF.loadV rfl rfl (LoadV.whole (te rfl) rfl (List.Mem.tail _ (List.Mem.head _)) rfl)) rfl rfl ?_) | (refine Xg.st (StF.boxAgg rfl rfl) rfl rfl ?_; rintro _ _ ⟨bx, rfl, rfl⟩))))) | (refine XO.done rfl ?_; refine hK _ _ ?_; clear hK K) | refine X.seq rfl ?_ | refine X.region rfl (fun K hK => ?_) | refine X.skip rfl ?_ | refine X.ret rfl ?_ | (refine X.ite rfl rfl (fun hc => ?_); (first | (with_reducible refine Xb.caseB hc (fun h => ?_) (fun h => ?_))) <;> clear hc))
      all_goals try (exfalso; first | contradiction | omega)
      exact ret_three (by first | exact .inr rfl | exact .inl rfl) Try.results28 rfl rfl rfl (H' := H) (by (repeat (first | exact List.Sublist.refl _ | apply List.Sublist.cons)); done) ⟨rfl, rfl⟩
  · have ht := rtermsF T p hok
    have hE : sayE T s gs = 40 := by unfold sayE; rw [if_neg hok]
    unfold sayS sayG
    rw [hE, if_neg (by decide), if_neg (by decide)]
    refine Fc.mk (callable Try.call28) Try.func28 rfl Try.ntmps28 rfl ?_; dsimp only [fr]
    repeat' (first | (refine XO.op rfl ?_; (first | ((first | refine Xo.ng rfl ?_); (first | (refine Xg.call (EnF.st rfl (Args.cons rfl Args.nil)) rfl rfl (ht _ (hT1 [_, _])) ?_; rintro _ H9 ⟨rfl, hH9⟩; subst H9) | (refine Xg.ev (EvF.assign rfl rfl) rfl rfl ?_) | (refine Xg.ev (EvF.not rfl rfl) rfl rfl ?_) | (refine Xg.ev (EvF.loadV rfl rfl (LoadV.whole (te rfl) rfl (List.Mem.head _) rfl)) rfl rfl ?_) | (refine Xg.ev (EvF.loadV rfl rfl (LoadV.whole (te rfl) rfl (List.Mem.tail _ (List.Mem.head _)) rfl)) rfl rfl ?_) | (refine Xg.st (StF.boxAgg rfl rfl) rfl rfl ?_; rintro _ _ ⟨bx, rfl, rfl⟩))))) | (refine XO.done rfl ?_; refine hK _ _ ?_; clear hK K) | refine X.seq rfl ?_ | refine X.region rfl (fun K hK => ?_) | refine X.skip rfl ?_ | refine X.ret rfl ?_ | (refine X.ite rfl rfl (fun hc => ?_); (first | (with_reducible refine Xb.caseB hc (fun h => ?_) (fun h => ?_))) <;> clear hc))
    all_goals try (exfalso; first | contradiction | omega)
    exact ret_three (by first | exact .inr rfl | exact .inl rfl) Try.results28 rfl rfl rfl (H' := H) (by (repeat (first | exact List.Sublist.refl _ | apply List.Sublist.cons)); done) ⟨rfl, rfl⟩
end Go.Proofs.Ytjejppodhpdckaa
end
section
set_option linter.unusedVariables false
set_option linter.unusedSimpArgs false
namespace Go.Proofs.Ytjejppodhpdckaa
open Go Go.Fw
set_option maxRecDepth 10000
theorem mem_cls {T : Tm} {l : Lo} {c : Cl} (hg : l.g1 ≤ c.g ∧ c.g ≤ l.g2) (hs : l.s1 ≤ c.s ∧ c.s ≤ l.s2) (hm : may T c = true) : c ∈ cls T l := by
  unfold cls clsI rowC
  refine List.mem_flatMap.2 ⟨c.g, ?_, List.mem_filter.2 ⟨List.mem_map.2 ⟨c.s, ?_, rfl⟩, hm⟩⟩
  · unfold ir
    refine List.mem_map.2 ⟨(c.g - l.g1).toNat, List.mem_range.2 (by omega), by omega⟩
  · unfold ir
    refine List.mem_map.2 ⟨(c.s - l.s1).toNat, List.mem_range.2 (by omega), by omega⟩
end Go.Proofs.Ytjejppodhpdckaa
end
section
set_option linter.unusedVariables false
set_option linter.unusedSimpArgs false
namespace Go.Proofs.Ytjejppodhpdckaa
open Go Go.Fw
set_option maxRecDepth 10000
theorem ir_bd {a b x : Int} (h : x ∈ ir a b) : a ≤ x ∧ x ≤ b := by
  unfold ir at h
  obtain ⟨i, hi, rfl⟩ := List.mem_map.1 h
  rw [List.mem_range] at hi
  omega
theorem flatMap_congr' {α β : Type} {f g : α → List β} : ∀ {l : List α}, (∀ x ∈ l, f x = g x) → l.flatMap f = l.flatMap g
  | [], _ => rfl
  | x :: l, h => by rw [List.flatMap_cons, List.flatMap_cons, h x List.mem_cons_self, flatMap_congr' (fun y hy => h y (List.mem_cons_of_mem _ hy))]
end Go.Proofs.Ytjejppodhpdckaa
end
section
set_option linter.unusedVariables false
set_option linter.unusedSimpArgs false
namespace Go.Proofs.Ytjejppodhpdckaa
open Go Go.Fw
set_option maxRecDepth 10000
theorem byS_none {T : Tm} {s : Int} {gs : Sp} (h : ¬ T.short ≤ s) : ∀ k, byS T s gs k = (0, 0)
  | 0 => rfl
  | k + 1 => by
    show (if may T ⟨1 + k, s⟩ = true then _ else _) = _
    rw [if_neg (by unfold may; rw [decide_eq_false (fun q => h q.2)]; decide), byS_none h k]
theorem byS_some {T : Tm} {s : Int} {gs : Sp} (hw : 1 ≤ T.worst) (h : T.short ≤ s) : ∀ k, 1 ≤ (byS T s gs (k + 1)).1
  | 0 => by
    show 1 ≤ (if may T ⟨1 + (0 : Nat), s⟩ = true then (if (byS T s gs 0).1 = 0 ∨ (byS T s gs 0).2 < gnL T (1 + (0 : Nat)) s gs then (1 + ((0 : Nat) : Int), gnL T (1 + (0 : Nat)) s gs) else byS T s gs 0) else byS T s gs 0).1
    rw [if_pos (by unfold may; exact decide_eq_true ⟨by dsimp only; omega, h⟩), if_pos (.inl rfl)]
    show (1 : Int) ≤ 1 + ((0 : Nat) : Int)
    omega
  | k + 1 => by
    have := byS_some (gs := gs) hw h k
    show 1 ≤ (if may T ⟨1 + (k + 1 : Nat), s⟩ = true then (if (byS T s gs (k + 1)).1 = 0 ∨ (byS T s gs (k + 1)).2 < gnL T (1 + (k + 1 : Nat)) s gs then (1 + ((k + 1 : Nat) : Int), gnL T (1 + (k + 1 : Nat)) s gs) else byS T s gs (k + 1)) else byS T s gs (k + 1)).1
    split
    · split
      · dsimp only; omega
      · exact this
    · exact this
def abY (s : Int) (gs : Sp) : Ab := ⟨[], [⟨gs.lo, gs.hi, s, s⟩], [], [⟨1, 9, s, s⟩]⟩
theorem cls_say {T : Tm} {s : Int} (hw : 1 ≤ T.worst) (h2 : 1 ≤ s ∧ s ≤ 9) : (cls T ⟨1, 9, s, s⟩).length ≠ 0 ↔ T.short ≤ s := by
  constructor
  · intro h
    by_cases hs : T.short ≤ s
    · exact hs
    · exfalso
      apply h
      rw [cls_all]
      rw [List.length_eq_zero_iff, List.filter_eq_nil_iff]
      intro c hc
      have hcs : c.s = s := by
        unfold allC allI rowA at hc
        obtain ⟨g, _, hc⟩ := List.mem_flatMap.1 hc
        obtain ⟨x, hx, rfl⟩ := List.mem_map.1 hc
        have := ir_bd hx
        dsimp only at this ⊢
        omega
      unfold may
      rw [decide_eq_false (fun q => hs (by rw [← hcs]; exact q.2))]
      decide
  · intro h h0
    have := mem_cls (T := T) (l := ⟨1, 9, s, s⟩) (c := ⟨1, s⟩) ⟨by dsimp only; omega, by dsimp only; omega⟩ ⟨Int.le_refl _, Int.le_refl _⟩ (by unfold may; exact decide_eq_true ⟨hw, h⟩)
    rw [List.length_eq_zero_iff] at h0
    rw [h0] at this
    cases this
theorem openSay (T : Tm) (s : Int) (gs : Sp) : openE T (abY s gs) = sayE T s gs := by
  unfold openE sayE
  have h1 : askD (abY s gs) := fun d hd => absurd hd List.not_mem_nil
  have h2 : askG (abY s gs) ↔ partOk gs.lo gs.hi := by simp [askG, abY]
  have h3 : askS (abY s gs) ↔ 1 ≤ s ∧ s ≤ 9 := by simp [askS, abY, partOk]
  have h4 : askM (abY s gs) := fun d hd => absurd hd List.not_mem_nil
  have h5 : askN T (abY s gs) ↔ (cls T ⟨1, 9, s, s⟩).length ≠ 0 := by simp [askN, abY]
  simp only [h1, h2, h3, h4, h5, if_true]
  by_cases hok : tmOk T
  · by_cases hp : partOk gs.lo gs.hi
    · by_cases hss : 1 ≤ s ∧ s ≤ 9
      · have hw : 1 ≤ T.worst := by have := hok.cls; omega
        rw [if_pos hok, if_pos hp, if_pos hss, if_pos hok, if_pos hp, if_pos hss]
        by_cases hsh : T.short ≤ s
        · rw [if_pos ((cls_say hw hss).2 hsh), if_neg (fun q => by have := byS_some (gs := gs) hw hsh 8; rw [show 8 + 1 = 9 from rfl, q] at this; omega)]
        · rw [if_neg (fun q => hsh ((cls_say hw hss).1 q)), if_pos (by rw [byS_none hsh])]
      · simp [hok, hp, hss]
    · simp [hok, hp]
  · simp [hok]
end Go.Proofs.Ytjejppodhpdckaa
end
section
set_option linter.unusedVariables false
set_option linter.unusedSimpArgs false
namespace Go.Proofs.Ytjejppodhpdckaa
open Go Go.Fw
set_option maxRecDepth 10000
theorem minL_spec : ∀ {l : List Int}, l ≠ [] → minL l ∈ l ∧ ∀ x ∈ l, minL l ≤ x := by
  have key : ∀ (l : List Int) (a : Int), l.foldl min a ∈ a :: l ∧ ∀ x ∈ a :: l, l.foldl min a ≤ x := by
    intro l
    induction l with
    | nil => intro a; exact ⟨List.mem_cons_self, fun x hx => by rw [List.mem_singleton] at hx; rw [hx]; exact Int.le_refl _⟩
    | cons b l ih =>
      intro a
      obtain ⟨h1, h2⟩ := ih (min a b)
      rw [List.foldl_cons]
      refine ⟨?_, fun x hx => ?_⟩
      · rcases List.mem_cons.1 h1 with h | h
        · rw [h]
          by_cases q : a ≤ b
          · rw [Int.min_eq_left q]; exact List.mem_cons_self
          · rw [Int.min_eq_right (by omega)]; exact List.mem_cons_of_mem _ List.mem_cons_self
        · exact List.mem_cons_of_mem _ (List.mem_cons_of_mem _ h)
      · have h3 := h2 _ List.mem_cons_self
        rcases List.mem_cons.1 hx with rfl | hx
        · omega
        · rcases List.mem_cons.1 hx with rfl | hx
          · omega
          · exact h2 x (List.mem_cons_of_mem _ hx)
  intro l hl
  cases l with
  | nil => exact absurd rfl hl
  | cons a l => exact key l a
theorem maxL_spec : ∀ {l : List Int}, l ≠ [] → maxL l ∈ l ∧ ∀ x ∈ l, x ≤ maxL l := by
  have key : ∀ (l : List Int) (a : Int), l.foldl max a ∈ a :: l ∧ ∀ x ∈ a :: l, x ≤ l.foldl max a := by
    intro l
    induction l with
    | nil => intro a; exact ⟨List.mem_cons_self, fun x hx => by rw [List.mem_singleton] at hx; rw [hx]; exact Int.le_refl _⟩
    | cons b l ih =>
      intro a
      obtain ⟨h1, h2⟩ := ih (max a b)
      rw [List.foldl_cons]
      refine ⟨?_, fun x hx => ?_⟩
      · rcases List.mem_cons.1 h1 with h | h
        · rw [h]
          by_cases q : b ≤ a
          · rw [Int.max_eq_left q]; exact List.mem_cons_self
          · rw [Int.max_eq_right (by omega)]; exact List.mem_cons_of_mem _ List.mem_cons_self
        · exact List.mem_cons_of_mem _ (List.mem_cons_of_mem _ h)
      · have h3 := h2 _ List.mem_cons_self
        rcases List.mem_cons.1 hx with rfl | hx
        · omega
        · rcases List.mem_cons.1 hx with rfl | hx
          · omega
          · exact h2 x (List.mem_cons_of_mem _ hx)
  intro l hl
  cases l with
  | nil => exact absurd rfl hl
  | cons a l => exact key l a
/-- b is the least of the grades up to k that may be said and gain the most, m -/
def BK (T : Tm) (s : Int) (gs : Sp) (k : Nat) (b m : Int) : Prop := ((1 ≤ b ∧ b ≤ k) ∧ may T ⟨b, s⟩ = true ∧ gnL T b s gs = m) ∧ ∀ g : Int, 1 ≤ g → g ≤ k → may T ⟨g, s⟩ = true → gnL T g s gs ≤ m ∧ (gnL T g s gs = m → b ≤ g)
theorem byS_bk (T : Tm) (s : Int) (gs : Sp) : ∀ k : Nat, (byS T s gs k = (0, 0) ∧ ∀ g : Int, 1 ≤ g → g ≤ k → may T ⟨g, s⟩ = false) ∨ BK T s gs k (byS T s gs k).1 (byS T s gs k).2
  | 0 => .inl ⟨rfl, fun g h1 h2 => by exfalso; simp at h2; omega⟩
  | k + 1 => by
    have ih := byS_bk T s gs k
    unfold byS
    by_cases hm : may T ⟨1 + k, s⟩ = true
    · rw [if_pos hm]
      right
      rcases ih with ⟨h0, hn⟩ | hb
      · rw [h0, if_pos (.inl rfl)]
        refine ⟨⟨by dsimp only; push_cast; omega, hm, rfl⟩, fun g h1 h2 h3 => ?_⟩
        by_cases hg : g = 1 + k
        · subst hg; exact ⟨Int.le_refl _, fun _ => Int.le_refl _⟩
        · rw [hn g h1 (by push_cast at h2; omega)] at h3; cases h3
      · obtain ⟨⟨⟨a1, a2⟩, a3, a4⟩, a5⟩ := hb
        obtain ⟨b, m, hbm⟩ : ∃ b m, byS T s gs k = (b, m) := ⟨_, _, rfl⟩
        rw [hbm] at a1 a2 a3 a4 a5 ⊢
        dsimp only at a1 a2 a3 a4 a5 ⊢
        by_cases hlt : m < gnL T (1 + k) s gs
        · rw [if_pos (.inr hlt)]
          refine ⟨⟨by dsimp only; push_cast; omega, hm, rfl⟩, fun g h1 h2 h3 => ?_⟩
          dsimp only
          by_cases hg : g = 1 + k
          · subst hg; exact ⟨Int.le_refl _, fun _ => Int.le_refl _⟩
          · have := (a5 g h1 (by push_cast at h2; omega) h3).1
            exact ⟨by omega, fun q => by omega⟩
        · rw [if_neg (by rintro (q | q) <;> omega)]
          refine ⟨⟨by dsimp only; push_cast; omega, a3, a4⟩, fun g h1 h2 h3 => ?_⟩
          dsimp only
          by_cases hg : g = 1 + k
          · subst hg; exact ⟨by omega, fun _ => by omega⟩
          · exact a5 g h1 (by push_cast at h2; omega) h3
    · rw [if_neg hm]
      rcases ih with ⟨h0, hn⟩ | hb
      · left
        refine ⟨h0, fun g h1 h2 => ?_⟩
        by_cases hg : g = 1 + k
        · subst hg; simpa using hm
        · exact hn g h1 (by push_cast at h2; omega)
      · right
        obtain ⟨⟨⟨a1, a2⟩, a3, a4⟩, a5⟩ := hb
        refine ⟨⟨by push_cast; omega, a3, a4⟩, fun g h1 h2 h3 => ?_⟩
        by_cases hg : g = 1 + k
        · subst hg; exact absurd h3 hm
        · exact a5 g h1 (by push_cast at h2; omega) h3
theorem BK.uniq {T : Tm} {s : Int} {gs : Sp} {k : Nat} {b m b' m' : Int} (h : BK T s gs k b m) (h' : BK T s gs k b' m') : b = b' ∧ m = m' := by
  obtain ⟨⟨⟨a1, a2⟩, a3, a4⟩, a5⟩ := h
  obtain ⟨⟨⟨c1, c2⟩, c3, c4⟩, c5⟩ := h'
  have h1 := a5 b' c1 c2 c3
  have h2 := c5 b a1 a2 a3
  have hm : m = m' := by omega
  exact ⟨by have := h1.2 (by omega); have := h2.2 (by omega); omega, hm⟩
/-- the classes of a lot of one staple -/
theorem mem_cls1 {T : Tm} {s : Int} {c : Cl} : c ∈ cls T ⟨1, 9, s, s⟩ ↔ (1 ≤ c.g ∧ c.g ≤ 9) ∧ c.s = s ∧ may T c = true := by
  unfold cls clsI rowC
  constructor
  · intro h
    obtain ⟨g, hg, hc⟩ := List.mem_flatMap.1 h
    obtain ⟨hc, hm⟩ := List.mem_filter.1 hc
    obtain ⟨s', hs, rfl⟩ := List.mem_map.1 hc
    unfold ir at hg hs
    obtain ⟨i, hi, rfl⟩ := List.mem_map.1 hg
    obtain ⟨j, hj, rfl⟩ := List.mem_map.1 hs
    have := List.mem_range.1 hi
    have := List.mem_range.1 hj
    dsimp only at *
    exact ⟨by omega, by omega, hm⟩
  · rintro ⟨h1, h2, h3⟩
    refine List.mem_flatMap.2 ⟨c.g, ?_, List.mem_filter.2 ⟨List.mem_map.2 ⟨c.s, ?_, rfl⟩, h3⟩⟩
    · unfold ir
      exact List.mem_map.2 ⟨(c.g - 1).toNat, List.mem_range.2 (by dsimp only; omega), by dsimp only; omega⟩
    · unfold ir
      exact List.mem_map.2 ⟨0, List.mem_range.2 (by dsimp only; omega), by dsimp only; omega⟩
theorem nodup_flat (f : Int → List Cl) (hf : ∀ g, f g = [] ∨ ∃ c, f g = [c] ∧ c.g = g) : ∀ l : List Int, l.Nodup → ((l.flatMap f).map (·.g)).Nodup ∧ ∀ c ∈ l.flatMap f, c.g ∈ l
  | [], _ => ⟨List.nodup_nil, fun c h => absurd h List.not_mem_nil⟩
  | g :: l, hn => by
    have hn' := List.nodup_cons.1 hn
    obtain ⟨h1, h2⟩ := nodup_flat f hf l hn'.2
    rw [List.flatMap_cons]
    rcases hf g with h | ⟨c, h, hc⟩
    · rw [h, List.nil_append]
      exact ⟨h1, fun c hc => List.mem_cons_of_mem _ (h2 c hc)⟩
    · rw [h]
      refine ⟨?_, fun d hd => ?_⟩
      · show (c.g :: (l.flatMap f).map (·.g)).Nodup
        refine List.nodup_cons.2 ⟨fun hm => ?_, h1⟩
        obtain ⟨d, hd, he⟩ := List.mem_map.1 hm
        have := h2 d hd
        rw [he, hc] at this
        exact hn'.1 this
      · rcases List.mem_cons.1 hd with rfl | hd
        · rw [hc]; exact List.mem_cons_self
        · exact List.mem_cons_of_mem _ (h2 d hd)
theorem cls1_nodup (T : Tm) (s : Int) : ((cls T ⟨1, 9, s, s⟩).map (·.g)).Nodup := by
  unfold cls clsI
  refine (nodup_flat _ (fun g => ?_) _ ?_).1
  · unfold rowC ir
    dsimp only
    rw [show (s - s + 1).toNat = 1 by omega]
    rw [show ((List.range 1).map (fun i : Nat => s + (i : Int))) = [s + ((0 : Nat) : Int)] from rfl, List.map_cons, List.map_nil, List.filter_cons]
    split
    · exact .inr ⟨_, rfl, rfl⟩
    · exact .inl rfl
  · unfold ir
    dsimp only
    decide
/-- the entries: of each class its grade, and what it gains -/
def eG (T : Tm) (s : Int) (gs : Sp) (l : List Cl) : List Ent := l.zipIdx.map (fun ci => (ci.1.g, .int .i64 (gnL T ci.1.g s gs), ci.2))
theorem eG_snoc (T : Tm) (s : Int) (gs : Sp) (l : List Cl) (x : Cl) : eG T s gs (l ++ [x]) = eG T s gs l ++ [(x.g, .int .i64 (gnL T x.g s gs), l.length)] := by
  unfold eG
  rw [List.zipIdx_append, List.map_append]
  simp
theorem eG_keys (T : Tm) (s : Int) (gs : Sp) (l : List Cl) : (eG T s gs l).map (·.1) = l.map (·.g) := by
  unfold eG
  rw [List.map_map]
  have : ((fun e : Ent => e.1) ∘ fun ci : Cl × Nat => ((ci.1.g, .int .i64 (gnL T ci.1.g s gs), ci.2) : Ent)) = (fun c : Cl => c.g) ∘ Prod.fst := rfl
  rw [this, ← List.map_map, List.zipIdx_map_fst]
theorem eG_born (T : Tm) (s : Int) (gs : Sp) (l : List Cl) : (eG T s gs l).map (·.2.2) = List.range' 0 l.length := by
  unfold eG
  rw [List.map_map]
  have : ((fun e : Ent => e.2.2) ∘ fun ci : Cl × Nat => ((ci.1.g, .int .i64 (gnL T ci.1.g s gs), ci.2) : Ent)) = Prod.snd := rfl
  rw [this, List.zipIdx_map_snd]
theorem eG_len (T : Tm) (s : Int) (gs : Sp) (l : List Cl) : (eG T s gs l).length = l.length := by unfold eG; simp
theorem eG_mem {T : Tm} {s : Int} {gs : Sp} {l : List Cl} {e : Ent} (h : e ∈ eG T s gs l) : ∃ c ∈ l, e.1 = c.g ∧ e.2.1 = .int .i64 (gnL T c.g s gs) ∧ e.2.2 < l.length := by
  unfold eG at h
  obtain ⟨ci, hc, rfl⟩ := List.mem_map.1 h
  obtain ⟨c, i⟩ := ci
  have := List.mem_zipIdx hc
  exact ⟨c, by rw [this.2.2]; exact List.getElem_mem _, rfl, rfl, by dsimp only; omega⟩
theorem eG_of {T : Tm} {s : Int} {gs : Sp} {l : List Cl} {c : Cl} (h : c ∈ l) : ∃ e ∈ eG T s gs l, e.1 = c.g ∧ e.2.1 = .int .i64 (gnL T c.g s gs) := by
  have : c.g ∈ (eG T s gs l).map (·.1) := by rw [eG_keys]; exact List.mem_map_of_mem h
  obtain ⟨e, he, hk⟩ := List.mem_map.1 this
  obtain ⟨d, hd, h1, h2, _⟩ := eG_mem he
  exact ⟨e, he, hk, by rw [h2, ← h1, hk]⟩
def vI : Value → Int
  | .int _ n => n
  | _ => 0
/-- what is left in the map: all that was not yet looked at, and of the others what gains the most -/
def qfM (pre : List Ent) (m : Int) (e : Ent) : Bool := !((pre.map (·.2.2)).contains e.2.2 && decide (vI e.2.1 < m))
theorem qfM_nil (l : List Ent) (m : Int) : l.filter (qfM [] m) = l := List.filter_eq_self.2 fun e _ => by simp [qfM]
theorem born_eq {l : List Ent} (hn : (l.map (·.2.2)).Nodup) {x e : Ent} (hx : x ∈ l) (he : e ∈ l) (h : x.2.2 = e.2.2) : x = e := by
  obtain ⟨i, hi, rfl⟩ := List.mem_iff_getElem.1 hx
  obtain ⟨j, hj, rfl⟩ := List.mem_iff_getElem.1 he
  have hp := List.pairwise_iff_getElem.1 (List.nodup_iff_pairwise_ne.1 hn)
  rcases Nat.lt_trichotomy i j with q | q | q
  · exact absurd (by rw [List.getElem_map, List.getElem_map]; exact h) (hp i j (by simpa using hi) (by simpa using hj) q)
  · subst q; rfl
  · exact absurd (by rw [List.getElem_map, List.getElem_map]; exact h.symm) (hp j i (by simpa using hj) (by simpa using hi) q)
theorem seen_other {pre : List Ent} {e x : Ent} (h : ¬ x.2.2 = e.2.2) : ((pre ++ [e]).map (·.2.2)).contains x.2.2 = (pre.map (·.2.2)).contains x.2.2 := by
  rw [Bool.eq_iff_iff, List.contains_iff_mem, List.contains_iff_mem, List.map_append, List.mem_append]
  exact ⟨fun q => q.elim id (fun q => absurd (List.mem_singleton.1 q) h), .inl⟩
theorem qfM_keep {l pre : List Ent} {m : Int} (hn : (l.map (·.2.2)).Nodup) {e : Ent} (he : e ∈ l) (hv : ¬ vI e.2.1 < m) : l.filter (qfM pre m) = l.filter (qfM (pre ++ [e]) m) := by
  refine List.filter_congr fun x hx => ?_
  unfold qfM
  congr 1
  by_cases h : x.2.2 = e.2.2
  · obtain rfl := born_eq hn hx he h
    simp [hv]
  · rw [seen_other h]
theorem qfM_del {l pre : List Ent} {m : Int} (hn : (l.map (·.2.2)).Nodup) (hk : keysM l) {e : Ent} (he : e ∈ l) (hv : vI e.2.1 < m) : delM (l.filter (qfM pre m)) e.1 = l.filter (qfM (pre ++ [e]) m) := by
  unfold delM
  rw [List.filter_filter]
  refine List.filter_congr fun x hx => ?_
  unfold qfM
  by_cases h : x.2.2 = e.2.2
  · obtain rfl := born_eq hn hx he h
    simp [hv]
  · have : x.1 ≠ e.1 := by
      intro q
      obtain ⟨i, hi, rfl⟩ := List.mem_iff_getElem.1 hx
      obtain ⟨j, hj, rfl⟩ := List.mem_iff_getElem.1 he
      have := keys_inj hk (List.getElem?_eq_getElem hi) (List.getElem?_eq_getElem hj) q
      subst this
      exact h rfl
    rw [seen_other h]
    simp [this]
theorem keys_filter {l : List Ent} (hk : keysM l) (p : Ent → Bool) : keysM (l.filter p) := (List.filter_sublist.map _).nodup hk
/-- the end: what is left gains the most -/
theorem best_end {T : Tm} {s : Int} {gs : Sp} {ys1 ys2 : List Ent} (h0 : cls T ⟨1, 9, s, s⟩ ≠ []) (h1 : ys1.Perm (eG T s gs (cls T ⟨1, 9, s, s⟩))) {pre : List Ent}
    (h2 : ys2.Perm ((eG T s gs (cls T ⟨1, 9, s, s⟩)).filter (qfM pre (maxL (ys1.map (fun e => vI e.2.1)))))) (h3 : ∀ e ∈ (eG T s gs (cls T ⟨1, 9, s, s⟩)).filter (qfM pre (maxL (ys1.map (fun e => vI e.2.1)))), e.2.2 ∈ pre.map (·.2.2)) :
    minL (ys2.map (·.1)) = (byS T s gs 9).1 ∧ maxL (ys1.map (fun e => vI e.2.1)) = (byS T s gs 9).2 := by
  obtain ⟨m, hm⟩ : ∃ m, maxL (ys1.map (fun e => vI e.2.1)) = m := ⟨_, rfl⟩
  rw [hm] at h2 h3 ⊢
  have hne1 : ys1.map (fun e => vI e.2.1) ≠ [] := by
    intro q
    have hl := h1.length_eq
    rw [eG_len] at hl
    rw [List.map_eq_nil_iff] at q
    rw [q] at hl
    exact h0 (List.eq_nil_of_length_eq_zero hl.symm)
  obtain ⟨hm1, hm2⟩ := maxL_spec hne1
  rw [hm] at hm1 hm2
  -- each class gains no more
  have hle : ∀ c ∈ cls T ⟨1, 9, s, s⟩, gnL T c.g s gs ≤ m := by
    intro c hc
    obtain ⟨e, he, _, hv⟩ := eG_of (T := T) (s := s) (gs := gs) hc
    have := hm2 (vI e.2.1) (List.mem_map.2 ⟨e, h1.mem_iff.2 he, rfl⟩)
    rw [hv] at this
    exact this
  -- what is left
  have hleft : ∀ e ∈ eG T s gs (cls T ⟨1, 9, s, s⟩), (e ∈ ys2 ↔ vI e.2.1 = m) := by
    intro e he
    obtain ⟨c, hc, hk, hv, _⟩ := eG_mem he
    have hle' := hle c hc
    have hvi : vI e.2.1 = gnL T c.g s gs := by rw [hv]; rfl
    rw [h2.mem_iff, List.mem_filter]
    constructor
    · rintro ⟨_, hq⟩
      have hin := h3 e (List.mem_filter.2 ⟨he, hq⟩)
      unfold qfM at hq
      simp only [Bool.not_eq_true', Bool.and_eq_false_iff, decide_eq_false_iff_not] at hq
      rcases hq with hq | hq
      · rw [List.contains_iff_mem.2 hin] at hq; cases hq
      · omega
    · intro q
      refine ⟨he, ?_⟩
      unfold qfM
      simp only [Bool.not_eq_true', Bool.and_eq_false_iff, decide_eq_false_iff_not]
      right; omega
  obtain ⟨em, hem, hvm⟩ := List.mem_map.1 hm1
  have hem' := h1.mem_iff.1 hem
  have hem2 := (hleft em hem').2 hvm
  have hne2 : ys2.map (·.1) ≠ [] := by
    intro q
    rw [List.map_eq_nil_iff] at q
    rw [q] at hem2
    cases hem2
  obtain ⟨hb1, hb2⟩ := minL_spec hne2
  obtain ⟨b, hb⟩ : ∃ b, minL (ys2.map (·.1)) = b := ⟨_, rfl⟩
  rw [hb] at hb1 hb2 ⊢
  obtain ⟨eb, heb, hkb⟩ := List.mem_map.1 hb1
  have heb' := (List.mem_filter.1 (h2.mem_iff.1 heb)).1
  obtain ⟨cb, hcb, hkc, hvc, _⟩ := eG_mem heb'
  have hcm := mem_cls1.1 hcb
  have hbk : BK T s gs 9 b m := by
    have hgb : cb.g = b := by rw [← hkc, hkb]
    have hcs : cb = ⟨b, s⟩ := by cases cb; dsimp only at hgb hcm; rw [hgb, hcm.2.1]
    refine ⟨⟨by rw [← hgb]; exact hcm.1, by rw [← hcs]; exact hcm.2.2, ?_⟩, fun g g1 g2 g3 => ?_⟩
    · have := (hleft eb heb').1 heb
      rw [hvc, hgb] at this
      exact this
    · have hc : (⟨g, s⟩ : Cl) ∈ cls T ⟨1, 9, s, s⟩ := mem_cls1.2 ⟨⟨g1, g2⟩, rfl, g3⟩
      refine ⟨hle ⟨g, s⟩ hc, fun q => ?_⟩
      obtain ⟨e, he, hk, hv⟩ := eG_of (T := T) (s := s) (gs := gs) hc
      have := (hleft e he).2 (by rw [hv]; exact q)
      have := hb2 e.1 (List.mem_map.2 ⟨e, this, rfl⟩)
      rw [hk] at this
      exact this
  have h9 := byS_bk T s gs 9
  obtain ⟨B, hB⟩ : ∃ B, byS T s gs 9 = B := ⟨_, rfl⟩
  rw [hB] at h9 ⊢
  rcases h9 with ⟨h00, hn⟩ | h
  · exfalso
    have := hn cb.g hcm.1.1 (by have := hcm.1.2; push_cast; omega)
    have hcs : (⟨cb.g, s⟩ : Cl) = cb := by cases cb; dsimp only at hcm; rw [hcm.2.1]
    rw [hcs, hcm.2.2] at this
    cases this
  · exact hbk.uniq h
end Go.Proofs.Ytjejppodhpdckaa
end
section
set_option linter.unusedVariables false
set_option linter.unusedSimpArgs false
namespace Go.Proofs.Ytjejppodhpdckaa
open Go Go.Fw
set_option maxRecDepth 10000
theorem sayE_zero {T : Tm} {s : Int} {gs : Sp} (h : sayE T s gs = 0) : tmOk T ∧ (1 ≤ s ∧ s ≤ 9) ∧ ((1 ≤ gs.lo ∧ gs.lo ≤ gs.hi) ∧ gs.hi ≤ 9) ∧ T.short ≤ s := by
  unfold sayE at h
  by_cases h1 : tmOk T
  · by_cases h2 : partOk gs.lo gs.hi
    · by_cases h3 : 1 ≤ s ∧ s ≤ 9
      · refine ⟨h1, h3, by unfold partOk at h2; omega, ?_⟩
        by_cases h4 : T.short ≤ s
        · exact h4
        · rw [if_pos h1, if_pos h2, if_pos h3, if_pos (by rw [byS_none h4])] at h; cases h
      · simp [h1, h2, h3] at h
    · simp [h1, h2] at h
  · simp [h1] at h
def tsSa : List TOp := [⟨some 11, [], [], []⟩, ⟨some 12, [], [], []⟩, ⟨some 13, [], [], []⟩, ⟨some 14, [2], [2], []⟩, ⟨some 15, [1, 2, 3], [1, 3], []⟩, ⟨some 16, [1, 2, 3, 4], [4], []⟩, ⟨some 17, [2, 3], [], []⟩, ⟨some 18, [], [], []⟩, ⟨some 19, [2, 3, 6, 7], [7], []⟩, ⟨some 20, [2, 3, 6, 7, 8], [6, 8], []⟩, ⟨some 21, [2, 3, 6, 7, 8, 9], [9], []⟩, ⟨some 22, [1, 2, 3, 4, 5, 6, 7, 8, 9, 10], [5, 10], []⟩, ⟨some 23, [0, 1, 2, 3, 4, 5, 6, 7, 8, 9, 10, 11], [0, 11], [5, 10]⟩, ⟨some 10, [0, 1, 2, 3, 4, 5, 6, 7, 8, 9, 10, 11, 12], [12], []⟩, ⟨some 24, [0, 1, 2, 3, 4, 5, 6, 7, 8, 9, 10, 11, 12, 13], [13], []⟩, ⟨some 25, [0, 1, 2, 3, 4, 5, 6, 7, 8, 9, 10, 11, 12, 13], [13], []⟩, ⟨some 9, [], [], []⟩, ⟨none, [0, 1, 2, 3, 4, 5, 6, 7, 8, 9, 10, 11, 12, 13, 14, 16], [16, 14], [16]⟩, ⟨some 8, [0, 1, 2, 3, 4, 5, 6, 7, 8, 9, 10, 11, 12, 13, 14, 15, 16, 17], [15], []⟩]
def valSa (b3 b4 : Nat) (T TX : Tm) (p q : Pt) (gs : Sp) (s e : Int) (k : Nat) (env : Env) : Value :=
  match k with
  | 0 => .agg (cTm T p).toArray
  | 1 => .agg (cSp gs).toArray
  | 2 => .int .i64 s
  | 3 => .agg (cSp ⟨s, s⟩).toArray
  | 4 => .agg (cLo ⟨gs.lo, gs.hi, s, s⟩).toArray
  | 5 => .slice (some ⟨(env 5).1, 0, none⟩) 1 1
  | 6 => .agg (cSp ⟨1, 9⟩).toArray
  | 7 => .int .i64 s
  | 8 => .agg (cSp ⟨s, s⟩).toArray
  | 9 => .agg (cLo ⟨1, 9, s, s⟩).toArray
  | 10 => .slice (some ⟨(env 10).1, 0, none⟩) 1 1
  | 11 => .agg (cAb (abY s gs) ⟨none, 0, some ⟨(env 5).1, 0, none⟩, 1, none, 0, some ⟨(env 10).1, 0, none⟩, 1⟩).toArray
  | 12 => .tuple #[.agg (cTm TX q).toArray, .int .i64 e]
  | 13 => .tuple #[.agg (cTm TX q).toArray, .int .i64 e]
  | 14 => .agg (cTm TX q).toArray
  | 15 => .int .i64 e
  | 16 => .pointer (some ⟨(env 16).1, 0, none⟩)
  | 17 => undef
  | 18 => .int .i64 e
  | _ => undef
def rowsSa (b3 b4 : Nat) (T TX : Tm) (p q : Pt) (gs : Sp) (s e : Int) (k : Nat) (env : Env) : List Row :=
  match k with
  | 5 => [⟨(env 5).1, 0, cLo ⟨gs.lo, gs.hi, s, s⟩, some 105, 1 * 4⟩]
  | 10 => [⟨(env 10).1, 0, cLo ⟨1, 9, s, s⟩, some 105, 1 * 4⟩]
  | 16 => [⟨(env 16).1, 0, cTm Tz pz, some 111, 11⟩]
  | 17 => [⟨(env 16).1, 0, cTm TX q, some 111, 11⟩]
  | _ => []
theorem locSa (b3 b4 : Nat) (T TX : Tm) (p q : Pt) (gs : Sp) (s e : Int) : ∀ k env i q9, i ≠ k → (tAt tsSa k).sup.contains i = false → valSa b3 b4 T TX p q gs s e k (upd env i q9) = valSa b3 b4 T TX p q gs s e k env ∧ rowsSa b3 b4 T TX p q gs s e k (upd env i q9) = rowsSa b3 b4 T TX p q gs s e k env := by
  intro k env i q hk hs
  have hu : ∀ j, j ≠ i → upd env i q j = env j := fun j hj => by unfold upd; rw [if_neg hj]
  match k, hk, hs with
  | 0, _, _ => exact ⟨rfl, rfl⟩
  | 1, _, _ => exact ⟨rfl, rfl⟩
  | 2, _, _ => exact ⟨rfl, rfl⟩
  | 3, _, _ => exact ⟨rfl, rfl⟩
  | 4, _, _ => exact ⟨rfl, rfl⟩
  | 5, hk, hs => exact ⟨by simp only [valSa, hu 5 (fun e => hk e.symm)], by simp only [rowsSa, hu 5 (fun e => hk e.symm)]⟩
  | 6, _, _ => exact ⟨rfl, rfl⟩
  | 7, _, _ => exact ⟨rfl, rfl⟩
  | 8, _, _ => exact ⟨rfl, rfl⟩
  | 9, _, _ => exact ⟨rfl, rfl⟩
  | 10, hk, hs => exact ⟨by simp only [valSa, hu 10 (fun e => hk e.symm)], by simp only [rowsSa, hu 10 (fun e => hk e.symm)]⟩
  | 11, hk, hs => exact ⟨by simp only [valSa, hu 5 (by rintro rfl; cases hs), hu 10 (by rintro rfl; cases hs)], by simp only [rowsSa, hu 5 (by rintro rfl; cases hs), hu 10 (by rintro rfl; cases hs)]⟩
  | 12, _, _ => exact ⟨rfl, rfl⟩
  | 13, _, _ => exact ⟨rfl, rfl⟩
  | 14, _, _ => exact ⟨rfl, rfl⟩
  | 15, _, _ => exact ⟨rfl, rfl⟩
  | 16, hk, hs => exact ⟨by simp only [valSa, hu 16 (fun e => hk e.symm)], by simp only [rowsSa, hu 16 (fun e => hk e.symm)]⟩
  | 17, hk, hs => exact ⟨by simp only [valSa, hu 16 (by rintro rfl; cases hs)], by simp only [rowsSa, hu 16 (by rintro rfl; cases hs)]⟩
  | 18, _, _ => exact ⟨rfl, rfl⟩
  | _ + 19, _, _ => exact ⟨rfl, rfl⟩
set_option maxHeartbeats 16000000 in
theorem kSay_of (hBest : ∀ (T : Tm) (p : Pt) (s : Int) (gs : Sp) (H : List Row), TmOk H T p → tmOk T → (1 ≤ s ∧ s ≤ 9) → ((1 ≤ gs.lo ∧ gs.lo ≤ gs.hi) ∧ gs.hi ≤ 9) → T.short ≤ s → Fc Try.prog 89 [.agg (cGm T p gs s).toArray] H (fun v H' => v = .tuple #[.int .i64 (byS T s gs 9).1, .int .i64 (byS T s gs 9).2] ∧ H' = H))
    (T : Tm) (p : Pt) (s : Int) (gs : Sp) (H : List Row) (hT : TmOk H T p) :
    Fc Try.prog 27 [.agg (cTm T p).toArray, .agg (cSp gs).toArray, .int .i64 s] H (fun v H' => v = .tuple #[.int .i64 (sayS T s gs), .int .i64 (sayG T s gs), .int .i64 (sayE T s gs)] ∧ H' = H) := by
  have hT1 : ∀ Z : List Row, TmOk (Z ++ H) T p := fun Z => hT.sub (fun _ h => List.mem_append_right _ h)
  have hHI : HI (abY s gs) := by
    intro hG hS l hl
    have := hS _ (show (⟨gs.lo, gs.hi, s, s⟩ : Lo) ∈ (abY s gs).lots from List.mem_cons_self)
    unfold partOk at this
    have hl' : l = ⟨1, 9, s, s⟩ := by simpa [abY] using hl
    subst hl'
    unfold inb
    dsimp only at this ⊢
    omega
  obtain ⟨TX, q, hTX, hop⟩ := open_fn T p (abY s gs) (fun d hd => absurd hd List.not_mem_nil) hHI
  rw [openSay] at hTX hop
  have hz := @sayE_zero T s gs
  unfold sayS sayG
  obtain ⟨e, he⟩ : ∃ e, sayE T s gs = e := ⟨_, rfl⟩
  rw [he] at hTX hop hz ⊢
  refine Fc.mk (callable Try.call27) Try.func27 rfl Try.ntmps27 rfl ?_; dsimp only [fr]
  repeat' (first | (refine XO.op rfl ?_; (first | ((first | refine Xo.ng rfl ?_); (first | (refine Xg.ev (EvF.assign rfl rfl) rfl rfl ?_) | (refine Xg.st (StF.boxAgg rfl rfl) rfl rfl ?_; rintro _ _ ⟨bx, rfl, rfl⟩))))) | (refine XO.done rfl ?_; refine hK _ _ ?_; clear hK K) | refine X.seq rfl ?_ | refine X.region rfl (fun K hK => ?_))
  rename_i b3
  obtain ⟨b4, hb4⟩ : ∃ b, b = bx := ⟨_, rfl⟩
  rw [← hb4]
  clear hb4
  refine X.weakR (H' := ⟨b4, 0, cSp gs, some 26, 2⟩ :: ⟨b3, 0, cTm T p, some 28, 11⟩ :: H) (by (repeat (first | exact List.Sublist.refl _ | apply List.Sublist.cons_cons | apply List.Sublist.cons)); done) ?_
  refine X.regionOb tsSa [2, 3, 4] [(2, .int .i64 s), (3, .pointer (some ⟨b3, 0, none⟩)), (4, .pointer (some ⟨b4, 0, none⟩))] (valSa b3 b4 T TX p q gs s e) (rowsSa b3 b4 T TX p q gs s e) (fun _ => (0, 0)) (⟨b4, 0, cSp gs, some 26, 2⟩ :: ⟨b3, 0, cTm T p, some 28, 11⟩ :: H) rfl mixed (by (repeat (first | exact Sub.nil _ | refine Sub.cons rfl ?_)); done) rfl (by kernel_rfl) (locSa b3 b4 T TX p q gs s e) (List.Sublist.refl _) ?_ ?_
  · have hs : ∀ (Y Z : List Row), (∀ r ∈ ⟨b4, 0, cSp gs, some 26, 2⟩ :: ⟨b3, 0, cTm T p, some 28, 11⟩ :: H, r ∈ Y) → TmOk (Z ++ Y) T p := fun Y Z hS => hT.sub (fun r hr => List.mem_append_right _ (hS r (List.mem_append_right [_, _] hr)))
    repeat' (first | exact AllF.done rfl | (refine AllF.step rfl ?_ ?_; · (first | fail | ((first | refine Ob.ng rfl ?_); (first | exact ObK.pure (fun env R hR => by exact ⟨_, EvF.move rfl rfl, rfl⟩) rfl (fun _ => rfl) | exact ObK.pure (fun env R hR => by exact ⟨_, EvF.assign rfl rfl, rfl⟩) rfl (fun _ => rfl) | exact ObK.pure (fun env R hR => by exact ⟨_, EvF.loadV rfl rfl (LoadV.whole (te rfl) rfl (hR _ (List.Mem.head _)) rfl), rfl⟩) rfl (fun _ => rfl) | exact ObK.pure (fun env R hR => by exact ⟨_, EvF.loadV rfl rfl (LoadV.whole (te rfl) rfl (hR _ (List.Mem.tail _ (List.Mem.head _))) rfl), rfl⟩) rfl (fun _ => rfl) | (exact fun env S hS => OpF.callV (Z := []) (EnF.st rfl (Args.cons rfl Args.nil)) (just_spec s _) rfl rfl) | (exact fun env S hS => OpF.callV (Z := []) (EnF.st rfl Args.nil) (anyGrade_spec _) rfl rfl) | (exact ObK.pure (fun env S hS => ⟨_, EvF.build (cs := cLo ⟨gs.lo, gs.hi, s, s⟩) rfl (ArgsP.cons rfl (ArgsP.cons rfl ArgsP.nil)) (te rfl) (Places.cons (te rfl) (Places.cons (te rfl) Places.nil)) Try.zeroValue105 rfl, rfl⟩) rfl (fun _ => rfl)) | (exact ObK.pure (fun env S hS => ⟨_, EvF.build (cs := cLo ⟨1, 9, s, s⟩) rfl (ArgsP.cons rfl (ArgsP.cons rfl ArgsP.nil)) (te rfl) (Places.cons (te rfl) (Places.cons (te rfl) Places.nil)) Try.zeroValue105 rfl, rfl⟩) rfl (fun _ => rfl)) | (exact fun env S hS => (StF.buildOne rfl elLo rfl rfl rfl (by decide) (by decide)).op.mono (fun v H' ⟨b, hv, hH⟩ => ⟨(b, 0), fun _ => hv, by rw [hH]; exact List.Perm.refl _⟩)) | (exact ObK.pure (fun env S hS => ⟨_, EvF.build (cs := cAb (abY s gs) ⟨none, 0, some ⟨(env 5).1, 0, none⟩, 1, none, 0, some ⟨(env 10).1, 0, none⟩, 1⟩) rfl (ArgsP.cons rfl (ArgsP.cons rfl ArgsP.nil)) (te rfl) (Places.cons (te rfl) (Places.cons (te rfl) (Places.cons (te rfl) (Places.cons (te rfl) Places.nil)))) Try.zeroValue109 rfl, rfl⟩) rfl (fun _ => rfl)) | (exact fun env S hS => OpF.callV (Z := [_, _]) (EnF.st rfl (Args.cons rfl (Args.cons rfl Args.nil))) (hop ⟨none, 0, some ⟨(env 5).1, 0, none⟩, 1, none, 0, some ⟨(env 10).1, 0, none⟩, 1⟩ _ (hs S [_, _] hS) ⟨sleNil, SlE.ofRow (List.Mem.head _) (fun _ _ => rfl), sleNil, SlE.ofRow (List.Mem.tail _ (List.Mem.head _)) (fun _ _ => rfl), (fun d hd => absurd hd List.not_mem_nil), Nat.zero_le _, Nat.le_of_ble_eq_true rfl, Nat.zero_le _, Nat.le_of_ble_eq_true rfl⟩) rfl rfl) | (exact ObK.pure (fun env S hS => ⟨_, EvF.extract rfl rfl rfl, rfl⟩) rfl (fun _ => rfl)) | (exact fun env S hS => (StF.alloc rfl Try.zeroValue111 rfl).op.mono (fun v H' ⟨b, hv, hH⟩ => ⟨(b, 0), fun _ => hv, by rw [hH]; exact List.Perm.refl _⟩)) | (exact fun env S hS => (StF.storeAll (i := 0) (vs := cTm TX q) (cs := cTm Tz pz) rfl rfl rfl (te rfl) rfl rfl rfl rfl).op.mono (fun v H' ⟨hv, hH⟩ => ⟨(0, 0), fun h => absurd rfl h, by rw [hH]; exact List.Perm.refl _⟩)))))))
  intro env t ha hv
  refine ⟨_, (ha.cons (hv 16 9 (Nat.le_of_ble_eq_true rfl) rfl)).cons (hv 18 8 (Nat.le_of_ble_eq_true rfl) rfl), ?_⟩
  clear hv ha
  show X _ _ _ ((8, .int .i64 e) :: (9, .pointer (some ⟨(env 16).1, 0, none⟩)) :: _) (⟨(env 16).1, 0, cTm TX q, some 111, 11⟩ :: ⟨b4, 0, cSp gs, some 26, 2⟩ :: ⟨b3, 0, cTm T p, some 28, 11⟩ :: H) _
  by_cases h0 : e = 0
  · obtain ⟨rfl, rfl⟩ := hTX h0
    obtain ⟨hok, h2, h3, h4⟩ := hz h0
    subst h0
    rw [if_pos rfl, if_pos rfl]
    repeat' (first | (refine XO.op rfl ?_; (first | ((first | refine Xo.ng rfl ?_); (first | (refine Xg.ev (EvF.build (cs := cGm TX q gs s) rfl (ArgsP.cons rfl (ArgsP.cons rfl (ArgsP.cons rfl ArgsP.nil))) (te rfl) (Places.cons (te rfl) (Places.cons (te rfl) (Places.cons (te rfl) Places.nil))) Try.zeroValue144 rfl) rfl rfl ?_) | (refine Xg.call (EnF.st rfl (Args.cons rfl Args.nil)) rfl rfl (hBest TX q s gs _ (hT1 [_, _, _]) hok h2 h3 h4) ?_; rintro _ H9 ⟨rfl, hH9⟩; subst H9) | (refine Xg.ev (EvF.move rfl rfl) rfl rfl ?_) | (refine Xg.ev (EvF.assign rfl rfl) rfl rfl ?_) | (refine Xg.ev (EvF.cmp rfl rfl rfl rfl) rfl rfl ?_) | (refine Xg.ev (EvF.loadV rfl rfl (LoadV.whole (te rfl) rfl (List.Mem.head _) rfl)) rfl rfl ?_) | (refine Xg.ev (EvF.loadV rfl rfl (LoadV.whole (te rfl) rfl (List.Mem.tail _ (List.Mem.head _)) rfl)) rfl rfl ?_) | (refine Xg.ev (EvF.extract rfl rfl rfl) rfl rfl ?_))))) | (refine XO.done rfl ?_; refine hK _ _ ?_; clear hK K) | refine X.seq rfl ?_ | refine X.region rfl (fun K hK => ?_) | refine X.skip rfl ?_ | refine X.ret rfl ?_ | (refine X.ite rfl rfl (fun hc => ?_); (first | (with_reducible refine Xb.caseN hc (fun h => ?_) (fun h => ?_))) <;> clear hc))
    all_goals try (exfalso; contradiction)
    exact ret_three (by first | exact .inr rfl | exact .inl rfl) Try.results27 rfl rfl rfl (H' := H) (by (repeat (first | exact List.Sublist.refl _ | apply List.Sublist.cons)); done) ⟨rfl, rfl⟩
  · rw [if_neg h0, if_neg h0]
    repeat' (first | (refine XO.op rfl ?_; (first | ((first | refine Xo.ng rfl ?_); (first | (refine Xg.ev (EvF.move rfl rfl) rfl rfl ?_) | (refine Xg.ev (EvF.assign rfl rfl) rfl rfl ?_) | (refine Xg.ev (EvF.cmp rfl rfl rfl rfl) rfl rfl ?_) | (refine Xg.ev (EvF.loadV rfl rfl (LoadV.whole (te rfl) rfl (List.Mem.head _) rfl)) rfl rfl ?_) | (refine Xg.ev (EvF.loadV rfl rfl (LoadV.whole (te rfl) rfl (List.Mem.tail _ (List.Mem.head _)) rfl)) rfl rfl ?_))))) | (refine XO.done rfl ?_; refine hK _ _ ?_; clear hK K) | refine X.seq rfl ?_ | refine X.region rfl (fun K hK => ?_) | refine X.skip rfl ?_ | refine X.ret rfl ?_ | (refine X.ite rfl rfl (fun hc => ?_); (first | (with_reducible refine Xb.caseN hc (fun h => ?_) (fun h => ?_))) <;> clear hc))
    all_goals try (exfalso; contradiction)
    exact ret_three (by first | exact .inr rfl | exact .inl rfl) Try.results27 rfl rfl rfl (H' := H) (by (repeat (first | exact List.Sublist.refl _ | apply List.Sublist.cons)); done) ⟨rfl, rfl⟩
end Go.Proofs.Ytjejppodhpdckaa
end
