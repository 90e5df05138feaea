/- TermsCosts: for all terms, every day and every class the law returns true (the class that is the cheapest to deliver, what that costs, and by how much another class is dearer, or the errors, are those of the reference, and all stays), and each argument reads afterwards as before. No condition. -/
import Derived.Test.YtcjlegjchllgjaaW03
section
set_option linter.unusedVariables false
set_option linter.unusedSimpArgs false
namespace Go.Proofs.Ytcjlegjchllgjaa
open Go Go.Fw
set_option maxRecDepth 10000
theorem rdayT (d : Dy) (h : dayOk d) (H : List Row) (hD : DyOk H d) : Fc Try.prog 92 [.agg (cDy d).toArray] H (fun v H' => v = .bool true ∧ H' = H) := by
  have := rday_spec d H hD
  rwa [decide_eq_true h] at this
theorem rdayF (d : Dy) (h : ¬ dayOk d) (H : List Row) (hD : DyOk H d) : Fc Try.prog 92 [.agg (cDy d).toArray] H (fun v H' => v = .bool false ∧ H' = H) := by
  have := rday_spec d H hD
  rwa [decide_eq_false h] at this
set_option maxHeartbeats 4000000 in
theorem rCheapest_spec (T : Tm) (p : Pt) (d : Dy) (H : List Row) (hT : TmOk H T p) (hD : DyOk H d) :
    Fc Try.prog 32 [.agg (cTm T p).toArray, .agg (cDy d).toArray] H (fun v H' => v = .tuple #[.agg (cCl (chC T d)).toArray, .int .i64 (chN T d), .int .i64 (dayE T d)] ∧ H' = H) := by
  have hT1 : ∀ Z : List Row, TmOk (Z ++ H) T p := fun Z => hT.sub (fun _ h => List.mem_append_right _ h)
  have hD1 : ∀ Z : List Row, DyOk (Z ++ H) d := fun Z => hD.sub (fun _ h => List.mem_append_right _ h)
  unfold chC chN dayE
  by_cases hok : tmOk T
  · rw [if_pos hok]
    by_cases hd : dayOk d
    · rw [if_pos hd, if_pos rfl, if_pos rfl]
      refine Fc.mk (callable Try.call32) Try.func32 rfl Try.ntmps32 rfl ?_; dsimp only [fr]
      repeat' (first | (refine XO.op rfl ?_; (first | ((first | refine Xo.ng rfl ?_); (first | (refine Xg.call (EnF.st rfl (Args.cons rfl Args.nil)) rfl rfl (rtermsT T p hok _ (hT1 [_, _, _])) ?_; rintro _ H9 ⟨rfl, hH9⟩; subst H9) | (refine Xg.call (EnF.st rfl (Args.cons rfl Args.nil)) rfl rfl (rdayT d hd _ (hD1 [_, _, _])) ?_; rintro _ H9 ⟨rfl, hH9⟩; subst H9) | (refine Xg.call (EnF.st rfl (Args.cons rfl (Args.cons rfl Args.nil))) rfl rfl (rcheap_spec T p d _ (hT1 [_, _, _]) hok (hD1 [_, _, _]) hd) ?_; rintro _ H9 ⟨rfl, hH9⟩; subst H9) | (refine Xg.ev (EvF.move rfl rfl) rfl rfl ?_) | (refine Xg.ev (EvF.assign rfl rfl) rfl rfl ?_) | (refine Xg.ev (EvF.not rfl rfl) rfl rfl ?_) | (refine Xg.ev (EvF.loadV rfl rfl (LoadV.whole (te rfl) rfl (List.Mem.head _) rfl)) rfl rfl ?_) | (refine Xg.ev (EvF.loadV rfl rfl (LoadV.whole (te rfl) rfl (List.Mem.tail _ (List.Mem.head _)) rfl)) rfl rfl ?_) | (refine Xg.ev (EvF.loadV rfl rfl (LoadV.whole (te rfl) rfl (List.Mem.tail _ (List.Mem.tail _ (List.Mem.head _))) rfl)) rfl rfl ?_) | (refine Xg.ev (EvF.extract rfl rfl rfl) rfl rfl ?_) | (refine Xg.st (StF.boxAgg rfl rfl) rfl rfl ?_; rintro _ _ ⟨bx, rfl, rfl⟩) | (refine Xg.st (StF.alloc rfl Try.zeroValue26 rfl) rfl rfl ?_; rintro _ _ ⟨bx, rfl, rfl⟩) | (refine Xg.st0 (StF.storeAll (i := 0) rfl rfl rfl (te rfl) rfl rfl rfl rfl) rfl ?_; rintro _ _ ⟨rfl, rfl⟩; dsimp only [List.set]) | (refine Xg.st0 (StF.storeAll (i := 1) rfl rfl rfl (te rfl) rfl rfl rfl rfl) rfl ?_; rintro _ _ ⟨rfl, rfl⟩; dsimp only [List.set]))))) | (refine XO.done rfl ?_; refine hK _ _ ?_; clear hK K) | refine X.seq rfl ?_ | refine X.region rfl (fun K hK => ?_) | refine X.skip rfl ?_ | refine X.ret rfl ?_ | (refine X.ite rfl rfl (fun hc => ?_); (first | (with_reducible refine Xb.caseB hc (fun h => ?_) (fun h => ?_))) <;> clear hc))
      all_goals try (exfalso; contradiction)
      exact ret_three (v := .agg (cCl (chp T d)).toArray) (by first | exact .inr rfl | exact .inl rfl) Try.results32 ⟨_, rfl, LoadV.whole (te rfl) rfl (List.Mem.tail _ (List.Mem.head _)) rfl⟩ rfl rfl (H' := H) (by (repeat (first | exact List.Sublist.refl _ | apply List.Sublist.cons)); done) ⟨rfl, rfl⟩
    · rw [if_neg hd, if_neg (by decide), if_neg (by decide)]
      refine Fc.mk (callable Try.call32) Try.func32 rfl Try.ntmps32 rfl ?_; dsimp only [fr]
      repeat' (first | (refine XO.op rfl ?_; (first | ((first | refine Xo.ng rfl ?_); (first | (refine Xg.call (EnF.st rfl (Args.cons rfl Args.nil)) rfl rfl (rtermsT T p hok _ (hT1 [_, _, _])) ?_; rintro _ H9 ⟨rfl, hH9⟩; subst H9) | (refine Xg.call (EnF.st rfl (Args.cons rfl Args.nil)) rfl rfl (rdayF d hd _ (hD1 [_, _, _])) ?_; rintro _ H9 ⟨rfl, hH9⟩; subst H9) | (refine Xg.ev (EvF.build (cs := cCl ⟨0, 0⟩) rfl ArgsP.nil (te rfl) (Places.cons (te rfl) (Places.cons (te rfl) Places.nil)) Try.zeroValue23 rfl) rfl rfl ?_) | (refine Xg.ev (EvF.assign rfl rfl) rfl rfl ?_) | (refine Xg.ev (EvF.not rfl rfl) rfl rfl ?_) | (refine Xg.ev (EvF.loadV rfl rfl (LoadV.whole (te rfl) rfl (List.Mem.tail _ (List.Mem.head _)) rfl)) rfl rfl ?_) | (refine Xg.ev (EvF.loadV rfl rfl (LoadV.whole (te rfl) rfl (List.Mem.tail _ (List.Mem.tail _ (List.Mem.head _))) rfl)) rfl rfl ?_) | (refine Xg.st (StF.boxAgg rfl rfl) rfl rfl ?_; rintro _ _ ⟨bx, rfl, rfl⟩) | (refine Xg.st (StF.alloc rfl Try.zeroValue26 rfl) rfl rfl ?_; rintro _ _ ⟨bx, rfl, rfl⟩) | (refine Xg.st0 (StF.storeAll (i := 0) rfl rfl rfl (te rfl) rfl rfl rfl rfl) rfl ?_; rintro _ _ ⟨rfl, rfl⟩; dsimp only [List.set]))))) | (refine XO.done rfl ?_; refine hK _ _ ?_; clear hK K) | refine X.seq rfl ?_ | refine X.region rfl (fun K hK => ?_) | refine X.skip rfl ?_ | refine X.ret rfl ?_ | (refine X.ite rfl rfl (fun hc => ?_); (first | (with_reducible refine Xb.caseB hc (fun h => ?_) (fun h => ?_))) <;> clear hc))
      all_goals try (exfalso; contradiction)
      exact ret_three (v := .agg (cCl ⟨0, 0⟩).toArray) (by first | exact .inr rfl | exact .inl rfl) Try.results32 ⟨_, rfl, LoadV.whole (te rfl) rfl (List.Mem.head _) rfl⟩ rfl rfl (H' := H) (by (repeat (first | exact List.Sublist.refl _ | apply List.Sublist.cons)); done) ⟨rfl, rfl⟩
  · rw [if_neg hok, if_neg (by decide), if_neg (by decide)]
    refine Fc.mk (callable Try.call32) Try.func32 rfl Try.ntmps32 rfl ?_; dsimp only [fr]
    repeat' (first | (refine XO.op rfl ?_; (first | ((first | refine Xo.ng rfl ?_); (first | (refine Xg.call (EnF.st rfl (Args.cons rfl Args.nil)) rfl rfl (rtermsF T p hok _ (hT1 [_, _, _])) ?_; rintro _ H9 ⟨rfl, hH9⟩; subst H9) | (refine Xg.ev (EvF.build (cs := cCl ⟨0, 0⟩) rfl ArgsP.nil (te rfl) (Places.cons (te rfl) (Places.cons (te rfl) Places.nil)) Try.zeroValue23 rfl) rfl rfl ?_) | (refine Xg.ev (EvF.assign rfl rfl) rfl rfl ?_) | (refine Xg.ev (EvF.not rfl rfl) rfl rfl ?_) | (refine Xg.ev (EvF.loadV rfl rfl (LoadV.whole (te rfl) rfl (List.Mem.tail _ (List.Mem.head _)) rfl)) rfl rfl ?_) | (refine Xg.ev (EvF.loadV rfl rfl (LoadV.whole (te rfl) rfl (List.Mem.tail _ (List.Mem.tail _ (List.Mem.head _))) rfl)) rfl rfl ?_) | (refine Xg.st (StF.boxAgg rfl rfl) rfl rfl ?_; rintro _ _ ⟨bx, rfl, rfl⟩) | (refine Xg.st (StF.alloc rfl Try.zeroValue26 rfl) rfl rfl ?_; rintro _ _ ⟨bx, rfl, rfl⟩) | (refine Xg.st0 (StF.storeAll (i := 0) rfl rfl rfl (te rfl) rfl rfl rfl rfl) rfl ?_; rintro _ _ ⟨rfl, rfl⟩; dsimp only [List.set]))))) | (refine XO.done rfl ?_; refine hK _ _ ?_; clear hK K) | refine X.seq rfl ?_ | refine X.region rfl (fun K hK => ?_) | refine X.skip rfl ?_ | refine X.ret rfl ?_ | (refine X.ite rfl rfl (fun hc => ?_); (first | (with_reducible refine Xb.caseB hc (fun h => ?_) (fun h => ?_))) <;> clear hc))
    all_goals try (exfalso; contradiction)
    exact ret_three (v := .agg (cCl ⟨0, 0⟩).toArray) (by first | exact .inr rfl | exact .inl rfl) Try.results32 ⟨_, rfl, LoadV.whole (te rfl) rfl (List.Mem.head _) rfl⟩ rfl rfl (H' := H) (by (repeat (first | exact List.Sublist.refl _ | apply List.Sublist.cons)); done) ⟨rfl, rfl⟩
set_option maxHeartbeats 4000000 in
theorem rDearer_spec (T : Tm) (p : Pt) (d : Dy) (c : Cl) (H : List Row) (hT : TmOk H T p) (hD : DyOk H d) :
    Fc Try.prog 34 [.agg (cTm T p).toArray, .agg (cDy d).toArray, .agg (cCl c).toArray] H (fun v H' => v = .tuple #[.int .i64 (deN T d c), .int .i64 (deaE T d c)] ∧ H' = H) := by
  have hT1 : ∀ Z : List Row, TmOk (Z ++ H) T p := fun Z => hT.sub (fun _ h => List.mem_append_right _ h)
  have hD1 : ∀ Z : List Row, DyOk (Z ++ H) d := fun Z => hD.sub (fun _ h => List.mem_append_right _ h)
  have hch := fun H h h' => rCheapest_spec T p d H h h'
  unfold deN deaE
  unfold chC chN at hch
  obtain ⟨er, her⟩ : ∃ e, dayE T d = e := ⟨_, rfl⟩
  rw [her] at hch ⊢
  by_cases h0 : er = 0
  · subst h0
    obtain ⟨hok, hd⟩ := dayE_zero her
    have hdd : (0 ≤ d.price ∧ d.price ≤ 1000000) ∧ tab d.G ∧ tab d.S ∧ ∀ g s, 1 ≤ g ∧ g ≤ 9 → 1 ≤ s ∧ s ≤ 9 → 0 ≤ d.price + at1 d.G g + at1 d.S s := hd
    rw [if_pos rfl, if_pos rfl] at hch
    rw [if_pos rfl]
    have q2 := coF_bd hok hd (chp_in9 hok d)
    obtain ⟨ce, hce⟩ : ∃ e, clsE c = e := ⟨_, rfl⟩
    have hcs := fun H => rclass_spec c H
    rw [hce] at hcs ⊢
    by_cases h1 : ce = 0
    · subst h1
      have hin : in9 c := clsE_zero hce
      rw [if_pos rfl]
      have q1 := coF_bd hok hd hin
      have qa := dco_bd hd hin
      have qb := val_bd hok c.g c.s
      have hcf : coF T d c = dco d c - val T c.g c.s := rfl
      rw [hcf] at q1 ⊢
      generalize coF T d (chp T d) = z at hch q2 ⊢
      obtain ⟨y, hy⟩ : ∃ y, may T c = y := ⟨_, rfl⟩
      have hmy := fun H => rmay_spec T p c H
      rw [hy] at hmy ⊢
      cases y
      · rw [if_neg (by decide), if_neg (by decide)]
        refine Fc.mk (callable Try.call34) Try.func34 rfl Try.ntmps34 rfl ?_; dsimp only [fr]
        repeat' (first | (refine XO.op rfl ?_; (first | ((first | refine Xo.ng rfl ?_); (first | (refine Xg.call (EnF.st rfl (Args.cons rfl (Args.cons rfl Args.nil))) rfl rfl (hch _ (hT1 [_, _, _]) (hD1 [_, _, _])) ?_; rintro _ H9 ⟨rfl, hH9⟩; subst H9) | (refine Xg.call (EnF.st rfl (Args.cons rfl Args.nil)) rfl rfl (hcs _) ?_; rintro _ H9 ⟨rfl, hH9⟩; subst H9) | (refine Xg.call (EnF.st rfl (Args.cons rfl (Args.cons rfl Args.nil))) rfl rfl (hmy _) ?_; rintro _ H9 ⟨rfl, hH9⟩; subst H9) | (refine Xg.ev (EvF.move rfl rfl) rfl rfl ?_) | (refine Xg.ev (EvF.assign rfl rfl) rfl rfl ?_) | (refine Xg.ev (EvF.cmp rfl rfl rfl rfl) rfl rfl ?_) | (refine Xg.ev (EvF.not rfl rfl) rfl rfl ?_) | (refine Xg.ev (EvF.loadV rfl rfl (LoadV.whole (te rfl) rfl (List.Mem.tail _ (List.Mem.head _)) rfl)) rfl rfl ?_) | (refine Xg.ev (EvF.loadV rfl rfl (LoadV.whole (te rfl) rfl (List.Mem.tail _ (List.Mem.tail _ (List.Mem.head _))) rfl)) rfl rfl ?_) | (refine Xg.ev (EvF.loadV rfl rfl (LoadV.whole (te rfl) rfl (List.Mem.tail _ (List.Mem.tail _ (List.Mem.tail _ (List.Mem.head _)))) rfl)) rfl rfl ?_) | (refine Xg.ev (EvF.extract rfl rfl rfl) rfl rfl ?_) | (refine Xg.st (StF.boxAgg rfl rfl) rfl rfl ?_; rintro _ _ ⟨bx, rfl, rfl⟩) | (refine Xg.st (StF.alloc rfl Try.zeroValue26 rfl) rfl rfl ?_; rintro _ _ ⟨bx, rfl, rfl⟩) | (refine Xg.st0 (StF.storeAll (i := 0) rfl rfl rfl (te rfl) rfl rfl rfl rfl) rfl ?_; rintro _ _ ⟨rfl, rfl⟩; dsimp only [List.set]))))) | (refine XO.done rfl ?_; refine hK _ _ ?_; clear hK K) | (refine XQ.op rfl ?_; (first | ((first | refine Yo.ng rfl ?_); (first | (refine Yg.ev (EvF.loadV rfl rfl (LoadV.whole (te rfl) rfl (List.Mem.tail _ (List.Mem.head _)) rfl)) rfl rfl ?_) | (refine Yg.ev (EvF.loadV rfl rfl (LoadV.whole (te rfl) rfl (List.Mem.tail _ (List.Mem.tail _ (List.Mem.head _))) rfl)) rfl rfl ?_))))) | refine X.seq rfl ?_ | refine X.region rfl (fun K hK => ?_) | refine X.regionD rfl mixed (by kernel_rfl) (fun K hK => ?_) | refine X.skip rfl ?_ | refine X.ret rfl ?_ | (refine X.ite rfl rfl (fun hc => ?_); (first | (with_reducible refine Xb.caseN hc (fun h => ?_) (fun h => ?_)) | (with_reducible refine Xb.caseB hc (fun h => ?_) (fun h => ?_))) <;> clear hc))
        all_goals try (exfalso; contradiction)
        refine ret_two (by first | exact .inr rfl | exact .inl rfl) Try.results34 rfl rfl (H' := H) (by (repeat (first | exact List.Sublist.refl _ | apply List.Sublist.cons)); done) ?_; simp only [and_true, true_and]
      · rw [if_pos rfl, if_pos rfl]
        refine Fc.mk (callable Try.call34) Try.func34 rfl Try.ntmps34 rfl ?_; dsimp only [fr]
        repeat' (first | (refine XO.op rfl ?_; (first | ((first | refine Xo.ng rfl ?_); (first | (refine Xg.call (EnF.st rfl (Args.cons rfl (Args.cons rfl Args.nil))) rfl rfl (hch _ (hT1 [_, _, _]) (hD1 [_, _, _])) ?_; rintro _ H9 ⟨rfl, hH9⟩; subst H9) | (refine Xg.call (EnF.st rfl (Args.cons rfl Args.nil)) rfl rfl (hcs _) ?_; rintro _ H9 ⟨rfl, hH9⟩; subst H9) | (refine Xg.call (EnF.st rfl (Args.cons rfl (Args.cons rfl Args.nil))) rfl rfl (hmy _) ?_; rintro _ H9 ⟨rfl, hH9⟩; subst H9) | (refine Xg.ev (EvF.move rfl rfl) rfl rfl ?_) | (refine Xg.ev (EvF.assign rfl rfl) rfl rfl ?_) | (refine Xg.ev (EvF.cmp rfl rfl rfl rfl) rfl rfl ?_) | (refine Xg.ev (EvF.not rfl rfl) rfl rfl ?_) | (refine Xg.ev (EvF.loadV rfl rfl (LoadV.whole (te rfl) rfl (List.Mem.tail _ (List.Mem.head _)) rfl)) rfl rfl ?_) | (refine Xg.ev (EvF.loadV rfl rfl (LoadV.whole (te rfl) rfl (List.Mem.tail _ (List.Mem.tail _ (List.Mem.head _))) rfl)) rfl rfl ?_) | (refine Xg.ev (EvF.loadV rfl rfl (LoadV.whole (te rfl) rfl (List.Mem.tail _ (List.Mem.tail _ (List.Mem.tail _ (List.Mem.head _)))) rfl)) rfl rfl ?_) | (refine Xg.ev (EvF.extract rfl rfl rfl) rfl rfl ?_) | (refine Xg.st (StF.boxAgg rfl rfl) rfl rfl ?_; rintro _ _ ⟨bx, rfl, rfl⟩) | (refine Xg.st (StF.alloc rfl Try.zeroValue26 rfl) rfl rfl ?_; rintro _ _ ⟨bx, rfl, rfl⟩) | (refine Xg.st0 (StF.storeAll (i := 0) rfl rfl rfl (te rfl) rfl rfl rfl rfl) rfl ?_; rintro _ _ ⟨rfl, rfl⟩; dsimp only [List.set]))))) | (refine XO.done rfl ?_; refine hK _ _ ?_; clear hK K) | (refine XQ.op rfl ?_; (first | ((first | refine Yo.ng rfl ?_); (first | (refine Yg.call (EnF.st rfl (Args.cons rfl (Args.cons rfl Args.nil))) rfl rfl (rcosts_spec d c _ (hD1 [_, _, _, _]) hdd.2.1 hdd.2.2.1 hdd.1 hin) ?_) | (refine Yg.call (EnF.st rfl (Args.cons rfl (Args.cons rfl Args.nil))) rfl rfl (rvalue_spec T p c _ (hT1 [_, _, _, _]) hok.gr hok.st (by have := hok.num.1; omega) hin.1 hin.2) ?_) | (refine Yg.ev (EvF.move rfl rfl) rfl rfl ?_) | (refine Yg.ev (EvF.assign rfl rfl) rfl rfl ?_) | (refine Yg.ev (EvF.sub64 rfl rfl rfl (by omega) (by omega)) rfl rfl ?_) | (refine Yg.ev (EvF.loadV rfl rfl (LoadV.whole (te rfl) rfl (List.Mem.tail _ (List.Mem.head _)) rfl)) rfl rfl ?_) | (refine Yg.ev (EvF.loadV rfl rfl (LoadV.whole (te rfl) rfl (List.Mem.tail _ (List.Mem.tail _ (List.Mem.head _))) rfl)) rfl rfl ?_) | (refine Yg.ev (EvF.loadV rfl rfl (LoadV.whole (te rfl) rfl (List.Mem.tail _ (List.Mem.tail _ (List.Mem.tail _ (List.Mem.head _)))) rfl)) rfl rfl ?_))))) | (refine XQ.done rfl ?_; refine hK _ ?_; clear hK K) | refine X.seq rfl ?_ | refine X.region rfl (fun K hK => ?_) | refine X.regionD rfl mixed (by kernel_rfl) (fun K hK => ?_) | refine X.skip rfl ?_ | refine X.ret rfl ?_ | (refine X.ite rfl rfl (fun hc => ?_); (first | (with_reducible refine Xb.caseN hc (fun h => ?_) (fun h => ?_)) | (with_reducible refine Xb.caseB hc (fun h => ?_) (fun h => ?_))) <;> clear hc))
        all_goals try (exfalso; contradiction)
        refine ret_two (by first | exact .inr rfl | exact .inl rfl) Try.results34 rfl rfl (H' := H) (by (repeat (first | exact List.Sublist.refl _ | apply List.Sublist.cons)); done) ?_; simp only [and_true, true_and]
    · rw [if_neg h1, if_neg h1]
      refine Fc.mk (callable Try.call34) Try.func34 rfl Try.ntmps34 rfl ?_; dsimp only [fr]
      repeat' (first | (refine XO.op rfl ?_; (first | ((first | refine Xo.ng rfl ?_); (first | (refine Xg.call (EnF.st rfl (Args.cons rfl (Args.cons rfl Args.nil))) rfl rfl (hch _ (hT1 [_, _, _]) (hD1 [_, _, _])) ?_; rintro _ H9 ⟨rfl, hH9⟩; subst H9) | (refine Xg.call (EnF.st rfl (Args.cons rfl Args.nil)) rfl rfl (hcs _) ?_; rintro _ H9 ⟨rfl, hH9⟩; subst H9) | (refine Xg.ev (EvF.move rfl rfl) rfl rfl ?_) | (refine Xg.ev (EvF.assign rfl rfl) rfl rfl ?_) | (refine Xg.ev (EvF.cmp rfl rfl rfl rfl) rfl rfl ?_) | (refine Xg.ev (EvF.loadV rfl rfl (LoadV.whole (te rfl) rfl (List.Mem.tail _ (List.Mem.head _)) rfl)) rfl rfl ?_) | (refine Xg.ev (EvF.loadV rfl rfl (LoadV.whole (te rfl) rfl (List.Mem.tail _ (List.Mem.tail _ (List.Mem.head _))) rfl)) rfl rfl ?_) | (refine Xg.ev (EvF.loadV rfl rfl (LoadV.whole (te rfl) rfl (List.Mem.tail _ (List.Mem.tail _ (List.Mem.tail _ (List.Mem.head _)))) rfl)) rfl rfl ?_) | (refine Xg.ev (EvF.extract rfl rfl rfl) rfl rfl ?_) | (refine Xg.st (StF.boxAgg rfl rfl) rfl rfl ?_; rintro _ _ ⟨bx, rfl, rfl⟩) | (refine Xg.st (StF.alloc rfl Try.zeroValue26 rfl) rfl rfl ?_; rintro _ _ ⟨bx, rfl, rfl⟩) | (refine Xg.st0 (StF.storeAll (i := 0) rfl rfl rfl (te rfl) rfl rfl rfl rfl) rfl ?_; rintro _ _ ⟨rfl, rfl⟩; dsimp only [List.set]))))) | (refine XO.done rfl ?_; refine hK _ _ ?_; clear hK K) | refine X.seq rfl ?_ | refine X.region rfl (fun K hK => ?_) | refine X.skip rfl ?_ | refine X.ret rfl ?_ | (refine X.ite rfl rfl (fun hc => ?_); (first | (with_reducible refine Xb.caseN hc (fun h => ?_) (fun h => ?_))) <;> clear hc))
      all_goals try (exfalso; contradiction)
      all_goals try (exfalso; exact h1 (by assumption))
      refine ret_two (by first | exact .inr rfl | exact .inl rfl) Try.results34 rfl rfl (H' := H) (by (repeat (first | exact List.Sublist.refl _ | apply List.Sublist.cons)); done) ?_; simp only [and_true, true_and]
  · rw [if_neg h0, if_neg h0] at hch
    rw [if_neg h0, if_neg h0]
    refine Fc.mk (callable Try.call34) Try.func34 rfl Try.ntmps34 rfl ?_; dsimp only [fr]
    repeat' (first | (refine XO.op rfl ?_; (first | ((first | refine Xo.ng rfl ?_); (first | (refine Xg.call (EnF.st rfl (Args.cons rfl (Args.cons rfl Args.nil))) rfl rfl (hch _ (hT1 [_, _, _]) (hD1 [_, _, _])) ?_; rintro _ H9 ⟨rfl, hH9⟩; subst H9) | (refine Xg.ev (EvF.move rfl rfl) rfl rfl ?_) | (refine Xg.ev (EvF.assign rfl rfl) rfl rfl ?_) | (refine Xg.ev (EvF.cmp rfl rfl rfl rfl) rfl rfl ?_) | (refine Xg.ev (EvF.loadV rfl rfl (LoadV.whole (te rfl) rfl (List.Mem.tail _ (List.Mem.head _)) rfl)) rfl rfl ?_) | (refine Xg.ev (EvF.loadV rfl rfl (LoadV.whole (te rfl) rfl (List.Mem.tail _ (List.Mem.tail _ (List.Mem.head _))) rfl)) rfl rfl ?_) | (refine Xg.ev (EvF.extract rfl rfl rfl) rfl rfl ?_) | (refine Xg.st (StF.boxAgg rfl rfl) rfl rfl ?_; rintro _ _ ⟨bx, rfl, rfl⟩) | (refine Xg.st (StF.alloc rfl Try.zeroValue26 rfl) rfl rfl ?_; rintro _ _ ⟨bx, rfl, rfl⟩) | (refine Xg.st0 (StF.storeAll (i := 0) rfl rfl rfl (te rfl) rfl rfl rfl rfl) rfl ?_; rintro _ _ ⟨rfl, rfl⟩; dsimp only [List.set]))))) | (refine XO.done rfl ?_; refine hK _ _ ?_; clear hK K) | refine X.seq rfl ?_ | refine X.region rfl (fun K hK => ?_) | refine X.skip rfl ?_ | refine X.ret rfl ?_ | (refine X.ite rfl rfl (fun hc => ?_); (first | (with_reducible refine Xb.caseN hc (fun h => ?_) (fun h => ?_))) <;> clear hc))
    all_goals try (exfalso; exact h0 (by assumption))
    refine ret_two (by first | exact .inr rfl | exact .inl rfl) Try.results34 rfl rfl (H' := H) (by (repeat (first | exact List.Sublist.refl _ | apply List.Sublist.cons)); done) ?_; simp only [and_true, true_and]
theorem greatD_spec (d : Dy) (H : List Row) : Fc Try.prog 29 [.agg (cDy d).toArray] H (fun v H' => v = .bool (decide (d.G.length > 30 ∨ d.S.length > 30)) ∧ H' = H) := by
  refine Fc.mk (callable Try.call29) Try.func29 rfl Try.ntmps29 rfl ?_; dsimp only [fr]
  repeat' (first | (refine XO.op rfl ?_; (first | ((first | refine Xo.ng rfl ?_ | (refine Xo.g rfl rfl ?_; with_reducible refine Xw.ff ?_)); (first | (refine Xg.ev (EvF.move rfl rfl) rfl rfl ?_) | (refine Xg.ev (EvF.assign rfl rfl) rfl rfl ?_) | (refine Xg.ev (EvF.pickT rfl rfl rfl) rfl rfl ?_) | (refine Xg.ev (EvF.pickF rfl rfl rfl) rfl rfl ?_) | (refine Xg.ev (EvF.cmp rfl rfl rfl rfl) rfl rfl ?_) | (refine Xg.ev (EvF.fieldAddr rfl rfl (te rfl) rfl (te rfl) (by decide)) rfl rfl ?_) | (refine Xg.ev (EvF.lenSlice rfl rfl (te rfl)) rfl rfl ?_) | (refine Xg.ev (EvF.loadV rfl rfl (LoadV.own (te rfl) rfl (List.Mem.head _) rfl)) rfl rfl ?_) | (refine Xg.ev (EvF.loadV rfl rfl (LoadV.whole (te rfl) rfl (List.Mem.tail _ (List.Mem.tail _ (List.Mem.head _))) rfl)) rfl rfl ?_) | (refine Xg.st (StF.boxAgg rfl rfl) rfl rfl ?_; rintro _ _ ⟨bx, rfl, rfl⟩) | (refine Xg.st0 (StF.storeAll (i := 3) rfl rfl rfl (te rfl) rfl rfl rfl rfl) rfl ?_; rintro _ _ ⟨rfl, rfl⟩; dsimp only [List.set]))) | (refine Xo.g rfl rfl ?_; (first | (with_reducible refine Xw.tf rfl rfl ?_) | (with_reducible refine Xw.case (fun h => ?_) (fun h => ?_) <;> simp only [h, decide_true, decide_false, Bool.not_true, Bool.not_false, and_self, and_true, true_and, and_false, false_and]))))) | (refine XO.done rfl ?_; refine hK _ _ ?_; clear hK K) | refine X.seq rfl ?_ | refine X.region rfl (fun K hK => ?_) | refine X.ret rfl ?_)
  all_goals (refine ret_one (by first | exact .inr rfl | exact .inl rfl) Try.results29 rfl (H' := H) (by (repeat (first | exact List.Sublist.refl _ | apply List.Sublist.cons)); done) ?_; simp only [and_true, true_and])
  all_goals (congr 1; first | exact decide_eq_decide.2 (by omega) | (symm; exact decide_eq_true (by omega)) | (symm; exact decide_eq_false (by omega)))
def dyP (d : Dy) (t1 k1 t2 k2 : Nat) : Dy := { d with a1 := some ⟨t1, 0, none⟩, c1 := k1, a2 := some ⟨t2, 0, none⟩, c2 := k2 }
def dyQ (d : Dy) (t1 k1 : Nat) : Dy := { d with a1 := some ⟨t1, 0, none⟩, c1 := k1 }
def tsTd : List TOp := [⟨some 3, [], [], []⟩, ⟨some 4, [], [], []⟩, ⟨some 5, [1], [1], []⟩, ⟨some 6, [0, 1, 2], [0, 2], [0]⟩, ⟨some 7, [], [], []⟩, ⟨some 8, [], [], []⟩, ⟨some 9, [5], [5], []⟩, ⟨some 10, [0, 1, 2, 3, 4, 5, 6], [4, 6], [4]⟩, ⟨some 11, [0, 1, 2, 3, 5, 6], [], []⟩, ⟨none, [0, 1, 2, 3, 4, 5, 6, 7, 8], [8, 3], [12]⟩, ⟨some 12, [0, 1, 2, 3, 4, 5, 6, 7, 8, 9], [], []⟩, ⟨none, [0, 1, 2, 3, 4, 5, 6, 7, 8, 9, 10], [10, 7], [9]⟩, ⟨none, [], [], []⟩]
def valTd (b1 b2 : Nat) (d : Dy) (k : Nat) (env : Env) : Value :=
  match k with
  | 0 => .slice (some ⟨(env 0).1, 0, none⟩) 0 0
  | 1 => .pointer (some ⟨b1, 1, none⟩)
  | 2 => .slice d.a1 d.G.length d.c1
  | 3 => .slice (some ⟨(env 3).1, 0, none⟩) d.G.length (env 3).2
  | 4 => .slice (some ⟨(env 4).1, 0, none⟩) 0 0
  | 5 => .pointer (some ⟨b1, 2, none⟩)
  | 6 => .slice d.a2 d.S.length d.c2
  | 7 => .slice (some ⟨(env 7).1, 0, none⟩) d.S.length (env 7).2
  | 8 => .pointer (some ⟨b1, 1, none⟩)
  | 9 => undef
  | 10 => .pointer (some ⟨b1, 2, none⟩)
  | 11 => undef
  | _ => undef
def rowsTd (b1 b2 : Nat) (d : Dy) (k : Nat) (env : Env) : List Row :=
  match k with
  | 0 => [⟨(env 0).1, 0, [], some 3, 0 * 1⟩]
  | 3 => [rI d.G (env 3).1 (env 3).2]
  | 4 => [⟨(env 4).1, 0, [], some 3, 0 * 1⟩]
  | 7 => [rI d.S (env 7).1 (env 7).2]
  | 9 => [⟨b1, 0, cDy (dyQ d (env 3).1 (env 3).2), some 65, 3⟩]
  | 11 => [⟨b1, 0, cDy (dyP d (env 3).1 (env 3).2 (env 7).1 (env 7).2), some 65, 3⟩]
  | 12 => [⟨b1, 0, cDy d, some 65, 3⟩]
  | _ => []
theorem locTd (b1 b2 : Nat) (d : Dy) : ∀ k env i q9, i ≠ k → (tAt tsTd k).sup.contains i = false → valTd b1 b2 d k (upd env i q9) = valTd b1 b2 d k env ∧ rowsTd b1 b2 d k (upd env i q9) = rowsTd b1 b2 d k env := by
  intro k env i q hk hs
  have hu : ∀ j, j ≠ i → upd env i q j = env j := fun j hj => by unfold upd; rw [if_neg hj]
  match k, hk, hs with
  | 0, hk, hs => exact ⟨by simp only [valTd, hu 0 (fun e => hk e.symm)], by simp only [rowsTd, hu 0 (fun e => hk e.symm)]⟩
  | 1, _, _ => exact ⟨rfl, rfl⟩
  | 2, _, _ => exact ⟨rfl, rfl⟩
  | 3, hk, hs => exact ⟨by simp only [valTd, hu 3 (fun e => hk e.symm)], by simp only [rowsTd, hu 3 (fun e => hk e.symm)]⟩
  | 4, hk, hs => exact ⟨by simp only [valTd, hu 4 (fun e => hk e.symm)], by simp only [rowsTd, hu 4 (fun e => hk e.symm)]⟩
  | 5, _, _ => exact ⟨rfl, rfl⟩
  | 6, _, _ => exact ⟨rfl, rfl⟩
  | 7, hk, hs => exact ⟨by simp only [valTd, hu 7 (fun e => hk e.symm)], by simp only [rowsTd, hu 7 (fun e => hk e.symm)]⟩
  | 8, _, _ => exact ⟨rfl, rfl⟩
  | 9, hk, hs => exact ⟨by simp only [valTd, hu 3 (by rintro rfl; cases hs)], by simp only [rowsTd, hu 3 (by rintro rfl; cases hs)]⟩
  | 10, _, _ => exact ⟨rfl, rfl⟩
  | 11, hk, hs => exact ⟨by simp only [valTd, hu 3 (by rintro rfl; cases hs), hu 7 (by rintro rfl; cases hs)], by simp only [rowsTd, hu 3 (by rintro rfl; cases hs), hu 7 (by rintro rfl; cases hs)]⟩
  | 12, _, _ => exact ⟨rfl, rfl⟩
  | _ + 13, _, _ => exact ⟨rfl, rfl⟩
def rdTd (k : Nat) : List Nat := match k with
  | 2 => [12]
  | 6 => [12]
  | _ => []
set_option maxHeartbeats 4000000 in
theorem twinD_spec (d : Dy) (H : List Row) (hD : DyOk H d) : Fc Try.prog 30 [.agg (cDy d).toArray] H (fun v H' => ∃ t1 k1 t2 k2, v = .agg (cDy (dyP d t1 k1 t2 k2)).toArray ∧ H' = rI d.G t1 k1 :: rI d.S t2 k2 :: H) := by
  have l1 := hD.l1
  have l2 := hD.l2
  refine Fc.mk (callable Try.call30) Try.func30 rfl Try.ntmps30 rfl ?_; dsimp only [fr]
  refine X.seq rfl ?_; refine X.region rfl (fun K hK => ?_); repeat' (first | (refine XO.op rfl ?_; (first | ((first | refine Xo.ng rfl ?_); (first | (refine Xg.st (StF.boxAgg rfl rfl) rfl rfl ?_; rintro _ _ ⟨bx, rfl, rfl⟩) | (refine Xg.st (StF.alloc rfl Try.zeroValue65 rfl) rfl rfl ?_; rintro _ _ ⟨bx, rfl, rfl⟩))))) | (refine XO.done rfl ?_; refine hK _ _ ?_; clear hK K))
  rename_i b1; rename Nat => b2
  refine X.seq rfl ?_
  refine X.permH (H' := ⟨b1, 0, cDy d, some 65, 3⟩ :: ⟨b2, 0, [.int .i64 0, .slice none 0 0, .slice none 0 0], some 65, 3⟩ :: H) (List.Perm.swap _ _ _) ?_
  refine X.regionRd tsTd rdTd [1, 2] [(1, .pointer (some ⟨b1, 0, none⟩)), (2, .pointer (some ⟨b2, 0, none⟩))] (valTd b1 b2 d) (rowsTd b1 b2 d) (fun _ => (0, 0)) (⟨b2, 0, [.int .i64 0, .slice none 0 0, .slice none 0 0], some 65, 3⟩ :: H) rfl mixed (by (repeat (first | exact Sub.nil _ | refine Sub.cons rfl ?_)); done) rfl (by kernel_rfl) (by kernel_rfl) (locTd b1 b2 d) (List.Sublist.refl _) ?_ ?_
  · have hs : ∀ (S Z : List Row), (∀ r ∈ ⟨b2, 0, [.int .i64 0, .slice none 0 0, .slice none 0 0], some 65, 3⟩ :: H, r ∈ S) → DyOk (Z ++ S) d := fun S Z hS => hD.sub (fun r hr => List.mem_append_right _ (hS r (List.mem_cons_of_mem _ hr)))
    repeat' (first | exact AllF.done rfl | (refine AllF.step rfl ?_ ?_; · (first | exact (Ob.ng rfl (ObK.pure (fun env R hR => by exact ⟨_, EvF.fieldAddr rfl rfl (te rfl) rfl (te rfl) (by decide), rfl⟩) rfl (fun _ => rfl))).toR | (refine ObR.ng rfl ?_; (first | (exact fun env S hS hrd => (StF.buildNil rfl elI).op.mono (fun v H' ⟨b, hv, hH⟩ => ⟨(b, 0), fun _ => hv, by rw [hH]; exact List.Perm.refl _⟩)) | (exact fun env S hS hrd => (StF.ofEv (EvF.loadV rfl rfl (LoadV.own (te rfl) rfl (hrd 12 (List.Mem.head _) _ (List.Mem.head _)) rfl))).op.mono (fun v H' ⟨hv, hH⟩ => ⟨(0, 0), fun _ => hv, by rw [hH]; exact List.Perm.refl _⟩)) | (exact fun env S hS hrd => (StF.appendSl (i := 0) rfl elI rfl rfl rfl (hs S [_] hS).gr (fun e _ => one_i e) rfl (by decide) (by omega)).op.mono (fun v H' ⟨b, c, hv, hH⟩ => ⟨(b, c), fun _ => by rw [hv, Nat.zero_add]; rfl, by rw [hH]; exact List.Perm.refl _⟩)) | (exact fun env S hS hrd => (StF.appendSl (i := 0) rfl elI rfl rfl rfl (hs S [_] hS).st (fun e _ => one_i e) rfl (by decide) (by omega)).op.mono (fun v H' ⟨b, c, hv, hH⟩ => ⟨(b, c), fun _ => by rw [hv, Nat.zero_add]; rfl, by rw [hH]; exact List.Perm.refl _⟩)) | (exact fun env S hS hrd => (StF.storeOne (i := 0) (cs := cDy d) rfl rfl rfl rfl (te rfl) rfl rfl (Nat.le_of_ble_eq_true rfl)).op.mono (fun v H' ⟨hv, hH⟩ => ⟨(0, 0), fun h => absurd rfl h, by rw [hH]; exact List.Perm.refl _⟩)) | (exact fun env S hS hrd => (StF.storeOne (i := 0) (cs := cDy (dyQ d (env 3).1 (env 3).2)) rfl rfl rfl rfl (te rfl) rfl rfl (Nat.le_of_ble_eq_true rfl)).op.mono (fun v H' ⟨hv, hH⟩ => ⟨(0, 0), fun h => absurd rfl h, by rw [hH]; exact List.Perm.refl _⟩)))))))
  · intro env t ha hv
    refine ⟨_, ha, ?_⟩
    show X _ _ _ _ (rI d.G (env 3).1 (env 3).2 :: rI d.S (env 7).1 (env 7).2 :: ⟨b1, 0, cDy (dyP d (env 3).1 (env 3).2 (env 7).1 (env 7).2), some 65, 3⟩ :: ⟨b2, 0, [.int .i64 0, .slice none 0 0, .slice none 0 0], some 65, 3⟩ :: H) _
    repeat' (first | (refine XO.op rfl ?_; (first | ((first | refine Xo.ng rfl ?_ | (refine Xo.g rfl rfl ?_; with_reducible refine Xw.ff ?_)); (first | (refine Xg.ev (EvF.move rfl rfl) rfl rfl ?_) | (refine Xg.ev (EvF.assign rfl rfl) rfl rfl ?_) | (refine Xg.ev (EvF.pickT rfl rfl rfl) rfl rfl ?_) | (refine Xg.ev (EvF.pickF rfl rfl rfl) rfl rfl ?_) | (refine Xg.ev (EvF.cmp rfl rfl rfl rfl) rfl rfl ?_) | (refine Xg.ev (EvF.fieldAddr rfl rfl (te rfl) rfl (te rfl) (by decide)) rfl rfl ?_) | (refine Xg.ev (EvF.lenSlice rfl rfl (te rfl)) rfl rfl ?_) | (refine Xg.ev (EvF.loadV rfl rfl (LoadV.own (te rfl) rfl (List.Mem.head _) rfl)) rfl rfl ?_) | (refine Xg.ev (EvF.loadV rfl rfl (LoadV.whole (te rfl) rfl (List.Mem.tail _ (List.Mem.tail _ (List.Mem.head _))) rfl)) rfl rfl ?_) | (refine Xg.st (StF.boxAgg rfl rfl) rfl rfl ?_; rintro _ _ ⟨bx, rfl, rfl⟩) | (refine Xg.st0 (StF.storeAll (i := 3) rfl rfl rfl (te rfl) rfl rfl rfl rfl) rfl ?_; rintro _ _ ⟨rfl, rfl⟩; dsimp only [List.set]))) | (refine Xo.g rfl rfl ?_; (first | (with_reducible refine Xw.tf rfl rfl ?_) | (with_reducible refine Xw.case (fun h => ?_) (fun h => ?_) <;> simp only [h, decide_true, decide_false, Bool.not_true, Bool.not_false, and_self, and_true, true_and, and_false, false_and]))))) | (refine XO.done rfl ?_; refine hK _ _ ?_; clear hK K) | refine X.seq rfl ?_ | refine X.region rfl (fun K hK => ?_) | refine X.ret rfl ?_)
    exact ret_one (v := .agg (cDy (dyP d (env 3).1 (env 3).2 (env 7).1 (env 7).2)).toArray) (by first | exact .inr rfl | exact .inl rfl) Try.results30 ⟨_, rfl, LoadV.whole (te rfl) rfl (List.Mem.tail _ (List.Mem.tail _ (List.Mem.tail _ (List.Mem.head _)))) rfl⟩ (H' := rI d.G (env 3).1 (env 3).2 :: rI d.S (env 7).1 (env 7).2 :: H) (by (repeat (first | exact List.Sublist.refl _ | apply List.Sublist.cons_cons | apply List.Sublist.cons)); done) ⟨_, _, _, _, rfl, rfl⟩
theorem sameD_spec (d : Dy) (t1 k1 t2 k2 : Nat) (H : List Row) (hO : DyOk H (dyP d t1 k1 t2 k2)) (hD : DyOk H d) : Fc Try.prog 35 [.agg (cDy (dyP d t1 k1 t2 k2)).toArray, .agg (cDy d).toArray] H (fun v H' => v = .bool true ∧ H' = H) := by
  have hO1 : ∀ Z : List Row, DyOk (Z ++ H) (dyP d t1 k1 t2 k2) := fun Z => hO.sub (fun _ h => List.mem_append_right _ h)
  have hD1 : ∀ Z : List Row, DyOk (Z ++ H) d := fun Z => hD.sub (fun _ h => List.mem_append_right _ h)
  show Fc Try.prog 35 [.agg ([.int .i64 d.price, .slice (some ⟨t1, 0, none⟩) d.G.length k1, .slice (some ⟨t2, 0, none⟩) d.S.length k2] : List Value).toArray, .agg (cDy d).toArray] H _
  refine Fc.mk (callable Try.call35) Try.func35 rfl Try.ntmps35 rfl ?_; dsimp only [fr]
  repeat' (first | (refine XO.op rfl ?_; (first | ((first | refine Xo.ng rfl ?_ | (refine Xo.g rfl rfl ?_; with_reducible refine Xw.tt ?_)); (first | (refine Xg.ev (EvF.eqSelf rfl rfl rfl) rfl rfl ?_) | (refine Xg.call (EnF.st rfl (Args.cons rfl (Args.cons rfl Args.nil))) rfl rfl (sameI_self d.G (some ⟨t1, 0, none⟩) d.a1 k1 d.c1 _ (hO1 [_, _]).gr (hD1 [_, _]).gr hD.l1) ?_; rintro _ H9 ⟨rfl, hH9⟩; subst H9) | (refine Xg.call (EnF.st rfl (Args.cons rfl (Args.cons rfl Args.nil))) rfl rfl (sameI_self d.S (some ⟨t2, 0, none⟩) d.a2 k2 d.c2 _ (hO1 [_, _]).st (hD1 [_, _]).st hD.l2) ?_; rintro _ H9 ⟨rfl, hH9⟩; subst H9) | (refine Xg.ev (EvF.move rfl rfl) rfl rfl ?_) | (refine Xg.ev (EvF.assign rfl rfl) rfl rfl ?_) | (refine Xg.ev (EvF.pickT rfl rfl rfl) rfl rfl ?_) | (refine Xg.ev (EvF.fieldAddr rfl rfl (te rfl) rfl (te rfl) (by decide)) rfl rfl ?_) | (refine Xg.ev (EvF.loadV rfl rfl (LoadV.own (te rfl) rfl (List.Mem.head _) rfl)) rfl rfl ?_) | (refine Xg.ev (EvF.loadV rfl rfl (LoadV.own (te rfl) rfl (List.Mem.tail _ (List.Mem.head _)) rfl)) rfl rfl ?_) | (refine Xg.st (StF.boxAgg rfl rfl) rfl rfl ?_; rintro _ _ ⟨bx, rfl, rfl⟩))))) | (refine XO.done rfl ?_; refine hK _ _ ?_; clear hK K) | refine X.seq rfl ?_ | refine X.region rfl (fun K hK => ?_) | refine X.ret rfl ?_)
  refine ret_one (by first | exact .inr rfl | exact .inl rfl) Try.results35 rfl (H' := H) (by (repeat (first | exact List.Sublist.refl _ | apply List.Sublist.cons)); done) ?_; simp only [and_true, true_and]
end Go.Proofs.Ytcjlegjchllgjaa
end
section
set_option linter.unusedVariables false
set_option linter.unusedSimpArgs false
namespace Go.Proofs.Ytcjlegjchllgjaa
open Go Go.Fw
set_option maxRecDepth 10000
/-- terms whose tables are short -/
def smT (T : Tm) : Prop := T.G.length ≤ 1000 ∧ T.S.length ≤ 1000
theorem OwnTm.okS {Z H : List Row} {T : Tm} {p : Pt} (h : OwnTm Z T p) (hs : smT T) (hz : ∀ r ∈ Z, r ∈ H) : TmOk H T p :=
  (h.ok (by have := hs.1; omega) (by have := hs.2; omega)).sub hz
end Go.Proofs.Ytcjlegjchllgjaa
end
section
set_option linter.unusedVariables false
set_option linter.unusedSimpArgs false
namespace Go.Proofs.Ytcjlegjchllgjaa
open Go Go.Fw
set_option maxRecDepth 10000
def cD0 : List Value := [.int .i64 0, .slice none 0 0, .slice none 0 0]
noncomputable def dp4 (d : Dy) (q : Nat × Nat) : Dy := dyP d (un2 q.1).1 (un2 q.1).2 (un2 q.2).1 (un2 q.2).2
noncomputable def dr4 (d : Dy) (q : Nat × Nat) : List Row := [rI d.G (un2 q.1).1 (un2 q.1).2, rI d.S (un2 q.2).1 (un2 q.2).2]
theorem dp4_enc (d : Dy) (t1 k1 t2 k2 : Nat) : dp4 d (pr2 (t1, k1), pr2 (t2, k2)) = dyP d t1 k1 t2 k2 := by unfold dp4; simp only [un2_pr2]
theorem dr4_enc (d : Dy) (t1 k1 t2 k2 : Nat) : dr4 d (pr2 (t1, k1), pr2 (t2, k2)) = [rI d.G t1 k1, rI d.S t2 k2] := by unfold dr4; simp only [un2_pr2]
theorem dr4_ok (d : Dy) (q : Nat × Nat) (H : List Row) (h1 : d.G.length ≤ 1000000) (h2 : d.S.length ≤ 1000000) (hz : ∀ r ∈ dr4 d q, r ∈ H) : DyOk H (dp4 d q) :=
  ⟨SlE.ofRow (hz _ (List.Mem.head _)) (fun _ _ => rfl), SlE.ofRow (hz _ (List.Mem.tail _ (List.Mem.head _))) (fun _ _ => rfl), h1, h2⟩
theorem greatDT (d : Dy) (h : d.G.length > 30 ∨ d.S.length > 30) (H : List Row) : Fc Try.prog 29 [.agg (cDy d).toArray] H (fun v H' => v = .bool true ∧ H' = H) := by
  have := greatD_spec d H
  rwa [decide_eq_true h] at this
theorem greatDF (d : Dy) (h : ¬ (d.G.length > 30 ∨ d.S.length > 30)) (H : List Row) : Fc Try.prog 29 [.agg (cDy d).toArray] H (fun v H' => v = .bool false ∧ H' = H) := by
  have := greatD_spec d H
  rwa [decide_eq_false h] at this
def tsLc : List TOp := [⟨some 25, [], [], []⟩, ⟨some 26, [0], [0], []⟩, ⟨some 27, [], [], []⟩, ⟨some 28, [0, 1, 2], [2], []⟩, ⟨some 7, [], [], []⟩, ⟨some 8, [], [], []⟩, ⟨none, [0, 1, 2, 3, 4, 5], [4, 1], [4]⟩, ⟨none, [0, 1, 2, 3, 4, 5, 6], [5, 3], [5]⟩]
noncomputable def valLc (b3 b4 b5 : Nat) (T : Tm) (p : Pt) (d : Dy) (k : Nat) (env : Env) : Value :=
  match k with
  | 0 => .agg (cTm T p).toArray
  | 1 => .agg (cTm T (pl4 (env 1))).toArray
  | 2 => .agg (cDy d).toArray
  | 3 => .agg (cDy (dp4 d (env 3))).toArray
  | 4 => .pointer (some ⟨(env 4).1, 0, none⟩)
  | 5 => .pointer (some ⟨(env 5).1, 0, none⟩)
  | 6 => undef
  | 7 => undef
  | _ => undef
noncomputable def rowsLc (b3 b4 b5 : Nat) (T : Tm) (p : Pt) (d : Dy) (k : Nat) (env : Env) : List Row :=
  match k with
  | 1 => [rI T.G (un2 (env 1).1).1 (un2 (env 1).1).2, rI T.S (un2 (env 1).2).1 (un2 (env 1).2).2]
  | 3 => [rI d.G (un2 (env 3).1).1 (un2 (env 3).1).2, rI d.S (un2 (env 3).2).1 (un2 (env 3).2).2]
  | 4 => [⟨(env 4).1, 0, cTm Tz pz, some 28, 11⟩]
  | 5 => [⟨(env 5).1, 0, cD0, some 65, 3⟩]
  | 6 => [⟨(env 4).1, 0, cTm T (pl4 (env 1)), some 28, 11⟩]
  | 7 => [⟨(env 5).1, 0, cDy (dp4 d (env 3)), some 65, 3⟩]
  | _ => []
theorem locLc (b3 b4 b5 : Nat) (T : Tm) (p : Pt) (d : Dy) : ∀ k env i q9, i ≠ k → (tAt tsLc k).sup.contains i = false → valLc b3 b4 b5 T p d k (upd env i q9) = valLc b3 b4 b5 T p d k env ∧ rowsLc b3 b4 b5 T p d k (upd env i q9) = rowsLc b3 b4 b5 T p d k env := by
  intro k env i q hk hs
  have hu : ∀ j, j ≠ i → upd env i q j = env j := fun j hj => by unfold upd; rw [if_neg hj]
  match k, hk, hs with
  | 0, _, _ => exact ⟨rfl, rfl⟩
  | 1, hk, hs => exact ⟨by simp only [valLc, hu 1 (fun e => hk e.symm)], by simp only [rowsLc, hu 1 (fun e => hk e.symm)]⟩
  | 2, _, _ => exact ⟨rfl, rfl⟩
  | 3, hk, hs => exact ⟨by simp only [valLc, hu 3 (fun e => hk e.symm)], by simp only [rowsLc, hu 3 (fun e => hk e.symm)]⟩
  | 4, hk, hs => exact ⟨by simp only [valLc, hu 4 (fun e => hk e.symm)], by simp only [rowsLc, hu 4 (fun e => hk e.symm)]⟩
  | 5, hk, hs => exact ⟨by simp only [valLc, hu 5 (fun e => hk e.symm)], by simp only [rowsLc, hu 5 (fun e => hk e.symm)]⟩
  | 6, hk, hs => exact ⟨by simp only [valLc, hu 1 (by rintro rfl; cases hs), hu 4 (by rintro rfl; cases hs)], by simp only [rowsLc, hu 1 (by rintro rfl; cases hs), hu 4 (by rintro rfl; cases hs)]⟩
  | 7, hk, hs => exact ⟨by simp only [valLc, hu 3 (by rintro rfl; cases hs), hu 5 (by rintro rfl; cases hs)], by simp only [rowsLc, hu 3 (by rintro rfl; cases hs), hu 5 (by rintro rfl; cases hs)]⟩
  | _ + 8, _, _ => exact ⟨rfl, rfl⟩
set_option maxHeartbeats 16000000 in
theorem termsCosts_spec (T : Tm) (p : Pt) (d : Dy) (c : Cl) (H : List Row) (hg : SlE H p.a1 cI 1 T.G) (hs : SlE H p.a2 cI 1 T.S) (hg' : SlE H d.a1 cI 1 d.G) (hs' : SlE H d.a2 cI 1 d.S) :
    Fc Try.prog 6 [.agg (cTm T p).toArray, .agg (cDy d).toArray, .agg (cCl c).toArray] H (fun v _ => v = .bool true) := by
  by_cases hgr : (T.G.length > 30 ∨ T.S.length > 30)
  · have hG := greatT T p hgr
    refine Fc.mk (callable Try.call6) Try.func6 rfl Try.ntmps6 rfl ?_; dsimp only [fr]
    repeat' (first | (refine XO.op rfl ?_; (first | ((first | refine Xo.ng rfl ?_); (first | (refine Xg.call (EnF.st rfl (Args.cons rfl Args.nil)) rfl rfl (hG _) ?_; rintro _ H9 ⟨rfl, hH9⟩; subst H9) | (refine Xg.ev (EvF.move rfl rfl) rfl rfl ?_) | (refine Xg.ev (EvF.assign rfl rfl) rfl rfl ?_) | (refine Xg.ev (EvF.pickT rfl rfl rfl) rfl rfl ?_) | (refine Xg.ev (EvF.loadV rfl rfl (LoadV.whole (te rfl) rfl (List.Mem.tail _ (List.Mem.tail _ (List.Mem.head _))) rfl)) rfl rfl ?_) | (refine Xg.st (StF.boxAgg rfl rfl) rfl rfl ?_; rintro _ _ ⟨bx, rfl, rfl⟩))) | (refine Xo.g rfl rfl ?_; (first | (with_reducible refine Xw.tf rfl rfl ?_))))) | (refine XO.done rfl ?_; refine hK _ _ ?_; clear hK K) | refine X.seq rfl ?_ | refine X.region rfl (fun K hK => ?_) | refine X.ret rfl ?_ | (refine X.ite rfl rfl (fun hc => ?_); (first | (with_reducible refine Xb.t hc ?_)) <;> clear hc))
    all_goals try (exfalso; contradiction)
    exact ret_one (by first | exact .inr rfl | exact .inl rfl) Try.results6 rfl (H' := _) (List.Sublist.refl _) rfl
  by_cases hgr2 : (d.G.length > 30 ∨ d.S.length > 30)
  · have hG := greatF T p hgr
    have hG2 := greatDT d hgr2
    refine Fc.mk (callable Try.call6) Try.func6 rfl Try.ntmps6 rfl ?_; dsimp only [fr]
    repeat' (first | (refine XO.op rfl ?_; (first | ((first | refine Xo.ng rfl ?_ | (refine Xo.g rfl rfl ?_; with_reducible refine Xw.ff ?_)); (first | (refine Xg.call (EnF.st rfl (Args.cons rfl Args.nil)) rfl rfl (hG _) ?_; rintro _ H9 ⟨rfl, hH9⟩; subst H9) | (refine Xg.call (EnF.st rfl (Args.cons rfl Args.nil)) rfl rfl (hG2 _) ?_; rintro _ H9 ⟨rfl, hH9⟩; subst H9) | (refine Xg.ev (EvF.move rfl rfl) rfl rfl ?_) | (refine Xg.ev (EvF.assign rfl rfl) rfl rfl ?_) | (refine Xg.ev (EvF.pickF rfl rfl rfl) rfl rfl ?_) | (refine Xg.ev (EvF.loadV rfl rfl (LoadV.whole (te rfl) rfl (List.Mem.tail _ (List.Mem.head _)) rfl)) rfl rfl ?_) | (refine Xg.ev (EvF.loadV rfl rfl (LoadV.whole (te rfl) rfl (List.Mem.tail _ (List.Mem.tail _ (List.Mem.head _))) rfl)) rfl rfl ?_) | (refine Xg.st (StF.boxAgg rfl rfl) rfl rfl ?_; rintro _ _ ⟨bx, rfl, rfl⟩))))) | (refine XO.done rfl ?_; refine hK _ _ ?_; clear hK K) | refine X.seq rfl ?_ | refine X.region rfl (fun K hK => ?_) | refine X.ret rfl ?_ | (refine X.ite rfl rfl (fun hc => ?_); (first | (with_reducible refine Xb.t hc ?_)) <;> clear hc))
    all_goals try (exfalso; contradiction)
    exact ret_one (by first | exact .inr rfl | exact .inl rfl) Try.results6 rfl (H' := _) (List.Sublist.refl _) rfl
  have hG := greatF T p hgr
  have hG2 := greatDF d hgr2
  have hT : TmOk H T p := ⟨hg, hs, by omega, by omega⟩
  have hD : DyOk H d := ⟨hg', hs', by omega, by omega⟩
  have sT : smT T := ⟨by omega, by omega⟩
  have kc := fun p d H (h : TmOk H T p) (h' : DyOk H d) => kCheapest_spec T p d H h h'
  have rc := fun p H (h : TmOk H T p) (h' : DyOk H d) => rCheapest_spec T p d H h h'
  have kd := fun p d H (h : TmOk H T p) (h' : DyOk H d) => kDearer_spec T p d c H h h'
  have rd := fun p H (h : TmOk H T p) (h' : DyOk H d) => rDearer_spec T p d c H h h'
  refine Fc.mk (callable Try.call6) Try.func6 rfl Try.ntmps6 rfl ?_; dsimp only [fr]
  repeat' (first | (refine XO.op rfl ?_; (first | ((first | refine Xo.ng rfl ?_ | (refine Xo.g rfl rfl ?_; with_reducible refine Xw.ff ?_)); (first | (refine Xg.call (EnF.st rfl (Args.cons rfl Args.nil)) rfl rfl (hG _) ?_; rintro _ H9 ⟨rfl, hH9⟩; subst H9) | (refine Xg.call (EnF.st rfl (Args.cons rfl Args.nil)) rfl rfl (hG2 _) ?_; rintro _ H9 ⟨rfl, hH9⟩; subst H9) | (refine Xg.ev (EvF.move rfl rfl) rfl rfl ?_) | (refine Xg.ev (EvF.assign rfl rfl) rfl rfl ?_) | (refine Xg.ev (EvF.pickF rfl rfl rfl) rfl rfl ?_) | (refine Xg.ev (EvF.loadV rfl rfl (LoadV.whole (te rfl) rfl (List.Mem.tail _ (List.Mem.head _)) rfl)) rfl rfl ?_) | (refine Xg.ev (EvF.loadV rfl rfl (LoadV.whole (te rfl) rfl (List.Mem.tail _ (List.Mem.tail _ (List.Mem.head _))) rfl)) rfl rfl ?_) | (refine Xg.st (StF.boxAgg rfl rfl) rfl rfl ?_; rintro _ _ ⟨bx, rfl, rfl⟩))))) | (refine XO.done rfl ?_; refine hK _ _ ?_; clear hK K) | refine X.seq rfl ?_ | refine X.region rfl (fun K hK => ?_) | refine X.skip rfl ?_ | (refine X.ite rfl rfl (fun hc => ?_); (first | (with_reducible refine Xb.f hc ?_)) <;> clear hc))
  all_goals try (exfalso; contradiction)
  obtain ⟨b5, hb5⟩ : ∃ b, b = bx := ⟨_, rfl⟩
  rw [← hb5]
  clear hb5
  rename_i b3 b4
  refine X.weakR (H' := ⟨b5, 0, cCl c, some 23, 2⟩ :: ⟨b4, 0, cDy d, some 65, 3⟩ :: ⟨b3, 0, cTm T p, some 28, 11⟩ :: H) (by (repeat (first | exact List.Sublist.refl _ | apply List.Sublist.cons_cons | apply List.Sublist.cons)); done) ?_
  refine X.regionOb tsLc [3, 4, 5] [(3, .pointer (some ⟨b3, 0, none⟩)), (4, .pointer (some ⟨b4, 0, none⟩)), (5, .pointer (some ⟨b5, 0, none⟩))] (valLc b3 b4 b5 T p d) (rowsLc b3 b4 b5 T p d) (fun _ => (0, 0)) (⟨b5, 0, cCl c, some 23, 2⟩ :: ⟨b4, 0, cDy d, some 65, 3⟩ :: ⟨b3, 0, cTm T p, some 28, 11⟩ :: H) rfl mixed (by (repeat (first | exact Sub.nil _ | refine Sub.cons rfl ?_)); done) rfl (by kernel_rfl) (locLc b3 b4 b5 T p d) (List.Sublist.refl _) ?_ ?_
  · repeat' (first | exact AllF.done rfl | (refine AllF.step rfl ?_ ?_; · (first | fail | ((first | refine Ob.ng rfl ?_); (first | exact ObK.pure (fun env R hR => by exact ⟨_, EvF.loadV rfl rfl (LoadV.whole (te rfl) rfl (hR _ (List.Mem.tail _ (List.Mem.head _))) rfl), rfl⟩) rfl (fun _ => rfl) | exact ObK.pure (fun env R hR => by exact ⟨_, EvF.loadV rfl rfl (LoadV.whole (te rfl) rfl (hR _ (List.Mem.tail _ (List.Mem.tail _ (List.Mem.head _)))) rfl), rfl⟩) rfl (fun _ => rfl) | (exact fun env S hS => (OpF.call (EnF.st rfl (Args.cons rfl Args.nil)) (twin_spec T p _ (hT.sub (fun r hr => hS r (List.mem_append_right [_, _, _] hr))))).mono (fun v H' ⟨t1, k1, t2, k2, hv, hH⟩ => ⟨(pr2 (t1, k1), pr2 (t2, k2)), fun _ => by (show v = .agg (cTm T (pl4 (pr2 (t1, k1), pr2 (t2, k2)))).toArray; rw [pl4_enc]; exact hv), by (show List.Perm H' (ro4 T (pr2 (t1, k1), pr2 (t2, k2)) ++ _); rw [hH, ro4_enc]; exact List.Perm.refl _)⟩)) | (exact fun env S hS => (OpF.call (EnF.st rfl (Args.cons rfl Args.nil)) (twinD_spec d _ (hD.sub (fun r hr => hS r (List.mem_append_right [_, _, _] hr))))).mono (fun v H' ⟨t1, k1, t2, k2, hv, hH⟩ => ⟨(pr2 (t1, k1), pr2 (t2, k2)), fun _ => by (show v = .agg (cDy (dp4 d (pr2 (t1, k1), pr2 (t2, k2)))).toArray; rw [dp4_enc]; exact hv), by (show List.Perm H' (dr4 d (pr2 (t1, k1), pr2 (t2, k2)) ++ _); rw [hH, dr4_enc]; exact List.Perm.refl _)⟩)) | (exact fun env S hS => (StF.alloc rfl Try.zeroValue28 rfl).op.mono (fun v H' ⟨b, hv, hH⟩ => ⟨(b, 0), fun _ => hv, by rw [hH]; exact List.Perm.refl _⟩)) | (exact fun env S hS => (StF.alloc rfl Try.zeroValue65 rfl).op.mono (fun v H' ⟨b, hv, hH⟩ => ⟨(b, 0), fun _ => hv, by rw [hH]; exact List.Perm.refl _⟩)) | (exact fun env S hS => (StF.storeAll (i := 0) (vs := cTm T (pl4 (env 1))) (cs := cTm Tz pz) rfl rfl rfl (te rfl) rfl rfl rfl rfl).op.mono (fun v H' ⟨hv, hH⟩ => ⟨(0, 0), fun h => absurd rfl h, by rw [hH]; exact List.Perm.refl _⟩)) | (exact fun env S hS => (StF.storeAll (i := 0) (vs := cDy (dp4 d (env 3))) (cs := cD0) rfl rfl rfl (te rfl) rfl rfl rfl rfl).op.mono (fun v H' ⟨hv, hH⟩ => ⟨(0, 0), fun h => absurd rfl h, by rw [hH]; exact List.Perm.refl _⟩)))))))
  intro env t ha hv
  refine ⟨_, (ha.cons (hv 4 7 (Nat.le_of_ble_eq_true rfl) rfl)).cons (hv 5 8 (Nat.le_of_ble_eq_true rfl) rfl), ?_⟩
  clear hv ha
  show X _ _ _ ((8, .pointer (some ⟨(env 5).1, 0, none⟩)) :: (7, .pointer (some ⟨(env 4).1, 0, none⟩)) :: _) (ro4 T (env 1) ++ (dr4 d (env 3) ++ (⟨(env 4).1, 0, cTm T (pl4 (env 1)), some 28, 11⟩ :: ⟨(env 5).1, 0, cDy (dp4 d (env 3)), some 65, 3⟩ :: ⟨b5, 0, cCl c, some 23, 2⟩ :: ⟨b4, 0, cDy d, some 65, 3⟩ :: ⟨b3, 0, cTm T p, some 28, 11⟩ :: H))) _
  obtain ⟨b7, hb7⟩ : ∃ b, b = (env 4).1 := ⟨_, rfl⟩
  obtain ⟨b8, hb8⟩ : ∃ b, b = (env 5).1 := ⟨_, rfl⟩
  obtain ⟨qo, hqo⟩ : ∃ b, b = pl4 (env 1) := ⟨_, rfl⟩
  obtain ⟨t1, k1, t2, k2, hdp⟩ : ∃ t1 k1 t2 k2, dp4 d (env 3) = dyP d t1 k1 t2 k2 := ⟨_, _, _, _, rfl⟩
  obtain ⟨HX, hHX⟩ : ∃ HX, HX = ro4 T (env 1) ++ (dr4 d (env 3) ++ (⟨(env 4).1, 0, cTm T (pl4 (env 1)), some 28, 11⟩ :: ⟨(env 5).1, 0, cDy (dp4 d (env 3)), some 65, 3⟩ :: ⟨b5, 0, cCl c, some 23, 2⟩ :: ⟨b4, 0, cDy d, some 65, 3⟩ :: ⟨b3, 0, cTm T p, some 28, 11⟩ :: H)) := ⟨_, rfl⟩
  rw [← hHX]
  have m7 : ∀ Z : List Row, ⟨b7, 0, cTm T qo, some 28, 11⟩ ∈ Z ++ HX := fun Z => List.mem_append_right _ (by rw [hHX, hb7, hqo]; exact List.mem_append_right _ (List.mem_append_right _ (List.Mem.head _)))
  have m8 : ∀ Z : List Row, ⟨b8, 0, cDy (dyP d t1 k1 t2 k2), some 65, 3⟩ ∈ Z ++ HX := fun Z => List.mem_append_right _ (by rw [hHX, hb8, ← hdp]; exact List.mem_append_right _ (List.mem_append_right _ (List.Mem.tail _ (List.Mem.head _))))
  have m5 : ∀ Z : List Row, ⟨b5, 0, cCl c, some 23, 2⟩ ∈ Z ++ HX := fun Z => List.mem_append_right _ (by rw [hHX]; exact List.mem_append_right _ (List.mem_append_right _ (List.Mem.tail _ (List.Mem.tail _ (List.Mem.head _)))))
  have m4 : ∀ Z : List Row, ⟨b4, 0, cDy d, some 65, 3⟩ ∈ Z ++ HX := fun Z => List.mem_append_right _ (by rw [hHX]; exact List.mem_append_right _ (List.mem_append_right _ (List.Mem.tail _ (List.Mem.tail _ (List.Mem.tail _ (List.Mem.head _))))))
  have m3 : ∀ Z : List Row, ⟨b3, 0, cTm T p, some 28, 11⟩ ∈ Z ++ HX := fun Z => List.mem_append_right _ (by rw [hHX]; exact List.mem_append_right _ (List.mem_append_right _ (List.Mem.tail _ (List.Mem.tail _ (List.Mem.tail _ (List.Mem.tail _ (List.Mem.head _)))))))
  have hI : ∀ Z : List Row, TmOk (Z ++ HX) T p := fun Z => hT.sub (fun r hr => List.mem_append_right _ (by rw [hHX]; exact List.mem_append_right _ (List.mem_append_right _ (List.mem_append_right [_, _, _, _, _] hr))))
  have hJ : ∀ Z : List Row, DyOk (Z ++ HX) d := fun Z => hD.sub (fun r hr => List.mem_append_right _ (by rw [hHX]; exact List.mem_append_right _ (List.mem_append_right _ (List.mem_append_right [_, _, _, _, _] hr))))
  have hO : ∀ Z : List Row, TmOk (Z ++ HX) T qo := fun Z => by rw [hqo]; exact (ro4_own T (env 1)).okS sT (fun r hr => List.mem_append_right _ (by rw [hHX]; exact List.mem_append_left _ hr))
  have hP : ∀ Z : List Row, DyOk (Z ++ HX) (dyP d t1 k1 t2 k2) := fun Z => by rw [← hdp]; exact dr4_ok d (env 3) _ (by omega) (by omega) (fun r hr => List.mem_append_right _ (by rw [hHX]; exact List.mem_append_right _ (List.mem_append_left _ hr)))
  rw [← hb7, ← hb8]
  clear hHX hb7 hb8 hqo hdp hT hD hg hs hg' hs'
  have kc' := fun H h h' => kc qo (dyP d t1 k1 t2 k2) H h h'
  have kd' := fun H h h' => kd qo (dyP d t1 k1 t2 k2) H h h'
  rw [show chC T (dyP d t1 k1 t2 k2) = chC T d from rfl, show chN T (dyP d t1 k1 t2 k2) = chN T d from rfl, show dayE T (dyP d t1 k1 t2 k2) = dayE T d from rfl] at kc'
  rw [show deN T (dyP d t1 k1 t2 k2) c = deN T d c from rfl, show deaE T (dyP d t1 k1 t2 k2) c = deaE T d c from rfl] at kd'
  generalize chC T d = v1 at kc' rc
  generalize chN T d = v2 at kc' rc
  generalize dayE T d = v3 at kc' rc
  generalize deN T d c = v4 at kd' rd
  generalize deaE T d c = v5 at kd' rd
  clear kc kd
  repeat' (first | (refine XO.op rfl ?_; (first | ((first | refine Xo.ng rfl ?_); (first | (refine Xg.ev (EvF.loadV rfl rfl (LoadV.whole (te rfl) rfl (m7 []) rfl)) rfl rfl ?_) | (refine Xg.ev (EvF.loadV rfl rfl (LoadV.whole (te rfl) rfl (m8 []) rfl)) rfl rfl ?_) | (refine Xg.call (EnF.st rfl (Args.cons rfl (Args.cons rfl Args.nil))) rfl rfl (kc' _ (hO []) (hP [])) ?_; rintro _ H9 ⟨rfl, hH9⟩; subst H9) | (refine Xg.ev (EvF.move rfl rfl) rfl rfl ?_) | (refine Xg.ev (EvF.assign rfl rfl) rfl rfl ?_) | (refine Xg.ev (EvF.extract rfl rfl rfl) rfl rfl ?_) | (refine Xg.st (StF.alloc rfl Try.zeroValue26 rfl) rfl rfl ?_; rintro _ _ ⟨bx, rfl, rfl⟩) | (refine Xg.st0 (StF.storeAll (i := 0) rfl rfl rfl (te rfl) rfl rfl rfl rfl) rfl ?_; rintro _ _ ⟨rfl, rfl⟩; dsimp only [List.set]))))) | (refine XO.done rfl ?_; refine hK _ _ ?_; clear hK K) | refine X.seq rfl ?_ | refine X.region rfl (fun K hK => ?_))
  repeat' (first | (refine XO.op rfl ?_; (first | ((first | refine Xo.ng rfl ?_); (first | (refine Xg.ev (EvF.loadV rfl rfl (LoadV.whole (te rfl) rfl (m4 [_]) rfl)) rfl rfl ?_) | (refine Xg.ev (EvF.loadV rfl rfl (LoadV.whole (te rfl) rfl (m3 [_]) rfl)) rfl rfl ?_) | (refine Xg.call (EnF.st rfl (Args.cons rfl (Args.cons rfl Args.nil))) rfl rfl (rc p _ (hI [_]) (hJ [_])) ?_; rintro _ H9 ⟨rfl, hH9⟩; subst H9) | (refine Xg.ev (EvF.move rfl rfl) rfl rfl ?_) | (refine Xg.ev (EvF.assign rfl rfl) rfl rfl ?_) | (refine Xg.ev (EvF.extract rfl rfl rfl) rfl rfl ?_) | (refine Xg.st (StF.alloc rfl Try.zeroValue26 rfl) rfl rfl ?_; rintro _ _ ⟨bx, rfl, rfl⟩) | (refine Xg.st0 (StF.storeAll (i := 0) rfl rfl rfl (te rfl) rfl rfl rfl rfl) rfl ?_; rintro _ _ ⟨rfl, rfl⟩; dsimp only [List.set]))))) | (refine XO.done rfl ?_; refine hK _ _ ?_; clear hK K) | refine X.seq rfl ?_ | refine X.region rfl (fun K hK => ?_))
  repeat' (first | (refine XO.op rfl ?_; (first | ((first | refine Xo.ng rfl ?_ | (refine Xo.g rfl rfl ?_; with_reducible refine Xw.tt ?_)); (first | (refine Xg.ev (EvF.loadV rfl rfl (LoadV.whole (te rfl) rfl (m7 [_, _]) rfl)) rfl rfl ?_) | (refine Xg.ev (EvF.loadV rfl rfl (LoadV.whole (te rfl) rfl (m8 [_, _]) rfl)) rfl rfl ?_) | (refine Xg.ev (EvF.loadV rfl rfl (LoadV.whole (te rfl) rfl (m5 [_, _]) rfl)) rfl rfl ?_) | (refine Xg.ev (EvF.loadV rfl rfl (LoadV.whole (te rfl) rfl (m4 [_, _]) rfl)) rfl rfl ?_) | (refine Xg.ev (EvF.loadV rfl rfl (LoadV.whole (te rfl) rfl (m3 [_, _]) rfl)) rfl rfl ?_) | (refine Xg.call (EnF.st rfl (Args.cons rfl (Args.cons rfl (Args.cons rfl Args.nil)))) rfl rfl (kd' _ (hO [_, _]) (hP [_, _])) ?_; rintro _ H9 ⟨rfl, hH9⟩; subst H9) | (refine Xg.call (EnF.st rfl (Args.cons rfl (Args.cons rfl (Args.cons rfl Args.nil)))) rfl rfl (rd p _ (hI [_, _]) (hJ [_, _])) ?_; rintro _ H9 ⟨rfl, hH9⟩; subst H9) | (refine Xg.ev (EvF.eqSelf rfl rfl rfl) rfl rfl ?_) | (refine Xg.ev (EvF.eqSt rfl rfl rfl (by kernel_rfl) (fun w => eqCl 9998 v1 v1 w) rfl) rfl rfl ?_) | (refine Xg.call (EnF.st rfl (Args.cons rfl (Args.cons rfl Args.nil))) rfl rfl (sameT_self T _ p _ (hO [_, _]) (hI [_, _])) ?_; rintro _ H9 ⟨rfl, hH9⟩; subst H9) | (refine Xg.call (EnF.st rfl (Args.cons rfl (Args.cons rfl Args.nil))) rfl rfl (sameD_spec d t1 k1 t2 k2 _ (hP [_, _]) (hJ [_, _])) ?_; rintro _ H9 ⟨rfl, hH9⟩; subst H9) | (refine Xg.ev (EvF.move rfl rfl) rfl rfl ?_) | (refine Xg.ev (EvF.assign rfl rfl) rfl rfl ?_) | (refine Xg.ev (EvF.pickT rfl rfl rfl) rfl rfl ?_) | (refine Xg.ev (EvF.loadV rfl rfl (LoadV.whole (te rfl) rfl (List.Mem.head _) rfl)) rfl rfl ?_) | (refine Xg.ev (EvF.loadV rfl rfl (LoadV.whole (te rfl) rfl (List.Mem.tail _ (List.Mem.head _)) rfl)) rfl rfl ?_) | (refine Xg.ev (EvF.extract rfl rfl rfl) rfl rfl ?_))) | (refine Xo.g rfl rfl ?_; (first | (with_reducible refine Xw.case (fun h => ?_) (fun h => ?_) <;> simp only [h, decide_true, decide_false, Bool.not_true, Bool.not_false, and_self, and_true, true_and, and_false, false_and]))))) | (refine XO.done rfl ?_; refine hK _ _ ?_; clear hK K) | refine X.seq rfl ?_ | refine X.region rfl (fun K hK => ?_) | refine X.ret rfl ?_)
  all_goals try (exfalso; exact absurd rfl (by assumption : ¬ v1 = v1))
  exact ret_one (by first | exact .inr rfl | exact .inl rfl) Try.results6 rfl (H' := _) (List.Sublist.refl _) rfl
end Go.Proofs.Ytcjlegjchllgjaa
end
section
set_option linter.unusedVariables false
namespace Go.Proofs.Ytcjlegjchllgjaa
open Go Go.Fw Go.ChangeShapes Go.WideShapes Go.ChangeAt Go.RowKit
set_option linter.unusedVariables false
set_option maxRecDepth 100000
def Dz : Dy := ⟨0, [], [], none, 0, none, 0⟩
structure InDy (w : World) (d : Dy) : Prop where
  gr : InSl w d.a1 cI 1 d.G
  st : InSl w d.a2 cI 1 d.S
def rowsDy (d : Dy) : List Row := rowsOf d.a1 cI d.G ++ rowsOf d.a2 cI d.S
theorem InDy.ok {w : World} {d : Dy} {N : Nat} (h : InDy w d) : ∀ r ∈ rowsDy d, r.own = none ∧ r.ok N w := by
  intro r hr
  rcases List.mem_append.1 hr with hr | hr
  · exact h.gr.ok r hr
  · exact h.st.ok r hr
theorem InDy.g {w : World} {d : Dy} (h : InDy w d) {H : List Row} (hs : ∀ r ∈ rowsDy d, r ∈ H) : SlE H d.a1 cI 1 d.G := h.gr.sl (fun r hr => hs r (List.mem_append_left _ hr))
theorem InDy.s {w : World} {d : Dy} (h : InDy w d) {H : List Row} (hs : ∀ r ∈ rowsDy d, r ∈ H) : SlE H d.a2 cI 1 d.S := h.st.sl (fun r hr => hs r (List.mem_append_right _ hr))
section
variable {H : Type} {enc : TypeId × Value → H} {w : World} {base : Nat} {spare : Nat → Bool} {held : Bool} {fuel : Nat} {cs : List Value} {x : DataW H × List MemPlace}
theorem open_dy (h : DataW.trod enc Try.prog w base spare held fuel 65 cs = some x) : ∃ d : Dy, cs = cDy d ∧ InDy w d := by
  obtain ⟨hl, hf⟩ := trod_st (te rfl) h
  obtain ⟨n0, y0, h0⟩ := hf 0 0 3 _ rfl (te rfl)
  obtain ⟨n1, y1, h1⟩ := hf 1 1 24 _ rfl (te rfl)
  obtain ⟨n2, y2, h2⟩ := hf 2 2 24 _ rfl (te rfl)
  match cs, hl with
  | [a, b, c], _ =>
    obtain ⟨q0, e0, w0⟩ := open_i h0
    simp [cI] at e0
    obtain ⟨l4, a4, c4, e4, i4, _, k4⟩ := open_sl (te rfl) (te rfl) rfl (by decide) (fun _ _ _ => open_i) (fun _ => rfl) h1
    obtain ⟨l5, a5, c5, e5, i5, _, k5⟩ := open_sl (te rfl) (te rfl) rfl (by decide) (fun _ _ _ => open_i) (fun _ => rfl) h2
    subst e0 e4 e5
    exact ⟨⟨q0, l4, l5, a4, c4, a5, c5⟩, rfl, i4, i5⟩
end
section
variable {H : Type} {enc : TypeId × Value → H} {w : World} {base : Nat} {spare : Nat → Bool} {held : Bool} {v : Value} {d : DataW H} {p : List MemPlace} {r : Reach} {b0 : Nat}
theorem open_day (hv : Value.okWide Try.prog w r b0 65 v) (h : DataW.Trod enc Try.prog w base spare held 65 v d p) : ∃ q : Dy, v = .agg (cDy q).toArray ∧ InDy w q := by
  obtain ⟨fa, hu, _⟩ := ti_struct (te (T := 65) rfl)
  obtain ⟨⟨cs⟩, rfl, _⟩ := okWide_struct hu hv
  obtain ⟨fuel, hf⟩ := h
  obtain ⟨q, rfl, hi⟩ := open_dy hf
  exact ⟨q, rfl, hi⟩
end
end Go.Proofs.Ytcjlegjchllgjaa
end
section
set_option linter.unusedVariables false
namespace Go.Proofs.Ytcjlegjchllgjaa
open Go Go.Fw Go.ChangeShapes Go.WideShapes Go.ChangeAt Go.RowKit
set_option linter.unusedVariables false
set_option maxRecDepth 100000
theorem termsCosts_run (T : Tm) (pT : Pt) (d : Dy) (c : Cl) (w : World) (hT : InTm w T pT) (hd : InDy w d) :
    Calls Try.prog 6 #[.agg (cTm T pT).toArray, .agg (cDy d).toArray, .agg (cCl c).toArray] w fun e w' => e = .returned (.bool true) ∧ Below w.heap.size w w' :=
  Fc.calls (H := rowsTm T pT ++ (rowsDy d)) (termsCosts_spec T pT d c _ (hT.g (fun _ h => (List.mem_append_left _ h))) (hT.s (fun _ h => (List.mem_append_left _ h))) (hd.g (fun _ h => (List.mem_append_right _ h))) (hd.s (fun _ h => (List.mem_append_right _ h)))) (fun r hr => by
    rcases List.mem_append.1 hr with hr | hr
    · exact hT.ok r hr
    exact hd.ok r hr
  )
theorem lifted (os : Os) (started : os.Started) (H : Type) (enc : TypeId × Value → H) :
    ReturnsInHanded {} Try.checked os 6 .any (Rows.termsCostsSpec.pre6 enc Try.prog Try.f6 Rows.termsCostsRow.domain false) (Rows.termsCostsSpec.post enc Try.prog Try.f6 false true false false) := by
  refine returnsInHanded_of_change (C := Try.checked) ownK started (by kernel_rfl) Try.func6
    (ChangeSpec.witness6 (enc := enc) (C := Try.checked) false ⟨#[], #[.agg (cTm Tz pz).toArray, .agg (cDy Dz).toArray, .agg (cCl ⟨0, 0⟩).toArray], []⟩ 8 (by kernel_rfl) (by kernel_rfl) (by kernel_rfl) (by kernel_rfl)) ?_
  intro W base args ds gs before hval0 hW hcnd _
  have hval : ∀ (j : Nat) t v, Try.f6.params[j]? = some t → args[j]? = some v → Value.okWide Try.prog W .any base t v := hval0
  have hW' := hW
  obtain ⟨p, q, hA0, hV, rfl, hfz, hnd⟩ := hW
  have hA : DataW.TrodAll enc Try.prog W 0 (fun _ => true) true Try.f6.params.toList args.toList ds p := hA0
  rw [Try.params6] at hA hval
  obtain ⟨v0, vs0, d0, ds0, p0, q0, hargs, rfl, rfl, h0, r0⟩ := trodAll_cons hA
  obtain ⟨v1, vs1, d1, ds1, p1, q1, rfl, rfl, rfl, h1, r1⟩ := trodAll_cons r0
  obtain ⟨v2, vs2, d2, ds2, p2, q2, rfl, rfl, rfl, h2, r2⟩ := trodAll_cons r1
  obtain ⟨rfl, rfl, rfl⟩ := trodAll_nil r2
  obtain rfl : args = #[v0, v1, v2] := by cases args; simp_all
  obtain ⟨rfl, rfl⟩ := trodVars_none hV
  have lt : ∀ {t v d ps}, DataW.Trod enc Try.prog W 0 (fun _ => true) true t v d ps → ∀ x ∈ ps, x.block < W.heap.size := fun h => by obtain ⟨m, hm⟩ := h; exact DataW.trod_lt m _ _ _ hm
  obtain ⟨T, pT, rfl, hT⟩ := open_terms (hval 0 _ v0 rfl rfl) h0
  obtain ⟨d, rfl, hd⟩ := open_day (hval 1 _ v1 rfl rfl) h1
  obtain ⟨c, rfl⟩ := open_class (hval 2 _ v2 rfl rfl) h2
  clear hA0 hval0
  refine (termsCosts_run T pT d c W hT hd).mono fun e W' ⟨he, bel⟩ => ?_
  subst he
  exact ⟨_, rfl, _, _, _, [], _, [], hW', trodAll_mk1 (shut_bool Try.underlying4 _), (trodAll_cons_mk (Below.trod laidO (by kernel_rfl) (of_decide_eq_true (by kernel_rfl)) h0 bel (lt h0)) (trodAll_cons_mk (Below.trod laidO (by kernel_rfl) (of_decide_eq_true (by kernel_rfl)) h1 bel (lt h1)) (trodAll_cons_mk (Below.trod laidO (by kernel_rfl) (of_decide_eq_true (by kernel_rfl)) h2 bel (lt h2)) trodAll_mk0))), rfl, bel.frame _, fun h => by cases h⟩
theorem over : Rows.termsCostsRow.holds Try.pinned (OpenSpec.ofChange Rows.termsCostsSpec) :=
  OpenClaim.holds_of_wide 6 Try.f6 rfl rfl rfl rfl rfl rfl rfl ⟨rfl, rfl, rfl, rfl, rfl⟩ rfl rfl rfl rfl rfl (by kernel_rfl) Try.func6 (by kernel_rfl)
    (of_decide_eq_true (by kernel_rfl)) (by unfold Func.isWrapper; first | (rw [if_pos (by decide +kernel)]; kernel_rfl) | (rw [if_neg (by decide +kernel)]; exact ⟨rfl, rfl⟩))
    (fun os started H enc _ => lifted os started H enc)
theorem termsCosts_proved : Rows.TermsCostsSaid := over
#print axioms termsCosts_proved
end Go.Proofs.Ytcjlegjchllgjaa
end
