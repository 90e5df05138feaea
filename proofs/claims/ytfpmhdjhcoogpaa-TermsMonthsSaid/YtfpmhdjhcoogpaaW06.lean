/- Own work: contracts of functions, from rows of what is known of the memory; contracts of functions, from rows of what is known of the memory; contracts of functions, from rows of what is known of the memory; contracts of functions, from rows of what is known of the memory; contracts of functions, from rows of what is known of the memory; contracts of functions, from rows of what is known of the memory; contracts of functions, from rows of what is known of the memory; contracts of functions, from rows of what is known of the memory -/
import Derived.Test.YtfpmhdjhcoogpaaW05
section
set_option linter.unusedVariables false
set_option linter.unusedSimpArgs false
namespace Go.Proofs.Ytfpmhdjhcoogpaa
open Go Go.Fw
set_option maxRecDepth 10000
theorem elDy : ElT Try.prog 76 65 3 56 := ⟨Try.underlying76, Try.t65, .agg #[.int .i64 0, .slice none 0 0, .slice none 0 0], by kernel_rfl, by kernel_rfl, by kernel_rfl, by kernel_rfl, rfl⟩
def abD (d : Dy) : Ab := ⟨[d], [], [], []⟩
def abE (d : Dy) (c : Cl) : Ab := ⟨[d], [lo1 c], [], [lo1 c]⟩
noncomputable def dayE (T : Tm) (d : Dy) : Int := if tmOk T then (if dayOk d then 0 else 43) else 40
theorem openDy (T : Tm) (d : Dy) : openE T (abD d) = dayE T d := by
  unfold openE dayE
  have h1 : askD (abD d) ↔ dayOk d := by simp [askD, abD]
  have h2 : askG (abD d) := fun d hd => absurd hd List.not_mem_nil
  have h3 : askS (abD d) := fun d hd => absurd hd List.not_mem_nil
  have h4 : askM (abD d) := fun d hd => absurd hd List.not_mem_nil
  have h5 : askN T (abD d) := fun d hd => absurd hd List.not_mem_nil
  simp only [h1, h2, h3, h4, h5, if_true]
noncomputable def deaE (T : Tm) (d : Dy) (c : Cl) : Int := if dayE T d = 0 then (if clsE c = 0 then (if may T c = true then 0 else 6) else clsE c) else dayE T d
theorem openDe (T : Tm) (d : Dy) (c : Cl) : openE T (abE d c) = deaE T d c := by
  unfold openE deaE dayE clsE
  have h1 : askD (abE d c) ↔ dayOk d := by simp [askD, abE]
  have h2 : askG (abE d c) ↔ 1 ≤ c.g ∧ c.g ≤ 9 := by simp [askG, abE, lo1, partOk]
  have h3 : askS (abE d c) ↔ 1 ≤ c.s ∧ c.s ≤ 9 := by simp [askS, abE, lo1, partOk]
  have h4 : askM (abE d c) := fun d hd => absurd hd List.not_mem_nil
  have h5 : askN T (abE d c) ↔ may T c = true := by
    simp only [askN, abE, List.mem_cons, List.not_mem_nil, or_false, forall_eq, cls_lo1]
    split <;> simp_all
  simp only [h1, h2, h3, h4, h5, if_true]
  by_cases q1 : tmOk T <;> by_cases q2 : dayOk d <;> by_cases q3 : 1 ≤ c.g ∧ c.g ≤ 9 <;> by_cases q4 : 1 ≤ c.s ∧ c.s ≤ 9 <;> simp only [q1, q2, q3, q4, if_true, if_false] <;> simp
theorem dayE_zero {T : Tm} {d : Dy} (h : dayE T d = 0) : tmOk T ∧ dayOk d := by
  unfold dayE at h
  by_cases h1 : tmOk T
  · by_cases h2 : dayOk d
    · exact ⟨h1, h2⟩
    · simp [h1, h2] at h
  · simp [h1] at h
theorem deaE_zero {T : Tm} {d : Dy} {c : Cl} (h : deaE T d c = 0) : dayE T d = 0 ∧ clsE c = 0 ∧ may T c = true := by
  unfold deaE at h
  by_cases h1 : dayE T d = 0
  · by_cases h2 : clsE c = 0
    · by_cases h3 : may T c = true
      · exact ⟨h1, h2, h3⟩
      · simp [h1, h2, h3] at h
    · simp [h1, h2] at h
  · simp [h1] at h
noncomputable def chC (T : Tm) (d : Dy) : Cl := if dayE T d = 0 then chp T d else ⟨0, 0⟩
noncomputable def chN (T : Tm) (d : Dy) : Int := if dayE T d = 0 then coF T d (chp T d) else 0
noncomputable def deN (T : Tm) (d : Dy) (c : Cl) : Int := if deaE T d c = 0 then coF T d c - coF T d (chp T d) else 0
theorem coF_bd {T : Tm} {d : Dy} (hok : tmOk T) (hd : dayOk d) {c : Cl} (hc : in9 c) : -1002000 ≤ coF T d c ∧ coF T d c ≤ 1004000 := by
  have := dco_bd hd hc
  have := val_bd hok c.g c.s
  unfold coF; omega
set_option maxHeartbeats 8000000 in
theorem kCheapest_spec (T : Tm) (p : Pt) (d : Dy) (H : List Row) (hT : TmOk H T p) (hD : DyOk H d) :
    Fc Try.prog 31 [.agg (cTm T p).toArray, .agg (cDy d).toArray] H (fun v H' => v = .tuple #[.agg (cCl (chC T d)).toArray, .int .i64 (chN T d), .int .i64 (dayE T d)] ∧ H' = H) := by
  have hT1 : ∀ Z : List Row, TmOk (Z ++ H) T p := fun Z => hT.sub (fun _ h => List.mem_append_right _ h)
  have hD1 : ∀ Z : List Row, DyOk (Z ++ H) d := fun Z => hD.sub (fun _ h => List.mem_append_right _ h)
  obtain ⟨er, her⟩ : ∃ e, dayE T d = e := ⟨_, rfl⟩
  have hA : ∀ (r1 r2 r3 : Row) (b cap : Nat), AbOk (⟨b, 0, cDy d, some 65, cap⟩ :: r1 :: r2 :: r3 :: H) (abD d) ⟨some ⟨b, 0, none⟩, 1, none, 0, none, 0, none, 0⟩ := fun r1 r2 r3 b cap =>
    ⟨SlE.ofRow (List.Mem.head _) (fun _ _ => rfl), sleNil, sleNil, sleNil, (fun x hx => by rw [List.mem_singleton.1 hx]; exact hD1 [_, _, _, _]), Nat.le_of_ble_eq_true rfl, Nat.zero_le _, Nat.zero_le _, Nat.zero_le _⟩
  unfold chC chN
  rw [her]
  have hop := (openDy T d).trans her
  by_cases h0 : er = 0
  · subst h0
    obtain ⟨hok, hd⟩ := dayE_zero her
    rw [if_pos rfl, if_pos rfl]
    refine Fc.mk (callable Try.call31) Try.func31 rfl Try.ntmps31 rfl ?_; dsimp only [fr]
    repeat' (first | (refine XO.op rfl ?_; (first | ((first | refine Xo.ng rfl ?_); (first | (refine Xg.st (StF.buildOne rfl elDy rfl rfl rfl (by decide) (by decide)) rfl rfl ?_; rintro _ _ ⟨bs, rfl, rfl⟩) | (refine Xg.ev (EvF.build (cs := cAb (abD d) ⟨some ⟨bs, 0, none⟩, 1, none, 0, none, 0, none, 0⟩) rfl (ArgsP.cons rfl ArgsP.nil) (te rfl) (Places.cons (te rfl) (Places.cons (te rfl) (Places.cons (te rfl) (Places.cons (te rfl) Places.nil)))) Try.zeroValue109 rfl) rfl rfl ?_) | (refine Xg.call (EnF.st rfl (Args.cons rfl (Args.cons rfl Args.nil))) rfl rfl (openY T p (abD d) _ _ (hT1 [_, _, _, _]) (hA _ _ _ _ _) (HDall _) HI0 hop) ?_; rintro _ H9 ⟨rfl, hH9⟩; subst H9) | (refine Xg.ev (EvF.build (cs := cMk T p d) rfl (ArgsP.cons rfl (ArgsP.cons rfl ArgsP.nil)) (te rfl) (Places.cons (te rfl) (Places.cons (te rfl) Places.nil)) Try.zeroValue153 rfl) rfl rfl ?_) | (refine Xg.ev (EvF.makeFunc rfl (Args.cons rfl Args.nil) Args.nil) rfl rfl ?_) | (refine Xg.call (EnF.st rfl (Args.cons rfl (Args.cons rfl Args.nil))) rfl rfl (kcheap_spec T p d _ (hT1 [_, _, _, _, _]) hok (hD1 [_, _, _, _, _]) hd) ?_; rintro _ H9 ⟨rfl, hH9⟩; subst H9) | (refine Xg.ev (EvF.move rfl rfl) rfl rfl ?_) | (refine Xg.ev (EvF.assign rfl rfl) rfl rfl ?_) | (refine Xg.ev (EvF.cmp rfl rfl rfl rfl) rfl rfl ?_) | (refine Xg.ev (EvF.loadV rfl rfl (LoadV.whole (te rfl) rfl (List.Mem.head _) rfl)) rfl rfl ?_) | (refine Xg.ev (EvF.loadV rfl rfl (LoadV.whole (te rfl) rfl (List.Mem.tail _ (List.Mem.head _)) rfl)) rfl rfl ?_) | (refine Xg.ev (EvF.loadV rfl rfl (LoadV.whole (te rfl) rfl (List.Mem.tail _ (List.Mem.tail _ (List.Mem.head _))) rfl)) rfl rfl ?_) | (refine Xg.ev (EvF.loadV rfl rfl (LoadV.whole (te rfl) rfl (List.Mem.tail _ (List.Mem.tail _ (List.Mem.tail _ (List.Mem.head _)))) rfl)) rfl rfl ?_) | (refine Xg.ev (EvF.extract rfl rfl rfl) rfl rfl ?_) | (refine Xg.st (StF.boxAgg rfl rfl) rfl rfl ?_; rintro _ _ ⟨bx, rfl, rfl⟩) | (refine Xg.st (StF.alloc rfl Try.zeroValue26 rfl) rfl rfl ?_; rintro _ _ ⟨bx, rfl, rfl⟩) | (refine Xg.st (StF.alloc rfl Try.zeroValue28 rfl) rfl rfl ?_; rintro _ _ ⟨bx, rfl, rfl⟩) | (refine Xg.st0 (StF.storeAll (i := 0) rfl rfl rfl (te rfl) rfl rfl rfl rfl) rfl ?_; rintro _ _ ⟨rfl, rfl⟩; dsimp only [List.set]) | (refine Xg.st0 (StF.storeAll (i := 2) rfl rfl rfl (te rfl) rfl rfl rfl rfl) rfl ?_; rintro _ _ ⟨rfl, rfl⟩; dsimp only [List.set]))))) | (refine XO.done rfl ?_; refine hK _ _ ?_; clear hK K) | refine X.seq rfl ?_ | refine X.region rfl (fun K hK => ?_) | refine X.skip rfl ?_ | refine X.ret rfl ?_ | (refine X.ite rfl rfl (fun hc => ?_); (first | (with_reducible refine Xb.caseN hc (fun h => ?_) (fun h => ?_))) <;> clear hc))
    all_goals try (exfalso; contradiction)
    exact ret_three (v := .agg (cCl (chp T d)).toArray) (by first | exact .inr rfl | exact .inl rfl) Try.results31 ⟨_, rfl, LoadV.whole (te rfl) rfl (List.Mem.tail _ (List.Mem.tail _ (List.Mem.head _))) rfl⟩ rfl rfl (H' := H) (by (repeat (first | exact List.Sublist.refl _ | apply List.Sublist.cons)); done) ⟨rfl, rfl⟩
  · rw [if_neg h0, if_neg h0]
    refine Fc.mk (callable Try.call31) Try.func31 rfl Try.ntmps31 rfl ?_; dsimp only [fr]
    repeat' (first | (refine XO.op rfl ?_; (first | ((first | refine Xo.ng rfl ?_); (first | (refine Xg.st (StF.buildOne rfl elDy rfl rfl rfl (by decide) (by decide)) rfl rfl ?_; rintro _ _ ⟨bs, rfl, rfl⟩) | (refine Xg.ev (EvF.build (cs := cAb (abD d) ⟨some ⟨bs, 0, none⟩, 1, none, 0, none, 0, none, 0⟩) rfl (ArgsP.cons rfl ArgsP.nil) (te rfl) (Places.cons (te rfl) (Places.cons (te rfl) (Places.cons (te rfl) (Places.cons (te rfl) Places.nil)))) Try.zeroValue109 rfl) rfl rfl ?_) | (refine Xg.call (EnF.st rfl (Args.cons rfl (Args.cons rfl Args.nil))) rfl rfl (openN T p (abD d) _ _ er (hT1 [_, _, _, _]) (hA _ _ _ _ _) (HDall _) HI0 hop h0) ?_; rintro _ H9 ⟨rfl, hH9⟩; subst H9) | (refine Xg.ev (EvF.build (cs := cCl ⟨0, 0⟩) rfl ArgsP.nil (te rfl) (Places.cons (te rfl) (Places.cons (te rfl) Places.nil)) Try.zeroValue23 rfl) rfl rfl ?_) | (refine Xg.ev (EvF.move rfl rfl) rfl rfl ?_) | (refine Xg.ev (EvF.assign rfl rfl) rfl rfl ?_) | (refine Xg.ev (EvF.cmp rfl rfl rfl rfl) rfl rfl ?_) | (refine Xg.ev (EvF.loadV rfl rfl (LoadV.whole (te rfl) rfl (List.Mem.head _) rfl)) rfl rfl ?_) | (refine Xg.ev (EvF.loadV rfl rfl (LoadV.whole (te rfl) rfl (List.Mem.tail _ (List.Mem.head _)) rfl)) rfl rfl ?_) | (refine Xg.ev (EvF.loadV rfl rfl (LoadV.whole (te rfl) rfl (List.Mem.tail _ (List.Mem.tail _ (List.Mem.head _))) rfl)) rfl rfl ?_) | (refine Xg.ev (EvF.loadV rfl rfl (LoadV.whole (te rfl) rfl (List.Mem.tail _ (List.Mem.tail _ (List.Mem.tail _ (List.Mem.head _)))) rfl)) rfl rfl ?_) | (refine Xg.ev (EvF.extract rfl rfl rfl) rfl rfl ?_) | (refine Xg.st (StF.boxAgg rfl rfl) rfl rfl ?_; rintro _ _ ⟨bx, rfl, rfl⟩) | (refine Xg.st (StF.alloc rfl Try.zeroValue26 rfl) rfl rfl ?_; rintro _ _ ⟨bx, rfl, rfl⟩) | (refine Xg.st (StF.alloc rfl Try.zeroValue28 rfl) rfl rfl ?_; rintro _ _ ⟨bx, rfl, rfl⟩) | (refine Xg.st0 (StF.storeAll (i := 0) rfl rfl rfl (te rfl) rfl rfl rfl rfl) rfl ?_; rintro _ _ ⟨rfl, rfl⟩; dsimp only [List.set]) | (refine Xg.st0 (StF.storeAll (i := 2) rfl rfl rfl (te rfl) rfl rfl rfl rfl) rfl ?_; rintro _ _ ⟨rfl, rfl⟩; dsimp only [List.set]))))) | (refine XO.done rfl ?_; refine hK _ _ ?_; clear hK K) | refine X.seq rfl ?_ | refine X.region rfl (fun K hK => ?_) | refine X.skip rfl ?_ | refine X.ret rfl ?_ | (refine X.ite rfl rfl (fun hc => ?_); (first | (with_reducible refine Xb.caseN hc (fun h => ?_) (fun h => ?_))) <;> clear hc))
    all_goals try (exfalso; contradiction)
    exact ret_three (v := .agg (cCl ⟨0, 0⟩).toArray) (by first | exact .inr rfl | exact .inl rfl) Try.results31 ⟨_, rfl, LoadV.whole (te rfl) rfl (List.Mem.tail _ (List.Mem.tail _ (List.Mem.head _))) rfl⟩ rfl rfl (H' := H) (by (repeat (first | exact List.Sublist.refl _ | apply List.Sublist.cons)); done) ⟨rfl, rfl⟩
set_option maxHeartbeats 4000000 in
theorem dearer1_spec (T : Tm) (p : Pt) (d : Dy) (c : Cl) (bd bc capd capc : Nat) (owd owc : Option Kd) (H : List Row) (hT : TmOk H T p) (hok : tmOk T) (hD : DyOk H d) (hd : dayOk d) (hc : in9 c) (md : ⟨bd, 0, cDy d, owd, capd⟩ ∈ H) (mc : ⟨bc, 0, cCl c, owc, capc⟩ ∈ H) :
    Fc Try.prog 94 ([.agg (cTm T p).toArray] ++ [.pointer (some ⟨bd, 0, none⟩), .pointer (some ⟨bc, 0, none⟩)]) H (fun v H' => v = .int .i64 (coF T d c - coF T d (chp T d)) ∧ H' = H) := by
  show Fc Try.prog 94 [.agg (cTm T p).toArray, .pointer (some ⟨bd, 0, none⟩), .pointer (some ⟨bc, 0, none⟩)] H _
  have hT1 : ∀ Z : List Row, TmOk (Z ++ H) T p := fun Z => hT.sub (fun _ h => List.mem_append_right _ h)
  have hD1 : ∀ Z : List Row, DyOk (Z ++ H) d := fun Z => hD.sub (fun _ h => List.mem_append_right _ h)
  have q1 := coF_bd hok hd hc
  have q2 := coF_bd hok hd (chp_in9 hok d)
  refine Fc.mk (callable Try.call94) Try.func94 rfl Try.ntmps94 rfl ?_; dsimp only [fr]
  repeat' (first | (refine XO.op rfl ?_; (first | ((first | refine Xo.ng rfl ?_); (first | (refine Xg.ev (EvF.loadV rfl rfl (LoadV.whole (te rfl) rfl (List.Mem.tail _ md) rfl)) rfl rfl ?_) | (refine Xg.ev (EvF.loadV rfl rfl (LoadV.whole (te rfl) rfl (List.Mem.tail _ (List.Mem.tail _ (List.Mem.tail _ mc))) rfl)) rfl rfl ?_) | (refine Xg.ev (EvF.build (cs := cMk T p d) rfl (ArgsP.cons rfl (ArgsP.cons rfl ArgsP.nil)) (te rfl) (Places.cons (te rfl) (Places.cons (te rfl) Places.nil)) Try.zeroValue153 rfl) rfl rfl ?_) | (refine Xg.st (StF.alloc rfl Try.zeroValue153 rfl) rfl rfl ?_; rintro _ _ ⟨bx, rfl, rfl⟩) | (refine Xg.st0 (StF.storeAll (i := 0) (vs := cMk T p d) rfl rfl rfl (te rfl) rfl rfl rfl rfl) rfl ?_; rintro _ _ ⟨rfl, rfl⟩; dsimp only [List.set]) | (refine Xg.ev (EvF.makeFunc rfl (Args.cons rfl Args.nil) Args.nil) rfl rfl ?_) | (refine Xg.call (EnF.st rfl (Args.cons rfl (Args.cons rfl Args.nil))) rfl rfl (kcheap_spec T p d _ (hT1 [_, _]) hok (hD1 [_, _]) hd) ?_; rintro _ H9 ⟨rfl, hH9⟩; subst H9) | (refine Xg.call (EnF.st rfl (Args.cons rfl (Args.cons rfl Args.nil))) rfl rfl (costs_spec T p d c _ (hT1 [_, _, _]) hok (hD1 [_, _, _]) hd hc) ?_; rintro _ H9 ⟨rfl, hH9⟩; subst H9) | (refine Xg.ev (EvF.move rfl rfl) rfl rfl ?_) | (refine Xg.ev (EvF.assign rfl rfl) rfl rfl ?_) | (refine Xg.ev (EvF.sub64 rfl rfl rfl (by omega) (by omega)) rfl rfl ?_) | (refine Xg.ev (EvF.loadV rfl rfl (LoadV.whole (te rfl) rfl (List.Mem.head _) rfl)) rfl rfl ?_) | (refine Xg.ev (EvF.loadV rfl rfl (LoadV.whole (te rfl) rfl (List.Mem.tail _ (List.Mem.head _)) rfl)) rfl rfl ?_) | (refine Xg.ev (EvF.extract rfl rfl rfl) rfl rfl ?_) | (refine Xg.st (StF.boxAgg rfl rfl) rfl rfl ?_; rintro _ _ ⟨bx, rfl, rfl⟩) | (refine Xg.st (StF.alloc rfl Try.zeroValue26 rfl) rfl rfl ?_; rintro _ _ ⟨bx, rfl, rfl⟩) | (refine Xg.st0 (StF.storeAll (i := 0) rfl rfl rfl (te rfl) rfl rfl rfl rfl) rfl ?_; rintro _ _ ⟨rfl, rfl⟩; dsimp only [List.set]))))) | (refine XO.done rfl ?_; refine hK _ _ ?_; clear hK K) | refine X.seq rfl ?_ | refine X.region rfl (fun K hK => ?_) | refine X.ret rfl ?_)
  refine ret_one (by first | exact .inr rfl | exact .inl rfl) Try.results94 rfl (H' := H) (by (repeat (first | exact List.Sublist.refl _ | apply List.Sublist.cons)); done) ?_; simp only [and_true, true_and]
set_option maxHeartbeats 8000000 in
theorem kDearer_spec (T : Tm) (p : Pt) (d : Dy) (c : Cl) (H : List Row) (hT : TmOk H T p) (hD : DyOk H d) :
    Fc Try.prog 33 [.agg (cTm T p).toArray, .agg (cDy d).toArray, .agg (cCl c).toArray] H (fun v H' => v = .tuple #[.int .i64 (deN T d c), .int .i64 (deaE T d c)] ∧ H' = H) := by
  have hT1 : ∀ Z : List Row, TmOk (Z ++ H) T p := fun Z => hT.sub (fun _ h => List.mem_append_right _ h)
  have hT2 : ∀ Y Z : List Row, TmOk (Y ++ (Z ++ H)) T p := fun Y Z => hT.sub (fun _ h => List.mem_append_right _ (List.mem_append_right _ h))
  have hD1 : ∀ Z : List Row, DyOk (Z ++ H) d := fun Z => hD.sub (fun _ h => List.mem_append_right _ h)
  have hD2 : ∀ Y Z : List Row, DyOk (Y ++ (Z ++ H)) d := fun Y Z => hD.sub (fun _ h => List.mem_append_right _ (List.mem_append_right _ h))
  unfold deN
  rw [← openDe]
  have hz : openE T (abE d c) = 0 → tmOk T ∧ dayOk d ∧ in9 c := fun h => by
    rw [openDe] at h
    obtain ⟨h1, h2, _⟩ := deaE_zero h
    exact ⟨(dayE_zero h1).1, (dayE_zero h1).2, clsE_zero h2⟩
  refine Fc.mk (callable Try.call33) Try.func33 rfl Try.ntmps33 rfl ?_; dsimp only [fr]
  repeat' (first | (refine XO.op rfl ?_; (first | ((first | refine Xo.ng rfl ?_); (first | (refine Xg.call (EnF.st rfl (Args.cons rfl Args.nil)) rfl rfl (only_spec c _) ?_; rintro _ H9 ⟨rfl, hH9⟩; subst H9) | (refine Xg.st (StF.buildOne rfl elLo rfl rfl rfl (by decide) (by decide)) rfl rfl ?_; rintro _ _ ⟨bs, rfl, rfl⟩) | (refine Xg.st (StF.buildOne rfl elDy rfl rfl rfl (by decide) (by decide)) rfl rfl ?_; rintro _ _ ⟨bt, rfl, rfl⟩) | (refine Xg.ev (EvF.build (cs := cAb (abE d c) ⟨some ⟨bt, 0, none⟩, 1, some ⟨bs, 0, none⟩, 1, none, 0, some ⟨bs, 0, none⟩, 1⟩) rfl (ArgsP.cons rfl (ArgsP.cons rfl (ArgsP.cons rfl ArgsP.nil))) (te rfl) (Places.cons (te rfl) (Places.cons (te rfl) (Places.cons (te rfl) (Places.cons (te rfl) Places.nil)))) Try.zeroValue109 rfl) rfl rfl ?_) | (refine Xg.ev (EvF.makeFunc rfl Args.nil (Args.cons rfl (Args.cons rfl Args.nil))) rfl rfl ?_) | (refine Xg.call (EnF.st rfl (Args.cons rfl (Args.cons rfl (Args.cons rfl Args.nil)))) rfl rfl (toldI_spec T p (abE d c) ⟨some ⟨bt, 0, none⟩, 1, some ⟨bs, 0, none⟩, 1, none, 0, some ⟨bs, 0, none⟩, 1⟩ _ [_, _] (coF T d c - coF T d (chp T d)) _ (hT1 [_, _, _, _, _]) ⟨SlE.ofRow (List.Mem.head _) (fun _ _ => rfl), SlE.ofRow (List.Mem.tail _ (List.Mem.head _)) (fun _ _ => rfl), sleNil, SlE.ofRow (List.Mem.tail _ (List.Mem.head _)) (fun _ _ => rfl), (fun x hx => by rw [List.mem_singleton.1 hx]; exact hD1 [_, _, _, _, _]), Nat.le_of_ble_eq_true rfl, Nat.le_of_ble_eq_true rfl, Nat.zero_le _, Nat.le_of_ble_eq_true rfl⟩ (HDall _) HI1 (fun hE Z => dearer1_spec T p d c _ _ _ _ _ _ _ (hT2 _ [_, _, _, _, _]) (hz hE).1 (hD2 _ [_, _, _, _, _]) (hz hE).2.1 (hz hE).2.2 (List.mem_append_right _ (List.Mem.tail _ (List.Mem.tail _ (List.Mem.tail _ (List.Mem.head _))))) (List.mem_append_right _ (List.Mem.tail _ (List.Mem.tail _ (List.Mem.head _)))))) ?_; rintro _ H9 ⟨rfl, hH9⟩; subst H9) | (refine Xg.ev (EvF.move rfl rfl) rfl rfl ?_) | (refine Xg.ev (EvF.assign rfl rfl) rfl rfl ?_) | (refine Xg.ev (EvF.loadV rfl rfl (LoadV.whole (te rfl) rfl (List.Mem.head _) rfl)) rfl rfl ?_) | (refine Xg.ev (EvF.loadV rfl rfl (LoadV.whole (te rfl) rfl (List.Mem.tail _ (List.Mem.tail _ (List.Mem.head _))) rfl)) rfl rfl ?_) | (refine Xg.ev (EvF.loadV rfl rfl (LoadV.whole (te rfl) rfl (List.Mem.tail _ (List.Mem.tail _ (List.Mem.tail _ (List.Mem.head _)))) rfl)) rfl rfl ?_) | (refine Xg.ev (EvF.extract rfl rfl rfl) rfl rfl ?_) | (refine Xg.st (StF.boxAgg rfl rfl) rfl rfl ?_; rintro _ _ ⟨bx, rfl, rfl⟩))))) | (refine XO.done rfl ?_; refine hK _ _ ?_; clear hK K) | refine X.seq rfl ?_ | refine X.region rfl (fun K hK => ?_) | refine X.ret rfl ?_)
  exact ret_two (by first | exact .inr rfl | exact .inl rfl) Try.results33 rfl rfl (H' := H) (by (repeat (first | exact List.Sublist.refl _ | apply List.Sublist.cons)); done) ⟨rfl, rfl⟩
end Go.Proofs.Ytfpmhdjhcoogpaa
end
section
set_option linter.unusedVariables false
set_option linter.unusedSimpArgs false
namespace Go.Proofs.Ytfpmhdjhcoogpaa
open Go Go.Fw
set_option maxRecDepth 10000
set_option maxHeartbeats 4000000 in
theorem rcosts_spec (d : Dy) (c : Cl) (H : List Row) (hD : DyOk H d) (hG : tab d.G) (hS : tab d.S) (hp : 0 ≤ d.price ∧ d.price ≤ 1000000) (hc : in9 c) :
    Fc Try.prog 96 [.agg (cDy d).toArray, .agg (cCl c).toArray] H (fun v H' => v = .int .i64 (dco d c) ∧ H' = H) := by
  have h1 := at1_get hc.1 hG.1
  have h2 := at1_get hc.2 hS.1
  have q1 := hG.at1 hc.1
  have q2 := hS.at1 hc.2
  have lg := hG.1
  have ls := hS.1
  have hc1 := hc.1
  have hc2 := hc.2
  obtain ⟨b1, o1, e1, he1, _⟩ := hD.gr.elem (i := 0) (by omega)
  obtain ⟨b2, o2, e2, he2, _⟩ := hD.st.elem (i := 0) (by omega)
  have hD2 : ∀ Z : List Row, DyOk (Z ++ H) d := fun Z => hD.sub (fun _ h => List.mem_append_right _ h)
  obtain ⟨pr, G, S, a1, c1, a2, c2⟩ := d
  simp only at he1 he2 h1 h2 q1 q2 lg ls hp
  subst he1 he2
  unfold dco at *
  dsimp only at *
  show Fc Try.prog 96 [.agg ([.int .i64 pr, .slice (some ⟨b1, o1, none⟩) G.length c1, .slice (some ⟨b2, o2, none⟩) S.length c2] : List Value).toArray, .agg (cCl c).toArray] H _
  refine Fc.mk (callable Try.call96) Try.func96 rfl Try.ntmps96 rfl ?_; dsimp only [fr]
  repeat' (first | (refine XO.op rfl ?_; (first | ((first | refine Xo.ng rfl ?_); (first | (refine Xg.ev (EvF.assign rfl rfl) rfl rfl ?_) | (refine Xg.st (StF.boxAgg rfl rfl) rfl rfl ?_; rintro _ _ ⟨bx, rfl, rfl⟩))))) | (refine XO.done rfl ?_; refine hK _ _ ?_; clear hK K) | (refine XQ.op rfl ?_; (first | ((first | refine Yo.ng rfl ?_); (first | (refine Yg.ev (EvF.indexSlice rfl rfl rfl (te rfl) (te rfl) (by omega) (by omega)) rfl rfl ?_) | (refine Yg.ev (EvF.loadV rfl rfl (LoadV.el0 (hD2 [_, _]).gr h1 (te rfl) rfl (fun _ hm => hm) rfl)) rfl rfl ?_) | (refine Yg.ev (EvF.loadV rfl rfl (LoadV.el0 (hD2 [_, _]).st h2 (te rfl) rfl (fun _ hm => hm) rfl)) rfl rfl ?_) | (refine Yg.ev (EvF.assign rfl rfl) rfl rfl ?_) | (refine Yg.ev (EvF.add64 rfl rfl rfl (by omega) (by omega)) rfl rfl ?_) | (refine Yg.ev (EvF.sub64 rfl rfl rfl (by omega) (by omega)) rfl rfl ?_) | (refine Yg.ev (EvF.fieldAddr rfl rfl (te rfl) rfl (te rfl) (by decide)) rfl rfl ?_) | (refine Yg.ev (EvF.loadV rfl rfl (LoadV.own (te rfl) rfl (List.Mem.head _) rfl)) rfl rfl ?_) | (refine Yg.ev (EvF.loadV rfl rfl (LoadV.own (te rfl) rfl (List.Mem.tail _ (List.Mem.head _)) rfl)) rfl rfl ?_))))) | (refine XQ.done rfl ?_; refine hK _ ?_; clear hK K) | refine X.seq rfl ?_ | refine X.region rfl (fun K hK => ?_) | refine X.regionD rfl mixed (by kernel_rfl) (fun K hK => ?_) | refine X.ret rfl ?_)
  refine ret_one (by first | exact .inr rfl | exact .inl rfl) Try.results96 rfl (H' := H) (by (repeat (first | exact List.Sublist.refl _ | apply List.Sublist.cons)); done) ?_; simp only [and_true, true_and]
set_option maxHeartbeats 4000000 in
theorem rday_spec (d : Dy) (H : List Row) (hD : DyOk H d) : Fc Try.prog 92 [.agg (cDy d).toArray] H (fun v H' => v = .bool (decide (dayOk d)) ∧ H' = H) := by
  have hD1 : ∀ Z : List Row, DyOk (Z ++ H) d := fun Z => hD.sub (fun _ h => List.mem_append_right _ h)
  have hdd : dayOk d ↔ (0 ≤ d.price ∧ d.price ≤ 1000000) ∧ tab d.G ∧ tab d.S ∧ ∀ g s, 1 ≤ g ∧ g ≤ 9 → 1 ≤ s ∧ s ≤ 9 → 0 ≤ d.price + at1 d.G g + at1 d.S s := Iff.rfl
  refine Fc.mk (callable Try.call92) Try.func92 rfl Try.ntmps92 rfl ?_; dsimp only [fr]
  repeat' (first | (refine XO.op rfl ?_; (first | ((first | refine Xo.ng rfl ?_ | (refine Xo.g rfl rfl ?_; with_reducible refine Xw.ff ?_)); (first | (refine Xg.call (EnF.st rfl (Args.cons rfl (Args.cons rfl (Args.cons rfl Args.nil)))) rfl rfl (w4_spec _ _ _ _) ?_; rintro _ H9 ⟨rfl, hH9⟩; subst H9) | (refine Xg.call (EnF.st rfl (Args.cons rfl Args.nil)) rfl rfl (nine_spec d.G d.a1 d.c1 _ (hD1 [_]).gr hD.l1) ?_; rintro _ H9 ⟨rfl, hH9⟩; subst H9) | (refine Xg.call (EnF.st rfl (Args.cons rfl Args.nil)) rfl rfl (nine_spec d.S d.a2 d.c2 _ (hD1 [_]).st hD.l2) ?_; rintro _ H9 ⟨rfl, hH9⟩; subst H9) | (refine Xg.ev (EvF.move rfl rfl) rfl rfl ?_) | (refine Xg.ev (EvF.assign rfl rfl) rfl rfl ?_) | (refine Xg.ev (EvF.pickT rfl rfl rfl) rfl rfl ?_) | (refine Xg.ev (EvF.pickF rfl rfl rfl) rfl rfl ?_) | (refine Xg.ev (EvF.not rfl rfl) rfl rfl ?_) | (refine Xg.ev (EvF.fieldAddr rfl rfl (te rfl) rfl (te rfl) (by decide)) rfl rfl ?_) | (refine Xg.ev (EvF.loadV rfl rfl (LoadV.own (te rfl) rfl (List.Mem.head _) rfl)) rfl rfl ?_) | (refine Xg.st (StF.boxAgg rfl rfl) rfl rfl ?_; rintro _ _ ⟨bx, rfl, rfl⟩))) | (refine Xo.g rfl rfl ?_; (first | (with_reducible refine Xw.tf rfl rfl ?_) | (with_reducible refine Xw.caseN (fun h => ?_) (fun h => ?_) <;> simp only [h, decide_true, decide_false, Bool.not_true, Bool.not_false, and_self, and_true, true_and, and_false, false_and]))))) | (refine XO.done rfl ?_; refine hK _ _ ?_; clear hK K) | refine X.seq rfl ?_ | refine X.region rfl (fun K hK => ?_) | refine X.block rfl ?_ | refine X.skip rfl ?_ | refine X.ret rfl ?_ | (refine X.ite rfl rfl (fun hc => ?_); (first | (with_reducible refine Xb.t hc ?_) | (with_reducible refine Xb.caseN hc (fun h => ?_) (fun h => ?_))) <;> clear hc))
  any_goals (refine ret_one (by first | exact .inr rfl | exact .inl rfl) Try.results92 rfl (H' := H) (by (repeat (first | exact List.Sublist.refl _ | apply List.Sublist.cons)); done) ?_; simp only [and_true, true_and]; congr 1; symm; refine decide_eq_false (fun q => ?_); have q := hdd.1 q; first | exact absurd q.1 (by assumption) | exact absurd q.2.1 (by assumption) | exact absurd q.2.2.1 (by assumption))
  have hp : 0 ≤ d.price ∧ d.price ≤ 1000000 := by assumption
  have hG : tab d.G := by assumption
  have hS : tab d.S := by assumption
  refine X.lp rfl (fun m F' H' => ∃ k : Nat, m = 9 - k ∧ k ≤ 9 ∧ (∀ g s : Int, 1 ≤ g ∧ g < 1 + k → 1 ≤ s ∧ s ≤ 9 → 0 ≤ d.price + at1 d.G g + at1 d.S s) ∧ ⟨bx, 0, cDy d, some 65, 3⟩ :: H = H' ∧ F' = [(1, .pointer (some ⟨bx, 0, none⟩)), (3, .int .i64 (1 + k))])
    9 [(1, .pointer (some ⟨bx, 0, none⟩)), (3, .int .i64 (1 + (0 : Nat)))] _ (by (repeat (first | exact Sub.nil _ | refine Sub.cons rfl ?_)); done) (List.Sublist.refl _) ⟨0, by omega, by omega, (fun g s h => absurd h (by omega)), rfl, rfl⟩ ?_
  rintro _ _ _ ⟨k, rfl, hk, hn, rfl, rfl⟩
  repeat' (first | (refine XO.op rfl ?_; (first | ((first | refine Xo.ng rfl ?_); (first | (refine Xg.ev (EvF.move rfl rfl) rfl rfl ?_) | (refine Xg.ev (EvF.assign rfl rfl) rfl rfl ?_) | (refine Xg.ev (EvF.cmp rfl rfl rfl rfl) rfl rfl ?_))))) | (refine XO.done rfl ?_; refine hK _ _ ?_; clear hK K) | refine X.seq rfl ?_ | refine X.region rfl (fun K hK => ?_) | refine X.block rfl ?_ | (refine X.brk rfl ?_; repeat (first | refine blockX_hit rfl ?_ | refine blockX_miss (by decide) ?_)) | refine X.skip rfl ?_ | refine X.ret rfl ?_ | (refine X.ite rfl rfl (fun hc => ?_); (first | (with_reducible refine Xb.case hc (fun h => ?_) (fun h => ?_))) <;> clear hc))
  · have hk9 : k < 9 := by omega
    refine X.lp rfl (fun m F' H' => ∃ j : Nat, m = 9 - j ∧ j ≤ 9 ∧ (∀ s : Int, 1 ≤ s ∧ s < 1 + j → 0 ≤ d.price + at1 d.G (1 + k) + at1 d.S s) ∧ ⟨bx, 0, cDy d, some 65, 3⟩ :: H = H' ∧ F' = [(1, .pointer (some ⟨bx, 0, none⟩)), (3, .int .i64 (1 + k)), (4, .int .i64 (1 + j))])
      9 [(1, .pointer (some ⟨bx, 0, none⟩)), (3, .int .i64 (1 + k)), (4, .int .i64 (1 + (0 : Nat)))] _ (by (repeat (first | exact Sub.nil _ | refine Sub.cons rfl ?_)); done) (List.Sublist.refl _) ⟨0, by omega, by omega, (fun s h => absurd h (by omega)), rfl, rfl⟩ ?_
    rintro _ _ _ ⟨j, rfl, hj, hm, rfl, rfl⟩
    repeat' (first | (refine XO.op rfl ?_; (first | ((first | refine Xo.ng rfl ?_); (first | (refine Xg.ev (EvF.move rfl rfl) rfl rfl ?_) | (refine Xg.ev (EvF.assign rfl rfl) rfl rfl ?_) | (refine Xg.ev (EvF.cmp rfl rfl rfl rfl) rfl rfl ?_) | (refine Xg.ev (EvF.add64 rfl rfl rfl (by omega) (by omega)) rfl rfl ?_) | (refine Xg.ev (EvF.loadV rfl rfl (LoadV.whole (te rfl) rfl (List.Mem.head _) rfl)) rfl rfl ?_))))) | (refine XO.done rfl ?_; refine hK _ _ ?_; clear hK K) | refine X.seq rfl ?_ | refine X.region rfl (fun K hK => ?_) | refine X.block rfl ?_ | (refine X.brk rfl ?_; repeat (first | refine blockX_hit rfl ?_ | refine blockX_miss (by decide) ?_)) | refine X.skip rfl ?_ | (refine X.ite rfl rfl (fun hc => ?_); (first | (with_reducible refine Xb.case hc (fun h => ?_) (fun h => ?_))) <;> clear hc))
    · have hj9 : j < 9 := by omega
      have hc : in9 ⟨1 + k, 1 + j⟩ := ⟨by dsimp only; omega, by dsimp only; omega⟩
      have hv := fun H h => rcosts_spec d ⟨1 + k, 1 + j⟩ H h hG hS hp hc
      unfold dco at hv
      dsimp only at hv
      repeat' (first | (refine XO.op rfl ?_; (first | ((first | refine Xo.ng rfl ?_); (first | (refine Xg.ev (EvF.build (cs := cCl ⟨1 + k, 1 + j⟩) rfl (ArgsP.cons rfl (ArgsP.cons rfl ArgsP.nil)) (te rfl) (Places.cons (te rfl) (Places.cons (te rfl) Places.nil)) Try.zeroValue23 rfl) rfl rfl ?_) | (refine Xg.call (EnF.st rfl (Args.cons rfl (Args.cons rfl Args.nil))) rfl rfl (hv _ (hD1 [_])) ?_; rintro _ H9 ⟨rfl, hH9⟩; subst H9) | (refine Xg.ev (EvF.move rfl rfl) rfl rfl ?_) | (refine Xg.ev (EvF.assign rfl rfl) rfl rfl ?_) | (refine Xg.ev (EvF.cmp rfl rfl rfl rfl) rfl rfl ?_) | (refine Xg.ev (EvF.add64 rfl rfl rfl (by omega) (by omega)) rfl rfl ?_))))) | (refine XO.done rfl ?_; refine hK _ _ ?_; clear hK K) | refine X.seq rfl ?_ | refine X.region rfl (fun K hK => ?_) | refine X.skip rfl ?_ | refine X.ret rfl ?_ | (refine X.ite rfl rfl (fun hc => ?_); (first | (with_reducible refine Xb.case hc (fun h => ?_) (fun h => ?_))) <;> clear hc))
      · refine ret_one (by first | exact .inr rfl | exact .inl rfl) Try.results92 rfl (H' := H) (by (repeat (first | exact List.Sublist.refl _ | apply List.Sublist.cons)); done) ?_; simp only [and_true, true_and]
        congr 1; symm
        refine decide_eq_false (fun q => ?_)
        have := (hdd.1 q).2.2.2 (1 + k) (1 + j) (by omega) (by omega)
        omega
      · refine ⟨_, [(1, .pointer (some ⟨bx, 0, none⟩)), (3, .int .i64 (1 + k)), (4, .int .i64 (1 + (j + 1 : Nat)))], _, (by rw [show (1 : Int) + ((j + 1 : Nat) : Int) = 1 + j + 1 by omega]; exact (by (repeat (first | exact Sub.nil _ | refine Sub.cons rfl ?_)); done)), List.Sublist.refl _, ⟨j + 1, rfl, by omega, (fun s hs => ?_), rfl, rfl⟩, by omega⟩
        by_cases q : s < 1 + j
        · exact hm s ⟨hs.1, q⟩
        · rw [show s = 1 + j by omega]; omega
    · refine ⟨_, [(1, .pointer (some ⟨bx, 0, none⟩)), (3, .int .i64 (1 + (k + 1 : Nat)))], _, (by rw [show (1 : Int) + ((k + 1 : Nat) : Int) = 1 + k + 1 by omega]; exact (by (repeat (first | exact Sub.nil _ | refine Sub.cons rfl ?_)); done)), List.Sublist.refl _, ⟨k + 1, rfl, by omega, (fun g s hg hs => ?_), rfl, rfl⟩, by omega⟩
      by_cases q : g < 1 + k
      · exact hn g s ⟨hg.1, q⟩ hs
      · rw [show g = 1 + k by omega]; exact hm s (by omega)
  · refine ret_one (by first | exact .inr rfl | exact .inl rfl) Try.results92 rfl (H' := H) (by (repeat (first | exact List.Sublist.refl _ | apply List.Sublist.cons)); done) ?_; simp only [and_true, true_and]
    congr 1; symm
    exact decide_eq_true (hdd.2 ⟨hp, hG, hS, fun g s hg hs => hn g s (by omega) hs⟩)
end Go.Proofs.Ytfpmhdjhcoogpaa
end
section
set_option linter.unusedVariables false
set_option linter.unusedSimpArgs false
namespace Go.Proofs.Ytfpmhdjhcoogpaa
open Go Go.Fw
set_option maxRecDepth 10000
def lea (f : Cl → Int) (D : List Cl) : Int := if fnd D = true then f (bst f D) else 0
def lw (T : Tm) : Lo := ⟨1, T.worst, T.short, 9⟩
/-- the classes that may be delivered, in their order -/
theorem ir_split (a b c : Int) (h1 : a ≤ b + 1) (h2 : b ≤ c) : ir a c = ir a b ++ ir (b + 1) c := by
  unfold ir
  rw [show (c - a + 1).toNat = (b - a + 1).toNat + (c - (b + 1) + 1).toNat by omega, List.range_add, List.map_append, List.map_map]
  congr 1
  refine List.map_congr_left (fun i _ => ?_)
  show a + (((b - a + 1).toNat + i : Nat) : Int) = b + 1 + (i : Int)
  omega
theorem ir_bd {a b x : Int} (h : x ∈ ir a b) : a ≤ x ∧ x ≤ b := by
  unfold ir at h
  obtain ⟨i, hi, rfl⟩ := List.mem_map.1 h
  rw [List.mem_range] at hi
  omega
theorem rowC_l9 {T : Tm} (h : tmOk T) {g : Int} (hg : g ≤ T.worst) : rowC T g (ir 1 9) = rowA g (ir T.short 9) := by
  have hc := h.cls
  unfold rowC rowA
  rw [ir_split 1 (T.short - 1) 9 (by omega) (by omega), List.map_append, List.filter_append, show T.short - 1 + 1 = T.short by omega]
  rw [List.filter_eq_nil_iff.2 (fun c hc => ?_), List.filter_eq_self.2 (fun c hc => ?_), List.nil_append]
  · obtain ⟨s, hs, rfl⟩ := List.mem_map.1 hc
    have := ir_bd hs
    unfold may; exact decide_eq_true ⟨hg, this.1⟩
  · obtain ⟨s, hs, rfl⟩ := List.mem_map.1 hc
    have := ir_bd hs
    unfold may
    simp only [decide_eq_true_eq]
    omega
theorem rowC_no {T : Tm} {g : Int} (hg : ¬ g ≤ T.worst) (l : List Int) : rowC T g l = [] := by
  unfold rowC
  refine List.filter_eq_nil_iff.2 (fun c hc => ?_)
  obtain ⟨s, hs, rfl⟩ := List.mem_map.1 hc
  unfold may
  simp only [decide_eq_true_eq]
  exact fun q => hg q.1
theorem flatMap_congr' {α β : Type} {f g : α → List β} : ∀ {l : List α}, (∀ x ∈ l, f x = g x) → l.flatMap f = l.flatMap g
  | [], _ => rfl
  | x :: l, h => by rw [List.flatMap_cons, List.flatMap_cons, h x List.mem_cons_self, flatMap_congr' (fun y hy => h y (List.mem_cons_of_mem _ hy))]
theorem flatMap_nil' {α β : Type} {f : α → List β} : ∀ {l : List α}, (∀ x ∈ l, f x = []) → l.flatMap f = []
  | [], _ => rfl
  | x :: l, h => by rw [List.flatMap_cons, h x List.mem_cons_self, flatMap_nil' (fun y hy => h y (List.mem_cons_of_mem _ hy))]; rfl
theorem cls_l9 {T : Tm} (h : tmOk T) : cls T l9 = allC (lw T) := by
  have hc := h.cls
  unfold cls clsI allC allI l9 lw
  dsimp only
  have e : (ir 1 9).flatMap (fun g => rowC T g (ir 1 9)) = (ir 1 T.worst ++ ir (T.worst + 1) 9).flatMap (fun g => rowC T g (ir 1 9)) := congrArg (fun l => List.flatMap (fun g => rowC T g (ir 1 9)) l) (ir_split 1 T.worst 9 (by omega) (by omega))
  rw [e, List.flatMap_append]
  rw [flatMap_congr' (g := fun g => rowA g (ir T.short 9)) (fun g hg => rowC_l9 h (ir_bd hg).2), flatMap_nil' (fun g hg => rowC_no (by have := ir_bd hg; omega) _), List.append_nil]
theorem lea_snoc {f : Cl → Int} {D : List Cl} {c : Cl} : lea f (D ++ [c]) = f (bst f (D ++ [c])) := by
  unfold lea; rw [fnd_snoc, if_pos rfl]
set_option maxHeartbeats 8000000 in
theorem rcheap_spec (T : Tm) (p : Pt) (d : Dy) (H : List Row) (hT : TmOk H T p) (hok : tmOk T) (hD : DyOk H d) (hd : dayOk d) :
    Fc Try.prog 93 [.agg (cTm T p).toArray, .agg (cDy d).toArray] H (fun v H' => v = .tuple #[.agg (cCl (chp T d)).toArray, .int .i64 (coF T d (chp T d))] ∧ H' = H) := by
  have hc9 := cls_l9 hok
  have hcl := hok.cls
  have hdd : (0 ≤ d.price ∧ d.price ≤ 1000000) ∧ tab d.G ∧ tab d.S ∧ ∀ g s, 1 ≤ g ∧ g ≤ 9 → 1 ≤ s ∧ s ≤ 9 → 0 ≤ d.price + at1 d.G g + at1 d.S s := hd
  obtain ⟨f, hf⟩ : ∃ f, coF T d = f := ⟨_, rfl⟩
  have hres : .tuple #[Value.agg (cCl (chp T d)).toArray, .int .i64 (coF T d (chp T d))] = Value.tuple #[.agg (cCl (bst f (allC (lw T)))).toArray, .int .i64 (f (bst f (allC (lw T))))] := by
    unfold chp; rw [hc9, hf]
  rw [hres]
  have hfn : fnd (allC (lw T)) = true := by rw [← hc9]; exact fnd9 hok
  have hfb : ∀ c, in9 c → -1002000 ≤ f c ∧ f c ≤ 1004000 := fun c hc => by rw [← hf]; exact coF_bd hok hd hc
  refine Fc.mk (callable Try.call93) Try.func93 rfl Try.ntmps93 rfl ?_; dsimp only [fr]
  repeat' (first | (refine XO.op rfl ?_; (first | ((first | refine Xo.ng rfl ?_); (first | (refine Xg.ev (EvF.assign rfl rfl) rfl rfl ?_) | (refine Xg.st (StF.boxAgg rfl rfl) rfl rfl ?_; rintro _ _ ⟨bx, rfl, rfl⟩) | (refine Xg.st (StF.alloc rfl Try.zeroValue26 rfl) rfl rfl ?_; rintro _ _ ⟨bx, rfl, rfl⟩))))) | (refine XO.done rfl ?_; refine hK _ _ ?_; clear hK K) | refine X.seq rfl ?_ | refine X.region rfl (fun K hK => ?_) | refine X.block rfl ?_)
  rename_i b2 b3 b4
  obtain ⟨b6, hb6⟩ : ∃ b, b = bx := ⟨_, rfl⟩
  rw [← hb6]
  clear hb6
  obtain ⟨HH, hHH⟩ : ∃ HH : List Row, HH = ⟨b4, 0, cCl ⟨0, 0⟩, some 23, 2⟩ :: ⟨b3, 0, cDy d, some 65, 3⟩ :: ⟨b2, 0, cTm T p, some 28, 11⟩ :: H := ⟨_, rfl⟩
  have m3 : ∀ Z : List Row, ⟨b3, 0, cDy d, some 65, 3⟩ ∈ Z ++ HH := fun Z => List.mem_append_right _ (by rw [hHH]; exact (List.Mem.tail _ (List.Mem.head _)))
  have m2 : ∀ Z : List Row, ⟨b2, 0, cTm T p, some 28, 11⟩ ∈ Z ++ HH := fun Z => List.mem_append_right _ (by rw [hHH]; exact (List.Mem.tail _ (List.Mem.tail _ (List.Mem.head _))))
  have hTT : ∀ Z : List Row, TmOk (Z ++ HH) T p := fun Z => hT.sub (fun r hr => List.mem_append_right _ (by rw [hHH]; exact List.mem_append_right [_, _, _] hr))
  have hDD : ∀ Z : List Row, DyOk (Z ++ HH) d := fun Z => hD.sub (fun r hr => List.mem_append_right _ (by rw [hHH]; exact List.mem_append_right [_, _, _] hr))
  refine X.weakR (H' := ⟨b6, 0, cCl ⟨0, 0⟩, some 23, 2⟩ :: HH) (by rw [hHH]; exact (by (repeat (first | exact List.Sublist.refl _ | apply List.Sublist.cons_cons | apply List.Sublist.cons)); done)) ?_
  refine X.lp rfl (fun w F' H' => ∃ k : Nat, w = T.worst.toNat - k ∧ k ≤ T.worst.toNat ∧ H' = ⟨b6, 0, cCl (bst f (allI (lw T) ((ir 1 T.worst).take k))), some 23, 2⟩ :: HH ∧
      F' = [(2, .pointer (some ⟨b2, 0, none⟩)), (3, .pointer (some ⟨b3, 0, none⟩)), (4, .pointer (some ⟨b4, 0, none⟩)), (6, .pointer (some ⟨b6, 0, none⟩)), (7, .int .i64 (lea f (allI (lw T) ((ir 1 T.worst).take k)))), (8, .int .i64 (1 + k))])
    _ [(2, .pointer (some ⟨b2, 0, none⟩)), (3, .pointer (some ⟨b3, 0, none⟩)), (4, .pointer (some ⟨b4, 0, none⟩)), (6, .pointer (some ⟨b6, 0, none⟩)), (7, .int .i64 (lea f (allI (lw T) ((ir 1 T.worst).take 0)))), (8, .int .i64 (1 + (0 : Nat)))] _ (by (repeat (first | exact Sub.nil _ | refine Sub.cons rfl ?_)); done) (List.Sublist.refl _) ⟨0, rfl, by omega, rfl, rfl⟩ ?_
  rintro _ _ _ ⟨k, rfl, hk, rfl, rfl⟩
  repeat' (first | (refine XO.op rfl ?_; (first | ((first | refine Xo.ng rfl ?_); (first | (refine Xg.ev (EvF.loadV rfl rfl (LoadV.own (te rfl) rfl (m2 [_]) rfl)) rfl rfl ?_) | (refine Xg.ev (EvF.move rfl rfl) rfl rfl ?_) | (refine Xg.ev (EvF.assign rfl rfl) rfl rfl ?_) | (refine Xg.ev (EvF.cmp rfl rfl rfl rfl) rfl rfl ?_) | (refine Xg.ev (EvF.fieldAddr rfl rfl (te rfl) rfl (te rfl) (by decide)) rfl rfl ?_) | (refine Xg.ev (EvF.loadV rfl rfl (LoadV.whole (te rfl) rfl (List.Mem.head _) rfl)) rfl rfl ?_))))) | (refine XO.done rfl ?_; refine hK _ _ ?_; clear hK K) | refine X.seq rfl ?_ | refine X.region rfl (fun K hK => ?_) | refine X.block rfl ?_ | (refine X.brk rfl ?_; repeat (first | refine blockX_hit rfl ?_ | refine blockX_miss (by decide) ?_)) | refine X.skip rfl ?_ | (refine X.ite rfl rfl (fun hc => ?_); (first | (with_reducible refine Xb.case hc (fun h => ?_) (fun h => ?_))) <;> clear hc))
  · have hk1 : (k : Int) < T.worst - 1 + 1 := by omega
    refine X.lp rfl (fun w F' H' => ∃ j : Nat, w = (9 - T.short + 1).toNat - j ∧ j ≤ (9 - T.short + 1).toNat ∧ H' = ⟨b6, 0, cCl (bst f (allI (lw T) ((ir 1 T.worst).take k) ++ rowA (1 + k) ((ir T.short 9).take j))), some 23, 2⟩ :: HH ∧
        F' = [(2, .pointer (some ⟨b2, 0, none⟩)), (3, .pointer (some ⟨b3, 0, none⟩)), (4, .pointer (some ⟨b4, 0, none⟩)), (6, .pointer (some ⟨b6, 0, none⟩)), (7, .int .i64 (lea f (allI (lw T) ((ir 1 T.worst).take k) ++ rowA (1 + k) ((ir T.short 9).take j)))), (8, .int .i64 (1 + k)), (9, .int .i64 (T.short + j))])
      _ [(2, .pointer (some ⟨b2, 0, none⟩)), (3, .pointer (some ⟨b3, 0, none⟩)), (4, .pointer (some ⟨b4, 0, none⟩)), (6, .pointer (some ⟨b6, 0, none⟩)), (7, .int .i64 (lea f (allI (lw T) ((ir 1 T.worst).take k) ++ rowA (1 + k) ((ir T.short 9).take 0)))), (8, .int .i64 (1 + k)), (9, .int .i64 (T.short + (0 : Nat)))] _ (by rw [show T.short + ((0 : Nat) : Int) = T.short by omega, List.take_zero, show rowA (1 + k) [] = [] from rfl, List.append_nil]; exact (by (repeat (first | exact Sub.nil _ | refine Sub.cons rfl ?_)); done)) (by rw [List.take_zero, show rowA (1 + k) [] = [] from rfl, List.append_nil]; exact List.Sublist.refl _) ⟨0, rfl, by omega, rfl, rfl⟩ ?_
    rintro _ _ _ ⟨j, rfl, hj, rfl, rfl⟩
    repeat' (first | (refine XO.op rfl ?_; (first | ((first | refine Xo.ng rfl ?_); (first | (refine Xg.ev (EvF.move rfl rfl) rfl rfl ?_) | (refine Xg.ev (EvF.assign rfl rfl) rfl rfl ?_) | (refine Xg.ev (EvF.cmp rfl rfl rfl rfl) rfl rfl ?_) | (refine Xg.ev (EvF.add64 rfl rfl rfl (by omega) (by omega)) rfl rfl ?_))))) | (refine XO.done rfl ?_; refine hK _ _ ?_; clear hK K) | refine X.seq rfl ?_ | refine X.region rfl (fun K hK => ?_) | refine X.block rfl ?_ | (refine X.brk rfl ?_; repeat (first | refine blockX_hit rfl ?_ | refine blockX_miss (by decide) ?_)) | refine X.skip rfl ?_ | (refine X.ite rfl rfl (fun hc => ?_); (first | (with_reducible refine Xb.case hc (fun h => ?_) (fun h => ?_))) <;> clear hc))
    · have hj1 : (j : Int) < 9 - T.short + 1 := by omega
      have hsn := rowA_snoc (1 + k) (lw T) hj1
      change rowA (1 + k) ((ir T.short 9).take (j + 1)) = rowA (1 + k) ((ir T.short 9).take j) ++ [⟨1 + k, T.short + j⟩] at hsn
      have hin : in9 ⟨1 + k, T.short + j⟩ := ⟨by dsimp only; omega, by dsimp only; omega⟩
      have hDin : ∀ c ∈ allI (lw T) ((ir 1 T.worst).take k) ++ rowA (1 + k) ((ir T.short 9).take j), in9 c := by
        intro c hc
        rcases List.mem_append.1 hc with hc | hc
        · unfold allI rowA at hc
          obtain ⟨g, hg, hc⟩ := List.mem_flatMap.1 hc
          obtain ⟨s, hs, rfl⟩ := List.mem_map.1 hc
          have h1 := ir_bd (List.mem_of_mem_take hg)
          have h2 := ir_bd hs
          unfold lw at h2
          exact ⟨by dsimp only; omega, by dsimp only at h2 ⊢; omega⟩
        · unfold rowA at hc
          obtain ⟨s, hs, rfl⟩ := List.mem_map.1 hc
          have h2 := ir_bd (List.mem_of_mem_take hs)
          exact ⟨by dsimp only; omega, by dsimp only; omega⟩
      have hD2 : allI (lw T) ((ir 1 T.worst).take k) ++ rowA (1 + k) ((ir T.short 9).take (j + 1)) = allI (lw T) ((ir 1 T.worst).take k) ++ rowA (1 + k) ((ir T.short 9).take j) ++ [⟨1 + k, T.short + j⟩] := by rw [hsn, ← List.append_assoc]
      generalize allI (lw T) ((ir 1 T.worst).take k) ++ rowA (1 + k) ((ir T.short 9).take j) = D at hDin hD2 ⊢
      have hco := fun H h => rcosts_spec d ⟨1 + k, T.short + j⟩ H h hdd.2.1 hdd.2.2.1 hdd.1 hin
      have hva := fun H h => rvalue_spec T p ⟨1 + k, T.short + j⟩ H h hok.gr hok.st (by have := hok.num.1; omega) hin.1 hin.2
      have hn1 := dco_bd hd hin
      have hn2 := val_bd hok (1 + k) (T.short + j)
      have hfx : dco d ⟨1 + k, T.short + j⟩ - val T (1 + k) (T.short + j) = f ⟨1 + k, T.short + j⟩ := by rw [← hf]; rfl
      dsimp only at hva
      obtain ⟨A, hA⟩ : ∃ A, dco d ⟨1 + k, T.short + j⟩ = A := ⟨_, rfl⟩
      obtain ⟨B, hB⟩ : ∃ B, val T (1 + k) (T.short + j) = B := ⟨_, rfl⟩
      rw [hA] at hco hn1 hfx
      rw [hB] at hva hn2 hfx
      obtain ⟨o, ho⟩ : ∃ o, fnd D = o := ⟨_, rfl⟩
      cases o
      · have e1 : bst f D = ⟨0, 0⟩ := by rw [fnd_false ho]; rfl
        have e2 : lea f D = 0 := by unfold lea; rw [ho]; rfl
        rw [e1, e2]
        repeat' (first | (refine XO.op rfl ?_; (first | ((first | refine Xo.ng rfl ?_); (first | (refine Xg.ev (EvF.build (cs := cCl ⟨1 + k, T.short + j⟩) rfl (ArgsP.cons rfl (ArgsP.cons rfl ArgsP.nil)) (te rfl) (Places.cons (te rfl) (Places.cons (te rfl) Places.nil)) Try.zeroValue23 rfl) rfl rfl ?_) | (refine Xg.ev (EvF.move rfl rfl) rfl rfl ?_) | (refine Xg.ev (EvF.assign rfl rfl) rfl rfl ?_) | (refine Xg.ev (EvF.pickT rfl rfl rfl) rfl rfl ?_) | (refine Xg.ev (EvF.cmp rfl rfl rfl rfl) rfl rfl ?_) | (refine Xg.ev (EvF.add64 rfl rfl rfl (by omega) (by omega)) rfl rfl ?_) | (refine Xg.ev (EvF.fieldAddr rfl rfl (te rfl) rfl (te rfl) (by decide)) rfl rfl ?_) | (refine Xg.ev (EvF.loadV rfl rfl (LoadV.own (te rfl) rfl (List.Mem.tail _ (List.Mem.head _)) rfl)) rfl rfl ?_) | (refine Xg.ev (EvF.loadV rfl rfl (LoadV.whole (te rfl) rfl (List.Mem.head _) rfl)) rfl rfl ?_) | (refine Xg.st (StF.alloc rfl Try.zeroValue26 rfl) rfl rfl ?_; rintro _ _ ⟨bx, rfl, rfl⟩) | (refine Xg.st0 (StF.storeAll (i := 0) rfl rfl rfl (te rfl) rfl rfl rfl rfl) rfl ?_; rintro _ _ ⟨rfl, rfl⟩; dsimp only [List.set]) | (refine Xg.st0 (StF.storeAll (i := 1) rfl rfl rfl (te rfl) rfl rfl rfl rfl) rfl ?_; rintro _ _ ⟨rfl, rfl⟩; dsimp only [List.set]))) | (refine Xo.g rfl rfl ?_; (first | (with_reducible refine Xw.tf rfl rfl ?_) | (with_reducible refine Xw.case (fun h => ?_) (fun h => ?_) <;> simp only [h, decide_true, decide_false, Bool.not_true, Bool.not_false, and_self, and_true, true_and, and_false, false_and]))))) | (refine XO.done rfl ?_; refine hK _ _ ?_; clear hK K) | (refine XQ.op rfl ?_; (first | ((first | refine Yo.ng rfl ?_); (first | (refine Yg.ev (EvF.loadV rfl rfl (LoadV.whole (te rfl) rfl (m3 [_, _]) rfl)) rfl rfl ?_) | (refine Yg.ev (EvF.loadV rfl rfl (LoadV.whole (te rfl) rfl (m2 [_, _]) rfl)) rfl rfl ?_) | (refine Yg.call (EnF.st rfl (Args.cons rfl (Args.cons rfl Args.nil))) rfl rfl (hco _ (hDD [_, _])) ?_) | (refine Yg.call (EnF.st rfl (Args.cons rfl (Args.cons rfl Args.nil))) rfl rfl (hva _ (hTT [_, _])) ?_) | (refine Yg.ev (EvF.assign rfl rfl) rfl rfl ?_) | (refine Yg.ev (EvF.sub64 rfl rfl rfl (by omega) (by omega)) rfl rfl ?_) | (refine Yg.ev (EvF.loadV rfl rfl (LoadV.whole (te rfl) rfl (List.Mem.head _) rfl)) rfl rfl ?_))))) | (refine XQ.done rfl ?_; refine hK _ ?_; clear hK K) | refine X.seq rfl ?_ | refine X.region rfl (fun K hK => ?_) | refine X.regionD rfl mixed (by kernel_rfl) (fun K hK => ?_) | (refine X.ite rfl rfl (fun hc => ?_); (first | (with_reducible refine Xb.t hc ?_)) <;> clear hc))
        all_goals try (exfalso; contradiction)
        have e3 : bst f (allI (lw T) ((ir 1 T.worst).take k) ++ rowA (1 + k) ((ir T.short 9).take (j + 1))) = ⟨1 + k, T.short + j⟩ := by rw [hD2, bst_one ho]
        have e4 : lea f (allI (lw T) ((ir 1 T.worst).take k) ++ rowA (1 + k) ((ir T.short 9).take (j + 1))) = A - B := by rw [hD2, lea_snoc, bst_one ho, hfx]
        refine ⟨_, [(2, .pointer (some ⟨b2, 0, none⟩)), (3, .pointer (some ⟨b3, 0, none⟩)), (4, .pointer (some ⟨b4, 0, none⟩)), (6, .pointer (some ⟨b6, 0, none⟩)), (7, .int .i64 (A - B)), (8, .int .i64 (1 + k)), (9, .int .i64 (T.short + (j + 1 : Nat)))], ⟨b6, 0, cCl ⟨1 + k, T.short + j⟩, some 23, 2⟩ :: HH, (by rw [show T.short + ((j + 1 : Nat) : Int) = T.short + j + 1 by omega]; exact (by (repeat (first | exact Sub.nil _ | refine Sub.cons rfl ?_)); done)), (by (repeat (first | exact List.Sublist.refl _ | apply List.Sublist.cons_cons | apply List.Sublist.cons)); done), ⟨j + 1, rfl, by omega, by rw [e3], by rw [e4]⟩, by omega⟩
      · have hbi := hDin _ (bst_mem (k := f) ho)
        have e2 : lea f D = f (bst f D) := by unfold lea; rw [ho, if_pos rfl]
        rw [e2]
        obtain ⟨b, hb⟩ : ∃ b, bst f D = b := ⟨_, rfl⟩
        rw [hb] at hbi ⊢
        have hbi1 := hbi.1
        repeat' (first | (refine XO.op rfl ?_; (first | ((first | refine Xo.ng rfl ?_ | (refine Xo.g rfl rfl ?_; with_reducible refine Xw.ff ?_)); (first | (refine Xg.ev (EvF.build (cs := cCl ⟨1 + k, T.short + j⟩) rfl (ArgsP.cons rfl (ArgsP.cons rfl ArgsP.nil)) (te rfl) (Places.cons (te rfl) (Places.cons (te rfl) Places.nil)) Try.zeroValue23 rfl) rfl rfl ?_) | (refine Xg.ev (EvF.move rfl rfl) rfl rfl ?_) | (refine Xg.ev (EvF.assign rfl rfl) rfl rfl ?_) | (refine Xg.ev (EvF.pickT rfl rfl rfl) rfl rfl ?_) | (refine Xg.ev (EvF.pickF rfl rfl rfl) rfl rfl ?_) | (refine Xg.ev (EvF.cmp rfl rfl rfl rfl) rfl rfl ?_) | (refine Xg.ev (EvF.add64 rfl rfl rfl (by omega) (by omega)) rfl rfl ?_) | (refine Xg.ev (EvF.fieldAddr rfl rfl (te rfl) rfl (te rfl) (by decide)) rfl rfl ?_) | (refine Xg.ev (EvF.loadV rfl rfl (LoadV.own (te rfl) rfl (List.Mem.tail _ (List.Mem.head _)) rfl)) rfl rfl ?_) | (refine Xg.ev (EvF.loadV rfl rfl (LoadV.whole (te rfl) rfl (List.Mem.head _) rfl)) rfl rfl ?_) | (refine Xg.st (StF.alloc rfl Try.zeroValue26 rfl) rfl rfl ?_; rintro _ _ ⟨bx, rfl, rfl⟩) | (refine Xg.st0 (StF.storeAll (i := 0) rfl rfl rfl (te rfl) rfl rfl rfl rfl) rfl ?_; rintro _ _ ⟨rfl, rfl⟩; dsimp only [List.set]) | (refine Xg.st0 (StF.storeAll (i := 1) rfl rfl rfl (te rfl) rfl rfl rfl rfl) rfl ?_; rintro _ _ ⟨rfl, rfl⟩; dsimp only [List.set]))) | (refine Xo.g rfl rfl ?_; (first | (with_reducible refine Xw.tf rfl rfl ?_) | (with_reducible refine Xw.case (fun h => ?_) (fun h => ?_) <;> simp only [h, decide_true, decide_false, Bool.not_true, Bool.not_false, and_self, and_true, true_and, and_false, false_and]))))) | (refine XO.done rfl ?_; refine hK _ _ ?_; clear hK K) | (refine XQ.op rfl ?_; (first | ((first | refine Yo.ng rfl ?_); (first | (refine Yg.ev (EvF.loadV rfl rfl (LoadV.whole (te rfl) rfl (m3 [_, _]) rfl)) rfl rfl ?_) | (refine Yg.ev (EvF.loadV rfl rfl (LoadV.whole (te rfl) rfl (m2 [_, _]) rfl)) rfl rfl ?_) | (refine Yg.call (EnF.st rfl (Args.cons rfl (Args.cons rfl Args.nil))) rfl rfl (hco _ (hDD [_, _])) ?_) | (refine Yg.call (EnF.st rfl (Args.cons rfl (Args.cons rfl Args.nil))) rfl rfl (hva _ (hTT [_, _])) ?_) | (refine Yg.ev (EvF.assign rfl rfl) rfl rfl ?_) | (refine Yg.ev (EvF.sub64 rfl rfl rfl (by omega) (by omega)) rfl rfl ?_) | (refine Yg.ev (EvF.loadV rfl rfl (LoadV.whole (te rfl) rfl (List.Mem.head _) rfl)) rfl rfl ?_))))) | (refine XQ.done rfl ?_; refine hK _ ?_; clear hK K) | refine X.seq rfl ?_ | refine X.region rfl (fun K hK => ?_) | refine X.regionD rfl mixed (by kernel_rfl) (fun K hK => ?_) | refine X.skip rfl ?_ | (refine X.ite rfl rfl (fun hc => ?_); (first | (with_reducible refine Xb.t hc ?_) | (with_reducible refine Xb.case hc (fun h => ?_) (fun h => ?_))) <;> clear hc))
        all_goals try (exfalso; omega)
        · have e3 : bst f (allI (lw T) ((ir 1 T.worst).take k) ++ rowA (1 + k) ((ir T.short 9).take (j + 1))) = ⟨1 + k, T.short + j⟩ := by rw [hD2, bst_snoc ho, hb, if_pos (by rw [← hfx]; assumption)]
          have e4 : lea f (allI (lw T) ((ir 1 T.worst).take k) ++ rowA (1 + k) ((ir T.short 9).take (j + 1))) = A - B := by rw [hD2, lea_snoc, bst_snoc ho, hb, if_pos (by rw [← hfx]; assumption), hfx]
          refine ⟨_, [(2, .pointer (some ⟨b2, 0, none⟩)), (3, .pointer (some ⟨b3, 0, none⟩)), (4, .pointer (some ⟨b4, 0, none⟩)), (6, .pointer (some ⟨b6, 0, none⟩)), (7, .int .i64 (A - B)), (8, .int .i64 (1 + k)), (9, .int .i64 (T.short + (j + 1 : Nat)))], ⟨b6, 0, cCl ⟨1 + k, T.short + j⟩, some 23, 2⟩ :: HH, (by rw [show T.short + ((j + 1 : Nat) : Int) = T.short + j + 1 by omega]; exact (by (repeat (first | exact Sub.nil _ | refine Sub.cons rfl ?_)); done)), (by (repeat (first | exact List.Sublist.refl _ | apply List.Sublist.cons_cons | apply List.Sublist.cons)); done), ⟨j + 1, rfl, by omega, by rw [e3], by rw [e4]⟩, by omega⟩
        · have e3 : bst f (allI (lw T) ((ir 1 T.worst).take k) ++ rowA (1 + k) ((ir T.short 9).take (j + 1))) = b := by rw [hD2, bst_snoc ho, hb, if_neg (by rw [← hfx]; assumption)]
          have e4 : lea f (allI (lw T) ((ir 1 T.worst).take k) ++ rowA (1 + k) ((ir T.short 9).take (j + 1))) = f b := by rw [hD2, lea_snoc, bst_snoc ho, hb, if_neg (by rw [← hfx]; assumption)]
          refine ⟨_, [(2, .pointer (some ⟨b2, 0, none⟩)), (3, .pointer (some ⟨b3, 0, none⟩)), (4, .pointer (some ⟨b4, 0, none⟩)), (6, .pointer (some ⟨b6, 0, none⟩)), (7, .int .i64 (f b)), (8, .int .i64 (1 + k)), (9, .int .i64 (T.short + (j + 1 : Nat)))], ⟨b6, 0, cCl b, some 23, 2⟩ :: HH, (by rw [show T.short + ((j + 1 : Nat) : Int) = T.short + j + 1 by omega]; exact (by (repeat (first | exact Sub.nil _ | refine Sub.cons rfl ?_)); done)), (by (repeat (first | exact List.Sublist.refl _ | apply List.Sublist.cons_cons | apply List.Sublist.cons)); done), ⟨j + 1, rfl, by omega, by rw [e3], by rw [e4]⟩, by omega⟩
    · rw [List.take_of_length_le (i := j) (by rw [ir_len]; omega), show allI (lw T) ((ir 1 T.worst).take k) ++ rowA (1 + k) (ir T.short 9) = allI (lw T) ((ir 1 T.worst).take (k + 1)) from (allI_snoc (lw T) hk1).symm]
      repeat' (first | fail)
      refine ⟨_, [(2, .pointer (some ⟨b2, 0, none⟩)), (3, .pointer (some ⟨b3, 0, none⟩)), (4, .pointer (some ⟨b4, 0, none⟩)), (6, .pointer (some ⟨b6, 0, none⟩)), (7, .int .i64 (lea f (allI (lw T) ((ir 1 T.worst).take (k + 1))))), (8, .int .i64 (1 + (k + 1 : Nat)))], _, (by rw [show (1 : Int) + ((k + 1 : Nat) : Int) = 1 + k + 1 by omega]; exact (by (repeat (first | exact Sub.nil _ | refine Sub.cons rfl ?_)); done)), List.Sublist.refl _, ⟨k + 1, rfl, by omega, rfl, rfl⟩, by omega⟩
  · rw [List.take_of_length_le (i := k) (by rw [ir_len]; omega)]
    have hal : allI (lw T) (ir 1 T.worst) = allC (lw T) := rfl
    have hle : lea f (allC (lw T)) = f (bst f (allC (lw T))) := by unfold lea; rw [hfn, if_pos rfl]
    rw [hal, hle]
    clear hTT hDD m2 m3
    subst hHH
    repeat' (first | (refine XO.op rfl ?_; (first | ((first | refine Xo.ng rfl ?_); (first | (refine Xg.ev (EvF.assign rfl rfl) rfl rfl ?_) | (refine Xg.st0 (StF.storeAll (i := 1) rfl rfl rfl (te rfl) rfl rfl rfl rfl) rfl ?_; rintro _ _ ⟨rfl, rfl⟩; dsimp only [List.set]))))) | (refine XO.done rfl ?_; refine hK _ _ ?_; clear hK K) | refine X.ret rfl ?_)
    exact ret_two (v := .agg (cCl (bst f (allC (lw T)))).toArray) (by first | exact .inr rfl | exact .inl rfl) Try.results93 ⟨_, rfl, LoadV.whole (te rfl) rfl (List.Mem.tail _ (List.Mem.head _)) rfl⟩ rfl (H' := H) (by (repeat (first | exact List.Sublist.refl _ | apply List.Sublist.cons)); done) ⟨rfl, rfl⟩
end Go.Proofs.Ytfpmhdjhcoogpaa
end
section
set_option linter.unusedVariables false
set_option linter.unusedSimpArgs false
namespace Go.Proofs.Ytfpmhdjhcoogpaa
open Go Go.Fw
set_option maxRecDepth 10000
theorem rdayT (d : Dy) (h : dayOk d) (H : List Row) (hD : DyOk H d) : Fc Try.prog 92 [.agg (cDy d).toArray] H (fun v H' => v = .bool true ∧ H' = H) := by
  have := rday_spec d H hD
  rwa [decide_eq_true h] at this
theorem rdayF (d : Dy) (h : ¬ dayOk d) (H : List Row) (hD : DyOk H d) : Fc Try.prog 92 [.agg (cDy d).toArray] H (fun v H' => v = .bool false ∧ H' = H) := by
  have := rday_spec d H hD
  rwa [decide_eq_false h] at this
set_option maxHeartbeats 4000000 in
theorem rCheapest_spec (T : Tm) (p : Pt) (d : Dy) (H : List Row) (hT : TmOk H T p) (hD : DyOk H d) :
    Fc Try.prog 32 [.agg (cTm T p).toArray, .agg (cDy d).toArray] H (fun v H' => v = .tuple #[.agg (cCl (chC T d)).toArray, .int .i64 (chN T d), .int .i64 (dayE T d)] ∧ H' = H) := by
  have hT1 : ∀ Z : List Row, TmOk (Z ++ H) T p := fun Z => hT.sub (fun _ h => List.mem_append_right _ h)
  have hD1 : ∀ Z : List Row, DyOk (Z ++ H) d := fun Z => hD.sub (fun _ h => List.mem_append_right _ h)
  unfold chC chN dayE
  by_cases hok : tmOk T
  · rw [if_pos hok]
    by_cases hd : dayOk d
    · rw [if_pos hd, if_pos rfl, if_pos rfl]
      refine Fc.mk (callable Try.call32) Try.func32 rfl Try.ntmps32 rfl ?_; dsimp only [fr]
      repeat' (first | (refine XO.op rfl ?_; (first | ((first | refine Xo.ng rfl ?_); (first | (refine Xg.call (EnF.st rfl (Args.cons rfl Args.nil)) rfl rfl (rtermsT T p hok _ (hT1 [_, _, _])) ?_; rintro _ H9 ⟨rfl, hH9⟩; subst H9) | (refine Xg.call (EnF.st rfl (Args.cons rfl Args.nil)) rfl rfl (rdayT d hd _ (hD1 [_, _, _])) ?_; rintro _ H9 ⟨rfl, hH9⟩; subst H9) | (refine Xg.call (EnF.st rfl (Args.cons rfl (Args.cons rfl Args.nil))) rfl rfl (rcheap_spec T p d _ (hT1 [_, _, _]) hok (hD1 [_, _, _]) hd) ?_; rintro _ H9 ⟨rfl, hH9⟩; subst H9) | (refine Xg.ev (EvF.move rfl rfl) rfl rfl ?_) | (refine Xg.ev (EvF.assign rfl rfl) rfl rfl ?_) | (refine Xg.ev (EvF.not rfl rfl) rfl rfl ?_) | (refine Xg.ev (EvF.loadV rfl rfl (LoadV.whole (te rfl) rfl (List.Mem.head _) rfl)) rfl rfl ?_) | (refine Xg.ev (EvF.loadV rfl rfl (LoadV.whole (te rfl) rfl (List.Mem.tail _ (List.Mem.head _)) rfl)) rfl rfl ?_) | (refine Xg.ev (EvF.loadV rfl rfl (LoadV.whole (te rfl) rfl (List.Mem.tail _ (List.Mem.tail _ (List.Mem.head _))) rfl)) rfl rfl ?_) | (refine Xg.ev (EvF.extract rfl rfl rfl) rfl rfl ?_) | (refine Xg.st (StF.boxAgg rfl rfl) rfl rfl ?_; rintro _ _ ⟨bx, rfl, rfl⟩) | (refine Xg.st (StF.alloc rfl Try.zeroValue26 rfl) rfl rfl ?_; rintro _ _ ⟨bx, rfl, rfl⟩) | (refine Xg.st0 (StF.storeAll (i := 0) rfl rfl rfl (te rfl) rfl rfl rfl rfl) rfl ?_; rintro _ _ ⟨rfl, rfl⟩; dsimp only [List.set]) | (refine Xg.st0 (StF.storeAll (i := 1) rfl rfl rfl (te rfl) rfl rfl rfl rfl) rfl ?_; rintro _ _ ⟨rfl, rfl⟩; dsimp only [List.set]))))) | (refine XO.done rfl ?_; refine hK _ _ ?_; clear hK K) | refine X.seq rfl ?_ | refine X.region rfl (fun K hK => ?_) | refine X.skip rfl ?_ | refine X.ret rfl ?_ | (refine X.ite rfl rfl (fun hc => ?_); (first | (with_reducible refine Xb.caseB hc (fun h => ?_) (fun h => ?_))) <;> clear hc))
      all_goals try (exfalso; contradiction)
      exact ret_three (v := .agg (cCl (chp T d)).toArray) (by first | exact .inr rfl | exact .inl rfl) Try.results32 ⟨_, rfl, LoadV.whole (te rfl) rfl (List.Mem.tail _ (List.Mem.head _)) rfl⟩ rfl rfl (H' := H) (by (repeat (first | exact List.Sublist.refl _ | apply List.Sublist.cons)); done) ⟨rfl, rfl⟩
    · rw [if_neg hd, if_neg (by decide), if_neg (by decide)]
      refine Fc.mk (callable Try.call32) Try.func32 rfl Try.ntmps32 rfl ?_; dsimp only [fr]
      repeat' (first | (refine XO.op rfl ?_; (first | ((first | refine Xo.ng rfl ?_); (first | (refine Xg.call (EnF.st rfl (Args.cons rfl Args.nil)) rfl rfl (rtermsT T p hok _ (hT1 [_, _, _])) ?_; rintro _ H9 ⟨rfl, hH9⟩; subst H9) | (refine Xg.call (EnF.st rfl (Args.cons rfl Args.nil)) rfl rfl (rdayF d hd _ (hD1 [_, _, _])) ?_; rintro _ H9 ⟨rfl, hH9⟩; subst H9) | (refine Xg.ev (EvF.build (cs := cCl ⟨0, 0⟩) rfl ArgsP.nil (te rfl) (Places.cons (te rfl) (Places.cons (te rfl) Places.nil)) Try.zeroValue23 rfl) rfl rfl ?_) | (refine Xg.ev (EvF.assign rfl rfl) rfl rfl ?_) | (refine Xg.ev (EvF.not rfl rfl) rfl rfl ?_) | (refine Xg.ev (EvF.loadV rfl rfl (LoadV.whole (te rfl) rfl (List.Mem.tail _ (List.Mem.head _)) rfl)) rfl rfl ?_) | (refine Xg.ev (EvF.loadV rfl rfl (LoadV.whole (te rfl) rfl (List.Mem.tail _ (List.Mem.tail _ (List.Mem.head _))) rfl)) rfl rfl ?_) | (refine Xg.st (StF.boxAgg rfl rfl) rfl rfl ?_; rintro _ _ ⟨bx, rfl, rfl⟩) | (refine Xg.st (StF.alloc rfl Try.zeroValue26 rfl) rfl rfl ?_; rintro _ _ ⟨bx, rfl, rfl⟩) | (refine Xg.st0 (StF.storeAll (i := 0) rfl rfl rfl (te rfl) rfl rfl rfl rfl) rfl ?_; rintro _ _ ⟨rfl, rfl⟩; dsimp only [List.set]))))) | (refine XO.done rfl ?_; refine hK _ _ ?_; clear hK K) | refine X.seq rfl ?_ | refine X.region rfl (fun K hK => ?_) | refine X.skip rfl ?_ | refine X.ret rfl ?_ | (refine X.ite rfl rfl (fun hc => ?_); (first | (with_reducible refine Xb.caseB hc (fun h => ?_) (fun h => ?_))) <;> clear hc))
      all_goals try (exfalso; contradiction)
      exact ret_three (v := .agg (cCl ⟨0, 0⟩).toArray) (by first | exact .inr rfl | exact .inl rfl) Try.results32 ⟨_, rfl, LoadV.whole (te rfl) rfl (List.Mem.head _) rfl⟩ rfl rfl (H' := H) (by (repeat (first | exact List.Sublist.refl _ | apply List.Sublist.cons)); done) ⟨rfl, rfl⟩
  · rw [if_neg hok, if_neg (by decide), if_neg (by decide)]
    refine Fc.mk (callable Try.call32) Try.func32 rfl Try.ntmps32 rfl ?_; dsimp only [fr]
    repeat' (first | (refine XO.op rfl ?_; (first | ((first | refine Xo.ng rfl ?_); (first | (refine Xg.call (EnF.st rfl (Args.cons rfl Args.nil)) rfl rfl (rtermsF T p hok _ (hT1 [_, _, _])) ?_; rintro _ H9 ⟨rfl, hH9⟩; subst H9) | (refine Xg.ev (EvF.build (cs := cCl ⟨0, 0⟩) rfl ArgsP.nil (te rfl) (Places.cons (te rfl) (Places.cons (te rfl) Places.nil)) Try.zeroValue23 rfl) rfl rfl ?_) | (refine Xg.ev (EvF.assign rfl rfl) rfl rfl ?_) | (refine Xg.ev (EvF.not rfl rfl) rfl rfl ?_) | (refine Xg.ev (EvF.loadV rfl rfl (LoadV.whole (te rfl) rfl (List.Mem.tail _ (List.Mem.head _)) rfl)) rfl rfl ?_) | (refine Xg.ev (EvF.loadV rfl rfl (LoadV.whole (te rfl) rfl (List.Mem.tail _ (List.Mem.tail _ (List.Mem.head _))) rfl)) rfl rfl ?_) | (refine Xg.st (StF.boxAgg rfl rfl) rfl rfl ?_; rintro _ _ ⟨bx, rfl, rfl⟩) | (refine Xg.st (StF.alloc rfl Try.zeroValue26 rfl) rfl rfl ?_; rintro _ _ ⟨bx, rfl, rfl⟩) | (refine Xg.st0 (StF.storeAll (i := 0) rfl rfl rfl (te rfl) rfl rfl rfl rfl) rfl ?_; rintro _ _ ⟨rfl, rfl⟩; dsimp only [List.set]))))) | (refine XO.done rfl ?_; refine hK _ _ ?_; clear hK K) | refine X.seq rfl ?_ | refine X.region rfl (fun K hK => ?_) | refine X.skip rfl ?_ | refine X.ret rfl ?_ | (refine X.ite rfl rfl (fun hc => ?_); (first | (with_reducible refine Xb.caseB hc (fun h => ?_) (fun h => ?_))) <;> clear hc))
    all_goals try (exfalso; contradiction)
    exact ret_three (v := .agg (cCl ⟨0, 0⟩).toArray) (by first | exact .inr rfl | exact .inl rfl) Try.results32 ⟨_, rfl, LoadV.whole (te rfl) rfl (List.Mem.head _) rfl⟩ rfl rfl (H' := H) (by (repeat (first | exact List.Sublist.refl _ | apply List.Sublist.cons)); done) ⟨rfl, rfl⟩
set_option maxHeartbeats 4000000 in
theorem rDearer_spec (T : Tm) (p : Pt) (d : Dy) (c : Cl) (H : List Row) (hT : TmOk H T p) (hD : DyOk H d) :
    Fc Try.prog 34 [.agg (cTm T p).toArray, .agg (cDy d).toArray, .agg (cCl c).toArray] H (fun v H' => v = .tuple #[.int .i64 (deN T d c), .int .i64 (deaE T d c)] ∧ H' = H) := by
  have hT1 : ∀ Z : List Row, TmOk (Z ++ H) T p := fun Z => hT.sub (fun _ h => List.mem_append_right _ h)
  have hD1 : ∀ Z : List Row, DyOk (Z ++ H) d := fun Z => hD.sub (fun _ h => List.mem_append_right _ h)
  have hch := fun H h h' => rCheapest_spec T p d H h h'
  unfold deN deaE
  unfold chC chN at hch
  obtain ⟨er, her⟩ : ∃ e, dayE T d = e := ⟨_, rfl⟩
  rw [her] at hch ⊢
  by_cases h0 : er = 0
  · subst h0
    obtain ⟨hok, hd⟩ := dayE_zero her
    have hdd : (0 ≤ d.price ∧ d.price ≤ 1000000) ∧ tab d.G ∧ tab d.S ∧ ∀ g s, 1 ≤ g ∧ g ≤ 9 → 1 ≤ s ∧ s ≤ 9 → 0 ≤ d.price + at1 d.G g + at1 d.S s := hd
    rw [if_pos rfl, if_pos rfl] at hch
    rw [if_pos rfl]
    have q2 := coF_bd hok hd (chp_in9 hok d)
    obtain ⟨ce, hce⟩ : ∃ e, clsE c = e := ⟨_, rfl⟩
    have hcs := fun H => rclass_spec c H
    rw [hce] at hcs ⊢
    by_cases h1 : ce = 0
    · subst h1
      have hin : in9 c := clsE_zero hce
      rw [if_pos rfl]
      have q1 := coF_bd hok hd hin
      have qa := dco_bd hd hin
      have qb := val_bd hok c.g c.s
      have hcf : coF T d c = dco d c - val T c.g c.s := rfl
      rw [hcf] at q1 ⊢
      generalize coF T d (chp T d) = z at hch q2 ⊢
      obtain ⟨y, hy⟩ : ∃ y, may T c = y := ⟨_, rfl⟩
      have hmy := fun H => rmay_spec T p c H
      rw [hy] at hmy ⊢
      cases y
      · rw [if_neg (by decide), if_neg (by decide)]
        refine Fc.mk (callable Try.call34) Try.func34 rfl Try.ntmps34 rfl ?_; dsimp only [fr]
        repeat' (first | (refine XO.op rfl ?_; (first | ((first | refine Xo.ng rfl ?_); (first | (refine Xg.call (EnF.st rfl (Args.cons rfl (Args.cons rfl Args.nil))) rfl rfl (hch _ (hT1 [_, _, _]) (hD1 [_, _, _])) ?_; rintro _ H9 ⟨rfl, hH9⟩; subst H9) | (refine Xg.call (EnF.st rfl (Args.cons rfl Args.nil)) rfl rfl (hcs _) ?_; rintro _ H9 ⟨rfl, hH9⟩; subst H9) | (refine Xg.call (EnF.st rfl (Args.cons rfl (Args.cons rfl Args.nil))) rfl rfl (hmy _) ?_; rintro _ H9 ⟨rfl, hH9⟩; subst H9) | (refine Xg.ev (EvF.move rfl rfl) rfl rfl ?_) | (refine Xg.ev (EvF.assign rfl rfl) rfl rfl ?_) | (refine Xg.ev (EvF.cmp rfl rfl rfl rfl) rfl rfl ?_) | (refine Xg.ev (EvF.not rfl rfl) rfl rfl ?_) | (refine Xg.ev (EvF.loadV rfl rfl (LoadV.whole (te rfl) rfl (List.Mem.tail _ (List.Mem.head _)) rfl)) rfl rfl ?_) | (refine Xg.ev (EvF.loadV rfl rfl (LoadV.whole (te rfl) rfl (List.Mem.tail _ (List.Mem.tail _ (List.Mem.head _))) rfl)) rfl rfl ?_) | (refine Xg.ev (EvF.loadV rfl rfl (LoadV.whole (te rfl) rfl (List.Mem.tail _ (List.Mem.tail _ (List.Mem.tail _ (List.Mem.head _)))) rfl)) rfl rfl ?_) | (refine Xg.ev (EvF.extract rfl rfl rfl) rfl rfl ?_) | (refine Xg.st (StF.boxAgg rfl rfl) rfl rfl ?_; rintro _ _ ⟨bx, rfl, rfl⟩) | (refine Xg.st (StF.alloc rfl Try.zeroValue26 rfl) rfl rfl ?_; rintro _ _ ⟨bx, rfl, rfl⟩) | (refine Xg.st0 (StF.storeAll (i := 0) rfl rfl rfl (te rfl) rfl rfl rfl rfl) rfl ?_; rintro _ _ ⟨rfl, rfl⟩; dsimp only [List.set]))))) | (refine XO.done rfl ?_; refine hK _ _ ?_; clear hK K) | (refine XQ.op rfl ?_; (first | ((first | refine Yo.ng rfl ?_); (first | (refine Yg.ev (EvF.loadV rfl rfl (LoadV.whole (te rfl) rfl (List.Mem.tail _ (List.Mem.head _)) rfl)) rfl rfl ?_) | (refine Yg.ev (EvF.loadV rfl rfl (LoadV.whole (te rfl) rfl (List.Mem.tail _ (List.Mem.tail _ (List.Mem.head _))) rfl)) rfl rfl ?_))))) | refine X.seq rfl ?_ | refine X.region rfl (fun K hK => ?_) | refine X.regionD rfl mixed (by kernel_rfl) (fun K hK => ?_) | refine X.skip rfl ?_ | refine X.ret rfl ?_ | (refine X.ite rfl rfl (fun hc => ?_); (first | (with_reducible refine Xb.caseN hc (fun h => ?_) (fun h => ?_)) | (with_reducible refine Xb.caseB hc (fun h => ?_) (fun h => ?_))) <;> clear hc))
        all_goals try (exfalso; contradiction)
        refine ret_two (by first | exact .inr rfl | exact .inl rfl) Try.results34 rfl rfl (H' := H) (by (repeat (first | exact List.Sublist.refl _ | apply List.Sublist.cons)); done) ?_; simp only [and_true, true_and]
      · rw [if_pos rfl, if_pos rfl]
        refine Fc.mk (callable Try.call34) Try.func34 rfl Try.ntmps34 rfl ?_; dsimp only [fr]
        repeat' (first | (refine XO.op rfl ?_; (first | ((first | refine Xo.ng rfl ?_); (first | (refine Xg.call (EnF.st rfl (Args.cons rfl (Args.cons rfl Args.nil))) rfl rfl (hch _ (hT1 [_, _, _]) (hD1 [_, _, _])) ?_; rintro _ H9 ⟨rfl, hH9⟩; subst H9) | (refine Xg.call (EnF.st rfl (Args.cons rfl Args.nil)) rfl rfl (hcs _) ?_; rintro _ H9 ⟨rfl, hH9⟩; subst H9) | (refine Xg.call (EnF.st rfl (Args.cons rfl (Args.cons rfl Args.nil))) rfl rfl (hmy _) ?_; rintro _ H9 ⟨rfl, hH9⟩; subst H9) | (refine Xg.ev (EvF.move rfl rfl) rfl rfl ?_) | (refine Xg.ev (EvF.assign rfl rfl) rfl rfl ?_) | (refine Xg.ev (EvF.cmp rfl rfl rfl rfl) rfl rfl ?_) | (refine Xg.ev (EvF.not rfl rfl) rfl rfl ?_) | (refine Xg.ev (EvF.loadV rfl rfl (LoadV.whole (te rfl) rfl (List.Mem.tail _ (List.Mem.head _)) rfl)) rfl rfl ?_) | (refine Xg.ev (EvF.loadV rfl rfl (LoadV.whole (te rfl) rfl (List.Mem.tail _ (List.Mem.tail _ (List.Mem.head _))) rfl)) rfl rfl ?_) | (refine Xg.ev (EvF.loadV rfl rfl (LoadV.whole (te rfl) rfl (List.Mem.tail _ (List.Mem.tail _ (List.Mem.tail _ (List.Mem.head _)))) rfl)) rfl rfl ?_) | (refine Xg.ev (EvF.extract rfl rfl rfl) rfl rfl ?_) | (refine Xg.st (StF.boxAgg rfl rfl) rfl rfl ?_; rintro _ _ ⟨bx, rfl, rfl⟩) | (refine Xg.st (StF.alloc rfl Try.zeroValue26 rfl) rfl rfl ?_; rintro _ _ ⟨bx, rfl, rfl⟩) | (refine Xg.st0 (StF.storeAll (i := 0) rfl rfl rfl (te rfl) rfl rfl rfl rfl) rfl ?_; rintro _ _ ⟨rfl, rfl⟩; dsimp only [List.set]))))) | (refine XO.done rfl ?_; refine hK _ _ ?_; clear hK K) | (refine XQ.op rfl ?_; (first | ((first | refine Yo.ng rfl ?_); (first | (refine Yg.call (EnF.st rfl (Args.cons rfl (Args.cons rfl Args.nil))) rfl rfl (rcosts_spec d c _ (hD1 [_, _, _, _]) hdd.2.1 hdd.2.2.1 hdd.1 hin) ?_) | (refine Yg.call (EnF.st rfl (Args.cons rfl (Args.cons rfl Args.nil))) rfl rfl (rvalue_spec T p c _ (hT1 [_, _, _, _]) hok.gr hok.st (by have := hok.num.1; omega) hin.1 hin.2) ?_) | (refine Yg.ev (EvF.move rfl rfl) rfl rfl ?_) | (refine Yg.ev (EvF.assign rfl rfl) rfl rfl ?_) | (refine Yg.ev (EvF.sub64 rfl rfl rfl (by omega) (by omega)) rfl rfl ?_) | (refine Yg.ev (EvF.loadV rfl rfl (LoadV.whole (te rfl) rfl (List.Mem.tail _ (List.Mem.head _)) rfl)) rfl rfl ?_) | (refine Yg.ev (EvF.loadV rfl rfl (LoadV.whole (te rfl) rfl (List.Mem.tail _ (List.Mem.tail _ (List.Mem.head _))) rfl)) rfl rfl ?_) | (refine Yg.ev (EvF.loadV rfl rfl (LoadV.whole (te rfl) rfl (List.Mem.tail _ (List.Mem.tail _ (List.Mem.tail _ (List.Mem.head _)))) rfl)) rfl rfl ?_))))) | (refine XQ.done rfl ?_; refine hK _ ?_; clear hK K) | refine X.seq rfl ?_ | refine X.region rfl (fun K hK => ?_) | refine X.regionD rfl mixed (by kernel_rfl) (fun K hK => ?_) | refine X.skip rfl ?_ | refine X.ret rfl ?_ | (refine X.ite rfl rfl (fun hc => ?_); (first | (with_reducible refine Xb.caseN hc (fun h => ?_) (fun h => ?_)) | (with_reducible refine Xb.caseB hc (fun h => ?_) (fun h => ?_))) <;> clear hc))
        all_goals try (exfalso; contradiction)
        refine ret_two (by first | exact .inr rfl | exact .inl rfl) Try.results34 rfl rfl (H' := H) (by (repeat (first | exact List.Sublist.refl _ | apply List.Sublist.cons)); done) ?_; simp only [and_true, true_and]
    · rw [if_neg h1, if_neg h1]
      refine Fc.mk (callable Try.call34) Try.func34 rfl Try.ntmps34 rfl ?_; dsimp only [fr]
      repeat' (first | (refine XO.op rfl ?_; (first | ((first | refine Xo.ng rfl ?_); (first | (refine Xg.call (EnF.st rfl (Args.cons rfl (Args.cons rfl Args.nil))) rfl rfl (hch _ (hT1 [_, _, _]) (hD1 [_, _, _])) ?_; rintro _ H9 ⟨rfl, hH9⟩; subst H9) | (refine Xg.call (EnF.st rfl (Args.cons rfl Args.nil)) rfl rfl (hcs _) ?_; rintro _ H9 ⟨rfl, hH9⟩; subst H9) | (refine Xg.ev (EvF.move rfl rfl) rfl rfl ?_) | (refine Xg.ev (EvF.assign rfl rfl) rfl rfl ?_) | (refine Xg.ev (EvF.cmp rfl rfl rfl rfl) rfl rfl ?_) | (refine Xg.ev (EvF.loadV rfl rfl (LoadV.whole (te rfl) rfl (List.Mem.tail _ (List.Mem.head _)) rfl)) rfl rfl ?_) | (refine Xg.ev (EvF.loadV rfl rfl (LoadV.whole (te rfl) rfl (List.Mem.tail _ (List.Mem.tail _ (List.Mem.head _))) rfl)) rfl rfl ?_) | (refine Xg.ev (EvF.loadV rfl rfl (LoadV.whole (te rfl) rfl (List.Mem.tail _ (List.Mem.tail _ (List.Mem.tail _ (List.Mem.head _)))) rfl)) rfl rfl ?_) | (refine Xg.ev (EvF.extract rfl rfl rfl) rfl rfl ?_) | (refine Xg.st (StF.boxAgg rfl rfl) rfl rfl ?_; rintro _ _ ⟨bx, rfl, rfl⟩) | (refine Xg.st (StF.alloc rfl Try.zeroValue26 rfl) rfl rfl ?_; rintro _ _ ⟨bx, rfl, rfl⟩) | (refine Xg.st0 (StF.storeAll (i := 0) rfl rfl rfl (te rfl) rfl rfl rfl rfl) rfl ?_; rintro _ _ ⟨rfl, rfl⟩; dsimp only [List.set]))))) | (refine XO.done rfl ?_; refine hK _ _ ?_; clear hK K) | refine X.seq rfl ?_ | refine X.region rfl (fun K hK => ?_) | refine X.skip rfl ?_ | refine X.ret rfl ?_ | (refine X.ite rfl rfl (fun hc => ?_); (first | (with_reducible refine Xb.caseN hc (fun h => ?_) (fun h => ?_))) <;> clear hc))
      all_goals try (exfalso; contradiction)
      all_goals try (exfalso; exact h1 (by assumption))
      refine ret_two (by first | exact .inr rfl | exact .inl rfl) Try.results34 rfl rfl (H' := H) (by (repeat (first | exact List.Sublist.refl _ | apply List.Sublist.cons)); done) ?_; simp only [and_true, true_and]
  · rw [if_neg h0, if_neg h0] at hch
    rw [if_neg h0, if_neg h0]
    refine Fc.mk (callable Try.call34) Try.func34 rfl Try.ntmps34 rfl ?_; dsimp only [fr]
    repeat' (first | (refine XO.op rfl ?_; (first | ((first | refine Xo.ng rfl ?_); (first | (refine Xg.call (EnF.st rfl (Args.cons rfl (Args.cons rfl Args.nil))) rfl rfl (hch _ (hT1 [_, _, _]) (hD1 [_, _, _])) ?_; rintro _ H9 ⟨rfl, hH9⟩; subst H9) | (refine Xg.ev (EvF.move rfl rfl) rfl rfl ?_) | (refine Xg.ev (EvF.assign rfl rfl) rfl rfl ?_) | (refine Xg.ev (EvF.cmp rfl rfl rfl rfl) rfl rfl ?_) | (refine Xg.ev (EvF.loadV rfl rfl (LoadV.whole (te rfl) rfl (List.Mem.tail _ (List.Mem.head _)) rfl)) rfl rfl ?_) | (refine Xg.ev (EvF.loadV rfl rfl (LoadV.whole (te rfl) rfl (List.Mem.tail _ (List.Mem.tail _ (List.Mem.head _))) rfl)) rfl rfl ?_) | (refine Xg.ev (EvF.extract rfl rfl rfl) rfl rfl ?_) | (refine Xg.st (StF.boxAgg rfl rfl) rfl rfl ?_; rintro _ _ ⟨bx, rfl, rfl⟩) | (refine Xg.st (StF.alloc rfl Try.zeroValue26 rfl) rfl rfl ?_; rintro _ _ ⟨bx, rfl, rfl⟩) | (refine Xg.st0 (StF.storeAll (i := 0) rfl rfl rfl (te rfl) rfl rfl rfl rfl) rfl ?_; rintro _ _ ⟨rfl, rfl⟩; dsimp only [List.set]))))) | (refine XO.done rfl ?_; refine hK _ _ ?_; clear hK K) | refine X.seq rfl ?_ | refine X.region rfl (fun K hK => ?_) | refine X.skip rfl ?_ | refine X.ret rfl ?_ | (refine X.ite rfl rfl (fun hc => ?_); (first | (with_reducible refine Xb.caseN hc (fun h => ?_) (fun h => ?_))) <;> clear hc))
    all_goals try (exfalso; exact h0 (by assumption))
    refine ret_two (by first | exact .inr rfl | exact .inl rfl) Try.results34 rfl rfl (H' := H) (by (repeat (first | exact List.Sublist.refl _ | apply List.Sublist.cons)); done) ?_; simp only [and_true, true_and]
theorem greatD_spec (d : Dy) (H : List Row) : Fc Try.prog 29 [.agg (cDy d).toArray] H (fun v H' => v = .bool (decide (d.G.length > 30 ∨ d.S.length > 30)) ∧ H' = H) := by
  refine Fc.mk (callable Try.call29) Try.func29 rfl Try.ntmps29 rfl ?_; dsimp only [fr]
  repeat' (first | (refine XO.op rfl ?_; (first | ((first | refine Xo.ng rfl ?_ | (refine Xo.g rfl rfl ?_; with_reducible refine Xw.ff ?_)); (first | (refine Xg.ev (EvF.move rfl rfl) rfl rfl ?_) | (refine Xg.ev (EvF.assign rfl rfl) rfl rfl ?_) | (refine Xg.ev (EvF.pickT rfl rfl rfl) rfl rfl ?_) | (refine Xg.ev (EvF.pickF rfl rfl rfl) rfl rfl ?_) | (refine Xg.ev (EvF.cmp rfl rfl rfl rfl) rfl rfl ?_) | (refine Xg.ev (EvF.fieldAddr rfl rfl (te rfl) rfl (te rfl) (by decide)) rfl rfl ?_) | (refine Xg.ev (EvF.lenSlice rfl rfl (te rfl)) rfl rfl ?_) | (refine Xg.ev (EvF.loadV rfl rfl (LoadV.own (te rfl) rfl (List.Mem.head _) rfl)) rfl rfl ?_) | (refine Xg.ev (EvF.loadV rfl rfl (LoadV.whole (te rfl) rfl (List.Mem.tail _ (List.Mem.tail _ (List.Mem.head _))) rfl)) rfl rfl ?_) | (refine Xg.st (StF.boxAgg rfl rfl) rfl rfl ?_; rintro _ _ ⟨bx, rfl, rfl⟩) | (refine Xg.st0 (StF.storeAll (i := 3) rfl rfl rfl (te rfl) rfl rfl rfl rfl) rfl ?_; rintro _ _ ⟨rfl, rfl⟩; dsimp only [List.set]))) | (refine Xo.g rfl rfl ?_; (first | (with_reducible refine Xw.tf rfl rfl ?_) | (with_reducible refine Xw.case (fun h => ?_) (fun h => ?_) <;> simp only [h, decide_true, decide_false, Bool.not_true, Bool.not_false, and_self, and_true, true_and, and_false, false_and]))))) | (refine XO.done rfl ?_; refine hK _ _ ?_; clear hK K) | refine X.seq rfl ?_ | refine X.region rfl (fun K hK => ?_) | refine X.ret rfl ?_)
  all_goals (refine ret_one (by first | exact .inr rfl | exact .inl rfl) Try.results29 rfl (H' := H) (by (repeat (first | exact List.Sublist.refl _ | apply List.Sublist.cons)); done) ?_; simp only [and_true, true_and])
  all_goals (congr 1; first | exact decide_eq_decide.2 (by omega) | (symm; exact decide_eq_true (by omega)) | (symm; exact decide_eq_false (by omega)))
def dyP (d : Dy) (t1 k1 t2 k2 : Nat) : Dy := { d with a1 := some ⟨t1, 0, none⟩, c1 := k1, a2 := some ⟨t2, 0, none⟩, c2 := k2 }
def dyQ (d : Dy) (t1 k1 : Nat) : Dy := { d with a1 := some ⟨t1, 0, none⟩, c1 := k1 }
def tsTd : List TOp := [⟨some 3, [], [], []⟩, ⟨some 4, [], [], []⟩, ⟨some 5, [1], [1], []⟩, ⟨some 6, [0, 1, 2], [0, 2], [0]⟩, ⟨some 7, [], [], []⟩, ⟨some 8, [], [], []⟩, ⟨some 9, [5], [5], []⟩, ⟨some 10, [0, 1, 2, 3, 4, 5, 6], [4, 6], [4]⟩, ⟨some 11, [0, 1, 2, 3, 5, 6], [], []⟩, ⟨none, [0, 1, 2, 3, 4, 5, 6, 7, 8], [8, 3], [12]⟩, ⟨some 12, [0, 1, 2, 3, 4, 5, 6, 7, 8, 9], [], []⟩, ⟨none, [0, 1, 2, 3, 4, 5, 6, 7, 8, 9, 10], [10, 7], [9]⟩, ⟨none, [], [], []⟩]
def valTd (b1 b2 : Nat) (d : Dy) (k : Nat) (env : Env) : Value :=
  match k with
  | 0 => .slice (some ⟨(env 0).1, 0, none⟩) 0 0
  | 1 => .pointer (some ⟨b1, 1, none⟩)
  | 2 => .slice d.a1 d.G.length d.c1
  | 3 => .slice (some ⟨(env 3).1, 0, none⟩) d.G.length (env 3).2
  | 4 => .slice (some ⟨(env 4).1, 0, none⟩) 0 0
  | 5 => .pointer (some ⟨b1, 2, none⟩)
  | 6 => .slice d.a2 d.S.length d.c2
  | 7 => .slice (some ⟨(env 7).1, 0, none⟩) d.S.length (env 7).2
  | 8 => .pointer (some ⟨b1, 1, none⟩)
  | 9 => undef
  | 10 => .pointer (some ⟨b1, 2, none⟩)
  | 11 => undef
  | _ => undef
def rowsTd (b1 b2 : Nat) (d : Dy) (k : Nat) (env : Env) : List Row :=
  match k with
  | 0 => [⟨(env 0).1, 0, [], some 3, 0 * 1⟩]
  | 3 => [rI d.G (env 3).1 (env 3).2]
  | 4 => [⟨(env 4).1, 0, [], some 3, 0 * 1⟩]
  | 7 => [rI d.S (env 7).1 (env 7).2]
  | 9 => [⟨b1, 0, cDy (dyQ d (env 3).1 (env 3).2), some 65, 3⟩]
  | 11 => [⟨b1, 0, cDy (dyP d (env 3).1 (env 3).2 (env 7).1 (env 7).2), some 65, 3⟩]
  | 12 => [⟨b1, 0, cDy d, some 65, 3⟩]
  | _ => []
theorem locTd (b1 b2 : Nat) (d : Dy) : ∀ k env i q9, i ≠ k → (tAt tsTd k).sup.contains i = false → valTd b1 b2 d k (upd env i q9) = valTd b1 b2 d k env ∧ rowsTd b1 b2 d k (upd env i q9) = rowsTd b1 b2 d k env := by
  intro k env i q hk hs
  have hu : ∀ j, j ≠ i → upd env i q j = env j := fun j hj => by unfold upd; rw [if_neg hj]
  match k, hk, hs with
  | 0, hk, hs => exact ⟨by simp only [valTd, hu 0 (fun e => hk e.symm)], by simp only [rowsTd, hu 0 (fun e => hk e.symm)]⟩
  | 1, _, _ => exact ⟨rfl, rfl⟩
  | 2, _, _ => exact ⟨rfl, rfl⟩
  | 3, hk, hs => exact ⟨by simp only [valTd, hu 3 (fun e => hk e.symm)], by simp only [rowsTd, hu 3 (fun e => hk e.symm)]⟩
  | 4, hk, hs => exact ⟨by simp only [valTd, hu 4 (fun e => hk e.symm)], by simp only [rowsTd, hu 4 (fun e => hk e.symm)]⟩
  | 5, _, _ => exact ⟨rfl, rfl⟩
  | 6, _, _ => exact ⟨rfl, rfl⟩
  | 7, hk, hs => exact ⟨by simp only [valTd, hu 7 (fun e => hk e.symm)], by simp only [rowsTd, hu 7 (fun e => hk e.symm)]⟩
  | 8, _, _ => exact ⟨rfl, rfl⟩
  | 9, hk, hs => exact ⟨by simp only [valTd, hu 3 (by rintro rfl; cases hs)], by simp only [rowsTd, hu 3 (by rintro rfl; cases hs)]⟩
  | 10, _, _ => exact ⟨rfl, rfl⟩
  | 11, hk, hs => exact ⟨by simp only [valTd, hu 3 (by rintro rfl; cases hs), hu 7 (by rintro rfl; cases hs)], by simp only [rowsTd, hu 3 (by rintro rfl; cases hs), hu 7 (by rintro rfl; cases hs)]⟩
  | 12, _, _ => exact ⟨rfl, rfl⟩
  | _ + 13, _, _ => exact ⟨rfl, rfl⟩
def rdTd (k : Nat) : List Nat := match k with
  | 2 => [12]
  | 6 => [12]
  | _ => []
set_option maxHeartbeats 4000000 in
theorem twinD_spec (d : Dy) (H : List Row) (hD : DyOk H d) : Fc Try.prog 30 [.agg (cDy d).toArray] H (fun v H' => ∃ t1 k1 t2 k2, v = .agg (cDy (dyP d t1 k1 t2 k2)).toArray ∧ H' = rI d.G t1 k1 :: rI d.S t2 k2 :: H) := by
  have l1 := hD.l1
  have l2 := hD.l2
  refine Fc.mk (callable Try.call30) Try.func30 rfl Try.ntmps30 rfl ?_; dsimp only [fr]
  refine X.seq rfl ?_; refine X.region rfl (fun K hK => ?_); repeat' (first | (refine XO.op rfl ?_; (first | ((first | refine Xo.ng rfl ?_); (first | (refine Xg.st (StF.boxAgg rfl rfl) rfl rfl ?_; rintro _ _ ⟨bx, rfl, rfl⟩) | (refine Xg.st (StF.alloc rfl Try.zeroValue65 rfl) rfl rfl ?_; rintro _ _ ⟨bx, rfl, rfl⟩))))) | (refine XO.done rfl ?_; refine hK _ _ ?_; clear hK K))
  rename_i b1; rename Nat => b2
  refine X.seq rfl ?_
  refine X.permH (H' := ⟨b1, 0, cDy d, some 65, 3⟩ :: ⟨b2, 0, [.int .i64 0, .slice none 0 0, .slice none 0 0], some 65, 3⟩ :: H) (List.Perm.swap _ _ _) ?_
  refine X.regionRd tsTd rdTd [1, 2] [(1, .pointer (some ⟨b1, 0, none⟩)), (2, .pointer (some ⟨b2, 0, none⟩))] (valTd b1 b2 d) (rowsTd b1 b2 d) (fun _ => (0, 0)) (⟨b2, 0, [.int .i64 0, .slice none 0 0, .slice none 0 0], some 65, 3⟩ :: H) rfl mixed (by (repeat (first | exact Sub.nil _ | refine Sub.cons rfl ?_)); done) rfl (by kernel_rfl) (by kernel_rfl) (locTd b1 b2 d) (List.Sublist.refl _) ?_ ?_
  · have hs : ∀ (S Z : List Row), (∀ r ∈ ⟨b2, 0, [.int .i64 0, .slice none 0 0, .slice none 0 0], some 65, 3⟩ :: H, r ∈ S) → DyOk (Z ++ S) d := fun S Z hS => hD.sub (fun r hr => List.mem_append_right _ (hS r (List.mem_cons_of_mem _ hr)))
    repeat' (first | exact AllF.done rfl | (refine AllF.step rfl ?_ ?_; · (first | exact (Ob.ng rfl (ObK.pure (fun env R hR => by exact ⟨_, EvF.fieldAddr rfl rfl (te rfl) rfl (te rfl) (by decide), rfl⟩) rfl (fun _ => rfl))).toR | (refine ObR.ng rfl ?_; (first | (exact fun env S hS hrd => (StF.buildNil rfl elI).op.mono (fun v H' ⟨b, hv, hH⟩ => ⟨(b, 0), fun _ => hv, by rw [hH]; exact List.Perm.refl _⟩)) | (exact fun env S hS hrd => (StF.ofEv (EvF.loadV rfl rfl (LoadV.own (te rfl) rfl (hrd 12 (List.Mem.head _) _ (List.Mem.head _)) rfl))).op.mono (fun v H' ⟨hv, hH⟩ => ⟨(0, 0), fun _ => hv, by rw [hH]; exact List.Perm.refl _⟩)) | (exact fun env S hS hrd => (StF.appendSl (i := 0) rfl elI rfl rfl rfl (hs S [_] hS).gr (fun e _ => one_i e) rfl (by decide) (by omega)).op.mono (fun v H' ⟨b, c, hv, hH⟩ => ⟨(b, c), fun _ => by rw [hv, Nat.zero_add]; rfl, by rw [hH]; exact List.Perm.refl _⟩)) | (exact fun env S hS hrd => (StF.appendSl (i := 0) rfl elI rfl rfl rfl (hs S [_] hS).st (fun e _ => one_i e) rfl (by decide) (by omega)).op.mono (fun v H' ⟨b, c, hv, hH⟩ => ⟨(b, c), fun _ => by rw [hv, Nat.zero_add]; rfl, by rw [hH]; exact List.Perm.refl _⟩)) | (exact fun env S hS hrd => (StF.storeOne (i := 0) (cs := cDy d) rfl rfl rfl rfl (te rfl) rfl rfl (Nat.le_of_ble_eq_true rfl)).op.mono (fun v H' ⟨hv, hH⟩ => ⟨(0, 0), fun h => absurd rfl h, by rw [hH]; exact List.Perm.refl _⟩)) | (exact fun env S hS hrd => (StF.storeOne (i := 0) (cs := cDy (dyQ d (env 3).1 (env 3).2)) rfl rfl rfl rfl (te rfl) rfl rfl (Nat.le_of_ble_eq_true rfl)).op.mono (fun v H' ⟨hv, hH⟩ => ⟨(0, 0), fun h => absurd rfl h, by rw [hH]; exact List.Perm.refl _⟩)))))))
  · intro env t ha hv
    refine ⟨_, ha, ?_⟩
    show X _ _ _ _ (rI d.G (env 3).1 (env 3).2 :: rI d.S (env 7).1 (env 7).2 :: ⟨b1, 0, cDy (dyP d (env 3).1 (env 3).2 (env 7).1 (env 7).2), some 65, 3⟩ :: ⟨b2, 0, [.int .i64 0, .slice none 0 0, .slice none 0 0], some 65, 3⟩ :: H) _
    repeat' (first | (refine XO.op rfl ?_; (first | ((first | refine Xo.ng rfl ?_ | (refine Xo.g rfl rfl ?_; with_reducible refine Xw.ff ?_)); (first | (refine Xg.ev (EvF.move rfl rfl) rfl rfl ?_) | (refine Xg.ev (EvF.assign rfl rfl) rfl rfl ?_) | (refine Xg.ev (EvF.pickT rfl rfl rfl) rfl rfl ?_) | (refine Xg.ev (EvF.pickF rfl rfl rfl) rfl rfl ?_) | (refine Xg.ev (EvF.cmp rfl rfl rfl rfl) rfl rfl ?_) | (refine Xg.ev (EvF.fieldAddr rfl rfl (te rfl) rfl (te rfl) (by decide)) rfl rfl ?_) | (refine Xg.ev (EvF.lenSlice rfl rfl (te rfl)) rfl rfl ?_) | (refine Xg.ev (EvF.loadV rfl rfl (LoadV.own (te rfl) rfl (List.Mem.head _) rfl)) rfl rfl ?_) | (refine Xg.ev (EvF.loadV rfl rfl (LoadV.whole (te rfl) rfl (List.Mem.tail _ (List.Mem.tail _ (List.Mem.head _))) rfl)) rfl rfl ?_) | (refine Xg.st (StF.boxAgg rfl rfl) rfl rfl ?_; rintro _ _ ⟨bx, rfl, rfl⟩) | (refine Xg.st0 (StF.storeAll (i := 3) rfl rfl rfl (te rfl) rfl rfl rfl rfl) rfl ?_; rintro _ _ ⟨rfl, rfl⟩; dsimp only [List.set]))) | (refine Xo.g rfl rfl ?_; (first | (with_reducible refine Xw.tf rfl rfl ?_) | (with_reducible refine Xw.case (fun h => ?_) (fun h => ?_) <;> simp only [h, decide_true, decide_false, Bool.not_true, Bool.not_false, and_self, and_true, true_and, and_false, false_and]))))) | (refine XO.done rfl ?_; refine hK _ _ ?_; clear hK K) | refine X.seq rfl ?_ | refine X.region rfl (fun K hK => ?_) | refine X.ret rfl ?_)
    exact ret_one (v := .agg (cDy (dyP d (env 3).1 (env 3).2 (env 7).1 (env 7).2)).toArray) (by first | exact .inr rfl | exact .inl rfl) Try.results30 ⟨_, rfl, LoadV.whole (te rfl) rfl (List.Mem.tail _ (List.Mem.tail _ (List.Mem.tail _ (List.Mem.head _)))) rfl⟩ (H' := rI d.G (env 3).1 (env 3).2 :: rI d.S (env 7).1 (env 7).2 :: H) (by (repeat (first | exact List.Sublist.refl _ | apply List.Sublist.cons_cons | apply List.Sublist.cons)); done) ⟨_, _, _, _, rfl, rfl⟩
theorem sameD_spec (d : Dy) (t1 k1 t2 k2 : Nat) (H : List Row) (hO : DyOk H (dyP d t1 k1 t2 k2)) (hD : DyOk H d) : Fc Try.prog 35 [.agg (cDy (dyP d t1 k1 t2 k2)).toArray, .agg (cDy d).toArray] H (fun v H' => v = .bool true ∧ H' = H) := by
  have hO1 : ∀ Z : List Row, DyOk (Z ++ H) (dyP d t1 k1 t2 k2) := fun Z => hO.sub (fun _ h => List.mem_append_right _ h)
  have hD1 : ∀ Z : List Row, DyOk (Z ++ H) d := fun Z => hD.sub (fun _ h => List.mem_append_right _ h)
  show Fc Try.prog 35 [.agg ([.int .i64 d.price, .slice (some ⟨t1, 0, none⟩) d.G.length k1, .slice (some ⟨t2, 0, none⟩) d.S.length k2] : List Value).toArray, .agg (cDy d).toArray] H _
  refine Fc.mk (callable Try.call35) Try.func35 rfl Try.ntmps35 rfl ?_; dsimp only [fr]
  repeat' (first | (refine XO.op rfl ?_; (first | ((first | refine Xo.ng rfl ?_ | (refine Xo.g rfl rfl ?_; with_reducible refine Xw.tt ?_)); (first | (refine Xg.ev (EvF.eqSelf rfl rfl rfl) rfl rfl ?_) | (refine Xg.call (EnF.st rfl (Args.cons rfl (Args.cons rfl Args.nil))) rfl rfl (sameI_self d.G (some ⟨t1, 0, none⟩) d.a1 k1 d.c1 _ (hO1 [_, _]).gr (hD1 [_, _]).gr hD.l1) ?_; rintro _ H9 ⟨rfl, hH9⟩; subst H9) | (refine Xg.call (EnF.st rfl (Args.cons rfl (Args.cons rfl Args.nil))) rfl rfl (sameI_self d.S (some ⟨t2, 0, none⟩) d.a2 k2 d.c2 _ (hO1 [_, _]).st (hD1 [_, _]).st hD.l2) ?_; rintro _ H9 ⟨rfl, hH9⟩; subst H9) | (refine Xg.ev (EvF.move rfl rfl) rfl rfl ?_) | (refine Xg.ev (EvF.assign rfl rfl) rfl rfl ?_) | (refine Xg.ev (EvF.pickT rfl rfl rfl) rfl rfl ?_) | (refine Xg.ev (EvF.fieldAddr rfl rfl (te rfl) rfl (te rfl) (by decide)) rfl rfl ?_) | (refine Xg.ev (EvF.loadV rfl rfl (LoadV.own (te rfl) rfl (List.Mem.head _) rfl)) rfl rfl ?_) | (refine Xg.ev (EvF.loadV rfl rfl (LoadV.own (te rfl) rfl (List.Mem.tail _ (List.Mem.head _)) rfl)) rfl rfl ?_) | (refine Xg.st (StF.boxAgg rfl rfl) rfl rfl ?_; rintro _ _ ⟨bx, rfl, rfl⟩))))) | (refine XO.done rfl ?_; refine hK _ _ ?_; clear hK K) | refine X.seq rfl ?_ | refine X.region rfl (fun K hK => ?_) | refine X.ret rfl ?_)
  refine ret_one (by first | exact .inr rfl | exact .inl rfl) Try.results35 rfl (H' := H) (by (repeat (first | exact List.Sublist.refl _ | apply List.Sublist.cons)); done) ?_; simp only [and_true, true_and]
end Go.Proofs.Ytfpmhdjhcoogpaa
end
section
set_option linter.unusedVariables false
set_option linter.unusedSimpArgs false
namespace Go.Proofs.Ytfpmhdjhcoogpaa
open Go Go.Fw
set_option maxRecDepth 10000
/-- a table of which the first numbers are told from another base -/
def mix (l : List Int) (d : Int) (k : Nat) : List Int := (l.take k).map (fun n => n - d) ++ l.drop k
theorem mix_len (l : List Int) (d : Int) (k : Nat) : (mix l d k).length = l.length := by
  unfold mix
  rw [List.length_append, List.length_map, List.length_take, List.length_drop]; omega
theorem mix_zero (l : List Int) (d : Int) : mix l d 0 = l := rfl
theorem mix_all (l : List Int) (d : Int) : mix l d l.length = l.map (fun n => n - d) := by
  unfold mix
  rw [List.take_length, List.drop_length, List.append_nil]
theorem mix_set {l : List Int} {d x : Int} {k : Nat} (h : l[k]? = some x) : (mix l d k).set k (x - d) = mix l d (k + 1) := by
  have hk := (List.getElem?_eq_some_iff.1 h).1
  unfold mix
  rw [drop_cons h, take_snoc h, List.map_append, List.set_append_right _ _ (by rw [List.length_map, List.length_take]; omega), List.length_map, List.length_take, show k - min k l.length = 0 by omega, List.set_cons_zero, List.append_assoc]
  rfl
def tsQa : List TOp := [⟨some 23, [], [], []⟩, ⟨some 24, [], [], []⟩, ⟨some 25, [], [], []⟩, ⟨some 26, [1, 2], [1, 2], []⟩, ⟨some 27, [0], [], []⟩, ⟨none, [0, 1, 2, 3, 4], [4, 0], [8]⟩, ⟨some 28, [0, 1, 2, 3, 4, 5], [], []⟩, ⟨none, [0, 1, 2, 3, 4, 5, 6], [6, 3], [5]⟩, ⟨none, [], [], []⟩]
def valQa (b2 b3 b4 b7 : Nat) (T : Tm) (p q : Pt) (c : Cl) (v : Int) (k : Nat) (env : Env) : Value :=
  match k with
  | 0 => .agg (cCl c).toArray
  | 1 => .agg (cTm T p).toArray
  | 2 => .agg (cCl c).toArray
  | 3 => .int .i64 v
  | 4 => .pointer (some ⟨b7, 0, none⟩)
  | 5 => undef
  | 6 => .pointer (some ⟨b7, 2, none⟩)
  | 7 => undef
  | _ => undef
def rowsQa (b2 b3 b4 b7 : Nat) (T : Tm) (p q : Pt) (c : Cl) (v : Int) (k : Nat) (env : Env) : List Row :=
  match k with
  | 5 => [⟨b7, 0, cTm (clT T c) q, some 28, 11⟩]
  | 7 => [⟨b7, 0, cTm (baT T c v) q, some 28, 11⟩]
  | 8 => [⟨b7, 0, cTm T q, some 28, 11⟩]
  | _ => []
theorem locQa (b2 b3 b4 b7 : Nat) (T : Tm) (p q : Pt) (c : Cl) (v : Int) : ∀ k env i q9, i ≠ k → (tAt tsQa k).sup.contains i = false → valQa b2 b3 b4 b7 T p q c v k (upd env i q9) = valQa b2 b3 b4 b7 T p q c v k env ∧ rowsQa b2 b3 b4 b7 T p q c v k (upd env i q9) = rowsQa b2 b3 b4 b7 T p q c v k env := by
  intro k env i q hk hs
  have hu : ∀ j, j ≠ i → upd env i q j = env j := fun j hj => by unfold upd; rw [if_neg hj]
  match k, hk, hs with
  | 0, _, _ => exact ⟨rfl, rfl⟩
  | 1, _, _ => exact ⟨rfl, rfl⟩
  | 2, _, _ => exact ⟨rfl, rfl⟩
  | 3, _, _ => exact ⟨rfl, rfl⟩
  | 4, _, _ => exact ⟨rfl, rfl⟩
  | 5, _, _ => exact ⟨rfl, rfl⟩
  | 6, _, _ => exact ⟨rfl, rfl⟩
  | 7, _, _ => exact ⟨rfl, rfl⟩
  | 8, _, _ => exact ⟨rfl, rfl⟩
  | _ + 9, _, _ => exact ⟨rfl, rfl⟩
def tsQb : List TOp := [⟨some 33, [], [], []⟩, ⟨some 34, [0], [0], []⟩, ⟨some 35, [], [], []⟩, ⟨some 36, [], [], []⟩, ⟨some 37, [3], [3], []⟩, ⟨some 38, [], [], []⟩, ⟨some 39, [3, 4, 5], [4, 5], []⟩, ⟨some 40, [3, 4, 5, 6], [6], []⟩, ⟨some 41, [], [], []⟩, ⟨some 42, [8], [8], []⟩, ⟨some 43, [], [], []⟩, ⟨some 44, [10], [10], []⟩, ⟨some 45, [10, 11], [11], []⟩, ⟨some 46, [8, 9, 10, 11, 12], [9, 12], []⟩, ⟨some 47, [8, 9, 10, 11, 12, 13], [13], []⟩, ⟨some 48, [3, 4, 5, 6, 7, 8, 9, 10, 11, 12, 13, 14], [7, 14], []⟩, ⟨some 49, [0, 1, 2, 3, 4, 5, 6, 7, 8, 9, 10, 11, 12, 13, 14, 15], [1, 2], []⟩, ⟨none, [0, 1, 2, 3, 4, 5, 6, 7, 8, 9, 10, 11, 12, 13, 14, 15, 16], [16, 15], [18]⟩, ⟨none, [], [], []⟩]
def valQb (b2 b3 b4 b7 t n nn kk k1 c1 gb go : Nat) (g x d : Int) (m : List Int) (k : Nat) (env : Env) : Value :=
  match k with
  | 0 => .pointer (some ⟨b7, 5, none⟩)
  | 1 => .slice (some ⟨t, 0, none⟩) nn k1
  | 2 => .int .i64 (kk : Nat)
  | 3 => .pointer (some ⟨b2, 5, none⟩)
  | 4 => .slice (some ⟨gb, go, none⟩) n c1
  | 5 => .int .i64 (kk : Nat)
  | 6 => .pointer (some ⟨gb, go + kk * 1, none⟩)
  | 7 => .int .i64 x
  | 8 => .pointer (some ⟨b2, 5, none⟩)
  | 9 => .slice (some ⟨gb, go, none⟩) n c1
  | 10 => .pointer (some ⟨b3, 0, none⟩)
  | 11 => .int .i64 g
  | 12 => .int .i64 (g - 1)
  | 13 => .pointer (some ⟨gb, go + (g - 1).toNat * 1, none⟩)
  | 14 => .int .i64 d
  | 15 => .int .i64 (x - d)
  | 16 => .pointer (some ⟨t, 0 + kk * 1, none⟩)
  | 17 => undef
  | _ => undef
def rowsQb (b2 b3 b4 b7 t n nn kk k1 c1 gb go : Nat) (g x d : Int) (m : List Int) (k : Nat) (env : Env) : List Row :=
  match k with
  | 17 => [⟨t, 0, (m.set kk (x - d)).flatMap cI, some 3, k1 * 1⟩]
  | 18 => [⟨t, 0, m.flatMap cI, some 3, k1 * 1⟩]
  | _ => []
theorem locQb (b2 b3 b4 b7 t n nn kk k1 c1 gb go : Nat) (g x d : Int) (m : List Int) : ∀ k env i q9, i ≠ k → (tAt tsQb k).sup.contains i = false → valQb b2 b3 b4 b7 t n nn kk k1 c1 gb go g x d m k (upd env i q9) = valQb b2 b3 b4 b7 t n nn kk k1 c1 gb go g x d m k env ∧ rowsQb b2 b3 b4 b7 t n nn kk k1 c1 gb go g x d m k (upd env i q9) = rowsQb b2 b3 b4 b7 t n nn kk k1 c1 gb go g x d m k env := by
  intro k env i q hk hs
  have hu : ∀ j, j ≠ i → upd env i q j = env j := fun j hj => by unfold upd; rw [if_neg hj]
  match k, hk, hs with
  | 0, _, _ => exact ⟨rfl, rfl⟩
  | 1, _, _ => exact ⟨rfl, rfl⟩
  | 2, _, _ => exact ⟨rfl, rfl⟩
  | 3, _, _ => exact ⟨rfl, rfl⟩
  | 4, _, _ => exact ⟨rfl, rfl⟩
  | 5, _, _ => exact ⟨rfl, rfl⟩
  | 6, _, _ => exact ⟨rfl, rfl⟩
  | 7, _, _ => exact ⟨rfl, rfl⟩
  | 8, _, _ => exact ⟨rfl, rfl⟩
  | 9, _, _ => exact ⟨rfl, rfl⟩
  | 10, _, _ => exact ⟨rfl, rfl⟩
  | 11, _, _ => exact ⟨rfl, rfl⟩
  | 12, _, _ => exact ⟨rfl, rfl⟩
  | 13, _, _ => exact ⟨rfl, rfl⟩
  | 14, _, _ => exact ⟨rfl, rfl⟩
  | 15, _, _ => exact ⟨rfl, rfl⟩
  | 16, _, _ => exact ⟨rfl, rfl⟩
  | 17, _, _ => exact ⟨rfl, rfl⟩
  | 18, _, _ => exact ⟨rfl, rfl⟩
  | _ + 19, _, _ => exact ⟨rfl, rfl⟩
def tsQc : List TOp := [⟨some 50, [], [], []⟩, ⟨some 51, [0], [0], []⟩, ⟨some 52, [], [], []⟩, ⟨some 53, [], [], []⟩, ⟨some 54, [3], [3], []⟩, ⟨some 55, [], [], []⟩, ⟨some 56, [3, 4, 5], [4, 5], []⟩, ⟨some 57, [3, 4, 5, 6], [6], []⟩, ⟨some 58, [], [], []⟩, ⟨some 59, [8], [8], []⟩, ⟨some 60, [], [], []⟩, ⟨some 61, [10], [10], []⟩, ⟨some 62, [10, 11], [11], []⟩, ⟨some 63, [8, 9, 10, 11, 12], [9, 12], []⟩, ⟨some 64, [8, 9, 10, 11, 12, 13], [13], []⟩, ⟨some 65, [3, 4, 5, 6, 7, 8, 9, 10, 11, 12, 13, 14], [7, 14], []⟩, ⟨some 66, [0, 1, 2, 3, 4, 5, 6, 7, 8, 9, 10, 11, 12, 13, 14, 15], [1, 2], []⟩, ⟨none, [0, 1, 2, 3, 4, 5, 6, 7, 8, 9, 10, 11, 12, 13, 14, 15, 16], [16, 15], [18]⟩, ⟨none, [], [], []⟩]
def valQc (b2 b3 b4 b7 t n nn kk k1 c1 gb go : Nat) (g x d : Int) (m : List Int) (k : Nat) (env : Env) : Value :=
  match k with
  | 0 => .pointer (some ⟨b7, 6, none⟩)
  | 1 => .slice (some ⟨t, 0, none⟩) nn k1
  | 2 => .int .i64 (kk : Nat)
  | 3 => .pointer (some ⟨b2, 6, none⟩)
  | 4 => .slice (some ⟨gb, go, none⟩) n c1
  | 5 => .int .i64 (kk : Nat)
  | 6 => .pointer (some ⟨gb, go + kk * 1, none⟩)
  | 7 => .int .i64 x
  | 8 => .pointer (some ⟨b2, 6, none⟩)
  | 9 => .slice (some ⟨gb, go, none⟩) n c1
  | 10 => .pointer (some ⟨b3, 1, none⟩)
  | 11 => .int .i64 g
  | 12 => .int .i64 (g - 1)
  | 13 => .pointer (some ⟨gb, go + (g - 1).toNat * 1, none⟩)
  | 14 => .int .i64 d
  | 15 => .int .i64 (x - d)
  | 16 => .pointer (some ⟨t, 0 + kk * 1, none⟩)
  | 17 => undef
  | _ => undef
def rowsQc (b2 b3 b4 b7 t n nn kk k1 c1 gb go : Nat) (g x d : Int) (m : List Int) (k : Nat) (env : Env) : List Row :=
  match k with
  | 17 => [⟨t, 0, (m.set kk (x - d)).flatMap cI, some 3, k1 * 1⟩]
  | 18 => [⟨t, 0, m.flatMap cI, some 3, k1 * 1⟩]
  | _ => []
theorem locQc (b2 b3 b4 b7 t n nn kk k1 c1 gb go : Nat) (g x d : Int) (m : List Int) : ∀ k env i q9, i ≠ k → (tAt tsQc k).sup.contains i = false → valQc b2 b3 b4 b7 t n nn kk k1 c1 gb go g x d m k (upd env i q9) = valQc b2 b3 b4 b7 t n nn kk k1 c1 gb go g x d m k env ∧ rowsQc b2 b3 b4 b7 t n nn kk k1 c1 gb go g x d m k (upd env i q9) = rowsQc b2 b3 b4 b7 t n nn kk k1 c1 gb go g x d m k env := by
  intro k env i q hk hs
  have hu : ∀ j, j ≠ i → upd env i q j = env j := fun j hj => by unfold upd; rw [if_neg hj]
  match k, hk, hs with
  | 0, _, _ => exact ⟨rfl, rfl⟩
  | 1, _, _ => exact ⟨rfl, rfl⟩
  | 2, _, _ => exact ⟨rfl, rfl⟩
  | 3, _, _ => exact ⟨rfl, rfl⟩
  | 4, _, _ => exact ⟨rfl, rfl⟩
  | 5, _, _ => exact ⟨rfl, rfl⟩
  | 6, _, _ => exact ⟨rfl, rfl⟩
  | 7, _, _ => exact ⟨rfl, rfl⟩
  | 8, _, _ => exact ⟨rfl, rfl⟩
  | 9, _, _ => exact ⟨rfl, rfl⟩
  | 10, _, _ => exact ⟨rfl, rfl⟩
  | 11, _, _ => exact ⟨rfl, rfl⟩
  | 12, _, _ => exact ⟨rfl, rfl⟩
  | 13, _, _ => exact ⟨rfl, rfl⟩
  | 14, _, _ => exact ⟨rfl, rfl⟩
  | 15, _, _ => exact ⟨rfl, rfl⟩
  | 16, _, _ => exact ⟨rfl, rfl⟩
  | 17, _, _ => exact ⟨rfl, rfl⟩
  | 18, _, _ => exact ⟨rfl, rfl⟩
  | _ + 19, _, _ => exact ⟨rfl, rfl⟩
theorem rebF_na {T : Tm} {c : Cl} (h : askedE T c ≠ 0) : rebF T c = (Tz, askedE T c) := if_neg h
theorem rebF_nm {T : Tm} {c : Cl} (h : askedE T c = 0) (hm : ¬ may T c = true) : rebF T c = (Tz, 6) := by unfold rebF; rw [if_pos h, if_neg hm]
set_option maxHeartbeats 8000000 in
theorem rreb_spec (T : Tm) (p : Pt) (c : Cl) (H : List Row) (hT : TmOk H T p) : Fc Try.prog 44 [.agg (cTm T p).toArray, .agg (cCl c).toArray] H (ProgT (rebF T c) H) := by
  have hT1 : ∀ Z : List Row, TmOk (Z ++ H) T p := fun Z => hT.sub (fun _ h => List.mem_append_right _ h)
  by_cases hz : askedE T c = 0
  · have hra : ∀ H, TmOk H T p → Fc Try.prog 55 [.agg (cTm T p).toArray, .agg (cCl c).toArray] H (fun v H' => v = .int .i64 0 ∧ H' = H) := fun H h => by
      have := rasked_spec T p c H h
      rwa [hz] at this
    by_cases hm : may T c = true
    · have hrm : ∀ H, Fc Try.prog 57 [.agg (cTm T p).toArray, .agg (cCl c).toArray] H (fun v H' => v = .bool true ∧ H' = H) := fun H => by
        have := rmay_spec T p c H
        rwa [hm] at this
      obtain ⟨hok, hg, hs⟩ := askedE_zero hz
      have hp := hok.num.1
      have l1 := hok.gr.1
      have l2 := hok.st.1
      have d1 := at1_bd hok.gr.2 c.g
      have d2 := at1_bd hok.st.2 c.s
      have q1 := at1_get hg l1
      have q2 := at1_get hs l2
      rw [rebF_ok hz hm]
      obtain ⟨gb, go, e1, he1, _⟩ := hT.gr.elem (i := 0) (by omega)
      obtain ⟨sb, so, e2, he2, _⟩ := hT.st.elem (i := 0) (by omega)
      obtain ⟨a1, c1, a2, c2⟩ := p
      simp only at he1 he2
      subst he1 he2
      refine Fc.mk (callable Try.call44) Try.func44 rfl Try.ntmps44 rfl ?_; dsimp only [fr]
      repeat' (first | (refine XO.op rfl ?_; (first | ((first | refine Xo.ng rfl ?_); (first | (refine Xg.call (EnF.st rfl (Args.cons rfl (Args.cons rfl Args.nil))) rfl rfl (hra _ (hT1 [_, _, _])) ?_; rintro _ H9 ⟨rfl, hH9⟩; subst H9) | (refine Xg.call (EnF.st rfl (Args.cons rfl (Args.cons rfl Args.nil))) rfl rfl (hrm _) ?_; rintro _ H9 ⟨rfl, hH9⟩; subst H9) | (refine Xg.call (EnF.st rfl (by (repeat (first | exact Args.nil | refine Args.cons rfl ?_)); done)) rfl rfl (twin_spec T _ _ (hT1 [_, _, _])) ?_; rintro _ _ ⟨t1, k1, t2, k2, rfl, rfl⟩) | (refine Xg.ev (EvF.move rfl rfl) rfl rfl ?_) | (refine Xg.ev (EvF.assign rfl rfl) rfl rfl ?_) | (refine Xg.ev (EvF.cmp rfl rfl rfl rfl) rfl rfl ?_) | (refine Xg.ev (EvF.not rfl rfl) rfl rfl ?_) | (refine Xg.ev (EvF.loadV rfl rfl (LoadV.whole (te rfl) rfl (List.Mem.tail _ (List.Mem.head _)) rfl)) rfl rfl ?_) | (refine Xg.ev (EvF.loadV rfl rfl (LoadV.whole (te rfl) rfl (List.Mem.tail _ (List.Mem.tail _ (List.Mem.head _))) rfl)) rfl rfl ?_) | (refine Xg.st (StF.boxAgg rfl rfl) rfl rfl ?_; rintro _ _ ⟨bx, rfl, rfl⟩) | (refine Xg.st (StF.alloc rfl Try.zeroValue28 rfl) rfl rfl ?_; rintro _ _ ⟨bx, rfl, rfl⟩) | (refine Xg.st0 (StF.storeAll (i := 0) rfl rfl rfl (te rfl) rfl rfl rfl rfl) rfl ?_; rintro _ _ ⟨rfl, rfl⟩; dsimp only [List.set]))))) | (refine XO.done rfl ?_; refine hK _ _ ?_; clear hK K) | refine X.seq rfl ?_ | refine X.region rfl (fun K hK => ?_) | refine X.skip rfl ?_ | (refine X.ite rfl rfl (fun hc => ?_); (first | (with_reducible refine Xb.caseN hc (fun h => ?_) (fun h => ?_)) | (with_reducible refine Xb.caseB hc (fun h => ?_) (fun h => ?_))) <;> clear hc))
      all_goals try (exfalso; contradiction)
      rename_i b2 b3 b4 h00
      clear h00 h
      obtain ⟨b7, hb7⟩ : ∃ b, b = bx := ⟨_, rfl⟩
      rw [← hb7]
      clear hb7
      refine X.weakR (H' := ⟨b7, 0, cTm T (plT t1 k1 t2 k2), some 28, 11⟩ :: rI (T.G) t1 k1 :: rI (T.S) t2 k2 :: ⟨b4, 0, cTm Tz pz, some 28, 11⟩ :: ⟨b3, 0, cCl c, some 23, 2⟩ :: ⟨b2, 0, cTm T ⟨some ⟨gb, go, none⟩, c1, some ⟨sb, so, none⟩, c2⟩, some 28, 11⟩ :: H) (by (repeat (first | exact List.Sublist.refl _ | apply List.Sublist.cons_cons | apply List.Sublist.cons)); done) ?_
      refine X.regionOb tsQa [2, 3, 4, 7] [(2, .pointer (some ⟨b2, 0, none⟩)), (3, .pointer (some ⟨b3, 0, none⟩)), (4, .pointer (some ⟨b4, 0, none⟩)), (7, .pointer (some ⟨b7, 0, none⟩))] (valQa b2 b3 b4 b7 T ⟨some ⟨gb, go, none⟩, c1, some ⟨sb, so, none⟩, c2⟩ (plT t1 k1 t2 k2) c (val T c.g c.s)) (rowsQa b2 b3 b4 b7 T ⟨some ⟨gb, go, none⟩, c1, some ⟨sb, so, none⟩, c2⟩ (plT t1 k1 t2 k2) c (val T c.g c.s)) (fun _ => (0, 0)) (rI (T.G) t1 k1 :: rI (T.S) t2 k2 :: ⟨b4, 0, cTm Tz pz, some 28, 11⟩ :: ⟨b3, 0, cCl c, some 23, 2⟩ :: ⟨b2, 0, cTm T ⟨some ⟨gb, go, none⟩, c1, some ⟨sb, so, none⟩, c2⟩, some 28, 11⟩ :: H) rfl mixed (by (repeat (first | exact Sub.nil _ | refine Sub.cons rfl ?_)); done) rfl (by kernel_rfl) (locQa b2 b3 b4 b7 T ⟨some ⟨gb, go, none⟩, c1, some ⟨sb, so, none⟩, c2⟩ (plT t1 k1 t2 k2) c (val T c.g c.s)) (List.Sublist.refl _) ?_ ?_
      · repeat' (first | exact AllF.done rfl | (refine AllF.step rfl ?_ ?_; · (first | fail | ((first | refine Ob.ng rfl ?_); (first | exact ObK.pure (fun env R hR => by exact ⟨_, EvF.fieldAddr rfl rfl (te rfl) rfl (te rfl) (by decide), rfl⟩) rfl (fun _ => rfl) | exact ObK.pure (fun env R hR => by exact ⟨_, EvF.loadV rfl rfl (LoadV.whole (te rfl) rfl (hR _ (List.Mem.tail _ (List.Mem.tail _ (List.Mem.tail _ (List.Mem.head _))))) rfl), rfl⟩) rfl (fun _ => rfl) | (exact fun env S hS => OpF.callV (Z := []) (EnF.st rfl (Args.cons rfl (Args.cons rfl Args.nil))) (rvalue_spec T ⟨some ⟨gb, go, none⟩, c1, some ⟨sb, so, none⟩, c2⟩ c _ (hT.sub (fun _ h => hS _ (List.mem_append_right [_, _, _, _, _] h))) hok.gr hok.st (by omega) hg hs) rfl rfl) | (exact ObK.pure (fun env S hS => ⟨_, EvF.loadV rfl rfl (LoadV.whole (te rfl) rfl (hS _ (List.Mem.tail _ (List.Mem.tail _ (List.Mem.tail _ (List.Mem.tail _ (List.Mem.head _)))))) rfl), rfl⟩) rfl (fun _ => rfl)) | (exact fun env S hS => (StF.storeAt (q := 0) (vs := cCl c) (cs := cTm T (plT t1 k1 t2 k2)) rfl rfl rfl (te rfl) rfl rfl rfl (Nat.le_of_ble_eq_true rfl)).op.mono (fun v H' ⟨hv, hH⟩ => ⟨(0, 0), fun h => absurd rfl h, by rw [hH]; exact List.Perm.refl _⟩)) | (exact fun env S hS => (StF.storeOne (i := 0) (cs := cTm (clT T c) (plT t1 k1 t2 k2)) rfl rfl rfl rfl (te rfl) rfl rfl (Nat.le_of_ble_eq_true rfl)).op.mono (fun v H' ⟨hv, hH⟩ => ⟨(0, 0), fun h => absurd rfl h, by rw [hH]; exact List.Perm.refl _⟩)))))))
      intro env t ha hv
      refine ⟨_, ha, ?_⟩
      clear hv
      show X _ _ _ _ (⟨b7, 0, cTm (baT T c (val T c.g c.s)) (plT t1 k1 t2 k2), some 28, 11⟩ :: rI (T.G) t1 k1 :: rI (T.S) t2 k2 :: ⟨b4, 0, cTm Tz pz, some 28, 11⟩ :: ⟨b3, 0, cCl c, some 23, 2⟩ :: ⟨b2, 0, cTm T ⟨some ⟨gb, go, none⟩, c1, some ⟨sb, so, none⟩, c2⟩, some 28, 11⟩ :: H) _
      refine X.permH (H' := rI (mix T.G (at1 T.G c.g) 0) t1 k1 :: ⟨b7, 0, cTm (baT T c (val T c.g c.s)) (plT t1 k1 t2 k2), some 28, 11⟩ :: ⟨b3, 0, cCl c, some 23, 2⟩ :: ⟨b2, 0, cTm T ⟨some ⟨gb, go, none⟩, c1, some ⟨sb, so, none⟩, c2⟩, some 28, 11⟩ :: rI (mix T.S (at1 T.S c.s) 0) t2 k2 :: ⟨b4, 0, cTm Tz pz, some 28, 11⟩ :: H) (by (repeat (first | exact List.Perm.refl _ | refine List.Perm.trans (List.Perm.cons _ ?_) (List.perm_middle (l₁ := [])).symm | refine List.Perm.trans (List.Perm.cons _ ?_) (List.perm_middle (l₁ := [_])).symm | refine List.Perm.trans (List.Perm.cons _ ?_) (List.perm_middle (l₁ := [_, _])).symm | refine List.Perm.trans (List.Perm.cons _ ?_) (List.perm_middle (l₁ := [_, _, _])).symm | refine List.Perm.trans (List.Perm.cons _ ?_) (List.perm_middle (l₁ := [_, _, _, _])).symm | refine List.Perm.trans (List.Perm.cons _ ?_) (List.perm_middle (l₁ := [_, _, _, _, _])).symm | refine List.Perm.trans (List.Perm.cons _ ?_) (List.perm_middle (l₁ := [_, _, _, _, _, _])).symm | refine List.Perm.trans (List.Perm.cons _ ?_) (List.perm_middle (l₁ := [_, _, _, _, _, _, _])).symm | refine List.Perm.trans (List.Perm.cons _ ?_) (List.perm_middle (l₁ := [_, _, _, _, _, _, _, _])).symm )); done) ?_
      repeat' (first | (refine XO.op rfl ?_; (first | ((first | refine Xo.ng rfl ?_); (first | (refine Xg.ev (EvF.assign rfl rfl) rfl rfl ?_))))) | (refine XO.done rfl ?_; refine hK _ _ ?_; clear hK K) | refine X.seq rfl ?_ | refine X.region rfl (fun K hK => ?_) | refine X.block rfl ?_)
      refine X.lp rfl (fun w F' H' => ∃ k : Nat, w = 9 - k ∧ k ≤ 9 ∧ rI (mix T.G (at1 T.G c.g) k) t1 k1 :: ⟨b7, 0, cTm (baT T c (val T c.g c.s)) (plT t1 k1 t2 k2), some 28, 11⟩ :: ⟨b3, 0, cCl c, some 23, 2⟩ :: ⟨b2, 0, cTm T ⟨some ⟨gb, go, none⟩, c1, some ⟨sb, so, none⟩, c2⟩, some 28, 11⟩ :: rI (mix T.S (at1 T.S c.s) k) t2 k2 :: ⟨b4, 0, cTm Tz pz, some 28, 11⟩ :: H = H' ∧
          F' = [(2, .pointer (some ⟨b2, 0, none⟩)), (3, .pointer (some ⟨b3, 0, none⟩)), (4, .pointer (some ⟨b4, 0, none⟩)), (7, .pointer (some ⟨b7, 0, none⟩)), (8, .int .i64 (k : Nat))])
        9 [(2, .pointer (some ⟨b2, 0, none⟩)), (3, .pointer (some ⟨b3, 0, none⟩)), (4, .pointer (some ⟨b4, 0, none⟩)), (7, .pointer (some ⟨b7, 0, none⟩)), (8, .int .i64 (0 : Nat))] _ (by (repeat (first | exact Sub.nil _ | refine Sub.cons rfl ?_)); done) (by (repeat (first | exact List.Sublist.refl _ | apply List.Sublist.cons_cons | apply List.Sublist.cons)); done) ⟨0, by omega, by omega, rfl, rfl⟩ ?_
      rintro _ _ _ ⟨k, rfl, hk, rfl, rfl⟩
      repeat' (first | (refine XO.op rfl ?_; (first | ((first | refine Xo.ng rfl ?_); (first | (refine Xg.ev (EvF.move rfl rfl) rfl rfl ?_) | (refine Xg.ev (EvF.cmp rfl rfl rfl rfl) rfl rfl ?_) | (refine Xg.ev (EvF.loadV rfl rfl (LoadV.whole (te rfl) rfl (List.Mem.tail _ (List.Mem.head _)) rfl)) rfl rfl ?_))))) | (refine XO.done rfl ?_; refine hK _ _ ?_; clear hK K) | refine X.seq rfl ?_ | refine X.region rfl (fun K hK => ?_) | refine X.block rfl ?_ | (refine X.brk rfl ?_; repeat (first | refine blockX_hit rfl ?_ | refine blockX_miss (by decide) ?_)) | refine X.skip rfl ?_ | (refine X.ite rfl rfl (fun hc => ?_); (first | (with_reducible refine Xb.case hc (fun h => ?_) (fun h => ?_))) <;> clear hc))
      · have hk9 : k < 9 := by omega
        obtain ⟨x, hx⟩ : ∃ x, T.G[k]? = some x := ⟨_, List.getElem?_eq_getElem (by omega)⟩
        obtain ⟨y, hy⟩ : ∃ x, T.S[k]? = some x := ⟨_, List.getElem?_eq_getElem (by omega)⟩
        have hxb := hok.gr.2 x (List.mem_of_getElem? hx)
        have hyb := hok.st.2 y (List.mem_of_getElem? hy)
        refine X.regionOb tsQb [2, 3, 4, 7, 8] [(2, .pointer (some ⟨b2, 0, none⟩)), (3, .pointer (some ⟨b3, 0, none⟩)), (4, .pointer (some ⟨b4, 0, none⟩)), (7, .pointer (some ⟨b7, 0, none⟩)), (8, .int .i64 (k : Nat))] (valQb b2 b3 b4 b7 t1 T.G.length T.G.length k k1 c1 gb go c.g x (at1 T.G c.g) (mix T.G (at1 T.G c.g) k)) (rowsQb b2 b3 b4 b7 t1 T.G.length T.G.length k k1 c1 gb go c.g x (at1 T.G c.g) (mix T.G (at1 T.G c.g) k)) (fun _ => (0, 0)) (⟨b7, 0, cTm (baT T c (val T c.g c.s)) (plT t1 k1 t2 k2), some 28, 11⟩ :: ⟨b3, 0, cCl c, some 23, 2⟩ :: ⟨b2, 0, cTm T ⟨some ⟨gb, go, none⟩, c1, some ⟨sb, so, none⟩, c2⟩, some 28, 11⟩ :: rI (mix T.S (at1 T.S c.s) k) t2 k2 :: ⟨b4, 0, cTm Tz pz, some 28, 11⟩ :: H) rfl mixed (by (repeat (first | exact Sub.nil _ | refine Sub.cons rfl ?_)); done) rfl (by kernel_rfl) (locQb b2 b3 b4 b7 t1 T.G.length T.G.length k k1 c1 gb go c.g x (at1 T.G c.g) (mix T.G (at1 T.G c.g) k)) (List.Sublist.refl _) ?_ ?_
        · repeat' (first | exact AllF.done rfl | (refine AllF.step rfl ?_ ?_; · (first | fail | ((first | refine Ob.ng rfl ?_); (first | exact ObK.pure (fun env R hR => by exact ⟨_, EvF.move rfl rfl, rfl⟩) rfl (fun _ => rfl) | exact ObK.pure (fun env R hR => by exact ⟨_, EvF.fieldAddr rfl rfl (te rfl) rfl (te rfl) (by decide), rfl⟩) rfl (fun _ => rfl) | exact ObK.pure (fun env R hR => by exact ⟨_, EvF.loadV rfl rfl (LoadV.own (te rfl) rfl (hR _ (List.Mem.head _)) rfl), rfl⟩) rfl (fun _ => rfl) | exact ObK.pure (fun env R hR => by exact ⟨_, EvF.loadV rfl rfl (LoadV.own (te rfl) rfl (hR _ (List.Mem.tail _ (List.Mem.head _))) rfl), rfl⟩) rfl (fun _ => rfl) | exact ObK.pure (fun env R hR => by exact ⟨_, EvF.loadV rfl rfl (LoadV.own (te rfl) rfl (hR _ (List.Mem.tail _ (List.Mem.tail _ (List.Mem.head _)))) rfl), rfl⟩) rfl (fun _ => rfl) | (exact ObK.pure (fun env S hS => ⟨_, EvF.sub64 rfl rfl rfl (by omega) (by omega), rfl⟩) rfl (fun _ => rfl)) | ((refine fun env S hS => (StF.ofEv (v := .pointer (some ⟨gb, go + k * 1, none⟩)) ?_).op.mono (fun v H' ⟨hv, hH⟩ => ⟨(0, 0), fun _ => hv, by rw [hH]; exact List.Perm.refl _⟩); exact EvF.indexSlice (i := (k : Int)) (off := go) (b := gb) (T := 24) (e := 3) (len := T.G.length) (ti := ⟨.int .i64, 1, 8⟩) rfl rfl rfl (te rfl) (te rfl) (by omega) (by omega))) | ((refine fun env S hS => (StF.ofEv (v := .pointer (some ⟨gb, go + (c.g - 1).toNat * 1, none⟩)) ?_).op.mono (fun v H' ⟨hv, hH⟩ => ⟨(0, 0), fun _ => hv, by rw [hH]; exact List.Perm.refl _⟩); exact EvF.indexSlice (i := c.g - 1) (off := go) (b := gb) (T := 24) (e := 3) (len := T.G.length) (ti := ⟨.int .i64, 1, 8⟩) rfl rfl rfl (te rfl) (te rfl) (by omega) (by omega))) | ((refine fun env S hS => (StF.ofEv (v := .pointer (some ⟨t1, 0 + k * 1, none⟩)) ?_).op.mono (fun v H' ⟨hv, hH⟩ => ⟨(0, 0), fun _ => hv, by rw [hH]; exact List.Perm.refl _⟩); exact EvF.indexSlice (i := (k : Int)) (off := 0) (b := t1) (T := 24) (e := 3) (len := T.G.length) (ti := ⟨.int .i64, 1, 8⟩) rfl rfl rfl (te rfl) (te rfl) (by omega) (by omega))) | (exact ObK.pure (fun env S hS => ⟨.int .i64 x, EvF.loadV rfl rfl (LoadV.el0 (n := k) hT.gr hx (te rfl) rfl (fun _ h => hS _ (List.mem_append_right [_, _, _, _, _] h)) rfl), rfl⟩) rfl (fun _ => rfl)) | (exact ObK.pure (fun env S hS => ⟨.int .i64 (at1 T.G c.g), EvF.loadV rfl rfl (LoadV.el0 (n := (c.g - 1).toNat) hT.gr q1 (te rfl) rfl (fun _ h => hS _ (List.mem_append_right [_, _, _, _, _] h)) rfl), rfl⟩) rfl (fun _ => rfl)) | (exact fun env S hS => (StF.storeI (q := 0) (c := mix T.G (at1 T.G c.g) k) (i := k) rfl rfl rfl (te rfl) rfl rfl (by omega) (by rw [mix_len]; omega)).op.mono (fun v H' ⟨hv, hH⟩ => ⟨(0, 0), fun h => absurd rfl h, by rw [hH]; exact List.Perm.refl _⟩)))))))
        intro env t ha hv
        refine ⟨_, ha, ?_⟩
        clear hv
        show X _ _ _ _ (rI ((mix T.G (at1 T.G c.g) k).set k (x - at1 T.G c.g)) t1 k1 :: ⟨b7, 0, cTm (baT T c (val T c.g c.s)) (plT t1 k1 t2 k2), some 28, 11⟩ :: ⟨b3, 0, cCl c, some 23, 2⟩ :: ⟨b2, 0, cTm T ⟨some ⟨gb, go, none⟩, c1, some ⟨sb, so, none⟩, c2⟩, some 28, 11⟩ :: rI (mix T.S (at1 T.S c.s) k) t2 k2 :: ⟨b4, 0, cTm Tz pz, some 28, 11⟩ :: H) _
        rw [mix_set hx]
        refine X.permH (H' := rI (mix T.S (at1 T.S c.s) k) t2 k2 :: rI (mix T.G (at1 T.G c.g) (k + 1)) t1 k1 :: ⟨b7, 0, cTm (baT T c (val T c.g c.s)) (plT t1 k1 t2 k2), some 28, 11⟩ :: ⟨b3, 0, cCl c, some 23, 2⟩ :: ⟨b2, 0, cTm T ⟨some ⟨gb, go, none⟩, c1, some ⟨sb, so, none⟩, c2⟩, some 28, 11⟩ :: ⟨b4, 0, cTm Tz pz, some 28, 11⟩ :: H) (by (repeat (first | exact List.Perm.refl _ | refine List.Perm.trans (List.Perm.cons _ ?_) (List.perm_middle (l₁ := [])).symm | refine List.Perm.trans (List.Perm.cons _ ?_) (List.perm_middle (l₁ := [_])).symm | refine List.Perm.trans (List.Perm.cons _ ?_) (List.perm_middle (l₁ := [_, _])).symm | refine List.Perm.trans (List.Perm.cons _ ?_) (List.perm_middle (l₁ := [_, _, _])).symm | refine List.Perm.trans (List.Perm.cons _ ?_) (List.perm_middle (l₁ := [_, _, _, _])).symm | refine List.Perm.trans (List.Perm.cons _ ?_) (List.perm_middle (l₁ := [_, _, _, _, _])).symm | refine List.Perm.trans (List.Perm.cons _ ?_) (List.perm_middle (l₁ := [_, _, _, _, _, _])).symm | refine List.Perm.trans (List.Perm.cons _ ?_) (List.perm_middle (l₁ := [_, _, _, _, _, _, _])).symm | refine List.Perm.trans (List.Perm.cons _ ?_) (List.perm_middle (l₁ := [_, _, _, _, _, _, _, _])).symm )); done) ?_
        refine X.regionOb tsQc [2, 3, 4, 7, 8] [(2, .pointer (some ⟨b2, 0, none⟩)), (3, .pointer (some ⟨b3, 0, none⟩)), (4, .pointer (some ⟨b4, 0, none⟩)), (7, .pointer (some ⟨b7, 0, none⟩)), (8, .int .i64 (k : Nat))] (valQc b2 b3 b4 b7 t2 T.S.length T.S.length k k2 c2 sb so c.s y (at1 T.S c.s) (mix T.S (at1 T.S c.s) k)) (rowsQc b2 b3 b4 b7 t2 T.S.length T.S.length k k2 c2 sb so c.s y (at1 T.S c.s) (mix T.S (at1 T.S c.s) k)) (fun _ => (0, 0)) (rI (mix T.G (at1 T.G c.g) (k + 1)) t1 k1 :: ⟨b7, 0, cTm (baT T c (val T c.g c.s)) (plT t1 k1 t2 k2), some 28, 11⟩ :: ⟨b3, 0, cCl c, some 23, 2⟩ :: ⟨b2, 0, cTm T ⟨some ⟨gb, go, none⟩, c1, some ⟨sb, so, none⟩, c2⟩, some 28, 11⟩ :: ⟨b4, 0, cTm Tz pz, some 28, 11⟩ :: H) rfl mixed (by (repeat (first | exact Sub.nil _ | refine Sub.cons rfl ?_)); done) rfl (by kernel_rfl) (locQc b2 b3 b4 b7 t2 T.S.length T.S.length k k2 c2 sb so c.s y (at1 T.S c.s) (mix T.S (at1 T.S c.s) k)) (List.Sublist.refl _) ?_ ?_
        · repeat' (first | exact AllF.done rfl | (refine AllF.step rfl ?_ ?_; · (first | fail | ((first | refine Ob.ng rfl ?_); (first | exact ObK.pure (fun env R hR => by exact ⟨_, EvF.move rfl rfl, rfl⟩) rfl (fun _ => rfl) | exact ObK.pure (fun env R hR => by exact ⟨_, EvF.fieldAddr rfl rfl (te rfl) rfl (te rfl) (by decide), rfl⟩) rfl (fun _ => rfl) | exact ObK.pure (fun env R hR => by exact ⟨_, EvF.loadV rfl rfl (LoadV.own (te rfl) rfl (hR _ (List.Mem.tail _ (List.Mem.head _))) rfl), rfl⟩) rfl (fun _ => rfl) | exact ObK.pure (fun env R hR => by exact ⟨_, EvF.loadV rfl rfl (LoadV.own (te rfl) rfl (hR _ (List.Mem.tail _ (List.Mem.tail _ (List.Mem.head _)))) rfl), rfl⟩) rfl (fun _ => rfl) | exact ObK.pure (fun env R hR => by exact ⟨_, EvF.loadV rfl rfl (LoadV.own (te rfl) rfl (hR _ (List.Mem.tail _ (List.Mem.tail _ (List.Mem.tail _ (List.Mem.head _))))) rfl), rfl⟩) rfl (fun _ => rfl) | (exact ObK.pure (fun env S hS => ⟨_, EvF.sub64 rfl rfl rfl (by omega) (by omega), rfl⟩) rfl (fun _ => rfl)) | ((refine fun env S hS => (StF.ofEv (v := .pointer (some ⟨sb, so + k * 1, none⟩)) ?_).op.mono (fun v H' ⟨hv, hH⟩ => ⟨(0, 0), fun _ => hv, by rw [hH]; exact List.Perm.refl _⟩); exact EvF.indexSlice (i := (k : Int)) (off := so) (b := sb) (T := 24) (e := 3) (len := T.S.length) (ti := ⟨.int .i64, 1, 8⟩) rfl rfl rfl (te rfl) (te rfl) (by omega) (by omega))) | ((refine fun env S hS => (StF.ofEv (v := .pointer (some ⟨sb, so + (c.s - 1).toNat * 1, none⟩)) ?_).op.mono (fun v H' ⟨hv, hH⟩ => ⟨(0, 0), fun _ => hv, by rw [hH]; exact List.Perm.refl _⟩); exact EvF.indexSlice (i := c.s - 1) (off := so) (b := sb) (T := 24) (e := 3) (len := T.S.length) (ti := ⟨.int .i64, 1, 8⟩) rfl rfl rfl (te rfl) (te rfl) (by omega) (by omega))) | ((refine fun env S hS => (StF.ofEv (v := .pointer (some ⟨t2, 0 + k * 1, none⟩)) ?_).op.mono (fun v H' ⟨hv, hH⟩ => ⟨(0, 0), fun _ => hv, by rw [hH]; exact List.Perm.refl _⟩); exact EvF.indexSlice (i := (k : Int)) (off := 0) (b := t2) (T := 24) (e := 3) (len := T.S.length) (ti := ⟨.int .i64, 1, 8⟩) rfl rfl rfl (te rfl) (te rfl) (by omega) (by omega))) | (exact ObK.pure (fun env S hS => ⟨.int .i64 y, EvF.loadV rfl rfl (LoadV.el0 (n := k) hT.st hy (te rfl) rfl (fun _ h => hS _ (List.mem_append_right [_, _, _, _, _] h)) rfl), rfl⟩) rfl (fun _ => rfl)) | (exact ObK.pure (fun env S hS => ⟨.int .i64 (at1 T.S c.s), EvF.loadV rfl rfl (LoadV.el0 (n := (c.s - 1).toNat) hT.st q2 (te rfl) rfl (fun _ h => hS _ (List.mem_append_right [_, _, _, _, _] h)) rfl), rfl⟩) rfl (fun _ => rfl)) | (exact fun env S hS => (StF.storeI (q := 0) (c := mix T.S (at1 T.S c.s) k) (i := k) rfl rfl rfl (te rfl) rfl rfl (by omega) (by rw [mix_len]; omega)).op.mono (fun v H' ⟨hv, hH⟩ => ⟨(0, 0), fun h => absurd rfl h, by rw [hH]; exact List.Perm.refl _⟩)))))))
        intro env t ha hv
        refine ⟨_, ha, ?_⟩
        clear hv
        show X _ _ _ _ (rI ((mix T.S (at1 T.S c.s) k).set k (y - at1 T.S c.s)) t2 k2 :: rI (mix T.G (at1 T.G c.g) (k + 1)) t1 k1 :: ⟨b7, 0, cTm (baT T c (val T c.g c.s)) (plT t1 k1 t2 k2), some 28, 11⟩ :: ⟨b3, 0, cCl c, some 23, 2⟩ :: ⟨b2, 0, cTm T ⟨some ⟨gb, go, none⟩, c1, some ⟨sb, so, none⟩, c2⟩, some 28, 11⟩ :: ⟨b4, 0, cTm Tz pz, some 28, 11⟩ :: H) _
        rw [mix_set hy]
        refine X.permH (H' := rI (mix T.G (at1 T.G c.g) (k + 1)) t1 k1 :: ⟨b7, 0, cTm (baT T c (val T c.g c.s)) (plT t1 k1 t2 k2), some 28, 11⟩ :: ⟨b3, 0, cCl c, some 23, 2⟩ :: ⟨b2, 0, cTm T ⟨some ⟨gb, go, none⟩, c1, some ⟨sb, so, none⟩, c2⟩, some 28, 11⟩ :: rI (mix T.S (at1 T.S c.s) (k + 1)) t2 k2 :: ⟨b4, 0, cTm Tz pz, some 28, 11⟩ :: H) (by (repeat (first | exact List.Perm.refl _ | refine List.Perm.trans (List.Perm.cons _ ?_) (List.perm_middle (l₁ := [])).symm | refine List.Perm.trans (List.Perm.cons _ ?_) (List.perm_middle (l₁ := [_])).symm | refine List.Perm.trans (List.Perm.cons _ ?_) (List.perm_middle (l₁ := [_, _])).symm | refine List.Perm.trans (List.Perm.cons _ ?_) (List.perm_middle (l₁ := [_, _, _])).symm | refine List.Perm.trans (List.Perm.cons _ ?_) (List.perm_middle (l₁ := [_, _, _, _])).symm | refine List.Perm.trans (List.Perm.cons _ ?_) (List.perm_middle (l₁ := [_, _, _, _, _])).symm | refine List.Perm.trans (List.Perm.cons _ ?_) (List.perm_middle (l₁ := [_, _, _, _, _, _])).symm | refine List.Perm.trans (List.Perm.cons _ ?_) (List.perm_middle (l₁ := [_, _, _, _, _, _, _])).symm | refine List.Perm.trans (List.Perm.cons _ ?_) (List.perm_middle (l₁ := [_, _, _, _, _, _, _, _])).symm )); done) ?_
        repeat' (first | (refine XO.op rfl ?_; (first | ((first | refine Xo.ng rfl ?_); (first | (refine Xg.ev (EvF.move rfl rfl) rfl rfl ?_) | (refine Xg.ev (EvF.assign rfl rfl) rfl rfl ?_) | (refine Xg.ev (EvF.add64 rfl rfl rfl (by omega) (by omega)) rfl rfl ?_))))) | (refine XO.done rfl ?_; refine hK _ _ ?_; clear hK K) | refine X.region rfl (fun K hK => ?_))
        refine ⟨_, _, _, (by (repeat (first | exact Sub.nil _ | refine Sub.cons rfl ?_)); done), (by (repeat (first | exact List.Sublist.refl _ | apply List.Sublist.cons_cons | apply List.Sublist.cons)); done), ⟨k + 1, rfl, by omega, rfl, rfl⟩, by omega⟩
      · obtain rfl : k = 9 := by omega
        have m1 : mix T.G (at1 T.G c.g) 9 = (rebT T c).G := by rw [← l1]; exact mix_all _ _
        have m2 : mix T.S (at1 T.S c.s) 9 = (rebT T c).S := by rw [← l2]; exact mix_all _ _
        rw [m1, m2]
        have hvd := fun H' (h : TmOk H' (rebT T c) (plT t1 k1 t2 k2)) => rterms_spec (rebT T c) (plT t1 k1 t2 k2) H' h
        rw [cTm_reb] at hvd
        have hU : ∀ r1 r2 r3 r4, TmOk (rI (rebT T c).G t1 k1 :: r1 :: r2 :: r3 :: rI (rebT T c).S t2 k2 :: r4 :: H) (rebT T c) (plT t1 k1 t2 k2) := fun r1 r2 r3 r4 =>
          ownT (rebT T c) t1 k1 t2 k2 _ (by show (T.G.map _).length ≤ _; rw [List.length_map]; omega) (by show (T.S.map _).length ≤ _; rw [List.length_map]; omega) (List.Mem.head _) (List.Mem.tail _ (List.Mem.tail _ (List.Mem.tail _ (List.Mem.tail _ (List.Mem.head _)))))
        repeat' (first | (refine XO.op rfl ?_; (first | ((first | refine Xo.ng rfl ?_); (first | (refine Xg.call (EnF.st rfl (Args.cons rfl Args.nil)) rfl rfl (hvd _ (hU _ _ _ _)) ?_; rintro _ H9 ⟨rfl, hH9⟩; subst H9) | (refine Xg.ev (EvF.tz rfl) rfl rfl ?_) | (refine Xg.ev (EvF.assign rfl rfl) rfl rfl ?_) | (refine Xg.ev (EvF.not rfl rfl) rfl rfl ?_) | (refine Xg.ev (EvF.loadV rfl rfl (LoadV.whole (te rfl) rfl (List.Mem.tail _ (List.Mem.head _)) rfl)) rfl rfl ?_) | (refine Xg.st0 (StF.storeAll (i := 5) rfl rfl rfl (te rfl) rfl rfl rfl rfl) rfl ?_; rintro _ _ ⟨rfl, rfl⟩; dsimp only [List.set]))))) | (refine XO.done rfl ?_; refine hK _ _ ?_; clear hK K) | refine X.seq rfl ?_ | refine X.region rfl (fun K hK => ?_) | refine X.skip rfl ?_ | refine X.ret rfl ?_ | (refine X.ite rfl rfl (fun hc => ?_); (first | (with_reducible refine Xb.caseN hc (fun h => ?_) (fun h => ?_))) <;> clear hc))
        · rw [vld_no (by assumption)]
          exact ret_two (v := .agg (cTm Tz pz).toArray) (by first | exact .inr rfl | exact .inl rfl) Try.results44 ⟨_, rfl, LoadV.whole (te rfl) rfl (List.Mem.tail _ (List.Mem.tail _ (List.Mem.tail _ (List.Mem.tail _ (List.Mem.tail _ (List.Mem.head _)))))) rfl⟩ rfl (H' := H) (by (repeat (first | exact List.Sublist.refl _ | apply List.Sublist.cons)); done) (progT_no rfl H)
        · rw [vld_ok (by assumption)]
          exact ret_two (v := .agg (cTm (rebT T c) (plT t1 k1 t2 k2)).toArray) (by first | exact .inr rfl | exact .inl rfl) Try.results44 (by rw [cTm_reb]; exact ⟨_, rfl, LoadV.whole (te rfl) rfl (List.Mem.tail _ (List.Mem.tail _ (List.Mem.tail _ (List.Mem.tail _ (List.Mem.tail _ (List.Mem.head _)))))) rfl⟩) rfl (H' := rI (rebT T c).G t1 k1 :: rI (rebT T c).S t2 k2 :: H) (by (repeat (first | exact List.Sublist.refl _ | apply List.Sublist.cons_cons | apply List.Sublist.cons)); done) ⟨_, _, rfl, OwnTm.two (rebT T c) t1 k1 t2 k2, rfl⟩
    · have hrm : ∀ H, Fc Try.prog 57 [.agg (cTm T p).toArray, .agg (cCl c).toArray] H (fun v H' => v = .bool false ∧ H' = H) := fun H => by
        have := rmay_spec T p c H
        rwa [show may T c = false by simpa using hm] at this
      refine Fc.mk (callable Try.call44) Try.func44 rfl Try.ntmps44 rfl ?_; dsimp only [fr]
      repeat' (first | (refine XO.op rfl ?_; (first | ((first | refine Xo.ng rfl ?_); (first | (refine Xg.call (EnF.st rfl (Args.cons rfl (Args.cons rfl Args.nil))) rfl rfl (hra _ (hT1 [_, _, _])) ?_; rintro _ H9 ⟨rfl, hH9⟩; subst H9) | (refine Xg.call (EnF.st rfl (Args.cons rfl (Args.cons rfl Args.nil))) rfl rfl (hrm _) ?_; rintro _ H9 ⟨rfl, hH9⟩; subst H9) | (refine Xg.ev (EvF.tz rfl) rfl rfl ?_) | (refine Xg.ev (EvF.move rfl rfl) rfl rfl ?_) | (refine Xg.ev (EvF.assign rfl rfl) rfl rfl ?_) | (refine Xg.ev (EvF.cmp rfl rfl rfl rfl) rfl rfl ?_) | (refine Xg.ev (EvF.not rfl rfl) rfl rfl ?_) | (refine Xg.ev (EvF.loadV rfl rfl (LoadV.whole (te rfl) rfl (List.Mem.tail _ (List.Mem.head _)) rfl)) rfl rfl ?_) | (refine Xg.ev (EvF.loadV rfl rfl (LoadV.whole (te rfl) rfl (List.Mem.tail _ (List.Mem.tail _ (List.Mem.head _))) rfl)) rfl rfl ?_) | (refine Xg.st (StF.boxAgg rfl rfl) rfl rfl ?_; rintro _ _ ⟨bx, rfl, rfl⟩) | (refine Xg.st (StF.alloc rfl Try.zeroValue28 rfl) rfl rfl ?_; rintro _ _ ⟨bx, rfl, rfl⟩) | (refine Xg.st0 (StF.storeAll (i := 0) rfl rfl rfl (te rfl) rfl rfl rfl rfl) rfl ?_; rintro _ _ ⟨rfl, rfl⟩; dsimp only [List.set]))))) | (refine XO.done rfl ?_; refine hK _ _ ?_; clear hK K) | refine X.seq rfl ?_ | refine X.region rfl (fun K hK => ?_) | refine X.skip rfl ?_ | refine X.ret rfl ?_ | (refine X.ite rfl rfl (fun hc => ?_); (first | (with_reducible refine Xb.caseN hc (fun h => ?_) (fun h => ?_)) | (with_reducible refine Xb.caseB hc (fun h => ?_) (fun h => ?_))) <;> clear hc))
      all_goals try (exfalso; contradiction)
      exact ret_two (v := .agg (cTm Tz pz).toArray) (by first | exact .inr rfl | exact .inl rfl) Try.results44 ⟨_, rfl, LoadV.whole (te rfl) rfl (List.Mem.head _) rfl⟩ rfl (H' := H) (by (repeat (first | exact List.Sublist.refl _ | apply List.Sublist.cons)); done) (progT_no (rebF_nm hz hm) H)
  · refine Fc.mk (callable Try.call44) Try.func44 rfl Try.ntmps44 rfl ?_; dsimp only [fr]
    repeat' (first | (refine XO.op rfl ?_; (first | ((first | refine Xo.ng rfl ?_); (first | (refine Xg.call (EnF.st rfl (Args.cons rfl (Args.cons rfl Args.nil))) rfl rfl (rasked_spec T p c _ (hT1 [_, _, _])) ?_; rintro _ H9 ⟨rfl, hH9⟩; subst H9) | (refine Xg.ev (EvF.tz rfl) rfl rfl ?_) | (refine Xg.ev (EvF.move rfl rfl) rfl rfl ?_) | (refine Xg.ev (EvF.assign rfl rfl) rfl rfl ?_) | (refine Xg.ev (EvF.cmp rfl rfl rfl rfl) rfl rfl ?_) | (refine Xg.ev (EvF.loadV rfl rfl (LoadV.whole (te rfl) rfl (List.Mem.tail _ (List.Mem.head _)) rfl)) rfl rfl ?_) | (refine Xg.ev (EvF.loadV rfl rfl (LoadV.whole (te rfl) rfl (List.Mem.tail _ (List.Mem.tail _ (List.Mem.head _))) rfl)) rfl rfl ?_) | (refine Xg.st (StF.boxAgg rfl rfl) rfl rfl ?_; rintro _ _ ⟨bx, rfl, rfl⟩) | (refine Xg.st (StF.alloc rfl Try.zeroValue28 rfl) rfl rfl ?_; rintro _ _ ⟨bx, rfl, rfl⟩) | (refine Xg.st0 (StF.storeAll (i := 0) rfl rfl rfl (te rfl) rfl rfl rfl rfl) rfl ?_; rintro _ _ ⟨rfl, rfl⟩; dsimp only [List.set]))))) | (refine XO.done rfl ?_; refine hK _ _ ?_; clear hK K) | refine X.seq rfl ?_ | refine X.region rfl (fun K hK => ?_) | refine X.skip rfl ?_ | refine X.ret rfl ?_ | (refine X.ite rfl rfl (fun hc => ?_); (first | (with_reducible refine Xb.caseN hc (fun h => ?_) (fun h => ?_))) <;> clear hc))
    all_goals try (exfalso; exact hz (by assumption))
    exact ret_two (v := .agg (cTm Tz pz).toArray) (by first | exact .inr rfl | exact .inl rfl) Try.results44 ⟨_, rfl, LoadV.whole (te rfl) rfl (List.Mem.head _) rfl⟩ rfl (H' := H) (by (repeat (first | exact List.Sublist.refl _ | apply List.Sublist.cons)); done) (progT_no (rebF_na hz) H)
end Go.Proofs.Ytfpmhdjhcoogpaa
end
section
set_option linter.unusedVariables false
set_option linter.unusedSimpArgs false
namespace Go.Proofs.Ytfpmhdjhcoogpaa
open Go Go.Fw
set_option maxRecDepth 10000
set_option maxHeartbeats 8000000 in
theorem spoilT_spec (T : Tm) (t1 k1 t2 k2 : Nat) (H : List Row) (l1 : T.G.length ≤ 1000000) (l2 : T.S.length ≤ 1000000) :
    Fc Try.prog 49 [.agg (cTm T (plT t1 k1 t2 k2)).toArray] (rI T.G t1 k1 :: rI T.S t2 k2 :: H) (fun v H' => v = .tuple #[] ∧ H' = H) := by
  have hc1 := lenI T.G
  have hc2 := lenI T.S
  unfold rI
  generalize T.G.flatMap cI = cs1 at hc1 ⊢
  generalize T.S.flatMap cI = cs2 at hc2 ⊢
  refine Fc.mk (callable Try.call49) Try.func49 rfl Try.ntmps49 rfl ?_; dsimp only [fr]
  refine X.seq rfl ?_; refine X.region rfl (fun K hK => ?_); repeat' (first | (refine XO.op rfl ?_; (first | ((first | refine Xo.ng rfl ?_); (first | (refine Xg.st (StF.boxAgg rfl rfl) rfl rfl ?_; rintro _ _ ⟨bx, rfl, rfl⟩))))) | (refine XO.done rfl ?_; refine hK _ _ ?_; clear hK K))
  rename Nat => b1
  repeat' (first | (refine XO.op rfl ?_; (first | ((first | refine Xo.ng rfl ?_); (first | (refine Xg.ev (EvF.move rfl rfl) rfl rfl ?_) | (refine Xg.ev (EvF.assign rfl rfl) rfl rfl ?_) | (refine Xg.ev (EvF.cmp rfl rfl rfl rfl) rfl rfl ?_) | (refine Xg.ev (EvF.fieldAddr rfl rfl (te rfl) rfl (te rfl) (by decide)) rfl rfl ?_) | (refine Xg.ev (EvF.lenSlice rfl rfl (te rfl)) rfl rfl ?_) | (refine Xg.ev (EvF.loadV rfl rfl (LoadV.own (te rfl) rfl (List.Mem.head _) rfl)) rfl rfl ?_))))) | (refine XO.done rfl ?_; refine hK _ _ ?_; clear hK K) | refine X.seq rfl ?_ | refine X.region rfl (fun K hK => ?_) | refine X.block rfl ?_ | (refine X.brk rfl ?_; repeat (first | refine blockX_hit rfl ?_ | refine blockX_miss (by decide) ?_)) | refine X.skip rfl ?_ | (refine X.ite rfl rfl (fun hc => ?_); (first | (with_reducible refine Xb.case hc (fun h => ?_) (fun h => ?_))) <;> clear hc))
  refine X.lp rfl (fun q F' H' => ∃ (k : Nat) (ds1 : List Value), q = T.G.length - k ∧ k ≤ T.G.length ∧ ds1.length = T.G.length * 1 ∧ ⟨b1, 0, cTm T (plT t1 k1 t2 k2), some 28, 11⟩ :: ⟨t1, 0, ds1, some 3, k1 * 1⟩ :: ⟨t2, 0, cs2, some 3, k2 * 1⟩ :: H = H' ∧ F' = [(1, .pointer (some ⟨b1, 0, none⟩)), (6, .int .i64 T.G.length), (7, .int .i64 k)])
    T.G.length [(1, .pointer (some ⟨b1, 0, none⟩)), (6, .int .i64 T.G.length), (7, .int .i64 (0 : Nat))] _ (by (repeat (first | exact Sub.nil _ | refine Sub.cons rfl ?_)); done) (List.Sublist.refl _) ⟨0, cs1, rfl, Nat.zero_le _, hc1, rfl, rfl⟩ ?_
  rintro _ _ H2 ⟨k, ds1, rfl, hk, hds1, hH, rfl⟩
  subst hH
  repeat' (first | (refine XO.op rfl ?_; (first | ((first | refine Xo.ng rfl ?_); (first | (refine Xg.st0 (StF.storeOne (i := 1) rfl rfl rfl rfl (te rfl) rfl rfl (by rw [hds1]; show 0 + k * 1 < _; omega)) rfl ?_; rintro _ _ ⟨rfl, rfl⟩; dsimp only [List.set]) | (refine Xg.ev (EvF.move rfl rfl) rfl rfl ?_) | (refine Xg.ev (EvF.assign rfl rfl) rfl rfl ?_) | (refine Xg.ev (EvF.cmp rfl rfl rfl rfl) rfl rfl ?_) | (refine Xg.ev (EvF.add64 rfl rfl rfl (by omega) (by omega)) rfl rfl ?_) | (refine Xg.ev (EvF.fieldAddr rfl rfl (te rfl) rfl (te rfl) (by decide)) rfl rfl ?_) | (refine Xg.ev (EvF.lenSlice rfl rfl (te rfl)) rfl rfl ?_) | (refine Xg.ev (EvF.indexSlice rfl rfl rfl (te rfl) (te rfl) (by omega) (by omega)) rfl rfl ?_) | (refine Xg.ev (EvF.loadV rfl rfl (LoadV.own (te rfl) rfl (List.Mem.head _) rfl)) rfl rfl ?_))))) | (refine XO.done rfl ?_; refine hK _ _ ?_; clear hK K) | refine X.seq rfl ?_ | refine X.region rfl (fun K hK => ?_) | refine X.block rfl ?_ | (refine X.brk rfl ?_; repeat (first | refine blockX_hit rfl ?_ | refine blockX_miss (by decide) ?_)) | refine X.skip rfl ?_ | (refine X.ite rfl rfl (fun hc => ?_); (first | (with_reducible refine Xb.case hc (fun h => ?_) (fun h => ?_))) <;> clear hc))
  · exact ⟨_, [(1, .pointer (some ⟨b1, 0, none⟩)), (6, .int .i64 T.G.length), (7, .int .i64 (k + 1 : Nat))], _, (by (repeat (first | exact Sub.nil _ | refine Sub.cons rfl ?_)); done), List.Sublist.refl _, ⟨k + 1, _, rfl, by omega, by rw [List.length_set]; exact hds1, rfl, rfl⟩, by omega⟩
  clear h hk
  refine X.lp rfl (fun q F' H' => ∃ (k : Nat) (ds2 : List Value), q = T.S.length - k ∧ k ≤ T.S.length ∧ ds2.length = T.S.length * 1 ∧ ⟨b1, 0, cTm T (plT t1 k1 t2 k2), some 28, 11⟩ :: ⟨t1, 0, ds1, some 3, k1 * 1⟩ :: ⟨t2, 0, ds2, some 3, k2 * 1⟩ :: H = H' ∧ F' = [(1, .pointer (some ⟨b1, 0, none⟩)), (17, .int .i64 T.S.length), (18, .int .i64 k)])
    T.S.length [(1, .pointer (some ⟨b1, 0, none⟩)), (17, .int .i64 T.S.length), (18, .int .i64 (0 : Nat))] _ (by (repeat (first | exact Sub.nil _ | refine Sub.cons rfl ?_)); done) (List.Sublist.refl _) ⟨0, cs2, rfl, Nat.zero_le _, hc2, rfl, rfl⟩ ?_
  rintro _ _ H2 ⟨k, ds2, rfl, hk, hds2, hH, rfl⟩
  subst hH
  repeat' (first | (refine XO.op rfl ?_; (first | ((first | refine Xo.ng rfl ?_); (first | (refine Xg.st0 (StF.storeOne (i := 2) rfl rfl rfl rfl (te rfl) rfl rfl (by rw [hds2]; show 0 + k * 1 < _; omega)) rfl ?_; rintro _ _ ⟨rfl, rfl⟩; dsimp only [List.set]) | (refine Xg.ev (EvF.move rfl rfl) rfl rfl ?_) | (refine Xg.ev (EvF.assign rfl rfl) rfl rfl ?_) | (refine Xg.ev (EvF.cmp rfl rfl rfl rfl) rfl rfl ?_) | (refine Xg.ev (EvF.add64 rfl rfl rfl (by omega) (by omega)) rfl rfl ?_) | (refine Xg.ev (EvF.fieldAddr rfl rfl (te rfl) rfl (te rfl) (by decide)) rfl rfl ?_) | (refine Xg.ev (EvF.indexSlice rfl rfl rfl (te rfl) (te rfl) (by omega) (by omega)) rfl rfl ?_) | (refine Xg.ev (EvF.loadV rfl rfl (LoadV.own (te rfl) rfl (List.Mem.head _) rfl)) rfl rfl ?_))))) | (refine XO.done rfl ?_; refine hK _ _ ?_; clear hK K) | refine X.seq rfl ?_ | refine X.region rfl (fun K hK => ?_) | refine X.block rfl ?_ | (refine X.brk rfl ?_; repeat (first | refine blockX_hit rfl ?_ | refine blockX_miss (by decide) ?_)) | refine X.skip rfl ?_ | (refine X.ite rfl rfl (fun hc => ?_); (first | (with_reducible refine Xb.case hc (fun h => ?_) (fun h => ?_))) <;> clear hc))
  · exact ⟨_, [(1, .pointer (some ⟨b1, 0, none⟩)), (17, .int .i64 T.S.length), (18, .int .i64 (k + 1 : Nat))], _, (by (repeat (first | exact Sub.nil _ | refine Sub.cons rfl ?_)); done), List.Sublist.refl _, ⟨k + 1, _, rfl, by omega, by rw [List.length_set]; exact hds2, rfl, rfl⟩, by omega⟩
  clear h hk
  exact ret_none (by first | exact .inr rfl | exact .inl rfl) Try.results49 (H' := H) (by (repeat (first | exact List.Sublist.refl _ | apply List.Sublist.cons)); done) ⟨rfl, rfl⟩
set_option maxHeartbeats 8000000 in
theorem spoilT0_spec (H : List Row) : Fc Try.prog 49 [.agg (cTm Tz pz).toArray] H (fun v H' => v = .tuple #[] ∧ H' = H) := by
  refine Fc.mk (callable Try.call49) Try.func49 rfl Try.ntmps49 rfl ?_; dsimp only [fr]
  refine X.seq rfl ?_; refine X.region rfl (fun K hK => ?_); repeat' (first | (refine XO.op rfl ?_; (first | ((first | refine Xo.ng rfl ?_); (first | (refine Xg.st (StF.boxAgg rfl rfl) rfl rfl ?_; rintro _ _ ⟨bx, rfl, rfl⟩))))) | (refine XO.done rfl ?_; refine hK _ _ ?_; clear hK K))
  rename Nat => b1
  repeat' (first | (refine XO.op rfl ?_; (first | ((first | refine Xo.ng rfl ?_); (first | (refine Xg.ev (EvF.move rfl rfl) rfl rfl ?_) | (refine Xg.ev (EvF.assign rfl rfl) rfl rfl ?_) | (refine Xg.ev (EvF.cmp rfl rfl rfl rfl) rfl rfl ?_) | (refine Xg.ev (EvF.fieldAddr rfl rfl (te rfl) rfl (te rfl) (by decide)) rfl rfl ?_) | (refine Xg.ev (EvF.lenSlice rfl rfl (te rfl)) rfl rfl ?_) | (refine Xg.ev (EvF.loadV rfl rfl (LoadV.own (te rfl) rfl (List.Mem.head _) rfl)) rfl rfl ?_))))) | (refine XO.done rfl ?_; refine hK _ _ ?_; clear hK K) | refine X.seq rfl ?_ | refine X.region rfl (fun K hK => ?_) | refine X.block rfl ?_ | (refine X.brk rfl ?_; repeat (first | refine blockX_hit rfl ?_ | refine blockX_miss (by decide) ?_)) | refine X.skip rfl ?_ | (refine X.ite rfl rfl (fun hc => ?_); (first | (with_reducible refine Xb.case hc (fun h => ?_) (fun h => ?_))) <;> clear hc))
  refine X.lp rfl (fun q F' H' => ⟨b1, 0, cTm Tz pz, some 28, 11⟩ :: H = H' ∧ F' = [(1, .pointer (some ⟨b1, 0, none⟩)), (6, .int .i64 (0 : Nat)), (7, .int .i64 (0 : Nat))]) 0 [(1, .pointer (some ⟨b1, 0, none⟩)), (6, .int .i64 (0 : Nat)), (7, .int .i64 (0 : Nat))] _ (by (repeat (first | exact Sub.nil _ | refine Sub.cons rfl ?_)); done) (List.Sublist.refl _) ⟨rfl, rfl⟩ ?_
  rintro _ _ H2 ⟨hH, rfl⟩
  subst hH
  repeat' (first | (refine XO.op rfl ?_; (first | ((first | refine Xo.ng rfl ?_); (first | (refine Xg.ev (EvF.move rfl rfl) rfl rfl ?_) | (refine Xg.ev (EvF.assign rfl rfl) rfl rfl ?_) | (refine Xg.ev (EvF.cmp rfl rfl rfl rfl) rfl rfl ?_) | (refine Xg.ev (EvF.fieldAddr rfl rfl (te rfl) rfl (te rfl) (by decide)) rfl rfl ?_) | (refine Xg.ev (EvF.lenSlice rfl rfl (te rfl)) rfl rfl ?_) | (refine Xg.ev (EvF.loadV rfl rfl (LoadV.own (te rfl) rfl (List.Mem.head _) rfl)) rfl rfl ?_))))) | (refine XO.done rfl ?_; refine hK _ _ ?_; clear hK K) | refine X.seq rfl ?_ | refine X.region rfl (fun K hK => ?_) | refine X.block rfl ?_ | (refine X.brk rfl ?_; repeat (first | refine blockX_hit rfl ?_ | refine blockX_miss (by decide) ?_)) | refine X.skip rfl ?_ | (refine X.ite rfl rfl (fun hc => ?_); (first | (with_reducible refine Xb.case hc (fun h => ?_) (fun h => ?_))) <;> clear hc))
  any_goals (exfalso; omega)
  refine X.lp rfl (fun q F' H' => ⟨b1, 0, cTm Tz pz, some 28, 11⟩ :: H = H' ∧ F' = [(1, .pointer (some ⟨b1, 0, none⟩)), (17, .int .i64 (0 : Nat)), (18, .int .i64 (0 : Nat))]) 0 [(1, .pointer (some ⟨b1, 0, none⟩)), (17, .int .i64 (0 : Nat)), (18, .int .i64 (0 : Nat))] _ (by (repeat (first | exact Sub.nil _ | refine Sub.cons rfl ?_)); done) (List.Sublist.refl _) ⟨rfl, rfl⟩ ?_
  rintro _ _ H2 ⟨hH, rfl⟩
  subst hH
  repeat' (first | (refine XO.op rfl ?_; (first | ((first | refine Xo.ng rfl ?_); (first | (refine Xg.ev (EvF.move rfl rfl) rfl rfl ?_) | (refine Xg.ev (EvF.assign rfl rfl) rfl rfl ?_) | (refine Xg.ev (EvF.cmp rfl rfl rfl rfl) rfl rfl ?_) | (refine Xg.ev (EvF.fieldAddr rfl rfl (te rfl) rfl (te rfl) (by decide)) rfl rfl ?_) | (refine Xg.ev (EvF.lenSlice rfl rfl (te rfl)) rfl rfl ?_) | (refine Xg.ev (EvF.loadV rfl rfl (LoadV.own (te rfl) rfl (List.Mem.head _) rfl)) rfl rfl ?_))))) | (refine XO.done rfl ?_; refine hK _ _ ?_; clear hK K) | refine X.seq rfl ?_ | refine X.region rfl (fun K hK => ?_) | refine X.block rfl ?_ | (refine X.brk rfl ?_; repeat (first | refine blockX_hit rfl ?_ | refine blockX_miss (by decide) ?_)) | refine X.skip rfl ?_ | (refine X.ite rfl rfl (fun hc => ?_); (first | (with_reducible refine Xb.case hc (fun h => ?_) (fun h => ?_))) <;> clear hc))
  any_goals (exfalso; omega)
  exact ret_none (by first | exact .inr rfl | exact .inl rfl) Try.results49 (H' := H) (by (repeat (first | exact List.Sublist.refl _ | apply List.Sublist.cons)); done) ⟨rfl, rfl⟩
theorem spoilOwn {Z : List Row} {T : Tm} {p : Pt} (h : OwnTm Z T p) (h1 : T.G.length ≤ 1000000) (h2 : T.S.length ≤ 1000000) (H : List Row) : Fc Try.prog 49 [.agg (cTm T p).toArray] (Z ++ H) (fun v H' => v = .tuple #[] ∧ H' = H) := by
  rcases h with ⟨rfl, rfl, rfl⟩ | ⟨t1, k1, t2, k2, rfl, hp⟩
  · exact spoilT0_spec H
  · exact (spoilT_spec T t1 k1 t2 k2 H h1 h2).permR (List.Perm.append_right H hp.symm)
/-- terms whose tables are short -/
def smT (T : Tm) : Prop := T.G.length ≤ 1000 ∧ T.S.length ≤ 1000
theorem smT_zero : smT Tz := ⟨Nat.zero_le _, Nat.zero_le _⟩
theorem smT_vld {T : Tm} (h : smT T) : smT (vld T).1 := by
  unfold vld; split
  · exact h
  · exact smT_zero
theorem smT_step {T : Tm} {g n : Int} (h : smT T) : smT (stepF T g n).1 := by
  unfold stepF; split
  · split
    · exact smT_vld ⟨by show (T.G.set _ _).length ≤ _; rw [List.length_set]; exact h.1, h.2⟩
    · exact smT_zero
  · exact smT_zero
theorem smT_reb {T : Tm} {c : Cl} (h : smT T) : smT (rebF T c).1 := by
  unfold rebF; split
  · split
    · exact smT_vld ⟨by show (T.G.map _).length ≤ _; rw [List.length_map]; exact h.1, by show (T.S.map _).length ≤ _; rw [List.length_map]; exact h.2⟩
    · exact smT_zero
  · exact smT_zero
theorem smT_join {T U : Tm} (h : smT T) : smT (joinF T U).1 := by
  unfold joinF; split
  · split
    · split
      · exact smT_zero
      · exact h
    · exact smT_zero
  · exact smT_zero
theorem smT_spl {T : Tm} {n : Int} (h : smT T) : smT (splF T n).1 ∧ smT (splF T n).2.1 := by
  unfold splF; split
  · split
    · exact ⟨h, h⟩
    · exact ⟨smT_zero, smT_zero⟩
  · exact ⟨smT_zero, smT_zero⟩
theorem OwnTm.okS {Z H : List Row} {T : Tm} {p : Pt} (h : OwnTm Z T p) (hs : smT T) (hz : ∀ r ∈ Z, r ∈ H) : TmOk H T p :=
  (h.ok (by have := hs.1; omega) (by have := hs.2; omega)).sub hz
theorem pzA {α : Type} {A L Z R : List α} (h : L.Perm (Z ++ R)) : (A ++ L).Perm (Z ++ (A ++ R)) :=
  (List.Perm.append_left A h).trans (List.perm_append_comm_assoc A Z R)
theorem pzC {α : Type} {a : α} {L Z R : List α} (h : L.Perm (Z ++ R)) : (a :: L).Perm (Z ++ (a :: R)) :=
  pzA (A := [a]) h
end Go.Proofs.Ytfpmhdjhcoogpaa
end
section
set_option linter.unusedVariables false
set_option linter.unusedSimpArgs false
namespace Go.Proofs.Ytfpmhdjhcoogpaa
open Go Go.Fw
set_option maxRecDepth 10000
def cD0 : List Value := [.int .i64 0, .slice none 0 0, .slice none 0 0]
noncomputable def dp4 (d : Dy) (q : Nat × Nat) : Dy := dyP d (un2 q.1).1 (un2 q.1).2 (un2 q.2).1 (un2 q.2).2
noncomputable def dr4 (d : Dy) (q : Nat × Nat) : List Row := [rI d.G (un2 q.1).1 (un2 q.1).2, rI d.S (un2 q.2).1 (un2 q.2).2]
theorem dp4_enc (d : Dy) (t1 k1 t2 k2 : Nat) : dp4 d (pr2 (t1, k1), pr2 (t2, k2)) = dyP d t1 k1 t2 k2 := by unfold dp4; simp only [un2_pr2]
theorem dr4_enc (d : Dy) (t1 k1 t2 k2 : Nat) : dr4 d (pr2 (t1, k1), pr2 (t2, k2)) = [rI d.G t1 k1, rI d.S t2 k2] := by unfold dr4; simp only [un2_pr2]
theorem dr4_ok (d : Dy) (q : Nat × Nat) (H : List Row) (h1 : d.G.length ≤ 1000000) (h2 : d.S.length ≤ 1000000) (hz : ∀ r ∈ dr4 d q, r ∈ H) : DyOk H (dp4 d q) :=
  ⟨SlE.ofRow (hz _ (List.Mem.head _)) (fun _ _ => rfl), SlE.ofRow (hz _ (List.Mem.tail _ (List.Mem.head _))) (fun _ _ => rfl), h1, h2⟩
theorem greatDT (d : Dy) (h : d.G.length > 30 ∨ d.S.length > 30) (H : List Row) : Fc Try.prog 29 [.agg (cDy d).toArray] H (fun v H' => v = .bool true ∧ H' = H) := by
  have := greatD_spec d H
  rwa [decide_eq_true h] at this
theorem greatDF (d : Dy) (h : ¬ (d.G.length > 30 ∨ d.S.length > 30)) (H : List Row) : Fc Try.prog 29 [.agg (cDy d).toArray] H (fun v H' => v = .bool false ∧ H' = H) := by
  have := greatD_spec d H
  rwa [decide_eq_false h] at this
def tsLc : List TOp := [⟨some 25, [], [], []⟩, ⟨some 26, [0], [0], []⟩, ⟨some 27, [], [], []⟩, ⟨some 28, [0, 1, 2], [2], []⟩, ⟨some 7, [], [], []⟩, ⟨some 8, [], [], []⟩, ⟨none, [0, 1, 2, 3, 4, 5], [4, 1], [4]⟩, ⟨none, [0, 1, 2, 3, 4, 5, 6], [5, 3], [5]⟩]
noncomputable def valLc (b3 b4 b5 : Nat) (T : Tm) (p : Pt) (d : Dy) (k : Nat) (env : Env) : Value :=
  match k with
  | 0 => .agg (cTm T p).toArray
  | 1 => .agg (cTm T (pl4 (env 1))).toArray
  | 2 => .agg (cDy d).toArray
  | 3 => .agg (cDy (dp4 d (env 3))).toArray
  | 4 => .pointer (some ⟨(env 4).1, 0, none⟩)
  | 5 => .pointer (some ⟨(env 5).1, 0, none⟩)
  | 6 => undef
  | 7 => undef
  | _ => undef
noncomputable def rowsLc (b3 b4 b5 : Nat) (T : Tm) (p : Pt) (d : Dy) (k : Nat) (env : Env) : List Row :=
  match k with
  | 1 => [rI T.G (un2 (env 1).1).1 (un2 (env 1).1).2, rI T.S (un2 (env 1).2).1 (un2 (env 1).2).2]
  | 3 => [rI d.G (un2 (env 3).1).1 (un2 (env 3).1).2, rI d.S (un2 (env 3).2).1 (un2 (env 3).2).2]
  | 4 => [⟨(env 4).1, 0, cTm Tz pz, some 28, 11⟩]
  | 5 => [⟨(env 5).1, 0, cD0, some 65, 3⟩]
  | 6 => [⟨(env 4).1, 0, cTm T (pl4 (env 1)), some 28, 11⟩]
  | 7 => [⟨(env 5).1, 0, cDy (dp4 d (env 3)), some 65, 3⟩]
  | _ => []
theorem locLc (b3 b4 b5 : Nat) (T : Tm) (p : Pt) (d : Dy) : ∀ k env i q9, i ≠ k → (tAt tsLc k).sup.contains i = false → valLc b3 b4 b5 T p d k (upd env i q9) = valLc b3 b4 b5 T p d k env ∧ rowsLc b3 b4 b5 T p d k (upd env i q9) = rowsLc b3 b4 b5 T p d k env := by
  intro k env i q hk hs
  have hu : ∀ j, j ≠ i → upd env i q j = env j := fun j hj => by unfold upd; rw [if_neg hj]
  match k, hk, hs with
  | 0, _, _ => exact ⟨rfl, rfl⟩
  | 1, hk, hs => exact ⟨by simp only [valLc, hu 1 (fun e => hk e.symm)], by simp only [rowsLc, hu 1 (fun e => hk e.symm)]⟩
  | 2, _, _ => exact ⟨rfl, rfl⟩
  | 3, hk, hs => exact ⟨by simp only [valLc, hu 3 (fun e => hk e.symm)], by simp only [rowsLc, hu 3 (fun e => hk e.symm)]⟩
  | 4, hk, hs => exact ⟨by simp only [valLc, hu 4 (fun e => hk e.symm)], by simp only [rowsLc, hu 4 (fun e => hk e.symm)]⟩
  | 5, hk, hs => exact ⟨by simp only [valLc, hu 5 (fun e => hk e.symm)], by simp only [rowsLc, hu 5 (fun e => hk e.symm)]⟩
  | 6, hk, hs => exact ⟨by simp only [valLc, hu 1 (by rintro rfl; cases hs), hu 4 (by rintro rfl; cases hs)], by simp only [rowsLc, hu 1 (by rintro rfl; cases hs), hu 4 (by rintro rfl; cases hs)]⟩
  | 7, hk, hs => exact ⟨by simp only [valLc, hu 3 (by rintro rfl; cases hs), hu 5 (by rintro rfl; cases hs)], by simp only [rowsLc, hu 3 (by rintro rfl; cases hs), hu 5 (by rintro rfl; cases hs)]⟩
  | _ + 8, _, _ => exact ⟨rfl, rfl⟩
set_option maxHeartbeats 16000000 in
theorem termsCosts_spec (T : Tm) (p : Pt) (d : Dy) (c : Cl) (H : List Row) (hg : SlE H p.a1 cI 1 T.G) (hs : SlE H p.a2 cI 1 T.S) (hg' : SlE H d.a1 cI 1 d.G) (hs' : SlE H d.a2 cI 1 d.S) :
    Fc Try.prog 6 [.agg (cTm T p).toArray, .agg (cDy d).toArray, .agg (cCl c).toArray] H (fun v _ => v = .bool true) := by
  by_cases hgr : (T.G.length > 30 ∨ T.S.length > 30)
  · have hG := greatT T p hgr
    refine Fc.mk (callable Try.call6) Try.func6 rfl Try.ntmps6 rfl ?_; dsimp only [fr]
    repeat' (first | (refine XO.op rfl ?_; (first | ((first | refine Xo.ng rfl ?_); (first | (refine Xg.call (EnF.st rfl (Args.cons rfl Args.nil)) rfl rfl (hG _) ?_; rintro _ H9 ⟨rfl, hH9⟩; subst H9) | (refine Xg.ev (EvF.move rfl rfl) rfl rfl ?_) | (refine Xg.ev (EvF.assign rfl rfl) rfl rfl ?_) | (refine Xg.ev (EvF.pickT rfl rfl rfl) rfl rfl ?_) | (refine Xg.ev (EvF.loadV rfl rfl (LoadV.whole (te rfl) rfl (List.Mem.tail _ (List.Mem.tail _ (List.Mem.head _))) rfl)) rfl rfl ?_) | (refine Xg.st (StF.boxAgg rfl rfl) rfl rfl ?_; rintro _ _ ⟨bx, rfl, rfl⟩))) | (refine Xo.g rfl rfl ?_; (first | (with_reducible refine Xw.tf rfl rfl ?_))))) | (refine XO.done rfl ?_; refine hK _ _ ?_; clear hK K) | refine X.seq rfl ?_ | refine X.region rfl (fun K hK => ?_) | refine X.ret rfl ?_ | (refine X.ite rfl rfl (fun hc => ?_); (first | (with_reducible refine Xb.t hc ?_)) <;> clear hc))
    all_goals try (exfalso; contradiction)
    exact ret_one (by first | exact .inr rfl | exact .inl rfl) Try.results6 rfl (H' := _) (List.Sublist.refl _) rfl
  by_cases hgr2 : (d.G.length > 30 ∨ d.S.length > 30)
  · have hG := greatF T p hgr
    have hG2 := greatDT d hgr2
    refine Fc.mk (callable Try.call6) Try.func6 rfl Try.ntmps6 rfl ?_; dsimp only [fr]
    repeat' (first | (refine XO.op rfl ?_; (first | ((first | refine Xo.ng rfl ?_ | (refine Xo.g rfl rfl ?_; with_reducible refine Xw.ff ?_)); (first | (refine Xg.call (EnF.st rfl (Args.cons rfl Args.nil)) rfl rfl (hG _) ?_; rintro _ H9 ⟨rfl, hH9⟩; subst H9) | (refine Xg.call (EnF.st rfl (Args.cons rfl Args.nil)) rfl rfl (hG2 _) ?_; rintro _ H9 ⟨rfl, hH9⟩; subst H9) | (refine Xg.ev (EvF.move rfl rfl) rfl rfl ?_) | (refine Xg.ev (EvF.assign rfl rfl) rfl rfl ?_) | (refine Xg.ev (EvF.pickF rfl rfl rfl) rfl rfl ?_) | (refine Xg.ev (EvF.loadV rfl rfl (LoadV.whole (te rfl) rfl (List.Mem.tail _ (List.Mem.head _)) rfl)) rfl rfl ?_) | (refine Xg.ev (EvF.loadV rfl rfl (LoadV.whole (te rfl) rfl (List.Mem.tail _ (List.Mem.tail _ (List.Mem.head _))) rfl)) rfl rfl ?_) | (refine Xg.st (StF.boxAgg rfl rfl) rfl rfl ?_; rintro _ _ ⟨bx, rfl, rfl⟩))))) | (refine XO.done rfl ?_; refine hK _ _ ?_; clear hK K) | refine X.seq rfl ?_ | refine X.region rfl (fun K hK => ?_) | refine X.ret rfl ?_ | (refine X.ite rfl rfl (fun hc => ?_); (first | (with_reducible refine Xb.t hc ?_)) <;> clear hc))
    all_goals try (exfalso; contradiction)
    exact ret_one (by first | exact .inr rfl | exact .inl rfl) Try.results6 rfl (H' := _) (List.Sublist.refl _) rfl
  have hG := greatF T p hgr
  have hG2 := greatDF d hgr2
  have hT : TmOk H T p := ⟨hg, hs, by omega, by omega⟩
  have hD : DyOk H d := ⟨hg', hs', by omega, by omega⟩
  have sT : smT T := ⟨by omega, by omega⟩
  have kc := fun p d H (h : TmOk H T p) (h' : DyOk H d) => kCheapest_spec T p d H h h'
  have rc := fun p H (h : TmOk H T p) (h' : DyOk H d) => rCheapest_spec T p d H h h'
  have kd := fun p d H (h : TmOk H T p) (h' : DyOk H d) => kDearer_spec T p d c H h h'
  have rd := fun p H (h : TmOk H T p) (h' : DyOk H d) => rDearer_spec T p d c H h h'
  refine Fc.mk (callable Try.call6) Try.func6 rfl Try.ntmps6 rfl ?_; dsimp only [fr]
  repeat' (first | (refine XO.op rfl ?_; (first | ((first | refine Xo.ng rfl ?_ | (refine Xo.g rfl rfl ?_; with_reducible refine Xw.ff ?_)); (first | (refine Xg.call (EnF.st rfl (Args.cons rfl Args.nil)) rfl rfl (hG _) ?_; rintro _ H9 ⟨rfl, hH9⟩; subst H9) | (refine Xg.call (EnF.st rfl (Args.cons rfl Args.nil)) rfl rfl (hG2 _) ?_; rintro _ H9 ⟨rfl, hH9⟩; subst H9) | (refine Xg.ev (EvF.move rfl rfl) rfl rfl ?_) | (refine Xg.ev (EvF.assign rfl rfl) rfl rfl ?_) | (refine Xg.ev (EvF.pickF rfl rfl rfl) rfl rfl ?_) | (refine Xg.ev (EvF.loadV rfl rfl (LoadV.whole (te rfl) rfl (List.Mem.tail _ (List.Mem.head _)) rfl)) rfl rfl ?_) | (refine Xg.ev (EvF.loadV rfl rfl (LoadV.whole (te rfl) rfl (List.Mem.tail _ (List.Mem.tail _ (List.Mem.head _))) rfl)) rfl rfl ?_) | (refine Xg.st (StF.boxAgg rfl rfl) rfl rfl ?_; rintro _ _ ⟨bx, rfl, rfl⟩))))) | (refine XO.done rfl ?_; refine hK _ _ ?_; clear hK K) | refine X.seq rfl ?_ | refine X.region rfl (fun K hK => ?_) | refine X.skip rfl ?_ | (refine X.ite rfl rfl (fun hc => ?_); (first | (with_reducible refine Xb.f hc ?_)) <;> clear hc))
  all_goals try (exfalso; contradiction)
  obtain ⟨b5, hb5⟩ : ∃ b, b = bx := ⟨_, rfl⟩
  rw [← hb5]
  clear hb5
  rename_i b3 b4
  refine X.weakR (H' := ⟨b5, 0, cCl c, some 23, 2⟩ :: ⟨b4, 0, cDy d, some 65, 3⟩ :: ⟨b3, 0, cTm T p, some 28, 11⟩ :: H) (by (repeat (first | exact List.Sublist.refl _ | apply List.Sublist.cons_cons | apply List.Sublist.cons)); done) ?_
  refine X.regionOb tsLc [3, 4, 5] [(3, .pointer (some ⟨b3, 0, none⟩)), (4, .pointer (some ⟨b4, 0, none⟩)), (5, .pointer (some ⟨b5, 0, none⟩))] (valLc b3 b4 b5 T p d) (rowsLc b3 b4 b5 T p d) (fun _ => (0, 0)) (⟨b5, 0, cCl c, some 23, 2⟩ :: ⟨b4, 0, cDy d, some 65, 3⟩ :: ⟨b3, 0, cTm T p, some 28, 11⟩ :: H) rfl mixed (by (repeat (first | exact Sub.nil _ | refine Sub.cons rfl ?_)); done) rfl (by kernel_rfl) (locLc b3 b4 b5 T p d) (List.Sublist.refl _) ?_ ?_
  · repeat' (first | exact AllF.done rfl | (refine AllF.step rfl ?_ ?_; · (first | fail | ((first | refine Ob.ng rfl ?_); (first | exact ObK.pure (fun env R hR => by exact ⟨_, EvF.loadV rfl rfl (LoadV.whole (te rfl) rfl (hR _ (List.Mem.tail _ (List.Mem.head _))) rfl), rfl⟩) rfl (fun _ => rfl) | exact ObK.pure (fun env R hR => by exact ⟨_, EvF.loadV rfl rfl (LoadV.whole (te rfl) rfl (hR _ (List.Mem.tail _ (List.Mem.tail _ (List.Mem.head _)))) rfl), rfl⟩) rfl (fun _ => rfl) | (exact fun env S hS => (OpF.call (EnF.st rfl (Args.cons rfl Args.nil)) (twin_spec T p _ (hT.sub (fun r hr => hS r (List.mem_append_right [_, _, _] hr))))).mono (fun v H' ⟨t1, k1, t2, k2, hv, hH⟩ => ⟨(pr2 (t1, k1), pr2 (t2, k2)), fun _ => by (show v = .agg (cTm T (pl4 (pr2 (t1, k1), pr2 (t2, k2)))).toArray; rw [pl4_enc]; exact hv), by (show List.Perm H' (ro4 T (pr2 (t1, k1), pr2 (t2, k2)) ++ _); rw [hH, ro4_enc]; exact List.Perm.refl _)⟩)) | (exact fun env S hS => (OpF.call (EnF.st rfl (Args.cons rfl Args.nil)) (twinD_spec d _ (hD.sub (fun r hr => hS r (List.mem_append_right [_, _, _] hr))))).mono (fun v H' ⟨t1, k1, t2, k2, hv, hH⟩ => ⟨(pr2 (t1, k1), pr2 (t2, k2)), fun _ => by (show v = .agg (cDy (dp4 d (pr2 (t1, k1), pr2 (t2, k2)))).toArray; rw [dp4_enc]; exact hv), by (show List.Perm H' (dr4 d (pr2 (t1, k1), pr2 (t2, k2)) ++ _); rw [hH, dr4_enc]; exact List.Perm.refl _)⟩)) | (exact fun env S hS => (StF.alloc rfl Try.zeroValue28 rfl).op.mono (fun v H' ⟨b, hv, hH⟩ => ⟨(b, 0), fun _ => hv, by rw [hH]; exact List.Perm.refl _⟩)) | (exact fun env S hS => (StF.alloc rfl Try.zeroValue65 rfl).op.mono (fun v H' ⟨b, hv, hH⟩ => ⟨(b, 0), fun _ => hv, by rw [hH]; exact List.Perm.refl _⟩)) | (exact fun env S hS => (StF.storeAll (i := 0) (vs := cTm T (pl4 (env 1))) (cs := cTm Tz pz) rfl rfl rfl (te rfl) rfl rfl rfl rfl).op.mono (fun v H' ⟨hv, hH⟩ => ⟨(0, 0), fun h => absurd rfl h, by rw [hH]; exact List.Perm.refl _⟩)) | (exact fun env S hS => (StF.storeAll (i := 0) (vs := cDy (dp4 d (env 3))) (cs := cD0) rfl rfl rfl (te rfl) rfl rfl rfl rfl).op.mono (fun v H' ⟨hv, hH⟩ => ⟨(0, 0), fun h => absurd rfl h, by rw [hH]; exact List.Perm.refl _⟩)))))))
  intro env t ha hv
  refine ⟨_, (ha.cons (hv 4 7 (Nat.le_of_ble_eq_true rfl) rfl)).cons (hv 5 8 (Nat.le_of_ble_eq_true rfl) rfl), ?_⟩
  clear hv ha
  show X _ _ _ ((8, .pointer (some ⟨(env 5).1, 0, none⟩)) :: (7, .pointer (some ⟨(env 4).1, 0, none⟩)) :: _) (ro4 T (env 1) ++ (dr4 d (env 3) ++ (⟨(env 4).1, 0, cTm T (pl4 (env 1)), some 28, 11⟩ :: ⟨(env 5).1, 0, cDy (dp4 d (env 3)), some 65, 3⟩ :: ⟨b5, 0, cCl c, some 23, 2⟩ :: ⟨b4, 0, cDy d, some 65, 3⟩ :: ⟨b3, 0, cTm T p, some 28, 11⟩ :: H))) _
  obtain ⟨b7, hb7⟩ : ∃ b, b = (env 4).1 := ⟨_, rfl⟩
  obtain ⟨b8, hb8⟩ : ∃ b, b = (env 5).1 := ⟨_, rfl⟩
  obtain ⟨qo, hqo⟩ : ∃ b, b = pl4 (env 1) := ⟨_, rfl⟩
  obtain ⟨t1, k1, t2, k2, hdp⟩ : ∃ t1 k1 t2 k2, dp4 d (env 3) = dyP d t1 k1 t2 k2 := ⟨_, _, _, _, rfl⟩
  obtain ⟨HX, hHX⟩ : ∃ HX, HX = ro4 T (env 1) ++ (dr4 d (env 3) ++ (⟨(env 4).1, 0, cTm T (pl4 (env 1)), some 28, 11⟩ :: ⟨(env 5).1, 0, cDy (dp4 d (env 3)), some 65, 3⟩ :: ⟨b5, 0, cCl c, some 23, 2⟩ :: ⟨b4, 0, cDy d, some 65, 3⟩ :: ⟨b3, 0, cTm T p, some 28, 11⟩ :: H)) := ⟨_, rfl⟩
  rw [← hHX]
  have m7 : ∀ Z : List Row, ⟨b7, 0, cTm T qo, some 28, 11⟩ ∈ Z ++ HX := fun Z => List.mem_append_right _ (by rw [hHX, hb7, hqo]; exact List.mem_append_right _ (List.mem_append_right _ (List.Mem.head _)))
  have m8 : ∀ Z : List Row, ⟨b8, 0, cDy (dyP d t1 k1 t2 k2), some 65, 3⟩ ∈ Z ++ HX := fun Z => List.mem_append_right _ (by rw [hHX, hb8, ← hdp]; exact List.mem_append_right _ (List.mem_append_right _ (List.Mem.tail _ (List.Mem.head _))))
  have m5 : ∀ Z : List Row, ⟨b5, 0, cCl c, some 23, 2⟩ ∈ Z ++ HX := fun Z => List.mem_append_right _ (by rw [hHX]; exact List.mem_append_right _ (List.mem_append_right _ (List.Mem.tail _ (List.Mem.tail _ (List.Mem.head _)))))
  have m4 : ∀ Z : List Row, ⟨b4, 0, cDy d, some 65, 3⟩ ∈ Z ++ HX := fun Z => List.mem_append_right _ (by rw [hHX]; exact List.mem_append_right _ (List.mem_append_right _ (List.Mem.tail _ (List.Mem.tail _ (List.Mem.tail _ (List.Mem.head _))))))
  have m3 : ∀ Z : List Row, ⟨b3, 0, cTm T p, some 28, 11⟩ ∈ Z ++ HX := fun Z => List.mem_append_right _ (by rw [hHX]; exact List.mem_append_right _ (List.mem_append_right _ (List.Mem.tail _ (List.Mem.tail _ (List.Mem.tail _ (List.Mem.tail _ (List.Mem.head _)))))))
  have hI : ∀ Z : List Row, TmOk (Z ++ HX) T p := fun Z => hT.sub (fun r hr => List.mem_append_right _ (by rw [hHX]; exact List.mem_append_right _ (List.mem_append_right _ (List.mem_append_right [_, _, _, _, _] hr))))
  have hJ : ∀ Z : List Row, DyOk (Z ++ HX) d := fun Z => hD.sub (fun r hr => List.mem_append_right _ (by rw [hHX]; exact List.mem_append_right _ (List.mem_append_right _ (List.mem_append_right [_, _, _, _, _] hr))))
  have hO : ∀ Z : List Row, TmOk (Z ++ HX) T qo := fun Z => by rw [hqo]; exact (ro4_own T (env 1)).okS sT (fun r hr => List.mem_append_right _ (by rw [hHX]; exact List.mem_append_left _ hr))
  have hP : ∀ Z : List Row, DyOk (Z ++ HX) (dyP d t1 k1 t2 k2) := fun Z => by rw [← hdp]; exact dr4_ok d (env 3) _ (by omega) (by omega) (fun r hr => List.mem_append_right _ (by rw [hHX]; exact List.mem_append_right _ (List.mem_append_left _ hr)))
  rw [← hb7, ← hb8]
  clear hHX hb7 hb8 hqo hdp hT hD hg hs hg' hs'
  have kc' := fun H h h' => kc qo (dyP d t1 k1 t2 k2) H h h'
  have kd' := fun H h h' => kd qo (dyP d t1 k1 t2 k2) H h h'
  rw [show chC T (dyP d t1 k1 t2 k2) = chC T d from rfl, show chN T (dyP d t1 k1 t2 k2) = chN T d from rfl, show dayE T (dyP d t1 k1 t2 k2) = dayE T d from rfl] at kc'
  rw [show deN T (dyP d t1 k1 t2 k2) c = deN T d c from rfl, show deaE T (dyP d t1 k1 t2 k2) c = deaE T d c from rfl] at kd'
  generalize chC T d = v1 at kc' rc
  generalize chN T d = v2 at kc' rc
  generalize dayE T d = v3 at kc' rc
  generalize deN T d c = v4 at kd' rd
  generalize deaE T d c = v5 at kd' rd
  clear kc kd
  repeat' (first | (refine XO.op rfl ?_; (first | ((first | refine Xo.ng rfl ?_); (first | (refine Xg.ev (EvF.loadV rfl rfl (LoadV.whole (te rfl) rfl (m7 []) rfl)) rfl rfl ?_) | (refine Xg.ev (EvF.loadV rfl rfl (LoadV.whole (te rfl) rfl (m8 []) rfl)) rfl rfl ?_) | (refine Xg.call (EnF.st rfl (Args.cons rfl (Args.cons rfl Args.nil))) rfl rfl (kc' _ (hO []) (hP [])) ?_; rintro _ H9 ⟨rfl, hH9⟩; subst H9) | (refine Xg.ev (EvF.move rfl rfl) rfl rfl ?_) | (refine Xg.ev (EvF.assign rfl rfl) rfl rfl ?_) | (refine Xg.ev (EvF.extract rfl rfl rfl) rfl rfl ?_) | (refine Xg.st (StF.alloc rfl Try.zeroValue26 rfl) rfl rfl ?_; rintro _ _ ⟨bx, rfl, rfl⟩) | (refine Xg.st0 (StF.storeAll (i := 0) rfl rfl rfl (te rfl) rfl rfl rfl rfl) rfl ?_; rintro _ _ ⟨rfl, rfl⟩; dsimp only [List.set]))))) | (refine XO.done rfl ?_; refine hK _ _ ?_; clear hK K) | refine X.seq rfl ?_ | refine X.region rfl (fun K hK => ?_))
  repeat' (first | (refine XO.op rfl ?_; (first | ((first | refine Xo.ng rfl ?_); (first | (refine Xg.ev (EvF.loadV rfl rfl (LoadV.whole (te rfl) rfl (m4 [_]) rfl)) rfl rfl ?_) | (refine Xg.ev (EvF.loadV rfl rfl (LoadV.whole (te rfl) rfl (m3 [_]) rfl)) rfl rfl ?_) | (refine Xg.call (EnF.st rfl (Args.cons rfl (Args.cons rfl Args.nil))) rfl rfl (rc p _ (hI [_]) (hJ [_])) ?_; rintro _ H9 ⟨rfl, hH9⟩; subst H9) | (refine Xg.ev (EvF.move rfl rfl) rfl rfl ?_) | (refine Xg.ev (EvF.assign rfl rfl) rfl rfl ?_) | (refine Xg.ev (EvF.extract rfl rfl rfl) rfl rfl ?_) | (refine Xg.st (StF.alloc rfl Try.zeroValue26 rfl) rfl rfl ?_; rintro _ _ ⟨bx, rfl, rfl⟩) | (refine Xg.st0 (StF.storeAll (i := 0) rfl rfl rfl (te rfl) rfl rfl rfl rfl) rfl ?_; rintro _ _ ⟨rfl, rfl⟩; dsimp only [List.set]))))) | (refine XO.done rfl ?_; refine hK _ _ ?_; clear hK K) | refine X.seq rfl ?_ | refine X.region rfl (fun K hK => ?_))
  repeat' (first | (refine XO.op rfl ?_; (first | ((first | refine Xo.ng rfl ?_ | (refine Xo.g rfl rfl ?_; with_reducible refine Xw.tt ?_)); (first | (refine Xg.ev (EvF.loadV rfl rfl (LoadV.whole (te rfl) rfl (m7 [_, _]) rfl)) rfl rfl ?_) | (refine Xg.ev (EvF.loadV rfl rfl (LoadV.whole (te rfl) rfl (m8 [_, _]) rfl)) rfl rfl ?_) | (refine Xg.ev (EvF.loadV rfl rfl (LoadV.whole (te rfl) rfl (m5 [_, _]) rfl)) rfl rfl ?_) | (refine Xg.ev (EvF.loadV rfl rfl (LoadV.whole (te rfl) rfl (m4 [_, _]) rfl)) rfl rfl ?_) | (refine Xg.ev (EvF.loadV rfl rfl (LoadV.whole (te rfl) rfl (m3 [_, _]) rfl)) rfl rfl ?_) | (refine Xg.call (EnF.st rfl (Args.cons rfl (Args.cons rfl (Args.cons rfl Args.nil)))) rfl rfl (kd' _ (hO [_, _]) (hP [_, _])) ?_; rintro _ H9 ⟨rfl, hH9⟩; subst H9) | (refine Xg.call (EnF.st rfl (Args.cons rfl (Args.cons rfl (Args.cons rfl Args.nil)))) rfl rfl (rd p _ (hI [_, _]) (hJ [_, _])) ?_; rintro _ H9 ⟨rfl, hH9⟩; subst H9) | (refine Xg.ev (EvF.eqSelf rfl rfl rfl) rfl rfl ?_) | (refine Xg.ev (EvF.eqSt rfl rfl rfl (by kernel_rfl) (fun w => eqCl 9998 v1 v1 w) rfl) rfl rfl ?_) | (refine Xg.call (EnF.st rfl (Args.cons rfl (Args.cons rfl Args.nil))) rfl rfl (sameT_self T _ p _ (hO [_, _]) (hI [_, _])) ?_; rintro _ H9 ⟨rfl, hH9⟩; subst H9) | (refine Xg.call (EnF.st rfl (Args.cons rfl (Args.cons rfl Args.nil))) rfl rfl (sameD_spec d t1 k1 t2 k2 _ (hP [_, _]) (hJ [_, _])) ?_; rintro _ H9 ⟨rfl, hH9⟩; subst H9) | (refine Xg.ev (EvF.move rfl rfl) rfl rfl ?_) | (refine Xg.ev (EvF.assign rfl rfl) rfl rfl ?_) | (refine Xg.ev (EvF.pickT rfl rfl rfl) rfl rfl ?_) | (refine Xg.ev (EvF.loadV rfl rfl (LoadV.whole (te rfl) rfl (List.Mem.head _) rfl)) rfl rfl ?_) | (refine Xg.ev (EvF.loadV rfl rfl (LoadV.whole (te rfl) rfl (List.Mem.tail _ (List.Mem.head _)) rfl)) rfl rfl ?_) | (refine Xg.ev (EvF.extract rfl rfl rfl) rfl rfl ?_))) | (refine Xo.g rfl rfl ?_; (first | (with_reducible refine Xw.case (fun h => ?_) (fun h => ?_) <;> simp only [h, decide_true, decide_false, Bool.not_true, Bool.not_false, and_self, and_true, true_and, and_false, false_and]))))) | (refine XO.done rfl ?_; refine hK _ _ ?_; clear hK K) | refine X.seq rfl ?_ | refine X.region rfl (fun K hK => ?_) | refine X.ret rfl ?_)
  all_goals try (exfalso; exact absurd rfl (by assumption : ¬ v1 = v1))
  exact ret_one (by first | exact .inr rfl | exact .inl rfl) Try.results6 rfl (H' := _) (List.Sublist.refl _) rfl
end Go.Proofs.Ytfpmhdjhcoogpaa
end
section
set_option linter.unusedVariables false
namespace Go.Fw
open Go Go.RowKit
/-! ## Regions that draw their order, in which a slot may get the value that it has -/
def okOp3 (sm : List Nat) (ts : List TOp) (dom : List Nat) (n m : Nat) (i : Nat) (o : Oper) : Bool :=
  let T := tAt ts i
  (match o.guard with | some (j, _) => T.sup.contains j | none => true) && (o.dst == T.dst) &&
  (match T.dst with | some d => decide (d < n) && (!dom.contains d || sm.contains i) && (List.range i).all (fun j => (tAt ts j).dst != some d) | none => true) &&
  o.after.toList.all (fun e => !Region.binds .any e || decide (e.on < i)) &&
  T.sup.all (fun j => decide (j < i) && o.after.toList.any (fun e => Region.binds .any e && (e.on == j || (tAt ts e.on).sup.contains j))) &&
  T.deps.all (fun j => T.sup.contains j) && T.kills.all (fun k => T.sup.contains k || decide (m ≤ k ∧ k < ts.length))
def okReg3 (sm : List Nat) (ops : Array Oper) (ts : List TOp) (dom : List Nat) (n : Nat) : Bool :=
  decide (ops.size ≤ ts.length) && ops.toList.zipIdx.all (fun p => okOp3 sm ts dom n ops.size p.2 p.1) && decide ((ts.flatMap (·.kills)).Nodup) && (ts.drop ops.size).all (fun T => T.kills.isEmpty && T.sup.isEmpty)


theorem wpAny_ob3 {P : Program} {n : Nat} {ops : Array Oper} {ts : List TOp} {dom : List Nat} {F0 : FS} {sm : List Nat} (hd : F0.map (·.1) = dom) (hok : okReg3 sm ops ts dom n = true) (rd : Nat → List Nat) (hrd : okRd ts rd ops.size = true) (val : Nat → Env → Value) (rows : Nat → Env → List Row)
    (hloc : ∀ k env i p, i ≠ k → (tAt ts k).sup.contains i = false → val k (upd env i p) = val k env ∧ rows k (upd env i p) = rows k env)
    (hsm : ∀ i d, sm.contains i = true → (tAt ts i).dst = some d → ∀ env v, lk F0 d = some v → val i env = v)
    (R0 : List Row) (hob : ∀ i o, opAt ops.toList i = some o → ObR P n ts rd val rows F0 R0 i o)
    {Q : QT} (hQ : ∀ env t, Ag n F0 t → (∀ i d, i < ops.size → (tAt ts i).dst = some d → t[d]? = some (val i env)) → Q .normal t ((alive ts).flatMap (fun k => rows k env) ++ R0))
    {ρ : Option Nat} {ds : List Deferred} {B : Nat} {w0 : World} :
    ∀ (fuel : Nat) (listed : Array Bool) (U A : List Nat) (t : List Value) (H : List Row) (w : World) (env : Env), listed.size = ops.size → U.length = fuel → U.Nodup → (∀ k, k ∈ U ↔ k < ops.size ∧ listed.getD k true = false) →
      (∀ k, k < ops.size → listed.getD k true = true → ∀ j, (tAt ts k).sup.contains j = true → listed.getD j true = true) →
      A.Nodup → (∀ k, k ∈ A ↔ k < ts.length ∧ listed.getD k true = true ∧ ∀ j, j < ops.size → listed.getD j true = true → k ∉ (tAt ts j).kills) →
      Ag n F0 t → (∀ k d, k < ops.size → listed.getD k true = true → (tAt ts k).dst = some d → t[d]? = some (val k env)) →
      St B w0 H w → H.Perm (R0 ++ A.flatMap (fun k => rows k env)) → wpAnyIn (wf ρ) 0 P .any ops (lift ds B w0 Q) fuel listed ⟨t.toArray, ds⟩ w := by
  unfold okReg3 at hok
  simp only [Bool.and_eq_true, decide_eq_true_eq] at hok
  obtain ⟨⟨⟨hlen, hops⟩, hkn⟩, hps⟩ := hok
  have hopAt : ∀ i o, ops[i]? = some o → okOp3 sm ts dom n ops.size i o = true := by
    intro i o hi
    have := List.all_eq_true.1 hops (o, i) (by
      rw [List.mem_zipIdx_iff_getElem?]; simpa using hi)
    exact this
  intro fuel
  induction fuel with
  | zero =>
    intro listed U A t H w env hls hUl hUn hU hcl hAn hA hag hv hS hH
    have hU0 : U = [] := List.eq_nil_of_length_eq_zero hUl
    subst hU0
    have hall : ∀ k, listed.getD k true = true := by
      intro k
      cases hk : listed.getD k true with
      | true => rfl
      | false =>
        by_cases h1 : k < ops.size
        · exact absurd ((hU k).2 ⟨h1, hk⟩) (by simp)
        · rw [Array.getD_eq_getD_getElem?, Array.getElem?_eq_none (by omega)] at hk; cases hk
    refine ⟨?_, rfl, _, ?_, hS.perm (H' := (alive ts).flatMap (fun k => rows k env) ++ R0) ?_⟩
    · unfold Region.ready
      rw [List.filter_eq_nil_iff]
      intro k _
      rw [hall]; simp
    · have := hQ env t hag (fun i d hi hd => hv i d hi (hall i) hd)
      simpa using this
    · refine List.perm_append_comm.trans ((List.Perm.append_left R0 (List.Perm.flatMap_right _ ?_)).trans hH.symm)
      refine perm_of_mem ((List.nodup_range).sublist List.filter_sublist) hAn fun k => ?_
      rw [hA, alive, List.mem_filter, List.mem_range]
      simp only [hall, true_and, Bool.not_eq_true', List.contains_eq_mem, decide_eq_false_iff_not, true_implies]
      refine and_congr_right fun _ => ⟨fun h j _ hj => h (tAt_mem hj), fun h hm => ?_⟩
      obtain ⟨T, hT, hk⟩ := List.mem_flatMap.1 hm
      obtain ⟨j, hj, rfl⟩ := List.mem_iff_getElem.1 hT
      by_cases hj' : j < ops.size
      · exact h j hj' (by unfold tAt; simp [List.getD, hj, hk])
      · have := List.all_eq_true.1 hps ts[j] (by
          rw [List.mem_iff_getElem?]
          exact ⟨j - ops.size, by rw [List.getElem?_drop, show ops.size + (j - ops.size) = j by omega, List.getElem?_eq_getElem hj]⟩)
        simp only [Bool.and_eq_true, List.isEmpty_iff] at this
        rw [this.1] at hk; cases hk
  | succ fuel ih =>
    intro listed U A t H w env hls hUl hUn hU hcl hAn hA hag hv hS hH
    have hge : ∀ k, ops.size ≤ k → listed.getD k true = true := fun k hk => by rw [Array.getD_eq_getD_getElem?, Array.getElem?_eq_none (by omega)]; rfl
    have hgd : ∀ k, k < ops.size → listed.getD k false = listed.getD k true := fun k hk => by
      rw [Array.getD_eq_getD_getElem?, Array.getD_eq_getD_getElem?, Array.getElem?_eq_getElem (by omega)]; rfl
    refine ⟨fun h0 => ?_, fun i hi => ?_⟩
    · exfalso
      have key : ∀ m, m ∈ U → False := by
        intro m
        induction m using Nat.strongRecOn with
        | _ m ihm =>
          intro hm
          obtain ⟨hms, hml⟩ := (hU m).1 hm
          obtain ⟨o, ho⟩ : ∃ o, ops[m]? = some o := ⟨ops[m], Array.getElem?_eq_getElem hms⟩
          have hc := hopAt m o ho
          unfold okOp3 at hc
          simp only [Bool.and_eq_true] at hc
          obtain ⟨⟨⟨⟨_, haf⟩, _⟩, _⟩, _⟩ := hc
          by_cases hal : o.after.all (fun e => !Region.binds .any e || listed.getD e.on false) = true
          · have : m ∈ Region.ready .any ops listed := by
              unfold Region.ready
              rw [List.mem_filter]
              refine ⟨List.mem_range.2 hms, ?_⟩
              rw [hml, ho]
              simp only [Option.map_some, Option.getD_some, Bool.not_false, Bool.true_and]
              exact hal
            rw [h0] at this; cases this
          · have : ∃ e ∈ o.after, ¬ ((!Region.binds .any e || listed.getD e.on false) = true) := by
              rw [Array.all_eq_true_iff_forall_mem] at hal
              simpa using hal
            obtain ⟨e, he, hne⟩ := this
            have h1 := List.all_eq_true.1 haf e (Array.mem_toList_iff.2 he)
            simp only [Bool.or_eq_true, Bool.not_eq_true', not_or, Bool.not_eq_false, Bool.not_eq_true] at hne h1
            have h2 : e.on < m := by
              rcases h1 with h1 | h1
              · rw [hne.1] at h1; cases h1
              · simpa using h1
            refine ihm e.on h2 ((hU e.on).2 ⟨by omega, ?_⟩)
            rw [← hgd e.on (by omega)]; exact hne.2
      cases U with
      | nil => simp at hUl
      | cons u U => exact key u (List.mem_cons_self ..)
    · unfold Region.ready at hi
      rw [List.mem_filter, List.mem_range] at hi
      obtain ⟨his, hi2⟩ := hi
      obtain ⟨o, ho⟩ : ∃ o, ops[i]? = some o := ⟨ops[i], Array.getElem?_eq_getElem his⟩
      simp only [ho, Option.map_some, Option.getD_some, Bool.and_eq_true, Bool.not_eq_true'] at hi2
      obtain ⟨hil, hia⟩ := hi2
      have hc := hopAt i o ho
      unfold okOp3 at hc
      simp only [Bool.and_eq_true] at hc
      obtain ⟨⟨⟨⟨⟨⟨hgu, hdst⟩, hds⟩, haf⟩, hsup⟩, hdeps⟩, hkil⟩ := hc
      have hdst' : o.dst = (tAt ts i).dst := by simpa using hdst
      rw [Array.all_eq_true_iff_forall_mem] at hia
      have hson : ∀ j, (tAt ts i).sup.contains j = true → j < i ∧ listed.getD j true = true := by
        intro j hj
        have h1 := List.all_eq_true.1 hsup j (by simpa using hj)
        simp only [Bool.and_eq_true, decide_eq_true_eq, List.any_eq_true] at h1
        obtain ⟨hji, e, he', hb, h2⟩ := h1
        have he := Array.mem_toList_iff.1 he'
        refine ⟨hji, ?_⟩
        have h3 := hia e he
        rw [hb] at h3
        have h4 := List.all_eq_true.1 haf e he'
        rw [hb] at h4
        simp only [Bool.not_true, Bool.false_or, decide_eq_true_eq] at h3 h4
        rw [hgd e.on (by omega)] at h3
        simp only [Bool.or_eq_true, beq_iff_eq] at h2
        rcases h2 with h2 | h2
        · rw [← h2]; exact h3
        · exact hcl e.on (by omega) h3 j h2
      have hks : ∀ k ∈ (tAt ts i).kills, k ∈ A := by
        intro k hk
        rw [hA]
        have h1 := List.all_eq_true.1 hkil k hk
        simp only [Bool.or_eq_true, decide_eq_true_eq] at h1
        refine ⟨?_, ?_, fun j hj hjl hkj => ?_⟩
        · rcases h1 with h1 | h1
          · have := (hson k h1).1; omega
          · omega
        · rcases h1 with h1 | h1
          · exact (hson k h1).2
          · exact hge k h1.1
        · have := kills_once hkn hk hkj
          subst this
          rw [hil] at hjl; cases hjl
      have hkin : (tAt ts i).kills.Nodup := by
        unfold tAt List.getD
        cases hti : ts[i]? with
        | none => simp
        | some T =>
          simp only [Option.getD_some]
          exact kills_nodup hkn (List.mem_of_getElem? hti)
      obtain ⟨A', hp, hA'n, hA'm⟩ := take_out _ A hkin hAn hks
      have hH1 : ((tAt ts i).kills.flatMap (fun k => rows k env) ++ (R0 ++ A'.flatMap (fun k => rows k env))).Perm H := by
        refine List.Perm.trans ?_ hH.symm
        refine List.Perm.trans ?_ (List.Perm.append_left R0 (List.Perm.flatMap_right _ hp.symm))
        rw [List.flatMap_append, ← List.append_assoc, ← List.append_assoc]
        exact List.Perm.append_right _ List.perm_append_comm
      have hdp : ∀ k ∈ (tAt ts i).deps, ∀ d, (tAt ts k).dst = some d → t[d]? = some (val k env) := by
        intro k hk d hd
        have h1 := List.all_eq_true.1 hdeps k hk
        obtain ⟨h2, h3⟩ := hson k h1
        exact hv k d (by omega) h3 hd
      have hst := hob i o (by rw [opAt_eq]; simpa using ho)
      have hreads : ∀ k ∈ rd i, ∀ r ∈ rows k env, r ∈ R0 ++ A'.flatMap (fun k => rows k env) := by
        intro k hk r hr
        refine List.mem_append_right _ (List.mem_flatMap.2 ⟨k, ?_, hr⟩)
        have h1 := List.all_eq_true.1 (List.all_eq_true.1 hrd i (List.mem_range.2 his)) k hk
        simp only [Bool.and_eq_true, Bool.or_eq_true, decide_eq_true_eq, Bool.not_eq_true'] at h1
        obtain ⟨⟨h1, h2⟩, h3⟩ := h1
        rw [hA'm, hA]
        refine ⟨⟨?_, ?_, fun j hj hjl hkj => ?_⟩, by simpa using h2⟩
        · rcases h1 with h1 | h1
          · have := (hson k h1).1; omega
          · omega
        · rcases h1 with h1 | h1
          · exact (hson k h1).2
          · exact hge k h1.1
        · have h4 := List.all_eq_true.1 h3 j (List.mem_range.2 hj)
          simp only [Bool.or_eq_true, Bool.not_eq_true'] at h4
          rcases h4 with h4 | h4
          · rw [List.contains_iff_mem.2 hkj] at h4; cases h4
          · have := hcl j hj hjl i h4
            rw [hil] at this; cases this
      have hyv : ∀ j ww, o.guard = some (j, ww) → (tAt ts j).dst ≠ none → yielded ops t.toArray j = bv (val j env) := by
        intro j ww hg hj
        rw [hg] at hgu
        obtain ⟨h1, h2⟩ := hson j hgu
        obtain ⟨d, hd'⟩ := Option.ne_none_iff_exists'.1 hj
        have hoj : ops[j]? = some ops[j] := Array.getElem?_eq_getElem (by omega)
        have hcj := hopAt j _ hoj
        unfold okOp3 at hcj
        simp only [Bool.and_eq_true] at hcj
        have hdj : (ops[j]).dst = (tAt ts j).dst := by simpa using hcj.1.1.1.1.1.2
        exact yielded_bv hoj (by rw [hdj, hd']) (hv j d (by omega) h2 hd')
      have hnext : ∀ (v : Value) (w' : World) (H' : List Row), St B w0 H' w' → (∃ p, ((tAt ts i).dst ≠ none → v = val i (upd env i p)) ∧ H'.Perm (rows i (upd env i p) ++ (R0 ++ A'.flatMap (fun k => rows k env)))) → wpAnyIn (wf ρ) 0 P .any ops (lift ds B w0 Q) fuel (listed.setIfInBounds i true) ⟨(put t o.dst v).toArray, ds⟩ w' := by
        rintro v w' H' hS' ⟨p, hval, hH'⟩
        have hl' : ∀ k, (listed.setIfInBounds i true).getD k true = if k = i then true else listed.getD k true := by
          intro k
          rw [Array.getD_eq_getD_getElem?, Array.getD_eq_getD_getElem?, Array.getElem?_setIfInBounds]
          by_cases hki : k = i
          · subst hki; simp; split <;> rfl
          · rw [if_neg (fun e => hki e.symm), if_neg hki]
        have hnot : ∀ k, listed.getD k true = true → (tAt ts k).sup.contains i = false := by
          intro k hk
          by_cases hks' : k < ops.size
          · cases hcs : (tAt ts k).sup.contains i with
            | false => rfl
            | true => have := hcl k hks' hk i hcs; rw [hil] at this; cases this
          · by_cases hkt : k < ts.length
            · have := List.all_eq_true.1 hps ts[k] (by
                rw [List.mem_iff_getElem?]
                exact ⟨k - ops.size, by rw [List.getElem?_drop, show ops.size + (k - ops.size) = k by omega, List.getElem?_eq_getElem hkt]⟩)
              simp only [Bool.and_eq_true, List.isEmpty_iff] at this
              have e : tAt ts k = ts[k] := by unfold tAt; simp [List.getD, hkt]
              rw [e, this.2]; rfl
            · have e : tAt ts k = ⟨none, [], [], []⟩ := by unfold tAt; simp [List.getD, List.getElem?_eq_none (by omega : ts.length ≤ k)]
              rw [e]; rfl
        have hiA : i ∉ A := fun h => by have := ((hA i).1 h).2.1; rw [hil] at this; cases this
        refine ih (listed.setIfInBounds i true) (U.erase i) (i :: A') (put t o.dst v) H' w' (upd env i p) (by simpa using hls) ?_ (hUn.sublist List.erase_sublist) ?_ ?_ ?_ ?_ ?_ ?_ hS' ?_
        · rw [List.length_erase_of_mem ((hU i).2 ⟨his, hil⟩)]; omega
        · intro k
          rw [hUn.mem_erase_iff, hU, hl']
          by_cases hki : k = i
          · simp [hki]
          · simp [hki]
        · intro k hk hkl j hj
          rw [hl'] at hkl ⊢
          split
          · rfl
          · by_cases hki : k = i
            · subst hki; exact (hson j hj).2
            · rw [if_neg hki] at hkl; exact hcl k hk hkl j hj
        · exact List.nodup_cons.2 ⟨fun h => hiA ((hA'm i).1 h).1, hA'n⟩
        · intro k
          rw [List.mem_cons, hA'm, hA, hl']
          by_cases hki : k = i
          · subst hki
            simp only [true_or, if_true, true_and, true_iff]
            refine ⟨by omega, fun j hj hjl hkj => ?_⟩
            have h1 : ops[j]? = some ops[j] := Array.getElem?_eq_getElem hj
            have hcj := hopAt j _ h1
            unfold okOp3 at hcj
            simp only [Bool.and_eq_true] at hcj
            have h2 := List.all_eq_true.1 hcj.2 k hkj
            simp only [Bool.or_eq_true, decide_eq_true_eq] at h2
            rw [hl'] at hjl
            rcases h2 with h2 | h2
            · by_cases hjk : j = k
              · subst hjk; have := (hson j h2).1; omega
              · rw [if_neg hjk] at hjl
                have := hcl j hj hjl k h2
                rw [hil] at this; cases this
            · omega
          · simp only [hki, false_or, if_false]
            constructor
            · rintro ⟨⟨h1, h2, h3⟩, h4⟩
              refine ⟨h1, h2, fun j hj hjl => ?_⟩
              rw [hl'] at hjl
              by_cases hji : j = i
              · subst hji; exact h4
              · rw [if_neg hji] at hjl; exact h3 j hj hjl
            · rintro ⟨h1, h2, h3⟩
              exact ⟨⟨h1, h2, fun j hj hjl => h3 j hj (by rw [hl']; split; rfl; exact hjl)⟩, h3 i his (by rw [hl', if_pos rfl])⟩
        · cases hdd : o.dst with
          | none => exact hag
          | some d =>
            rw [hdst'] at hdd
            rw [hdd] at hds
            simp only [Bool.and_eq_true, decide_eq_true_eq] at hds
            refine ⟨by simpa [put] using hag.1, fun s u hs => ?_⟩
            have h1 := hag.2 s u hs
            simp only [put, List.getElem?_set]
            by_cases hsd : d = s
            · subst hsd
              have : d ∈ dom := by
                rw [← hd]
                exact lk_mem hs
              have h2 := hds.1.2
              have hsi : sm.contains i = true := by simpa [this] using h2
              have e : v = u := (hval (by rw [hdd]; simp)).trans (hsm i d hsi hdd _ u hs)
              rw [if_pos rfl, e]
              exact if_pos (by rw [hag.1]; exact hds.1.1)
            · rw [if_neg hsd]
              exact h1
        · intro k d hk hkl hkd
          rw [hl'] at hkl
          by_cases hki : k = i
          · subst hki
            rw [hdst', hkd]
            rw [hkd] at hds
            simp only [Bool.and_eq_true, decide_eq_true_eq] at hds
            simp only [put, List.getElem?_set, if_true]
            rw [if_pos (by rw [hag.1]; exact hds.1.1), hval (by rw [hkd]; simp)]
          · rw [if_neg hki] at hkl
            rw [(hloc k env i p (fun e => hki e.symm) (hnot k hkl)).1]
            have h1 := hv k d hk hkl hkd
            cases hdd : o.dst with
            | none => exact h1
            | some d' =>
              simp only [put, List.getElem?_set]
              rw [if_neg]
              · exact h1
              · rintro rfl
                rw [hdst'] at hdd
                rcases Nat.lt_or_gt_of_ne hki with hlt | hlt
                · rw [hdd] at hds
                  simp only [Bool.and_eq_true] at hds
                  have := List.all_eq_true.1 hds.2 k (List.mem_range.2 hlt)
                  simp [hkd] at this
                · have hck := hopAt k _ (Array.getElem?_eq_getElem hk)
                  unfold okOp3 at hck
                  simp only [Bool.and_eq_true] at hck
                  have hdk := hck.1.1.1.1.2
                  rw [hkd] at hdk
                  simp only [Bool.and_eq_true] at hdk
                  have := List.all_eq_true.1 hdk.2 i (List.mem_range.2 hlt)
                  simp [hdd] at this
        · refine hH'.trans ?_
          have e : A'.flatMap (fun k => rows k (upd env i p)) = A'.flatMap (fun k => rows k env) := by
            have : ∀ k ∈ A', rows k (upd env i p) = rows k env := fun k hk => by
              have h1 := (hA'm k).1 hk
              have h2 := ((hA k).1 h1.1).2.1
              exact (hloc k env i p (fun e => hiA (e ▸ h1.1)) (hnot k h2)).2
            exact flatMap_congr' this
          rw [List.flatMap_cons, e, ← List.append_assoc, ← List.append_assoc]
          exact List.Perm.append_right _ List.perm_append_comm
      unfold wpOpIn
      simp only [ho]
      rcases hst with ⟨hgr, hst⟩ | ⟨j, ww, hg, hj, hbv, hki, hvi, hri⟩
      · have hwant : Region.wanted o (yielded ops t.toArray) = true := by
          unfold Region.wanted
          rcases hgr with hgr | ⟨j, ww, hg, hj, hb⟩
          · rw [hgr]
          · rw [hg]; simp only [hyv j ww hg hj, hb]; simp
        simp only [hwant, if_true]
        exact hst env (R0 ++ A'.flatMap (fun k => rows k env)) (fun r hr => List.mem_append_left _ hr) hreads t (ag_fdeps hag _ hdp) ρ ds B w0 w (hS.perm hH1) _ _ hnext
      · have hwant : Region.wanted o (yielded ops t.toArray) = false := by
          unfold Region.wanted
          rw [hg]; simp only [hyv j ww hg hj]
          simpa using hbv env
        simp only [hwant, Bool.false_eq_true, if_false]
        rw [put_act]
        refine ⟨fun _ _ => trivial, hnext undef w _ hS ⟨(0, 0), fun _ => (hvi _).symm, ?_⟩⟩
        --, fun _ => (hvi _).symm, ?_⟩
        rw [hri, List.nil_append]
        rw [hki] at hH1
        simpa using hH1.symm

theorem X.regionSm {P : Program} {n : Nat} {c : Code} {F : FS} {H : List Row} {Q : QX} (sm : List Nat) (ts : List TOp) (rd : Nat → List Nat) (dom : List Nat) (F0 : FS) (val : Nat → Env → Value) (rows : Nat → Env → List Row) (env0 : Env) (R0 : List Row)
    (h : c = .region (cid c) (cops c) true) (hm : P.follows .mixedOrders = true) (hsub : Sub F0 F) (hd : F0.map (·.1) = dom) (hok : okReg3 sm (cops c) ts dom n = true) (hrd : okRd ts rd (cops c).size = true)
    (hloc : ∀ k env i p, i ≠ k → (tAt ts k).sup.contains i = false → val k (upd env i p) = val k env ∧ rows k (upd env i p) = rows k env)
    (hsm : ∀ i d, sm.contains i = true → (tAt ts i).dst = some d → ∀ env v, lk F0 d = some v → val i env = v)
    (hH : (((List.range ts.length).drop (cops c).size).flatMap (fun k => rows k env0) ++ R0).Sublist H)
    (hob' : AllF (cops c).toList 0 fun i o => ObR P n ts rd val rows F0 R0 i o)
    (hQ : ∀ env t, Ag n F0 t → (∀ i d, i < (cops c).size → (tAt ts i).dst = some d → t[d]? = some (val i env)) → exQ n Q .normal t ((alive ts).flatMap (fun k => rows k env) ++ R0)) : X P n c F H Q := by
  have hob := fun i o ho => hob' i o (Nat.zero_le i) ho
  unfold X W
  intro t ha ρ ds B w0 w hS
  rw [h]
  refine wpIn_region_any hm ?_
  have hlen : (cops c).size ≤ ts.length := by
    have := hok
    unfold okReg3 at this
    simp only [Bool.and_eq_true, decide_eq_true_eq] at this
    exact this.1.1.1
  have hl : ∀ k d, (Array.replicate (cops c).size false).getD k d = if k < (cops c).size then false else d := by
    intro k d
    rw [Array.getD_eq_getD_getElem?, Array.getElem?_replicate]
    split <;> rfl
  have hdm : ∀ k, k ∈ (List.range ts.length).drop (cops c).size ↔ (cops c).size ≤ k ∧ k < ts.length := by
    intro k
    rw [List.mem_iff_getElem?]
    constructor
    · rintro ⟨j, hj⟩
      rw [List.getElem?_drop] at hj
      have := List.getElem?_eq_some_iff.1 hj
      obtain ⟨h1, h2⟩ := this
      simp at h1 h2
      omega
    · rintro ⟨h1, h2⟩
      exact ⟨k - (cops c).size, by rw [List.getElem?_drop, show (cops c).size + (k - (cops c).size) = k by omega, List.getElem?_range h2]⟩
  refine wpAny_ob3 hd hok rd hrd val rows hloc hsm R0 hob hQ (cops c).size _ (List.range (cops c).size) ((List.range ts.length).drop (cops c).size) t _ _ env0 (by simp) (by simp) List.nodup_range ?_ ?_ ((List.nodup_range).sublist (List.drop_sublist _ _)) ?_ (ha.sub hsub) ?_ ((hS.drewN 1).sub hH) List.perm_append_comm
  · intro k
    rw [List.mem_range, hl]
    by_cases hk : k < (cops c).size <;> simp [hk]
  · intro k hk hkl
    rw [hl, if_pos hk] at hkl
    cases hkl
  · intro k
    rw [hdm, hl]
    constructor
    · rintro ⟨h1, h2⟩
      refine ⟨h2, by rw [if_neg (by omega)], fun j hj hjl => ?_⟩
      rw [hl, if_pos hj] at hjl
      cases hjl
    · rintro ⟨h1, h2, _⟩
      refine ⟨?_, h1⟩
      by_cases hk : k < (cops c).size
      · rw [if_pos hk] at h2; cases h2
      · omega
  · intro k d hk hkl
    rw [hl, if_pos hk] at hkl
    cases hkl

end Go.Fw
end
