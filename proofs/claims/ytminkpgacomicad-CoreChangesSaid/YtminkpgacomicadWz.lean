/- CoreChanges: for every bale, draw, weighing and two lists of numbers the law returns true (which draws and weighings may be wrong, and the bales with a draw more, with a weighing more and without some, or the errors, are those of the reference, and nothing of what is handed in is changed or shared), and each argument reads afterwards as before. No condition. -/
import Derived.Test.YtminkpgacomicadW04
import Derived.OpenShut
import Derived.ProofKit
import Derived.Test.YtminkpgacomicadRows
import Derived.WalkKit
import Derived.ChangeOld
import Derived.ShutString
section
set_option linter.unusedVariables false
set_option linter.unusedSimpArgs false
namespace Go.Proofs.Ytminkpgacomicad
open Go Go.Fw
set_option maxRecDepth 10000
theorem stk_lon (ok : List Dr → Bool) (okN : List Int → Bool) (S : List Dr) (h : ∀ acc, (∀ x ∈ acc, x ∈ S) → okN (acc.map (·.number)) = ok acc) :
    ∀ (t : List Dr) (m : Nat) (acc : List Dr), (∀ x ∈ acc, x ∈ S) → (∀ x ∈ t, x ∈ S) → stk okN t m (acc.map (·.number)) = (lon ok t m acc).map (fun r => r.map (·.number))
  | [], 0, acc, ha, _ => by simp only [stk, lon, h acc ha]; split <;> rfl
  | [], _ + 1, _, _, _ => rfl
  | _ :: _, 0, acc, ha, _ => by simp only [stk, lon, h acc ha]; split <;> rfl
  | x :: t, m + 1, acc, ha, ht => by
    have h1 := stk_lon ok okN S h t m (acc ++ [x]) (fun y hy => by
      rcases List.mem_append.1 hy with hy | hy
      · exact ha y hy
      · rw [List.mem_singleton.1 hy]; exact ht x List.mem_cons_self) (fun y hy => ht y (List.mem_cons_of_mem _ hy))
    have h2 := stk_lon ok okN S h t (m + 1) acc ha (fun y hy => ht y (List.mem_cons_of_mem _ hy))
    rw [List.map_append] at h1
    have h1' : stk okN t m (acc.map (·.number) ++ [x.number]) = (lon ok t m (acc ++ [x])).map (fun r => r.map (·.number)) := h1
    simp only [stk, lon, h1']
    cases lon ok t m (acc ++ [x]) with
    | some r => rfl
    | none => exact h2
theorem few_hit (ok : List Dr → Bool) (l : List Dr) (n : Nat) (r : List Dr) (hn : n < 4) (h0 : ∀ j, j < n → lon ok l j [] = none) (h : lon ok l n [] = some r) : few ok l 4 0 = some r := by
  match n, hn with
  | 0, _ => simp only [few, h]
  | 1, _ => simp only [few, h0 0 (by omega), h]
  | 2, _ => simp only [few, h0 0 (by omega), h0 1 (by omega), h]
  | 3, _ => simp only [few, h0 0 (by omega), h0 1 (by omega), h0 2 (by omega), h]
theorem few_miss (ok : List Dr → Bool) (l : List Dr) (h0 : ∀ j, j < 4 → lon ok l j [] = none) : few ok l 4 0 = none := by
  simp only [few, h0 0 (by omega), h0 1 (by omega), h0 2 (by omega), h0 3 (by omega)]
theorem few_four (ok : List Dr → Bool) (l : List Dr) : few ok l (min 3 l.length + 1) 0 = few ok l 4 0 := by
  by_cases h : 3 ≤ l.length
  · rw [Nat.min_eq_left h]
  · exact (few_more ok l _ _ 0 (by omega) (by omega)).symm
theorem uniqNum : ∀ (l : List Dr), (l.map (·.number)).Nodup → ∀ x ∈ l, ∀ y ∈ l, x.number = y.number → x = y
  | [], _, x, hx, _, _, _ => absurd hx List.not_mem_nil
  | a :: t, h, x, hx, y, hy, e => by
    rw [List.map_cons, List.nodup_cons] at h
    rcases List.mem_cons.1 hx with rfl | hx
    · rcases List.mem_cons.1 hy with rfl | hy
      · rfl
      · exact absurd (List.mem_map.2 ⟨y, hy, e.symm⟩) h.1
    · rcases List.mem_cons.1 hy with h9 | hy
      · exact absurd (List.mem_map.2 ⟨x, hx, h9 ▸ e⟩) h.1
      · exact uniqNum t h.2 x hx y hy e
theorem left_exc (l acc : List Dr) (hn : (l.map (·.number)).Nodup) (ha : ∀ x ∈ acc, x ∈ l) : leftDr l (acc.map (·.number)) = excDr l acc := by
  unfold leftDr excDr
  refine List.filter_congr (fun x hx => ?_)
  congr 1
  refine decide_eq_decide.2 ⟨fun h => ?_, fun h => List.mem_map.2 ⟨x, h, rfl⟩⟩
  obtain ⟨y, hy, e⟩ := List.mem_map.1 h
  exact uniqNum l hn y (ha y hy) x hx e ▸ hy
theorem left_none (l : List Dr) : leftDr l [] = l := by
  unfold leftDr
  exact List.filter_eq_self.2 (fun _ _ => by simp)
theorem okNd_eq {B : Bl} (h : baleOk B) (acc : List Dr) (ha : ∀ x ∈ acc, x ∈ B.draws) : okNd B (acc.map (·.number)) = okD B acc := by
  have e : strBl B (acc.map (·.number)) [] = outD B acc := by
    show ({ B with draws := leftDr B.draws (acc.map (·.number)), weighs := leftDr B.weighs [] } : Bl) = { B with draws := excDr B.draws acc }
    rw [left_exc _ _ (rises_nodupK _ _ h.2.2.2.1.2.1.1) ha, left_none]
  unfold okNd okD
  rw [e]
theorem okNw_eq {B : Bl} (h : baleOk B) (acc : List Dr) (ha : ∀ x ∈ acc, x ∈ B.weighs) : okNw B (acc.map (·.number)) = okWt B acc := by
  have e : strBl B [] (acc.map (·.number)) = outW B acc := by
    show ({ B with draws := leftDr B.draws [], weighs := leftDr B.weighs (acc.map (·.number)) } : Bl) = { B with weighs := excDr B.weighs acc }
    rw [left_exc _ _ (rises_nodupK _ _ h.2.2.2.2.2.1.1) ha, left_none]
  unfold okNw okWt
  rw [e]
theorem stkD {B : Bl} (h : baleOk B) (n : Nat) : stk (okNd B) B.draws n [] = (lon (okD B) B.draws n []).map (fun r => r.map (·.number)) :=
  stk_lon (okD B) (okNd B) B.draws (okNd_eq h) B.draws n [] (fun _ hx => absurd hx List.not_mem_nil) (fun _ hx => hx)
theorem stkW {B : Bl} (h : baleOk B) (n : Nat) : stk (okNw B) B.weighs n [] = (lon (okWt B) B.weighs n []).map (fun r => r.map (·.number)) :=
  stk_lon (okWt B) (okNw B) B.weighs (okNw_eq h) B.weighs n [] (fun _ hx => absurd hx List.not_mem_nil) (fun _ hx => hx)
theorem hitD {B : Bl} (h : baleOk B) {n : Nat} {r : List Int} (hn : n < 4) (h0 : ∀ j, j < n → stk (okNd B) B.draws j [] = none) (hr : stk (okNd B) B.draws n [] = some r) : (fewD B).isSome = true ∧ numsOf (fewD B) = r := by
  rw [stkD h] at hr
  obtain ⟨r', hr', rfl⟩ := Option.map_eq_some_iff.1 hr
  have := few_hit (okD B) B.draws n r' hn (fun j hj => by have := h0 j hj; rw [stkD h] at this; exact Option.map_eq_none_iff.1 this) hr'
  unfold fewD numsOf
  rw [few_four, this]
  exact ⟨rfl, rfl⟩
theorem hitW {B : Bl} (h : baleOk B) {n : Nat} {r : List Int} (hn : n < 4) (h0 : ∀ j, j < n → stk (okNw B) B.weighs j [] = none) (hr : stk (okNw B) B.weighs n [] = some r) : (fewW B).isSome = true ∧ numsOf (fewW B) = r := by
  rw [stkW h] at hr
  obtain ⟨r', hr', rfl⟩ := Option.map_eq_some_iff.1 hr
  have := few_hit (okWt B) B.weighs n r' hn (fun j hj => by have := h0 j hj; rw [stkW h] at this; exact Option.map_eq_none_iff.1 this) hr'
  unfold fewW numsOf
  rw [few_four, this]
  exact ⟨rfl, rfl⟩
theorem missD {B : Bl} (h : baleOk B) (h0 : ∀ j, j < 4 → stk (okNd B) B.draws j [] = none) : (fewD B).isSome = false := by
  unfold fewD
  rw [few_four, few_miss (okD B) B.draws (fun j hj => by have := h0 j hj; rw [stkD h] at this; exact Option.map_eq_none_iff.1 this)]
  rfl
theorem missW {B : Bl} (h : baleOk B) (h0 : ∀ j, j < 4 → stk (okNw B) B.weighs j [] = none) : (fewW B).isSome = false := by
  unfold fewW
  rw [few_four, few_miss (okWt B) B.weighs (fun j hj => by have := h0 j hj; rw [stkW h] at this; exact Option.map_eq_none_iff.1 this)]
  rfl
theorem StkR.top {ok : List Int → Bool} {t : List Dr} {m : Nat} {H : List Row} {v : Value} {H' : List Row} (h : StkR ok t m [] none 0 H v H') :
    (∃ r a c Z, stk ok t m [] = some r ∧ v = .tuple #[.slice a r.length c, .bool true] ∧ SlE (Z ++ H) a cI 1 r ∧ H' = Z ++ H) ∨ (stk ok t m [] = none ∧ v = .tuple #[.slice none 0 0, .bool false] ∧ H' = H) := by
  rcases h with ⟨rfl, rfl, rfl⟩ | ⟨_, ⟨r, b, k, hr, rfl, rfl⟩ | h⟩
  · rw [stk_zero]
    by_cases hk : ok [] = true
    · exact .inl ⟨[], none, 0, [], by rw [if_pos hk], by rw [hk]; (try rfl), sleNil, rfl⟩
    · exact .inr ⟨by rw [if_neg hk], by rw [Bool.eq_false_iff.2 hk]; (try rfl), rfl⟩
  · exact .inl ⟨r, _, _, [⟨b, 0, r.flatMap cI, some 3, k * 1⟩], hr, rfl, SlE.ofRow (List.Mem.head _) (fun _ _ => rfl), rfl⟩
  · exact .inr h
set_option maxHeartbeats 8000000 in
theorem refWrong_spec (B : Bl) (p : Pb) (H : List Row) (hB : BlOk H B p) : Fc Try.prog 7 [.agg (cBl B p).toArray] H (WrongR (wrongF B) H) := by
  have l1 := hB.l1
  have l2 := hB.l2
  have hB1 : ∀ r, BlOk (r :: H) B p := fun r => hB.sub (fun _ h => List.Mem.tail _ h)
  refine Fc.mk (callable Try.call7) Try.func7 rfl Try.ntmps7 rfl ?_; dsimp only [fr]
  repeat' (first | (refine XO.op rfl ?_; (first | ((first | refine Xo.ng rfl ?_); (first | (refine Xg.call (EnF.st rfl (Args.cons rfl Args.nil)) rfl rfl (bale_spec B p _ (hB1 _)) ?_; rintro _ H9 ⟨rfl, hH9⟩; subst H9) | (refine Xg.ev (EvF.assign rfl rfl) rfl rfl ?_) | (refine Xg.ev (EvF.not rfl rfl) rfl rfl ?_) | (refine Xg.ev (EvF.loadV rfl rfl (LoadV.whole (te rfl) rfl (List.Mem.head _) rfl)) rfl rfl ?_) | (refine Xg.st (StF.boxAgg rfl rfl) rfl rfl ?_; rintro _ _ ⟨bx, rfl, rfl⟩))))) | (refine XO.done rfl ?_; refine hK _ _ ?_; clear hK K) | refine X.seq rfl ?_ | refine X.region rfl (fun K hK => ?_) | refine X.block rfl ?_ | refine X.skip rfl ?_ | refine X.ret rfl ?_ | (refine X.ite rfl rfl (fun hc => ?_); (first | (with_reducible refine Xb.caseN hc (fun h => ?_) (fun h => ?_))) <;> clear hc))
  · have e : wrongF B = ([], [], 30) := by unfold wrongF; rw [if_neg (by assumption)]
    unfold WrongR; rw [e]
    exact ret_three (by first | exact .inr rfl | exact .inl rfl) Try.results7 rfl rfl rfl (H' := H) (by (repeat (first | exact List.Sublist.refl _ | apply List.Sublist.cons)); done) ⟨none, 0, none, 0, [], rfl, sleNil, sleNil, rfl⟩
  have hok : baleOk B := by assumption
  have hst := struck_spec B p H hB hok.h5 hok.hd
  have hli := lifted_spec B p H hB hok.hdry hok.wg
  refine X.lp rfl (fun q F' H' => ∃ n : Nat, q = 4 - n ∧ n ≤ 4 ∧ (∀ j, j < n → stk (okNd B) B.draws j [] = none) ∧ ⟨bx, 0, cBl B p, some 27, 6⟩ :: H = H' ∧ F' = [(1, .pointer (some ⟨bx, 0, none⟩)), (5, .int .i64 n)])
    4 [(1, .pointer (some ⟨bx, 0, none⟩)), (5, .int .i64 (0 : Nat))] _ (by (repeat (first | exact Sub.nil _ | refine Sub.cons rfl ?_)); done) (List.Sublist.refl _) ⟨0, rfl, by omega, fun j hj => absurd hj (by omega), rfl, rfl⟩ ?_
  rintro _ _ H2 ⟨n, rfl, hn, h0, hH, rfl⟩
  subst hH
  repeat' (first | (refine XO.op rfl ?_; (first | ((first | refine Xo.ng rfl ?_); (first | (refine Xg.call (EnF.st rfl (by (repeat (first | exact Args.nil | refine Args.cons rfl ?_)); done)) rfl rfl (hst n 0 (n : Int) 0 [] none 0 _ rfl rfl (Nat.zero_le _) (by simp only [List.length_nil]; omega) (fun r h => List.Mem.tail _ h) sleNil) ?_; rintro _ _ hR; rcases hR.top with ⟨r, a, c, Z, hr, rfl, hs, rfl⟩ | ⟨hr, rfl, rfl⟩) | (refine Xg.ev (EvF.move rfl rfl) rfl rfl ?_) | (refine Xg.ev (EvF.assign rfl rfl) rfl rfl ?_) | (refine Xg.ev (EvF.cmp rfl rfl rfl rfl) rfl rfl ?_) | (refine Xg.ev (EvF.add64 rfl rfl rfl (by omega) (by omega)) rfl rfl ?_) | (refine Xg.ev (EvF.not rfl rfl) rfl rfl ?_) | (refine Xg.ev (EvF.loadV rfl rfl (LoadV.whole (te rfl) rfl (List.Mem.head _) rfl)) rfl rfl ?_) | (refine Xg.ev (EvF.extract rfl rfl rfl) rfl rfl ?_))))) | (refine XO.done rfl ?_; refine hK _ _ ?_; clear hK K) | refine X.seq rfl ?_ | refine X.region rfl (fun K hK => ?_) | refine X.block rfl ?_ | (refine X.brk rfl ?_; first | refine blockX_hit rfl ?_ | skip) | refine X.skip rfl ?_ | refine X.ret rfl ?_ | (refine X.ite rfl rfl (fun hc => ?_); (first | (with_reducible refine Xb.case hc (fun h => ?_) (fun h => ?_)) | (with_reducible refine Xb.caseB hc (fun h => ?_) (fun h => ?_))) <;> clear hc))
  all_goals try (exfalso; first | omega | contradiction)
  · obtain ⟨H1, hH1⟩ : ∃ H1, H1 = Z ++ ⟨bx, 0, cBl B p, some 27, 6⟩ :: H := ⟨_, rfl⟩
    have hm1 : (⟨bx, 0, cBl B p, some 27, 6⟩ : Row) ∈ H1 := hH1 ▸ List.mem_append_right _ (List.Mem.head _)
    have hH : ∀ r ∈ H, r ∈ H1 := fun r h => hH1 ▸ List.mem_append_right _ (List.Mem.tail _ h)
    rw [← hH1]
    rw [List.drop_zero] at hr
    obtain ⟨hx1, hx2⟩ := hitD hok (by omega) h0 hr
    refine X.lp rfl (fun q F' H' => ∃ n : Nat, q = 4 - n ∧ n ≤ 4 ∧ (∀ j, j < n → stk (okNw B) B.weighs j [] = none) ∧ H1 = H' ∧ F' = [(1, .pointer (some ⟨bx, 0, none⟩)), (6, .slice a r.length c), (8, .int .i64 n)])
      4 [(1, .pointer (some ⟨bx, 0, none⟩)), (6, .slice a r.length c), (8, .int .i64 (0 : Nat))] _ (by (repeat (first | exact Sub.nil _ | refine Sub.cons rfl ?_)); done) (List.Sublist.refl _) ⟨0, rfl, by omega, fun j hj => absurd hj (by omega), rfl, rfl⟩ ?_
    rintro _ _ H2 ⟨k, rfl, hk, h0', hHH, rfl⟩
    subst hHH
    repeat' (first | (refine XO.op rfl ?_; (first | ((first | refine Xo.ng rfl ?_); (first | (refine Xg.ev (EvF.loadV rfl rfl (LoadV.whole (te rfl) rfl hm1 rfl)) rfl rfl ?_) | (refine Xg.call (EnF.st rfl (by (repeat (first | exact Args.nil | refine Args.cons rfl ?_)); done)) rfl rfl (hli k 0 (k : Int) 0 [] none 0 _ rfl rfl (Nat.zero_le _) (by simp only [List.length_nil]; omega) hH sleNil) ?_; rintro _ _ hR2; rcases hR2.top with ⟨r2, a2, c2, Z2, hr2, rfl, hs2, rfl⟩ | ⟨hr2, rfl, rfl⟩) | (refine Xg.ev (EvF.move rfl rfl) rfl rfl ?_) | (refine Xg.ev (EvF.assign rfl rfl) rfl rfl ?_) | (refine Xg.ev (EvF.cmp rfl rfl rfl rfl) rfl rfl ?_) | (refine Xg.ev (EvF.add64 rfl rfl rfl (by omega) (by omega)) rfl rfl ?_) | (refine Xg.ev (EvF.extract rfl rfl rfl) rfl rfl ?_))))) | (refine XO.done rfl ?_; refine hK _ _ ?_; clear hK K) | refine X.seq rfl ?_ | refine X.region rfl (fun K hK => ?_) | refine X.block rfl ?_ | (refine X.brk rfl ?_; first | refine blockX_hit rfl ?_ | skip) | refine X.skip rfl ?_ | refine X.ret rfl ?_ | (refine X.ite rfl rfl (fun hc => ?_); (first | (with_reducible refine Xb.t hc ?_) | (with_reducible refine Xb.f hc ?_) | (with_reducible refine Xb.case hc (fun h => ?_) (fun h => ?_))) <;> clear hc))
    all_goals try (exfalso; first | omega | contradiction)
    · rw [List.drop_zero] at hr2
      obtain ⟨hy1, hy2⟩ := hitW hok (by omega) h0' hr2
      have e : wrongF B = (r, r2, 0) := by unfold wrongF; rw [if_pos hok, if_pos ⟨hx1, hy1⟩, hx2, hy2]
      unfold WrongR; rw [e]
      subst hH1
      refine ret_three (by first | exact .inr rfl | exact .inl rfl) Try.results7 rfl rfl rfl (H' := _) (List.Sublist.refl _) ⟨a, c, a2, c2, Z2 ++ (Z ++ [⟨bx, 0, cBl B p, some 27, 6⟩]), rfl, ?_, ?_, by simp⟩
      · have := hs.sub (H' := Z2 ++ (Z ++ ⟨bx, 0, cBl B p, some 27, 6⟩ :: H)) (fun _ h => List.mem_append_right _ h)
        simpa using this
      · simpa using hs2
    · rw [List.drop_zero] at hr2
      refine ⟨_, _, _, (by (repeat (first | exact Sub.nil _ | refine Sub.cons rfl ?_)); done), List.Sublist.refl _, ⟨k + 1, rfl, by omega, fun j hj => ?_, rfl, rfl⟩, by omega⟩
      rcases Nat.lt_or_ge j k with h9 | h9
      · exact h0' j h9
      · obtain rfl : j = k := by omega
        exact hr2
    · obtain rfl : k = 4 := by omega
      have e : wrongF B = ([], [], 4) := by unfold wrongF; rw [if_pos hok, if_neg (by rw [missW hok h0']; simp)]
      unfold WrongR; rw [e]
      subst hH1
      exact ret_three (by first | exact .inr rfl | exact .inl rfl) Try.results7 rfl rfl rfl (H' := H) ((List.sublist_cons_self _ _).trans (List.sublist_append_right _ _)) ⟨none, 0, none, 0, [], rfl, sleNil, sleNil, rfl⟩
  · rw [List.drop_zero] at hr
    refine ⟨_, _, _, (by (repeat (first | exact Sub.nil _ | refine Sub.cons rfl ?_)); done), List.Sublist.refl _, ⟨n + 1, rfl, by omega, fun j hj => ?_, rfl, rfl⟩, by omega⟩
    rcases Nat.lt_or_ge j n with h9 | h9
    · exact h0 j h9
    · obtain rfl : j = n := by omega
      exact hr
  · obtain rfl : n = 4 := by omega
    have e : wrongF B = ([], [], 4) := by unfold wrongF; rw [if_pos hok, if_neg (by rw [missD hok h0]; simp)]
    unfold WrongR; rw [e]
    exact ret_three (by first | exact .inr rfl | exact .inl rfl) Try.results7 rfl rfl rfl (H' := H) (by (repeat (first | exact List.Sublist.refl _ | apply List.Sublist.cons)); done) ⟨none, 0, none, 0, [], rfl, sleNil, sleNil, rfl⟩
end Go.Proofs.Ytminkpgacomicad
end
section
set_option linter.unusedVariables false
set_option linter.unusedSimpArgs false
namespace Go.Proofs.Ytminkpgacomicad
open Go Go.Fw
set_option maxRecDepth 10000
set_option maxHeartbeats 8000000 in
theorem spoilB_spec (B : Bl) (t1 k1 t2 k2 : Nat) (H : List Row) (l1 : B.draws.length ≤ 1000000) (l2 : B.weighs.length ≤ 1000000) :
    Fc Try.prog 16 [.agg (cBl B (plB t1 k1 t2 k2)).toArray] (rDraws B t1 k1 :: rWeighs B t2 k2 :: H) (fun v H' => v = .tuple #[] ∧ H' = H) := by
  have hc1 : (B.draws.flatMap cDr).length = B.draws.length * 4 := flat_len (fun _ _ => rfl)
  have hc2 : (B.weighs.flatMap cDr).length = B.weighs.length * 4 := flat_len (fun _ _ => rfl)
  unfold rDraws rWeighs
  generalize B.draws.flatMap cDr = cs1 at hc1 ⊢
  generalize B.weighs.flatMap cDr = cs2 at hc2 ⊢
  refine Fc.mk (callable Try.call16) Try.func16 rfl Try.ntmps16 rfl ?_; dsimp only [fr]
  refine X.seq rfl ?_; refine X.region rfl (fun K hK => ?_); repeat' (first | (refine XO.op rfl ?_; (first | ((first | refine Xo.ng rfl ?_); (first | (refine Xg.st (StF.boxAgg rfl rfl) rfl rfl ?_; rintro _ _ ⟨bx, rfl, rfl⟩))))) | (refine XO.done rfl ?_; refine hK _ _ ?_; clear hK K))
  rename Nat => b1
  repeat' (first | (refine XO.op rfl ?_; (first | ((first | refine Xo.ng rfl ?_); (first | (refine Xg.ev (EvF.move rfl rfl) rfl rfl ?_) | (refine Xg.ev (EvF.assign rfl rfl) rfl rfl ?_) | (refine Xg.ev (EvF.cmp rfl rfl rfl rfl) rfl rfl ?_) | (refine Xg.ev (EvF.fieldAddr rfl rfl (te rfl) rfl (te rfl) (by decide)) rfl rfl ?_) | (refine Xg.ev (EvF.lenSlice rfl rfl (te rfl)) rfl rfl ?_) | (refine Xg.ev (EvF.loadV rfl rfl (LoadV.own (te rfl) rfl (List.Mem.head _) rfl)) rfl rfl ?_))))) | (refine XO.done rfl ?_; refine hK _ _ ?_; clear hK K) | refine X.seq rfl ?_ | refine X.region rfl (fun K hK => ?_) | refine X.block rfl ?_ | (refine X.brk rfl ?_; first | refine blockX_hit rfl ?_ | skip) | refine X.skip rfl ?_ | (refine X.ite rfl rfl (fun hc => ?_); (first | (with_reducible refine Xb.case hc (fun h => ?_) (fun h => ?_))) <;> clear hc))
  refine X.lp rfl (fun q F' H' => ∃ (k : Nat) (ds1 : List Value), q = B.draws.length - k ∧ k ≤ B.draws.length ∧ ds1.length = B.draws.length * 4 ∧ ⟨b1, 0, cBl B (plB t1 k1 t2 k2), some 27, 6⟩ :: ⟨t1, 0, ds1, some 29, k1 * 4⟩ :: ⟨t2, 0, cs2, some 31, k2 * 4⟩ :: H = H' ∧ F' = [(1, .pointer (some ⟨b1, 0, none⟩)), (6, .int .i64 B.draws.length), (7, .int .i64 k)])
    B.draws.length [(1, .pointer (some ⟨b1, 0, none⟩)), (6, .int .i64 B.draws.length), (7, .int .i64 (0 : Nat))] _ (by (repeat (first | exact Sub.nil _ | refine Sub.cons rfl ?_)); done) (List.Sublist.refl _) ⟨0, cs1, rfl, Nat.zero_le _, hc1, rfl, rfl⟩ ?_
  rintro _ _ H2 ⟨k, ds1, rfl, hk, hds1, hH, rfl⟩
  subst hH
  repeat' (first | (refine XO.op rfl ?_; (first | ((first | refine Xo.ng rfl ?_); (first | (refine Xg.st0 (StF.storeOne (i := 1) rfl rfl rfl rfl (te rfl) rfl rfl (by rw [hds1]; show 0 + k * 4 + 1 < _; omega)) rfl ?_; rintro _ _ ⟨rfl, rfl⟩; dsimp only [List.set]) | (refine Xg.ev (EvF.move rfl rfl) rfl rfl ?_) | (refine Xg.ev (EvF.assign rfl rfl) rfl rfl ?_) | (refine Xg.ev (EvF.cmp rfl rfl rfl rfl) rfl rfl ?_) | (refine Xg.ev (EvF.add64 rfl rfl rfl (by omega) (by omega)) rfl rfl ?_) | (refine Xg.ev (EvF.fieldAddr rfl rfl (te rfl) rfl (te rfl) (by decide)) rfl rfl ?_) | (refine Xg.ev (EvF.lenSlice rfl rfl (te rfl)) rfl rfl ?_) | (refine Xg.ev (EvF.indexSlice rfl rfl rfl (te rfl) (te rfl) (by omega) (by omega)) rfl rfl ?_) | (refine Xg.ev (EvF.loadV rfl rfl (LoadV.own (te rfl) rfl (List.Mem.head _) rfl)) rfl rfl ?_))))) | (refine XO.done rfl ?_; refine hK _ _ ?_; clear hK K) | refine X.seq rfl ?_ | refine X.region rfl (fun K hK => ?_) | refine X.block rfl ?_ | (refine X.brk rfl ?_; first | refine blockX_hit rfl ?_ | skip) | refine X.skip rfl ?_ | (refine X.ite rfl rfl (fun hc => ?_); (first | (with_reducible refine Xb.case hc (fun h => ?_) (fun h => ?_))) <;> clear hc))
  · exact ⟨_, [(1, .pointer (some ⟨b1, 0, none⟩)), (6, .int .i64 B.draws.length), (7, .int .i64 (k + 1 : Nat))], _, (by (repeat (first | exact Sub.nil _ | refine Sub.cons rfl ?_)); done), List.Sublist.refl _, ⟨k + 1, _, rfl, by omega, by rw [List.length_set]; exact hds1, rfl, rfl⟩, by omega⟩
  clear h hk
  refine X.lp rfl (fun q F' H' => ∃ (k : Nat) (ds2 : List Value), q = B.weighs.length - k ∧ k ≤ B.weighs.length ∧ ds2.length = B.weighs.length * 4 ∧ ⟨b1, 0, cBl B (plB t1 k1 t2 k2), some 27, 6⟩ :: ⟨t1, 0, ds1, some 29, k1 * 4⟩ :: ⟨t2, 0, ds2, some 31, k2 * 4⟩ :: H = H' ∧ F' = [(1, .pointer (some ⟨b1, 0, none⟩)), (18, .int .i64 B.weighs.length), (19, .int .i64 k)])
    B.weighs.length [(1, .pointer (some ⟨b1, 0, none⟩)), (18, .int .i64 B.weighs.length), (19, .int .i64 (0 : Nat))] _ (by (repeat (first | exact Sub.nil _ | refine Sub.cons rfl ?_)); done) (List.Sublist.refl _) ⟨0, cs2, rfl, Nat.zero_le _, hc2, rfl, rfl⟩ ?_
  rintro _ _ H2 ⟨k, ds2, rfl, hk, hds2, hH, rfl⟩
  subst hH
  repeat' (first | (refine XO.op rfl ?_; (first | ((first | refine Xo.ng rfl ?_); (first | (refine Xg.st0 (StF.storeOne (i := 2) rfl rfl rfl rfl (te rfl) rfl rfl (by rw [hds2]; show 0 + k * 4 + 1 < _; omega)) rfl ?_; rintro _ _ ⟨rfl, rfl⟩; dsimp only [List.set]) | (refine Xg.ev (EvF.move rfl rfl) rfl rfl ?_) | (refine Xg.ev (EvF.assign rfl rfl) rfl rfl ?_) | (refine Xg.ev (EvF.cmp rfl rfl rfl rfl) rfl rfl ?_) | (refine Xg.ev (EvF.add64 rfl rfl rfl (by omega) (by omega)) rfl rfl ?_) | (refine Xg.ev (EvF.fieldAddr rfl rfl (te rfl) rfl (te rfl) (by decide)) rfl rfl ?_) | (refine Xg.ev (EvF.indexSlice rfl rfl rfl (te rfl) (te rfl) (by omega) (by omega)) rfl rfl ?_) | (refine Xg.ev (EvF.loadV rfl rfl (LoadV.own (te rfl) rfl (List.Mem.head _) rfl)) rfl rfl ?_))))) | (refine XO.done rfl ?_; refine hK _ _ ?_; clear hK K) | refine X.seq rfl ?_ | refine X.region rfl (fun K hK => ?_) | refine X.block rfl ?_ | (refine X.brk rfl ?_; first | refine blockX_hit rfl ?_ | skip) | refine X.skip rfl ?_ | (refine X.ite rfl rfl (fun hc => ?_); (first | (with_reducible refine Xb.case hc (fun h => ?_) (fun h => ?_))) <;> clear hc))
  · exact ⟨_, [(1, .pointer (some ⟨b1, 0, none⟩)), (18, .int .i64 B.weighs.length), (19, .int .i64 (k + 1 : Nat))], _, (by (repeat (first | exact Sub.nil _ | refine Sub.cons rfl ?_)); done), List.Sublist.refl _, ⟨k + 1, _, rfl, by omega, by rw [List.length_set]; exact hds2, rfl, rfl⟩, by omega⟩
  clear h hk
  exact ret_none (by first | exact .inr rfl | exact .inl rfl) Try.results16 (H' := H) (by (repeat (first | exact List.Sublist.refl _ | apply List.Sublist.cons)); done) ⟨rfl, rfl⟩
set_option maxHeartbeats 8000000 in
theorem spoilB0_spec (H : List Row) : Fc Try.prog 16 [.agg (cBl Bz pzb).toArray] H (fun v H' => v = .tuple #[] ∧ H' = H) := by
  refine Fc.mk (callable Try.call16) Try.func16 rfl Try.ntmps16 rfl ?_; dsimp only [fr]
  refine X.seq rfl ?_; refine X.region rfl (fun K hK => ?_); repeat' (first | (refine XO.op rfl ?_; (first | ((first | refine Xo.ng rfl ?_); (first | (refine Xg.st (StF.boxAgg rfl rfl) rfl rfl ?_; rintro _ _ ⟨bx, rfl, rfl⟩))))) | (refine XO.done rfl ?_; refine hK _ _ ?_; clear hK K))
  rename Nat => b1
  repeat' (first | (refine XO.op rfl ?_; (first | ((first | refine Xo.ng rfl ?_); (first | (refine Xg.ev (EvF.move rfl rfl) rfl rfl ?_) | (refine Xg.ev (EvF.assign rfl rfl) rfl rfl ?_) | (refine Xg.ev (EvF.cmp rfl rfl rfl rfl) rfl rfl ?_) | (refine Xg.ev (EvF.fieldAddr rfl rfl (te rfl) rfl (te rfl) (by decide)) rfl rfl ?_) | (refine Xg.ev (EvF.lenSlice rfl rfl (te rfl)) rfl rfl ?_) | (refine Xg.ev (EvF.loadV rfl rfl (LoadV.own (te rfl) rfl (List.Mem.head _) rfl)) rfl rfl ?_))))) | (refine XO.done rfl ?_; refine hK _ _ ?_; clear hK K) | refine X.seq rfl ?_ | refine X.region rfl (fun K hK => ?_) | refine X.block rfl ?_ | (refine X.brk rfl ?_; first | refine blockX_hit rfl ?_ | skip) | refine X.skip rfl ?_ | (refine X.ite rfl rfl (fun hc => ?_); (first | (with_reducible refine Xb.case hc (fun h => ?_) (fun h => ?_))) <;> clear hc))
  refine X.lp rfl (fun q F' H' => ⟨b1, 0, cBl Bz pzb, some 27, 6⟩ :: H = H' ∧ F' = [(1, .pointer (some ⟨b1, 0, none⟩)), (6, .int .i64 (0 : Nat)), (7, .int .i64 (0 : Nat))]) 0 [(1, .pointer (some ⟨b1, 0, none⟩)), (6, .int .i64 (0 : Nat)), (7, .int .i64 (0 : Nat))] _ (by (repeat (first | exact Sub.nil _ | refine Sub.cons rfl ?_)); done) (List.Sublist.refl _) ⟨rfl, rfl⟩ ?_
  rintro _ _ H2 ⟨hH, rfl⟩
  subst hH
  repeat' (first | (refine XO.op rfl ?_; (first | ((first | refine Xo.ng rfl ?_); (first | (refine Xg.ev (EvF.move rfl rfl) rfl rfl ?_) | (refine Xg.ev (EvF.assign rfl rfl) rfl rfl ?_) | (refine Xg.ev (EvF.cmp rfl rfl rfl rfl) rfl rfl ?_) | (refine Xg.ev (EvF.fieldAddr rfl rfl (te rfl) rfl (te rfl) (by decide)) rfl rfl ?_) | (refine Xg.ev (EvF.lenSlice rfl rfl (te rfl)) rfl rfl ?_) | (refine Xg.ev (EvF.loadV rfl rfl (LoadV.own (te rfl) rfl (List.Mem.head _) rfl)) rfl rfl ?_))))) | (refine XO.done rfl ?_; refine hK _ _ ?_; clear hK K) | refine X.seq rfl ?_ | refine X.region rfl (fun K hK => ?_) | refine X.block rfl ?_ | (refine X.brk rfl ?_; first | refine blockX_hit rfl ?_ | skip) | refine X.skip rfl ?_ | (refine X.ite rfl rfl (fun hc => ?_); (first | (with_reducible refine Xb.case hc (fun h => ?_) (fun h => ?_))) <;> clear hc))
  any_goals (exfalso; omega)
  refine X.lp rfl (fun q F' H' => ⟨b1, 0, cBl Bz pzb, some 27, 6⟩ :: H = H' ∧ F' = [(1, .pointer (some ⟨b1, 0, none⟩)), (18, .int .i64 (0 : Nat)), (19, .int .i64 (0 : Nat))]) 0 [(1, .pointer (some ⟨b1, 0, none⟩)), (18, .int .i64 (0 : Nat)), (19, .int .i64 (0 : Nat))] _ (by (repeat (first | exact Sub.nil _ | refine Sub.cons rfl ?_)); done) (List.Sublist.refl _) ⟨rfl, rfl⟩ ?_
  rintro _ _ H2 ⟨hH, rfl⟩
  subst hH
  repeat' (first | (refine XO.op rfl ?_; (first | ((first | refine Xo.ng rfl ?_); (first | (refine Xg.ev (EvF.move rfl rfl) rfl rfl ?_) | (refine Xg.ev (EvF.assign rfl rfl) rfl rfl ?_) | (refine Xg.ev (EvF.cmp rfl rfl rfl rfl) rfl rfl ?_) | (refine Xg.ev (EvF.fieldAddr rfl rfl (te rfl) rfl (te rfl) (by decide)) rfl rfl ?_) | (refine Xg.ev (EvF.lenSlice rfl rfl (te rfl)) rfl rfl ?_) | (refine Xg.ev (EvF.loadV rfl rfl (LoadV.own (te rfl) rfl (List.Mem.head _) rfl)) rfl rfl ?_))))) | (refine XO.done rfl ?_; refine hK _ _ ?_; clear hK K) | refine X.seq rfl ?_ | refine X.region rfl (fun K hK => ?_) | refine X.block rfl ?_ | (refine X.brk rfl ?_; first | refine blockX_hit rfl ?_ | skip) | refine X.skip rfl ?_ | (refine X.ite rfl rfl (fun hc => ?_); (first | (with_reducible refine Xb.case hc (fun h => ?_) (fun h => ?_))) <;> clear hc))
  any_goals (exfalso; omega)
  exact ret_none (by first | exact .inr rfl | exact .inl rfl) Try.results16 (H' := H) (by (repeat (first | exact List.Sublist.refl _ | apply List.Sublist.cons)); done) ⟨rfl, rfl⟩
end Go.Proofs.Ytminkpgacomicad
end
section
set_option linter.unusedVariables false
set_option linter.unusedSimpArgs false
namespace Go.Proofs.Ytminkpgacomicad
open Go Go.Fw
set_option maxRecDepth 10000
theorem xoPermH {P : Program} {n : Nat} {ops : Array Oper} {i : Nat} {F : FS} {H H' : List Row} {N : FS → List Row → Prop} (hp : H'.Perm H) (k : XO P n ops i F H' N) : XO P n ops i F H N := by
  unfold XO WO at *
  intro t ha ρ ds B w0 w hS
  exact k t ha ρ ds B w0 w (hS.perm hp)
theorem xoWeakH {P : Program} {n : Nat} {ops : Array Oper} {i : Nat} {F : FS} {H H' : List Row} {N : FS → List Row → Prop} (hp : H'.Sublist H) (k : XO P n ops i F H' N) : XO P n ops i F H N := by
  unfold XO WO at *
  intro t ha ρ ds B w0 w hS
  exact k t ha ρ ds B w0 w (hS.sub hp)
theorem cmpSelfK {P : Program} {n : Nat} {H : List Row} {F : FS} {o : Oper} {T T' : TypeId} {x y : Operand} {k : IntKind} {p : Int} (h : o.op = .binOp .eql T x y T') (hx : evF F x = some (.int k p)) (hy : evF F y = some (.int k p)) : EvF P n H F o (.bool true) := by
  have := EvF.cmp (P := P) (n := n) (H := H) h hx hy rfl
  rwa [decide_eq_true rfl] at this
theorem cmpSelfN {P : Program} {n : Nat} {H : List Row} {F : FS} {o : Oper} {T T' : TypeId} {x y : Operand} {k : IntKind} {p : Int} (h : o.op = .binOp .neq T x y T') (hx : evF F x = some (.int k p)) (hy : evF F y = some (.int k p)) : EvF P n H F o (.bool false) := by
  have := EvF.cmp (P := P) (n := n) (H := H) h hx hy rfl
  rwa [decide_eq_true rfl] at this
theorem perm1K {α : Type} (V A Z T : List α) : (Z ++ (V ++ (A ++ T))).Perm (V ++ (A ++ (Z ++ T))) :=
  ((List.perm_append_comm_assoc Z V (A ++ T))).trans (List.Perm.append_left V (List.perm_append_comm_assoc Z A T))
theorem OwnBl.ok {Z : List Row} {B : Bl} {p : Pb} (h : OwnBl Z B p) (h1 : B.draws.length ≤ 1000000) (h2 : B.weighs.length ≤ 1000000) : BlOk Z B p := by
  rcases h with ⟨rfl, rfl, rfl⟩ | ⟨t1, k1, t2, k2, rfl, hp⟩
  · exact BlOk.zero _
  · exact ⟨ownSlB (fun _ => rfl) (hp.mem_iff.2 (List.Mem.head _)), ownSlB (fun _ => rfl) (hp.mem_iff.2 (List.Mem.tail _ (List.Mem.head _))), h1, h2⟩
theorem spoilOwnB {Z : List Row} {B : Bl} {p : Pb} (h : OwnBl Z B p) (h1 : B.draws.length ≤ 1000000) (h2 : B.weighs.length ≤ 1000000) (H : List Row) : Fc Try.prog 16 [.agg (cBl B p).toArray] (Z ++ H) (fun v H' => v = .tuple #[] ∧ H' = H) := by
  rcases h with ⟨rfl, rfl, rfl⟩ | ⟨t1, k1, t2, k2, rfl, hp⟩
  · exact spoilB0_spec H
  · exact (spoilB_spec B t1 k1 t2 k2 H h1 h2).permR (List.Perm.append_right H hp.symm)
theorem sameInts3_self (l : List Int) (a a' : Option Addr) (c c' : Nat) (H : List Row) (hl : SlE H a cI 1 l) (hm : SlE H a' cI 1 l) (hb : l.length ≤ 9223372036854775807) : Fc Try.prog 8 [.slice a l.length c, .slice a' l.length c'] H (fun v H' => v = .bool true ∧ H' = H) :=
  (sameInts3_spec l l a a' c c' H hl hm hb).mono (fun v H' ⟨h1, h2⟩ => ⟨by rw [h1, decide_eq_true rfl], h2⟩)
def smallB (B : Bl) (n : Nat) : Prop := B.draws.length ≤ n ∧ B.weighs.length ≤ n
theorem smallB_zero (n : Nat) : smallB Bz n := ⟨Nat.zero_le _, Nat.zero_le _⟩
theorem smallB_put {B : Bl} (x : Dr) (h : smallB B 1000) : smallB (bputF B x).1 1001 := by
  obtain ⟨h1, h2⟩ := h
  have := insDr_len x B.draws
  unfold bputF putBl
  split
  · split
    · exact smallB_zero _
    · split
      · exact ⟨by dsimp only; omega, by dsimp only; omega⟩
      · exact smallB_zero _
  · exact smallB_zero _
theorem smallB_wed {B : Bl} (x : Dr) (h : smallB B 1000) : smallB (bwedF B x).1 1001 := by
  obtain ⟨h1, h2⟩ := h
  have := insWg_len x B.weighs
  unfold bwedF wedBl
  split
  · split
    · exact smallB_zero _
    · split
      · exact ⟨by dsimp only; omega, by dsimp only; omega⟩
      · exact smallB_zero _
  · exact smallB_zero _
theorem smallB_str {B : Bl} (l m : List Int) (h : smallB B 1000) : smallB (bstrF B l m).1 1001 := by
  obtain ⟨h1, h2⟩ := h
  have e1 : (leftDr B.draws l).length ≤ B.draws.length := List.length_filter_le _ _
  have e2 : (leftWg B.weighs m).length ≤ B.weighs.length := List.length_filter_le _ _
  unfold bstrF strBl
  split
  · split
    · split
      · exact ⟨by dsimp only; omega, by dsimp only; omega⟩
      · exact smallB_zero _
    · exact smallB_zero _
  · exact smallB_zero _
theorem wrongF_len {B : Bl} : (wrongF B).1.length ≤ 1000000 ∧ (wrongF B).2.1.length ≤ 1000000 := by
  have h1 := few_getD (okD B) B.draws (min 3 B.draws.length + 1)
  have h2 := few_getD (okWt B) B.weighs (min 3 B.weighs.length + 1)
  unfold wrongF
  split
  · split
    · unfold numsOf fewD fewW
      rw [List.length_map, List.length_map]
      omega
    · exact ⟨Nat.zero_le _, Nat.zero_le _⟩
  · exact ⟨Nat.zero_le _, Nat.zero_le _⟩
end Go.Proofs.Ytminkpgacomicad
end
section
set_option linter.unusedVariables false
namespace Go.Proofs.Ytminkpgacomicad
open Go Go.Fw Go.ChangeShapes Go.WideShapes
set_option maxRecDepth 10000
instance : Inhabited Sp := ⟨⟨0, 0⟩⟩
instance : Inhabited Bx := ⟨⟨0, 0⟩⟩
instance : Inhabited Mt := ⟨⟨0, 0, 0, 0, 0, 0⟩⟩
def w64 (n : Int) : Prop := (Lit.int .i64 n).wf = true
section
variable {H : Type} {enc : TypeId × Value → H} {w : World} {base : Nat} {spare : Nat → Bool} {held : Bool} {fuel : Nat} {cs : List Value} {x : DataW H × List MemPlace}
theorem open_i (h : DataW.trod enc Try.prog w base spare held fuel 3 cs = some x) : ∃ q : Int, cs = cI q ∧ w64 q := trod_i (te rfl) h
theorem open_sp (h : DataW.trod enc Try.prog w base spare held fuel 23 cs = some x) : ∃ q : Sp, cs = cSp q ∧ (w64 q.lo ∧ w64 q.hi) := by
  obtain ⟨hl, hf⟩ := trod_st (te rfl) h
  obtain ⟨n0, y0, h0⟩ := hf 0 0 3 _ rfl (te rfl)
  obtain ⟨n1, y1, h1⟩ := hf 1 1 3 _ rfl (te rfl)
  match cs, hl with
  | [a, b], _ =>
    obtain ⟨lo, e0, w0⟩ := open_i h0
    obtain ⟨hi, e1, w1⟩ := open_i h1
    simp [cI] at e0 e1
    subst e0 e1
    exact ⟨⟨lo, hi⟩, rfl, w0, w1⟩
end
structure InRm (w : World) (R : Rm) (p : Pl) : Prop where
  ages : InSl w p.a1 cSp 2 R.ages
  boxes : InSl w p.a2 cBx 2 R.boxes
  mats : InSl w p.a3 cMt 6 R.mats
  mo : w64 R.months
  st : w64 R.step
  k1 : R.ages.length ≤ p.c1
  k2 : R.boxes.length ≤ p.c2
  k3 : R.mats.length ≤ p.c3
def rowsRm (R : Rm) (p : Pl) : List Row := rowsOf p.a1 cSp R.ages ++ (rowsOf p.a2 cBx R.boxes ++ rowsOf p.a3 cMt R.mats)
theorem InRm.ok {w : World} {R : Rm} {p : Pl} {B : Nat} (h : InRm w R p) : ∀ r ∈ rowsRm R p, r.own = none ∧ r.ok B w := by
  intro r hr
  rcases List.mem_append.1 hr with hr | hr
  · exact h.ages.ok r hr
  · rcases List.mem_append.1 hr with hr | hr
    · exact h.boxes.ok r hr
    · exact h.mats.ok r hr
section
variable {H : Type} {enc : TypeId × Value → H} {w : World} {base : Nat} {spare : Nat → Bool} {held : Bool} {v : Value} {d : DataW H} {p : List MemPlace} {r : Reach} {b0 : Nat}
theorem open_list (hv : Value.okWide Try.prog w r b0 32 v) (h : DataW.Trod enc Try.prog w base spare held 32 v d p) : ∃ (l : List Int) (a : Option Addr) (c : Nat), v = .slice a l.length c ∧ InSl w a cI 1 l ∧ (∀ q ∈ l, w64 q) ∧ l.length ≤ c := by
  obtain ⟨a, len, cap, rfl⟩ := okWide_slice Try.underlying32 hv
  obtain ⟨fuel, hf⟩ := h
  exact open_sl (te rfl) (te rfl) rfl (by decide) (fun _ _ _ => open_i) (fun _ => rfl) hf
end
end Go.Proofs.Ytminkpgacomicad
end
section
set_option linter.unusedVariables false
namespace Go.Proofs.Ytminkpgacomicad
open Go Go.Fw Go.ChangeShapes Go.WideShapes Go.ChangeAt Go.RowKit
set_option linter.unusedVariables false
set_option maxRecDepth 100000
instance instDrCC : Inhabited Dr := ⟨⟨0, 0, 0, 0⟩⟩
section
variable {H : Type} {enc : TypeId × Value → H} {w : World} {base : Nat} {spare : Nat → Bool} {held : Bool} {fuel : Nat} {cs : List Value} {x : DataW H × List MemPlace}
theorem openC_dr (h : DataW.trod enc Try.prog w base spare held fuel 29 cs = some x) : ∃ q : Dr, cs = cDr q ∧ True := by
  obtain ⟨hl, hf⟩ := trod_st (te rfl) h
  obtain ⟨n0, y0, h0⟩ := hf 0 0 3 _ rfl (te rfl)
  obtain ⟨n1, y1, h1⟩ := hf 1 1 3 _ rfl (te rfl)
  obtain ⟨n2, y2, h2⟩ := hf 2 2 23 _ rfl (te rfl)
  match cs, hl with
  | [a, b, c, d], _ =>
    obtain ⟨q0, e0, w0⟩ := open_i h0
    obtain ⟨q1, e1, w1⟩ := open_i h1
    obtain ⟨q2, e2, w2⟩ := open_sp h2
    simp [cI, cSp] at e0 e1 e2
    obtain ⟨e2, e3⟩ := e2
    subst e0 e1 e2 e3
    exact ⟨⟨q0, q1, q2.lo, q2.hi⟩, rfl, trivial⟩
theorem openC_wg (h : DataW.trod enc Try.prog w base spare held fuel 31 cs = some x) : ∃ q : Dr, cs = cDr q ∧ True := by
  obtain ⟨hl, hf⟩ := trod_st (te rfl) h
  obtain ⟨n0, y0, h0⟩ := hf 0 0 3 _ rfl (te rfl)
  obtain ⟨n1, y1, h1⟩ := hf 1 1 3 _ rfl (te rfl)
  obtain ⟨n2, y2, h2⟩ := hf 2 2 23 _ rfl (te rfl)
  match cs, hl with
  | [a, b, c, d], _ =>
    obtain ⟨q0, e0, w0⟩ := open_i h0
    obtain ⟨q1, e1, w1⟩ := open_i h1
    obtain ⟨q2, e2, w2⟩ := open_sp h2
    simp [cI, cSp] at e0 e1 e2
    obtain ⟨e2, e3⟩ := e2
    subst e0 e1 e2 e3
    exact ⟨⟨q0, q1, q2.lo, q2.hi⟩, rfl, trivial⟩
end
structure InBlC (w : World) (B : Bl) (p : Pb) : Prop where
  draws : InSl w p.a1 cDr 4 B.draws
  weighs : InSl w p.a2 cDr 4 B.weighs
  k1 : B.draws.length ≤ p.c1
  k2 : B.weighs.length ≤ p.c2
def rowsBlC (B : Bl) (p : Pb) : List Row := rowsOf p.a1 cDr B.draws ++ rowsOf p.a2 cDr B.weighs
theorem InBlC.ok {w : World} {B : Bl} {p : Pb} {N : Nat} (h : InBlC w B p) : ∀ r ∈ rowsBlC B p, r.own = none ∧ r.ok N w := by
  intro r hr
  rcases List.mem_append.1 hr with hr | hr
  · exact h.draws.ok r hr
  · exact h.weighs.ok r hr
section
variable {H : Type} {enc : TypeId × Value → H} {w : World} {base : Nat} {spare : Nat → Bool} {held : Bool} {v : Value} {d : DataW H} {p : List MemPlace} {r : Reach} {b0 : Nat}
theorem open_baleC (hv : Value.okWide Try.prog w r b0 27 v) (h : DataW.Trod enc Try.prog w base spare held 27 v d p) : ∃ B pl, v = .agg (cBl B pl).toArray ∧ InBlC w B pl := by
  obtain ⟨fa, hu, _⟩ := ti_struct (te (T := 27) rfl)
  obtain ⟨⟨cs⟩, rfl, _⟩ := okWide_struct hu hv
  obtain ⟨fuel, hf⟩ := h
  obtain ⟨hl, hf⟩ := trod_st (te rfl) hf
  obtain ⟨n0, y0, h0⟩ := hf 0 0 3 _ rfl (te rfl)
  obtain ⟨n1, y1, h1⟩ := hf 1 1 3 _ rfl (te rfl)
  obtain ⟨n2, y2, h2⟩ := hf 2 2 23 _ rfl (te rfl)
  obtain ⟨n3, y3, h3⟩ := hf 3 4 24 _ rfl (te rfl)
  obtain ⟨n4, y4, h4⟩ := hf 4 5 25 _ rfl (te rfl)
  match cs, hl with
  | [a, b, c, d, e, f], _ =>
    obtain ⟨q0, e0, w0⟩ := open_i h0
    obtain ⟨q1, e1, w1⟩ := open_i h1
    obtain ⟨q2, e2, w2⟩ := open_sp h2
    simp [cI, cSp, Value.cells] at e0 e1 e2
    obtain ⟨l3, a3, c3, e3, i3, _, k3⟩ := open_sl (te rfl) (te rfl) rfl (by decide) (fun _ _ _ => openC_dr) (fun _ => rfl) h3
    obtain ⟨l4, a4, c4, e4, i4, _, k4⟩ := open_sl (te rfl) (te rfl) rfl (by decide) (fun _ _ _ => openC_wg) (fun _ => rfl) h4
    obtain ⟨ea, eb⟩ := e2
    subst e0 e1 ea eb e3 e4
    exact ⟨⟨q0, q1, q2.lo, q2.hi, l3, l4⟩, ⟨a3, c3, a4, c4⟩, rfl, i3, i4, k3, k4⟩
theorem open1_dr (hv : Value.okWide Try.prog w r b0 29 v) (h : DataW.Trod enc Try.prog w base spare held 29 v d p) : ∃ q : Dr, v = .agg (cDr q).toArray := by
  obtain ⟨fa, hu, _⟩ := ti_struct (te (T := 29) rfl)
  obtain ⟨⟨cs⟩, rfl, _⟩ := okWide_struct hu hv
  obtain ⟨fuel, hf⟩ := h
  obtain ⟨q, e, _⟩ := openC_dr hf
  simp only [Value.cells] at e
  exact ⟨q, by rw [← e]⟩
theorem open1_wg (hv : Value.okWide Try.prog w r b0 31 v) (h : DataW.Trod enc Try.prog w base spare held 31 v d p) : ∃ q : Dr, v = .agg (cDr q).toArray := by
  obtain ⟨fa, hu, _⟩ := ti_struct (te (T := 31) rfl)
  obtain ⟨⟨cs⟩, rfl, _⟩ := okWide_struct hu hv
  obtain ⟨fuel, hf⟩ := h
  obtain ⟨q, e, _⟩ := openC_wg hf
  simp only [Value.cells] at e
  exact ⟨q, by rw [← e]⟩
end
theorem ownKC : ownKnob Try.prog.godebug = none := by kernel_rfl
theorem laidOC : laidOutB Try.prog = true := by kernel_rfl
#print axioms coreChanges_proved
end Go.Proofs.Ytminkpgacomicad
end
