/- TermsSay: for all terms and four numbers the law returns true (who says the grade that is told gets what is told, and by no other grade surely more; who says the worst that it can be gets its invoice; the examples are as told), and each argument reads afterwards as before. No condition. -/
import Derived.Test.YtcjlegjchllgjaaGreatW06
import Derived.OpenShut
section
set_option linter.unusedVariables false
set_option linter.unusedSimpArgs false
namespace Go.Proofs.YtcjlegjchllgjaaGreat
open Go Go.Fw
set_option maxRecDepth 10000
set_option maxHeartbeats 16000000 in
theorem alive_spec (H : List Row) : Fc Tryz.prog 13 [] H (fun v H' => v = .bool true ∧ H' = H) := by
  refine Fc.mk (callable Tryz.call13) Tryz.func13 rfl Tryz.ntmps13 rfl ?_; dsimp only [fr]
  repeat' (first | (refine XO.op rfl ?_; (first | ((first | refine Xo.ng rfl ?_); (first | (refine Xg.call (EnF.st rfl (Args.cons rfl Args.nil)) rfl rfl (cotton_spec _ _) ?_; rintro _ _ ⟨b1, b2, rfl, rfl⟩) | (refine Xg.call (EnF.st rfl (Args.cons rfl (Args.cons rfl Args.nil))) rfl rfl (lclass_spec _ _ _) ?_; rintro _ H9 ⟨rfl, hH9⟩; subst H9) | (refine Xg.call (EnF.st rfl (Args.cons rfl (Args.cons rfl Args.nil))) rfl rfl (lspan_spec _ _ _) ?_; rintro _ H9 ⟨rfl, hH9⟩; subst H9) | (refine Xg.call (EnF.st rfl (Args.cons rfl (Args.cons rfl Args.nil))) rfl rfl (x1 _ _ (ctnOk 12 b1 b2 _ (List.Mem.tail _ (List.Mem.head _)) (List.Mem.head _))) ?_; rintro _ H9 ⟨rfl, hH9⟩; subst H9) | (refine Xg.call (EnF.st rfl (Args.cons rfl (Args.cons rfl (Args.cons rfl Args.nil)))) rfl rfl (x2 _ _ (ctnOk 12 b1 b2 _ (List.Mem.tail _ (List.Mem.head _)) (List.Mem.head _))) ?_; rintro _ H9 ⟨rfl, hH9⟩; subst H9) | (refine Xg.call (EnF.st rfl (by (repeat (first | exact Args.nil | refine Args.cons rfl ?_)); done)) rfl rfl (x3 _ _ (ctnOk 12 b1 b2 _ (List.Mem.tail _ (List.Mem.head _)) (List.Mem.head _))) ?_; rintro _ H9 ⟨rfl, hH9⟩; subst H9) | (refine Xg.call (EnF.st rfl (Args.cons rfl (Args.cons rfl (Args.cons rfl Args.nil)))) rfl rfl (x4 _ _ (ctnOk 12 b1 b2 _ (List.Mem.tail _ (List.Mem.head _)) (List.Mem.head _))) ?_; rintro _ H9 ⟨rfl, hH9⟩; subst H9) | (refine Xg.call (EnF.st rfl (by (repeat (first | exact Args.nil | refine Args.cons rfl ?_)); done)) rfl rfl (x5 _ _ (ctnOk 12 b1 b2 _ (List.Mem.tail _ (List.Mem.head _)) (List.Mem.head _))) ?_; rintro _ H9 ⟨rfl, hH9⟩; subst H9) | (refine Xg.call (EnF.st rfl (by (repeat (first | exact Args.nil | refine Args.cons rfl ?_)); done)) rfl rfl (x6 _ _ (ctnOk 12 b1 b2 _ (List.Mem.tail _ (List.Mem.head _)) (List.Mem.head _))) ?_; rintro _ H9 ⟨rfl, hH9⟩; subst H9) | (refine Xg.call (EnF.st rfl (Args.cons rfl (Args.cons rfl (Args.cons rfl Args.nil)))) rfl rfl (x7 _ _ (ctnOk 40 b1 b2 _ (List.Mem.tail _ (List.Mem.head _)) (List.Mem.head _))) ?_; rintro _ H9 ⟨rfl, hH9⟩; subst H9) | (refine Xg.ev (EvF.move rfl rfl) rfl rfl ?_) | (refine Xg.ev (EvF.assign rfl rfl) rfl rfl ?_) | (refine Xg.ev (EvF.extract rfl rfl rfl) rfl rfl ?_) | (refine Xg.st (StF.alloc rfl Tryz.zeroValue30 rfl) rfl rfl ?_; rintro _ _ ⟨bx, rfl, rfl⟩) | (refine Xg.st0 (StF.storeAll (i := 0) rfl rfl rfl (te rfl) rfl rfl rfl rfl) rfl ?_; rintro _ _ ⟨rfl, rfl⟩; dsimp only [List.set]))))) | (refine XO.done rfl ?_; refine hK _ _ ?_; clear hK K) | refine X.seq rfl ?_ | refine X.region rfl (fun K hK => ?_))
  obtain ⟨b7, hb7⟩ : ∃ b, b = bx := ⟨_, rfl⟩
  rw [← hb7]
  clear hb7
  refine X.weak (F' := [(0, .bool false), (1, .int .i64 425), (2, .int .i64 0), (3, .bool true), (4, .int .i64 0), (5, .int .u8 1), (6, .int .i64 0), (7, .pointer (some ⟨b7, 0, none⟩)), (8, .int .i64 0), (9, .int .i64 428), (10, .int .i64 440), (11, .int .i64 0), (12, .bool true), (13, .int .i64 12), (14, .int .i64 0), (15, .int .i64 5), (16, .int .i64 475), (17, .int .i64 0)]) (H' := ⟨b7, 0, cSp ⟨425, 530⟩, some 30, 2⟩ :: H) (by (repeat (first | exact Sub.nil _ | refine Sub.cons rfl ?_)); done) (by (repeat (first | exact List.Sublist.refl _ | apply List.Sublist.cons_cons | apply List.Sublist.cons)); done) ?_
  have key : ∀ (F : FS) (H' : List Row), H.Sublist H' → X Tryz.prog 295 (csnd (csnd (csnd (csnd (csnd (csnd (csnd (csnd (csnd (cof Tryz.f13)))))))))) F H' (retX Tryz.prog Tryz.f13 (fun v H' => v = .bool true ∧ H' = H)) := fun F H' hs => X.weak (F' := []) (H' := H) (Sub.nil _) hs (alive2 H)
  generalize hcc : (csnd (csnd (csnd (csnd (csnd (csnd (csnd (csnd (csnd (cof Tryz.f13)))))))))) = cc at key ⊢
  repeat' (first | (refine XO.op rfl ?_; (first | ((first | refine Xo.ng rfl ?_); (first | (refine Xg.ev (EvF.assign rfl rfl) rfl rfl ?_))))) | (refine XO.done rfl ?_; refine hK _ _ ?_; clear hK K) | (refine XQ.op rfl ?_; (first | ((first | refine Yo.ng rfl ?_ | (refine Yo.g rfl rfl ?_; with_reducible refine Yw.ff ?_)); (first | (refine Yg.ev (EvF.cmp (b := false) rfl rfl rfl rfl) rfl rfl ?_) | (refine Yg.ev (EvF.eqSt (r := true) (b := false) rfl rfl rfl (by kernel_rfl) (eqSpT ⟨425, 530⟩) rfl) rfl rfl ?_) | (refine Yg.call (EnF.st rfl (Args.cons rfl (Args.cons rfl Args.nil))) rfl rfl (lspan_spec 425 530 _) ?_) | (refine Yg.ev (EvF.move rfl rfl) rfl rfl ?_) | (refine Yg.ev (EvF.pickT rfl rfl rfl) rfl rfl ?_) | (refine Yg.ev (EvF.pickF rfl rfl rfl) rfl rfl ?_) | (refine Yg.ev (EvF.not rfl rfl) rfl rfl ?_) | (refine Yg.ev (EvF.loadV rfl rfl (LoadV.whole (te rfl) rfl (List.Mem.head _) rfl)) rfl rfl ?_))) | (refine Yo.g rfl rfl ?_; (first | (with_reducible refine Yw.tf rfl rfl ?_) | (with_reducible refine Yw.caseB (fun h => ?_) (fun h => ?_) <;> simp only [h, decide_true, decide_false, Bool.not_true, Bool.not_false, and_self, and_true, true_and, and_false, false_and]))))) | (refine XQ.done rfl ?_; refine hK _ ?_; clear hK K) | refine X.seq rfl ?_ | refine X.region rfl (fun K hK => ?_) | refine X.regionD rfl mixed (by kernel_rfl) (fun K hK => ?_) | refine X.skip rfl ?_ | refine X.ret rfl ?_ | (refine X.ite rfl rfl (fun hc => ?_); (first | (with_reducible refine Xb.t hc ?_) | (with_reducible refine Xb.f hc ?_)) <;> clear hc))
  all_goals try (exfalso; contradiction)
  all_goals exact key _ _ (List.sublist_cons_self _ _)
end Go.Proofs.YtcjlegjchllgjaaGreat
end
section
set_option linter.unusedVariables false
set_option linter.unusedSimpArgs false
namespace Go.Proofs.YtcjlegjchllgjaaGreat
open Go Go.Fw
set_option maxRecDepth 10000
theorem notT {n : Nat} {H : List Row} {F : FS} {o : Oper} {T : TypeId} {x : Operand} (h : o.op = .unOp .not T x) (hx : evF F x = some (.bool true)) : EvF Tryz.prog n H F o (.bool false) := EvF.not h hx
theorem notF {n : Nat} {H : List Row} {F : FS} {o : Oper} {T : TypeId} {x : Operand} (h : o.op = .unOp .not T x) (hx : evF F x = some (.bool false)) : EvF Tryz.prog n H F o (.bool true) := EvF.not h hx
theorem nd_t {p : Prop} [Decidable p] (h : ¬ p) : (!decide p) = true := by rw [decide_eq_false h]; rfl
theorem nd_f {p : Prop} [Decidable p] (h : p) : (!decide p) = false := by rw [decide_eq_true h]; rfl
theorem falls_at : ∀ {l : List Int}, falls l → ∀ {i j : Nat} {a b : Int}, i ≤ j → l[i]? = some a → l[j]? = some b → b ≤ a
  | [], _, i, _, _, _, _, h, _ => by simp at h
  | [x], _, i, j, a, b, _, h1, h2 => by
    cases i with
    | zero => cases j with
      | zero => simp at h1 h2; omega
      | succ j => simp at h2
    | succ i => simp at h1
  | x :: y :: l, h, i, j, a, b, hij, h1, h2 => by
    have hh : y ≤ x ∧ falls (y :: l) := h
    cases j with
    | zero => obtain rfl : i = 0 := by omega
              simp at h1 h2; omega
    | succ j =>
      rw [List.getElem?_cons_succ] at h2
      cases i with
      | zero =>
        simp at h1
        have := falls_at hh.2 (Nat.zero_le j) (by simp : (y :: l)[0]? = some y) h2
        omega
      | succ i =>
        rw [List.getElem?_cons_succ] at h1
        exact falls_at hh.2 (by omega) h1 h2
theorem grows_at : ∀ {l : List Int}, grows l → ∀ {i j : Nat} {a b : Int}, i ≤ j → l[i]? = some a → l[j]? = some b → a ≤ b
  | [], _, i, _, _, _, _, h, _ => by simp at h
  | [x], _, i, j, a, b, _, h1, h2 => by
    cases i with
    | zero => cases j with
      | zero => simp at h1 h2; omega
      | succ j => simp at h2
    | succ i => simp at h1
  | x :: y :: l, h, i, j, a, b, hij, h1, h2 => by
    have hh : x ≤ y ∧ grows (y :: l) := h
    cases j with
    | zero => obtain rfl : i = 0 := by omega
              simp at h1 h2; omega
    | succ j =>
      rw [List.getElem?_cons_succ] at h2
      cases i with
      | zero =>
        simp at h1
        have := grows_at hh.2 (Nat.zero_le j) (by simp : (y :: l)[0]? = some y) h2
        omega
      | succ i =>
        rw [List.getElem?_cons_succ] at h1
        exact grows_at hh.2 (by omega) h1 h2
/-- a better grade, or a longer staple, is worth no less -/
theorem val_mono {T : Tm} (hok : tmOk T) {g g' s s' : Int} (hg : 1 ≤ g ∧ g ≤ g' ∧ g' ≤ 9) (hs : 1 ≤ s' ∧ s' ≤ s ∧ s ≤ 9) : val T g' s' ≤ val T g s := by
  unfold val
  have h1 := falls_at hok.ord.1 (i := (g - 1).toNat) (j := (g' - 1).toNat) (by omega) (at1_get (by omega) hok.gr.1) (at1_get (by omega) hok.gr.1)
  have h2 := grows_at hok.ord.2 (i := (s' - 1).toNat) (j := (s - 1).toNat) (by omega) (at1_get (by omega) hok.st.1) (at1_get (by omega) hok.st.1)
  omega
theorem nines (x : Int) : 1 ≤ 1 + x % 9 ∧ 1 + x % 9 ≤ 9 := by omega
end Go.Proofs.YtcjlegjchllgjaaGreat
end
section
set_option linter.unusedVariables false
set_option linter.unusedSimpArgs false
namespace Go.Proofs.YtcjlegjchllgjaaGreat
open Go Go.Fw
set_option maxRecDepth 10000
theorem minL_is {l : List Int} {m : Int} (h1 : m ∈ l) (h2 : ∀ x ∈ l, m ≤ x) : minL l = m := by
  have h := minL_spec (l := l) (fun e => by rw [e] at h1; cases h1)
  have a := h.2 m h1
  have b := h2 _ h.1
  omega
set_option maxHeartbeats 16000000 in
theorem surely_spec (T : Tm) (p : Pt) (sd s : Int) (gs : Sp) (H : List Row) (hT : TmOk H T p) (hok : tmOk T) (h1 : 1 ≤ sd ∧ sd ≤ 9) (h2 : 1 ≤ s ∧ s ≤ 9) (h3 : (1 ≤ gs.lo ∧ gs.lo ≤ gs.hi) ∧ gs.hi ≤ 9) (hm : may T ⟨sd, s⟩ = true) :
    Fc Tryz.prog 39 [.agg (cTm T p).toArray, .int .i64 sd, .agg (cSp gs).toArray, .int .i64 s] H (fun v H' => v = .tuple #[.int .i64 (gnL T sd s gs), .bool true] ∧ H' = H) := by
  have hE : askE T sd s gs = 0 := by unfold askE; rw [if_pos hok, if_pos ⟨h1, by unfold partOk; omega⟩, if_pos h2, if_pos hm]
  have hA := kAsk_spec T p sd s gs
  unfold askA askL at hA
  rw [hE, if_pos rfl, if_pos rfl] at hA
  have hP : ∀ g : Int, 1 ≤ g ∧ g ≤ 9 → ∀ (ask : Bool) (H : List Row), TmOk H T p → Fc Tryz.prog 20 [.agg (cTm T p).toArray, .int .i64 sd, .int .i64 g, .int .i64 s, .bool ask] H (fun v H' => v = .tuple #[.int .i64 (stl T ⟨sd, s⟩ ⟨g, s⟩ ask).gets, .int .i64 (stl T ⟨sd, s⟩ ⟨g, s⟩ ask).pays, .int .i64 0] ∧ H' = H) := fun g hg ask H h => by
    have := kPays_spec T p sd g s ask H h
    unfold payG payP at this
    rwa [show payE T sd g s = 0 from by unfold payE; rw [if_pos hok, if_pos ⟨h1, hg⟩, if_pos h2, if_pos hm], if_pos rfl, if_pos rfl] at this
  have hg := gnL_ir T sd s gs
  generalize shA T sd s gs = ask at hA hg
  generalize gnL T sd s gs = res at hg ⊢
  obtain ⟨lo, hi⟩ := gs
  dsimp only at h3 hg
  refine Fc.mk (callable Tryz.call39) Tryz.func39 rfl Tryz.ntmps39 rfl ?_; dsimp only [fr]
  repeat' (first | (refine XO.op rfl ?_; (first | ((first | refine Xo.ng rfl ?_); (first | (refine Xg.call (EnF.st rfl (Args.cons rfl (Args.cons rfl (Args.cons rfl (Args.cons rfl Args.nil))))) rfl rfl (hA _ (hT.sub (fun _ h => by repeat (first | exact h | apply List.Mem.tail)))) ?_; rintro _ _ ⟨rfl, rfl⟩) | (refine Xg.ev (EvF.cmp (b := false) rfl rfl rfl (congrArg some (nd_f (by omega)))) rfl rfl ?_) | (refine Xg.ev (EvF.move rfl rfl) rfl rfl ?_) | (refine Xg.ev (EvF.assign rfl rfl) rfl rfl ?_) | (refine Xg.ev (EvF.fieldAddr rfl rfl (te rfl) rfl (te rfl) (by decide)) rfl rfl ?_) | (refine Xg.ev (EvF.loadV rfl rfl (LoadV.own (te rfl) rfl (List.Mem.head _) rfl)) rfl rfl ?_) | (refine Xg.ev (EvF.loadV rfl rfl (LoadV.whole (te rfl) rfl (List.Mem.head _) rfl)) rfl rfl ?_) | (refine Xg.ev (EvF.loadV rfl rfl (LoadV.whole (te rfl) rfl (List.Mem.tail _ (List.Mem.head _)) rfl)) rfl rfl ?_) | (refine Xg.ev (EvF.extract rfl rfl rfl) rfl rfl ?_) | (refine Xg.st (StF.boxAgg rfl rfl) rfl rfl ?_; rintro _ _ ⟨bx, rfl, rfl⟩))))) | (refine XO.done rfl ?_; refine hK _ _ ?_; clear hK K) | refine X.seq rfl ?_ | refine X.region rfl (fun K hK => ?_) | refine X.block rfl ?_ | refine X.skip rfl ?_ | (refine X.ite rfl rfl (fun hc => ?_); (first | (with_reducible refine Xb.f hc ?_)) <;> clear hc))
  all_goals try (exfalso; contradiction)
  rename_i b4
  obtain ⟨b6, hb6⟩ : ∃ b, b = bx := ⟨_, rfl⟩
  rw [← hb6]
  clear hb6
  refine X.lp rfl (fun w F' H' => ∃ (k : Nat) (m : Int), (w : Int) = hi - lo + 1 - k ∧ lo + k ≤ hi + 1 ∧ (0 < k → ∃ i : Nat, i < k ∧ m = (stl T ⟨sd, s⟩ ⟨lo + i, s⟩ ask).gets) ∧ (∀ i : Nat, i < k → m ≤ (stl T ⟨sd, s⟩ ⟨lo + i, s⟩ ask).gets) ∧ H' = ⟨b6, 0, cSp ⟨lo, hi⟩, some 30, 2⟩ :: ⟨b4, 0, cTm T p, some 32, 11⟩ :: H ∧ F' = [(1, .int .i64 sd), (3, .int .i64 s), (4, .pointer (some ⟨b4, 0, none⟩)), (6, .pointer (some ⟨b6, 0, none⟩)), (10, .bool ask), (13, .int .i64 m), (14, .int .i64 (lo + k))])
    (hi - lo + 1).toNat [(1, .int .i64 sd), (3, .int .i64 s), (4, .pointer (some ⟨b4, 0, none⟩)), (6, .pointer (some ⟨b6, 0, none⟩)), (10, .bool ask), (13, .int .i64 0), (14, .int .i64 (lo + (0 : Nat)))] _ (by rw [show lo + ((0 : Nat) : Int) = lo from Int.add_zero _]; exact (by (repeat (first | exact Sub.nil _ | refine Sub.cons rfl ?_)); done)) (List.Sublist.refl _) ⟨0, 0, by omega, by omega, fun h => absurd h (by decide), fun i h => absurd h (Nat.not_lt_zero _), rfl, rfl⟩ ?_
  rintro w _ _ ⟨k, m, hw, hk, hm1, hm2, rfl, rfl⟩
  by_cases hk9 : lo + k ≤ hi
  · have hq := hP (lo + k) (by omega) ask
    obtain ⟨x, hx⟩ : ∃ x, (stl T ⟨sd, s⟩ ⟨lo + k, s⟩ ask).gets = x := ⟨_, rfl⟩
    rw [hx] at hq
    have nx : ∀ m' : Int, ((0 < k ∧ m' = m ∧ m ≤ x) ∨ (m' = x ∧ (k = 0 ∨ x ≤ m))) → (0 < k + 1 → ∃ i : Nat, i < k + 1 ∧ m' = (stl T ⟨sd, s⟩ ⟨lo + i, s⟩ ask).gets) ∧ (∀ i : Nat, i < k + 1 → m' ≤ (stl T ⟨sd, s⟩ ⟨lo + i, s⟩ ask).gets) := by
      intro m' h
      rcases h with ⟨h0, rfl, hx1⟩ | ⟨rfl, h0⟩
      · refine ⟨fun _ => by obtain ⟨i, hi, e⟩ := hm1 h0; exact ⟨i, by omega, e⟩, fun i hi => ?_⟩
        by_cases e : i = k
        · subst e; rw [hx]; exact hx1
        · exact hm2 i (by omega)
      · refine ⟨fun _ => ⟨k, by omega, hx.symm⟩, fun i hi => ?_⟩
        by_cases e : i = k
        · subst e; rw [hx]; exact Int.le_refl _
        · have := hm2 i (by omega)
          omega
    repeat' (first | (refine XO.op rfl ?_; (first | ((first | refine Xo.ng rfl ?_ | (refine Xo.g rfl rfl ?_; with_reducible refine Xw.ff ?_)); (first | (refine Xg.call (EnF.st rfl (Args.cons rfl (Args.cons rfl (Args.cons rfl (Args.cons rfl (Args.cons rfl Args.nil)))))) rfl rfl (hq _ (hT.sub (fun _ h => by repeat (first | exact h | apply List.Mem.tail)))) ?_; rintro _ _ ⟨rfl, rfl⟩) | (refine Xg.ev (EvF.add64 rfl rfl rfl (by omega) (by omega)) rfl rfl ?_) | (refine Xg.ev (EvF.cmp (b := true) rfl rfl rfl (congrArg some (decide_eq_true (by omega)))) rfl rfl ?_) | (refine Xg.ev (EvF.cmp (b := false) rfl rfl rfl (congrArg some (nd_f (by omega)))) rfl rfl ?_) | (refine Xg.ev (EvF.move rfl rfl) rfl rfl ?_) | (refine Xg.ev (EvF.assign rfl rfl) rfl rfl ?_) | (refine Xg.ev (EvF.pickT rfl rfl rfl) rfl rfl ?_) | (refine Xg.ev (EvF.pickF rfl rfl rfl) rfl rfl ?_) | (refine Xg.ev (EvF.cmp rfl rfl rfl rfl) rfl rfl ?_) | (refine Xg.ev (EvF.fieldAddr rfl rfl (te rfl) rfl (te rfl) (by decide)) rfl rfl ?_) | (refine Xg.ev (EvF.loadV rfl rfl (LoadV.own (te rfl) rfl (List.Mem.head _) rfl)) rfl rfl ?_) | (refine Xg.ev (EvF.loadV rfl rfl (LoadV.whole (te rfl) rfl (List.Mem.tail _ (List.Mem.head _)) rfl)) rfl rfl ?_) | (refine Xg.ev (EvF.extract rfl rfl rfl) rfl rfl ?_))) | (refine Xo.g rfl rfl ?_; (first | (with_reducible refine Xw.tf rfl rfl ?_) | (with_reducible refine Xw.case (fun h => ?_) (fun h => ?_) <;> simp only [h, decide_true, decide_false, Bool.not_true, Bool.not_false, and_self, and_true, true_and, and_false, false_and]))))) | (refine XO.done rfl ?_; refine hK _ _ ?_; clear hK K) | refine X.seq rfl ?_ | refine X.region rfl (fun K hK => ?_) | refine X.block rfl ?_ | refine X.skip rfl ?_ | (refine X.ite rfl rfl (fun hc => ?_); (first | (with_reducible refine Xb.t hc ?_) | (with_reducible refine Xb.f hc ?_) | (with_reducible refine Xb.case hc (fun h => ?_) (fun h => ?_))) <;> clear hc))
    all_goals try (exfalso; first | contradiction | omega)
    all_goals try (rename_i hh; dsimp only at hh)
    all_goals try dsimp only at h
    all_goals try (exfalso; omega)
    all_goals first
      | refine ⟨w - 1, [(1, .int .i64 sd), (3, .int .i64 s), (4, .pointer (some ⟨b4, 0, none⟩)), (6, .pointer (some ⟨b6, 0, none⟩)), (10, .bool ask), (13, .int .i64 x), (14, .int .i64 (lo + (k + 1 : Nat)))], _, (by rw [show lo + ((k + 1 : Nat) : Int) = lo + 1 by omega]; exact (by (repeat (first | exact Sub.nil _ | refine Sub.cons rfl ?_)); done)), (by (repeat (first | exact List.Sublist.refl _ | apply List.Sublist.cons_cons | apply List.Sublist.cons)); done), ⟨k + 1, x, by omega, by omega, (nx x (.inr ⟨rfl, by omega⟩)).1, (nx x (.inr ⟨rfl, by omega⟩)).2, rfl, rfl⟩, by omega⟩
      | refine ⟨w - 1, [(1, .int .i64 sd), (3, .int .i64 s), (4, .pointer (some ⟨b4, 0, none⟩)), (6, .pointer (some ⟨b6, 0, none⟩)), (10, .bool ask), (13, .int .i64 x), (14, .int .i64 (lo + (k + 1 : Nat)))], _, (by rw [show lo + ((k + 1 : Nat) : Int) = lo + k + 1 by omega]; exact (by (repeat (first | exact Sub.nil _ | refine Sub.cons rfl ?_)); done)), (by (repeat (first | exact List.Sublist.refl _ | apply List.Sublist.cons_cons | apply List.Sublist.cons)); done), ⟨k + 1, x, by omega, by omega, (nx x (.inr ⟨rfl, by omega⟩)).1, (nx x (.inr ⟨rfl, by omega⟩)).2, rfl, rfl⟩, by omega⟩
      | refine ⟨w - 1, [(1, .int .i64 sd), (3, .int .i64 s), (4, .pointer (some ⟨b4, 0, none⟩)), (6, .pointer (some ⟨b6, 0, none⟩)), (10, .bool ask), (13, .int .i64 m), (14, .int .i64 (lo + (k + 1 : Nat)))], _, (by rw [show lo + ((k + 1 : Nat) : Int) = lo + k + 1 by omega]; exact (by (repeat (first | exact Sub.nil _ | refine Sub.cons rfl ?_)); done)), (by (repeat (first | exact List.Sublist.refl _ | apply List.Sublist.cons_cons | apply List.Sublist.cons)); done), ⟨k + 1, m, by omega, by omega, (nx m (.inl ⟨by omega, rfl, by omega⟩)).1, (nx m (.inl ⟨by omega, rfl, by omega⟩)).2, rfl, rfl⟩, by omega⟩
      | trace_state
  · have hres : res = m := by
      rw [← hg]
      refine minL_is ?_ ?_
      · obtain ⟨i, hi, e⟩ := hm1 (by omega)
        exact List.mem_map.2 ⟨lo + i, List.mem_of_getElem? (ir_get (k := i) (by omega)), e.symm⟩
      · intro y hy
        obtain ⟨g, hgm, rfl⟩ := List.mem_map.1 hy
        have hb := ir_bd hgm
        have := hm2 (g - lo).toNat (by omega)
        rwa [show lo + ((g - lo).toNat : Int) = g by omega] at this
    subst hres
    repeat' (first | (refine XO.op rfl ?_; (first | ((first | refine Xo.ng rfl ?_); (first | (refine Xg.ev (EvF.cmp (b := false) rfl rfl rfl (congrArg some (decide_eq_false (by omega)))) rfl rfl ?_) | (refine Xg.ev (EvF.move rfl rfl) rfl rfl ?_) | (refine Xg.ev (EvF.assign rfl rfl) rfl rfl ?_) | (refine Xg.ev (EvF.fieldAddr rfl rfl (te rfl) rfl (te rfl) (by decide)) rfl rfl ?_) | (refine Xg.ev (EvF.loadV rfl rfl (LoadV.own (te rfl) rfl (List.Mem.head _) rfl)) rfl rfl ?_))))) | (refine XO.done rfl ?_; refine hK _ _ ?_; clear hK K) | refine X.seq rfl ?_ | refine X.region rfl (fun K hK => ?_) | (refine X.brk rfl ?_; repeat (first | refine blockX_hit rfl ?_ | refine blockX_miss (by decide) ?_)) | refine X.ret rfl ?_ | (refine X.ite rfl rfl (fun hc => ?_); (first | (with_reducible refine Xb.f hc ?_)) <;> clear hc))
    all_goals try (exfalso; first | contradiction | omega)
    refine ret_two (by first | exact .inr rfl | exact .inl rfl) Tryz.results39 rfl rfl (H' := H) (by (repeat (first | exact List.Sublist.refl _ | apply List.Sublist.cons)); done) ?_; simp only [and_true, true_and]
end Go.Proofs.YtcjlegjchllgjaaGreat
end
section
set_option linter.unusedVariables false
set_option linter.unusedSimpArgs false
namespace Go.Proofs.YtcjlegjchllgjaaGreat
open Go Go.Fw
set_option maxRecDepth 10000
theorem byS_is (T : Tm) (s : Int) (gs : Sp) : ∀ k : Nat, ((byS T s gs k).1 = 0 ∧ ∀ j : Nat, j < k → may T ⟨1 + j, s⟩ = false) ∨
    ∃ j : Nat, j < k ∧ (byS T s gs k).1 = 1 + j ∧ may T ⟨1 + j, s⟩ = true ∧ (byS T s gs k).2 = gnL T (1 + j) s gs ∧ ∀ i : Nat, i < k → may T ⟨1 + i, s⟩ = true → gnL T (1 + i) s gs ≤ (byS T s gs k).2 ∧ (gnL T (1 + i) s gs = (byS T s gs k).2 → j ≤ i) := by
  intro k
  induction k with
  | zero => exact .inl ⟨rfl, fun j h => absurd h (Nat.not_lt_zero _)⟩
  | succ k ih =>
    have e : byS T s gs (k + 1) = if may T ⟨1 + k, s⟩ = true then (if (byS T s gs k).1 = 0 ∨ (byS T s gs k).2 < gnL T (1 + k) s gs then (1 + (k : Int), gnL T (1 + k) s gs) else byS T s gs k) else byS T s gs k := rfl
    generalize byS T s gs (k + 1) = r' at e ⊢
    generalize byS T s gs k = r at e ih
    by_cases hm : may T ⟨1 + k, s⟩ = true
    · rw [if_pos hm] at e
      by_cases hc : r.1 = 0 ∨ r.2 < gnL T (1 + k) s gs
      · rw [if_pos hc] at e
        subst e
        refine .inr ⟨k, by omega, rfl, hm, rfl, fun i hi hmi => ?_⟩
        by_cases hik : i = k
        · subst hik; exact ⟨Int.le_refl _, fun _ => Nat.le_refl _⟩
        · rcases ih with ⟨_, h⟩ | ⟨j, hj, h1, h2, h3, h4⟩
          · rw [h i (by omega)] at hmi; cases hmi
          · have := (h4 i (by omega) hmi).1
            rcases hc with hc | hc
            · omega
            · dsimp only; exact ⟨by omega, fun h => by omega⟩
      · rw [if_neg hc] at e
        subst e
        rcases ih with ⟨h0, _⟩ | ⟨j, hj, h1, h2, h3, h4⟩
        · exact absurd (.inl h0) hc
        · refine .inr ⟨j, by omega, h1, h2, h3, fun i hi hmi => ?_⟩
          by_cases hik : i = k
          · subst hik; exact ⟨by omega, fun _ => by omega⟩
          · exact h4 i (by omega) hmi
    · rw [if_neg hm] at e
      subst e
      have hm' : may T ⟨1 + k, s⟩ = false := by cases h : may T ⟨1 + k, s⟩ <;> simp_all
      rcases ih with ⟨h0, h⟩ | ⟨j, hj, h1, h2, h3, h4⟩
      · refine .inl ⟨h0, fun j hj => ?_⟩
        by_cases hjk : j = k
        · subst hjk; exact hm'
        · exact h j (by omega)
      · refine .inr ⟨j, by omega, h1, h2, h3, fun i hi hmi => ?_⟩
        by_cases hik : i = k
        · subst hik; rw [hm'] at hmi; cases hmi
        · exact h4 i (by omega) hmi
end Go.Proofs.YtcjlegjchllgjaaGreat
end
section
set_option linter.unusedVariables false
set_option linter.unusedSimpArgs false
namespace Go.Proofs.YtcjlegjchllgjaaGreat
open Go Go.Fw
set_option maxRecDepth 10000
theorem ir_in {a b g : Int} (h : a ≤ g ∧ g ≤ b) : g ∈ ir a b := by
  have := List.mem_of_getElem? (ir_get (a := a) (b := b) (k := (g - a).toNat) (by omega))
  rwa [show a + ((g - a).toNat : Int) = g by omega] at this
theorem ir_ne {α : Type} {a b : Int} {f : Int → α} (h : a ≤ b) : (ir a b).map f ≠ [] := by
  intro e
  have := ir_in (a := a) (b := b) (g := a) ⟨Int.le_refl _, h⟩
  rw [List.map_eq_nil_iff.1 e] at this
  cases this
/-- by the worst grade that may be there one gets its price -/
theorem gnL_low {T : Tm} {s lo hi : Int} (h : lo ≤ hi) : val T hi s ≤ gnL T hi s ⟨lo, hi⟩ := by
  have e := gnL_ir T hi s ⟨lo, hi⟩
  dsimp only at e
  rw [← e]
  obtain ⟨g, hg, e'⟩ := List.mem_map.1 (minL_spec (ir_ne (f := fun g => (stl T ⟨hi, s⟩ ⟨g, s⟩ (shA T hi s ⟨lo, hi⟩)).gets) h)).1
  rw [← e']
  have hb := (ir_bd hg).2
  cases shA T hi s ⟨lo, hi⟩
  · exact Int.le_refl _
  · unfold stl; rw [if_neg (by decide), if_pos hb]; exact Int.le_refl _
/-- and by no grade more than that and the fee -/
theorem gnL_up {T : Tm} (hok : tmOk T) {sd s lo hi : Int} (h1 : 1 ≤ sd) (hl : 1 ≤ lo) (h : lo ≤ hi) (hh : hi ≤ T.worst) (hs : T.short ≤ s ∧ s ≤ 9) (hm : may T ⟨sd, s⟩ = true) : gnL T sd s ⟨lo, hi⟩ ≤ val T hi s + T.fee := by
  have hm' := of_decide_eq_true hm
  dsimp only at hm'
  have hn := hok.num
  have hw : T.worst ≤ 9 := by have := hok.cls; omega
  have hsh : 1 ≤ T.short := by have := hok.cls; omega
  have e := gnL_ir T sd s ⟨lo, hi⟩
  dsimp only at e
  rw [← e]
  have hx := (minL_spec (ir_ne (f := fun g => (stl T ⟨sd, s⟩ ⟨g, s⟩ (shA T sd s ⟨lo, hi⟩)).gets) h)).2 _ (List.mem_map.2 ⟨hi, ir_in ⟨h, Int.le_refl _⟩, rfl⟩)
  refine Int.le_trans hx ?_
  clear hx e
  cases hA : shA T sd s ⟨lo, hi⟩
  · have hA' := of_decide_eq_false hA
    have e1 : (stl T ⟨sd, s⟩ ⟨hi, s⟩ false).gets = val T sd s := rfl
    rw [e1]
    have a1 : val T sd s - val T hi s ≤ lsL T sd s ⟨lo, hi⟩ false := (maxL_spec (ir_ne (f := los T sd s false) h)).2 _ (List.mem_map.2 ⟨hi, ir_in ⟨h, Int.le_refl _⟩, rfl⟩)
    have a2 : lsL T sd s ⟨lo, hi⟩ true ≤ T.fee := by
      obtain ⟨g, hg, e'⟩ := List.mem_map.1 (maxL_spec (ir_ne (f := los T sd s true) h)).1
      show maxL _ ≤ _
      dsimp only
      rw [← e']
      have hb := ir_bd hg
      unfold los stl
      rw [if_neg (by decide)]
      dsimp only
      by_cases q1 : g ≤ sd
      · rw [if_pos q1]
        have := val_mono hok (g := g) (g' := sd) (s := s) (s' := s) (by omega) (by omega)
        dsimp only; omega
      · rw [if_neg q1, if_pos (by omega)]
        dsimp only; omega
    omega
  · unfold stl
    rw [if_neg (by decide)]
    dsimp only
    by_cases q1 : hi ≤ sd
    · rw [if_pos q1]
      have := val_mono hok (g := hi) (g' := sd) (s := s) (s' := s) (by omega) (by omega)
      dsimp only; omega
    · rw [if_neg q1, if_pos (by omega)]
      dsimp only; omega
end Go.Proofs.YtcjlegjchllgjaaGreat
end
section
set_option linter.unusedVariables false
namespace Go.Proofs.YtcjlegjchllgjaaGreat
open Go Go.Fw Go.ChangeShapes Go.WideShapes Go.ChangeAt Go.RowKit
set_option linter.unusedVariables false
set_option maxRecDepth 10000
section
variable {H : Type} {enc : TypeId × Value → H} {w : World} {base : Nat} {spare : Nat → Bool} {held : Bool} {v : Value} {d : DataW H} {p : List MemPlace} {r : Reach} {b0 : Nat}
theorem u8_wf {n : Int} (h : (Lit.int .u8 n).wf = true) : u8 n := by
  simp [Lit.wf, IntKind.min, IntKind.max, IntKind.signed, IntKind.bits] at h
  exact ⟨by omega, by omega⟩
theorem open_u8 (hv : Value.okWide Tryz.prog w r b0 5 v) (h : DataW.Trod enc Tryz.prog w base spare held 5 v d p) : ∃ n, v = .int .u8 n ∧ u8 n := by
  obtain ⟨n, h1, _, _, h2⟩ := Go.ChangeShapes.open_int Tryz.underlying5 hv h
  exact ⟨n, h1, u8_wf h2⟩
end
end Go.Proofs.YtcjlegjchllgjaaGreat
end
section
set_option linter.unusedVariables false
set_option linter.unusedSimpArgs false
namespace Go.Proofs.YtcjlegjchllgjaaGreat
open Go Go.Fw
set_option maxRecDepth 10000
def tsSy1 : List TOp := [⟨some 61, [], [], []⟩, ⟨some 62, [0], [0], []⟩, ⟨some 63, [0, 1], [1], []⟩, ⟨some 64, [0, 1, 2], [], []⟩, ⟨some 65, [0, 1, 2, 3], [3], []⟩, ⟨some 66, [0, 1, 2, 3, 4], [2, 4], []⟩, ⟨some 67, [0, 1, 2, 3, 4, 5], [5], []⟩, ⟨some 68, [0, 1, 2, 3, 4, 5, 6], [], []⟩, ⟨some 69, [0, 1, 2, 3, 4, 5, 6], [], []⟩, ⟨some 70, [0, 1, 2, 3, 4, 5, 6], [], []⟩, ⟨some 71, [0, 1, 2, 3, 4, 5, 6, 8, 9], [8, 9], []⟩, ⟨some 72, [0, 1, 2, 3, 4, 5, 6, 7, 8, 9, 10], [7, 10], []⟩, ⟨some 73, [0, 1, 2, 3, 4, 5, 6, 7, 8, 9, 10, 11], [11], []⟩, ⟨some 74, [0, 1, 2, 3, 4, 5, 6, 7, 8, 9, 10, 11, 12], [6, 12], []⟩]
def valSy1 (b5 b12 : Nat) (T : Tm) (p : Pt) (y sd gq k : Int) (k : Nat) (env : Env) : Value :=
  match k with
  | 0 => .int .i64 sd
  | 1 => .bool false
  | 2 => .bool false
  | 3 => gt (false) (.int .i64 sd)
  | 4 => gt (false) (.bool false)
  | 5 => .bool (false && true)
  | 6 => .bool (false && true)
  | 7 => gt (false && true) (.agg (cTm T p).toArray)
  | 8 => gt (false && true) (.int .i64 sd)
  | 9 => gt (false && true) (.int .i64 y)
  | 10 => gt (false && true) (.agg (cCl ⟨sd, y⟩).toArray)
  | 11 => gt (false && true) (.bool true)
  | 12 => gt (false && true) (.bool (!true))
  | 13 => .bool ((false && true) || !true)
  | _ => undef
def rowsSy1 (b5 b12 : Nat) (T : Tm) (p : Pt) (y sd gq k : Int) (k : Nat) (env : Env) : List Row :=
  match k with
  | _ => []
theorem locSy1 (b5 b12 : Nat) (T : Tm) (p : Pt) (y sd gq k : Int) : ∀ k env i q9, i ≠ k → (tAt tsSy1 k).sup.contains i = false → valSy1 b5 b12 T p y sd gq k k (upd env i q9) = valSy1 b5 b12 T p y sd gq k k env ∧ rowsSy1 b5 b12 T p y sd gq k k (upd env i q9) = rowsSy1 b5 b12 T p y sd gq k k env := by
  intro k env i q hk hs
  have hu : ∀ j, j ≠ i → upd env i q j = env j := fun j hj => by unfold upd; rw [if_neg hj]
  match k, hk, hs with
  | 0, _, _ => exact ⟨rfl, rfl⟩
  | 1, _, _ => exact ⟨rfl, rfl⟩
  | 2, _, _ => exact ⟨rfl, rfl⟩
  | 3, _, _ => exact ⟨rfl, rfl⟩
  | 4, _, _ => exact ⟨rfl, rfl⟩
  | 5, _, _ => exact ⟨rfl, rfl⟩
  | 6, _, _ => exact ⟨rfl, rfl⟩
  | 7, _, _ => exact ⟨rfl, rfl⟩
  | 8, _, _ => exact ⟨rfl, rfl⟩
  | 9, _, _ => exact ⟨rfl, rfl⟩
  | 10, _, _ => exact ⟨rfl, rfl⟩
  | 11, _, _ => exact ⟨rfl, rfl⟩
  | 12, _, _ => exact ⟨rfl, rfl⟩
  | 13, _, _ => exact ⟨rfl, rfl⟩
  | _ + 14, _, _ => exact ⟨rfl, rfl⟩
def tsSy2 : List TOp := [⟨some 94, [], [], []⟩, ⟨some 95, [], [], []⟩, ⟨some 96, [], [], []⟩, ⟨some 97, [1, 2], [1, 2], []⟩, ⟨some 98, [0, 1, 2, 3], [0, 3], []⟩]
def valSy2 (b5 b12 : Nat) (T : Tm) (p : Pt) (y sd gq z : Int) (mz : Bool) (k : Nat) (env : Env) : Value :=
  match k with
  | 0 => .agg (cTm T p).toArray
  | 1 => .int .i64 z
  | 2 => .int .i64 y
  | 3 => .agg (cCl ⟨z, y⟩).toArray
  | 4 => .bool mz
  | _ => undef
def rowsSy2 (b5 b12 : Nat) (T : Tm) (p : Pt) (y sd gq z : Int) (mz : Bool) (k : Nat) (env : Env) : List Row :=
  match k with
  | _ => []
theorem locSy2 (b5 b12 : Nat) (T : Tm) (p : Pt) (y sd gq z : Int) (mz : Bool) : ∀ k env i q9, i ≠ k → (tAt tsSy2 k).sup.contains i = false → valSy2 b5 b12 T p y sd gq z mz k (upd env i q9) = valSy2 b5 b12 T p y sd gq z mz k env ∧ rowsSy2 b5 b12 T p y sd gq z mz k (upd env i q9) = rowsSy2 b5 b12 T p y sd gq z mz k env := by
  intro k env i q hk hs
  have hu : ∀ j, j ≠ i → upd env i q j = env j := fun j hj => by unfold upd; rw [if_neg hj]
  match k, hk, hs with
  | 0, _, _ => exact ⟨rfl, rfl⟩
  | 1, _, _ => exact ⟨rfl, rfl⟩
  | 2, _, _ => exact ⟨rfl, rfl⟩
  | 3, _, _ => exact ⟨rfl, rfl⟩
  | 4, _, _ => exact ⟨rfl, rfl⟩
  | _ + 5, _, _ => exact ⟨rfl, rfl⟩
def tsSy3 : List TOp := [⟨some 131, [], [], []⟩, ⟨some 132, [], [], []⟩, ⟨some 133, [1], [1], []⟩, ⟨some 134, [], [], []⟩, ⟨some 135, [1, 2, 3], [2, 3], []⟩, ⟨some 136, [0, 1, 2, 3, 4], [0, 4], []⟩, ⟨some 130, [0, 1, 2, 3, 4, 5], [5], []⟩, ⟨some 137, [0, 1, 2, 3, 4, 5, 6], [6], []⟩, ⟨some 138, [0, 1, 2, 3, 4, 5, 6], [6], []⟩, ⟨some 22, [0, 1, 2, 3, 4, 5, 6, 7], [7], []⟩, ⟨some 23, [0, 1, 2, 3, 4, 5, 6, 7, 8, 9], [8], []⟩]
def valSy3 (b5 b12 : Nat) (T : Tm) (p : Pt) (x : Sp) (y gq vw : Int) (k : Nat) (env : Env) : Value :=
  match k with
  | 0 => .agg (cTm T p).toArray
  | 1 => .pointer (some ⟨b12, 1, none⟩)
  | 2 => .int .i64 x.hi
  | 3 => .int .i64 y
  | 4 => .agg (cCl ⟨x.hi, y⟩).toArray
  | 5 => .tuple #[.int .i64 vw, .int .i64 0]
  | 6 => .tuple #[.int .i64 vw, .int .i64 0]
  | 7 => .int .i64 vw
  | 8 => .int .i64 0
  | 9 => .int .i64 vw
  | 10 => .int .i64 0
  | _ => undef
def rowsSy3 (b5 b12 : Nat) (T : Tm) (p : Pt) (x : Sp) (y gq vw : Int) (k : Nat) (env : Env) : List Row :=
  match k with
  | _ => []
theorem locSy3 (b5 b12 : Nat) (T : Tm) (p : Pt) (x : Sp) (y gq vw : Int) : ∀ k env i q9, i ≠ k → (tAt tsSy3 k).sup.contains i = false → valSy3 b5 b12 T p x y gq vw k (upd env i q9) = valSy3 b5 b12 T p x y gq vw k env ∧ rowsSy3 b5 b12 T p x y gq vw k (upd env i q9) = rowsSy3 b5 b12 T p x y gq vw k env := by
  intro k env i q hk hs
  have hu : ∀ j, j ≠ i → upd env i q j = env j := fun j hj => by unfold upd; rw [if_neg hj]
  match k, hk, hs with
  | 0, _, _ => exact ⟨rfl, rfl⟩
  | 1, _, _ => exact ⟨rfl, rfl⟩
  | 2, _, _ => exact ⟨rfl, rfl⟩
  | 3, _, _ => exact ⟨rfl, rfl⟩
  | 4, _, _ => exact ⟨rfl, rfl⟩
  | 5, _, _ => exact ⟨rfl, rfl⟩
  | 6, _, _ => exact ⟨rfl, rfl⟩
  | 7, _, _ => exact ⟨rfl, rfl⟩
  | 8, _, _ => exact ⟨rfl, rfl⟩
  | 9, _, _ => exact ⟨rfl, rfl⟩
  | 10, _, _ => exact ⟨rfl, rfl⟩
  | _ + 11, _, _ => exact ⟨rfl, rfl⟩
set_option maxHeartbeats 16000000 in
theorem sayTail (T : Tm) (p : Pt) (x : Sp) (y gq : Int) (b5 b12 : Nat) (H : List Row) (hok : tmOk T) (hT : TmOk H T p) (hx : (1 ≤ x.lo ∧ x.lo ≤ x.hi) ∧ x.hi ≤ 9) (hy : 1 ≤ y ∧ y ≤ 9) (hgt : x.hi ≤ T.worst → may T ⟨x.hi, y⟩ = true ∧ val T x.hi y ≤ gq ∧ gq ≤ val T x.hi y + T.fee) :
    X Tryz.prog 157 (csnd (csnd (csnd (csnd (csnd (csnd (csnd (csnd (csnd (csnd (cof Tryz.f7))))))))))) [(5, .pointer (some ⟨b5, 0, none⟩)), (11, .bool true), (12, .pointer (some ⟨b12, 0, none⟩)), (13, .int .i64 y), (15, .int .i64 gq)] (⟨b12, 0, cSp x, some 30, 2⟩ :: ⟨b5, 0, cTm T p, some 32, 11⟩ :: H) (retX Tryz.prog Tryz.f7 (fun v _ => v = .bool true)) := by
  have hn := hok.num
  by_cases hw : x.hi ≤ T.worst
  · obtain ⟨hm, h1, h2⟩ := hgt hw
    have hI : ∀ H', TmOk H' T p → Fc Tryz.prog 14 [.agg (cTm T p).toArray, .agg (cCl ⟨x.hi, y⟩).toArray] H' (fun v H'' => v = .tuple #[.int .i64 (val T x.hi y), .int .i64 0] ∧ H'' = H') := fun H' h => by
      have := kinvoice_spec T p ⟨x.hi, y⟩ H' h
      unfold invR at this
      rwa [oI hok ⟨by dsimp only; omega, hy⟩, if_pos hm, if_pos rfl] at this
    have hb := val_bd hok x.hi y
    obtain ⟨vw, hvw⟩ : ∃ q, val T x.hi y = q := ⟨_, rfl⟩
    rw [hvw] at hI h1 h2 hb
    clear hvw hm hgt
    repeat' (first | (refine XO.op rfl ?_; (first | ((first | refine Xo.ng rfl ?_); (first | (refine Xg.ev (EvF.cmp (b := false) rfl rfl rfl (congrArg some (decide_eq_false (by omega)))) rfl rfl ?_) | (refine Xg.ev (EvF.fieldAddr rfl rfl (te rfl) rfl (te rfl) (by decide)) rfl rfl ?_) | (refine Xg.ev (EvF.loadV rfl rfl (LoadV.own (te rfl) rfl (List.Mem.head _) rfl)) rfl rfl ?_) | (refine Xg.ev (EvF.loadV rfl rfl (LoadV.own (te rfl) rfl (List.Mem.tail _ (List.Mem.head _)) rfl)) rfl rfl ?_))))) | (refine XO.done rfl ?_; refine hK _ _ ?_; clear hK K) | refine X.seq rfl ?_ | refine X.region rfl (fun K hK => ?_) | refine X.skip rfl ?_ | (refine X.ite rfl rfl (fun hc => ?_); (first | (with_reducible refine Xb.f hc ?_)) <;> clear hc))
    all_goals try (exfalso; contradiction)
    refine X.regionOb tsSy3 [5, 11, 12, 13, 15] [(5, .pointer (some ⟨b5, 0, none⟩)), (11, .bool true), (12, .pointer (some ⟨b12, 0, none⟩)), (13, .int .i64 y), (15, .int .i64 gq)] (valSy3 b5 b12 T p x y gq vw) (rowsSy3 b5 b12 T p x y gq vw) (fun _ => (0, 0)) (⟨b12, 0, cSp x, some 30, 2⟩ :: ⟨b5, 0, cTm T p, some 32, 11⟩ :: H) rfl mixed (by (repeat (first | exact Sub.nil _ | refine Sub.cons rfl ?_)); done) rfl (by kernel_rfl) (locSy3 b5 b12 T p x y gq vw) (List.Sublist.refl _) ?_ ?_
    · repeat' (first | exact AllF.done rfl | (refine AllF.step rfl ?_ ?_; · (first | fail | ((first | refine Ob.ng rfl ?_); (first | exact ObK.pure (fun env R hR => by exact ⟨_, EvF.move rfl rfl, rfl⟩) rfl (fun _ => rfl) | exact ObK.pure (fun env R hR => by exact ⟨_, EvF.assign rfl rfl, rfl⟩) rfl (fun _ => rfl) | exact ObK.pure (fun env R hR => by exact ⟨_, EvF.fieldAddr rfl rfl (te rfl) rfl (te rfl) (by decide), rfl⟩) rfl (fun _ => rfl) | exact ObK.pure (fun env R hR => by exact ⟨_, EvF.loadV rfl rfl (LoadV.own (te rfl) rfl (hR _ (List.Mem.head _)) rfl), rfl⟩) rfl (fun _ => rfl) | exact ObK.pure (fun env R hR => by exact ⟨_, EvF.loadV rfl rfl (LoadV.whole (te rfl) rfl (hR _ (List.Mem.tail _ (List.Mem.head _))) rfl), rfl⟩) rfl (fun _ => rfl) | (exact fun env S hS => OpF.callV (Z := []) (EnF.st rfl (Args.cons rfl (Args.cons rfl Args.nil))) (lclass_spec x.hi y _) rfl rfl) | (exact fun env S hS => OpF.callV (Z := []) (EnF.st rfl (Args.cons rfl (Args.cons rfl Args.nil))) (hI _ (hT.sub (fun r hr => hS r (List.mem_append_right [_, _] hr)))) rfl rfl) | (exact ObK.pure (fun env S hS => ⟨_, EvF.extract rfl rfl rfl, rfl⟩) rfl (fun _ => rfl)))))))
    intro env t ha2 hv; refine ⟨_, (ha2.cons (hv 9 22 (Nat.le_of_ble_eq_true rfl) rfl)).cons (hv 10 23 (Nat.le_of_ble_eq_true rfl) rfl), ?_⟩; clear hv ha2
    repeat' (first | (refine XO.op rfl ?_; (first | ((first | refine Xo.ng rfl ?_ | (refine Xo.g rfl rfl ?_; with_reducible refine Xw.tt ?_)); (first | (refine Xg.ev (EvF.cmp (b := true) rfl rfl rfl (congrArg some (decide_eq_true (by omega)))) rfl rfl ?_) | (refine Xg.ev (EvF.add64 rfl rfl rfl (by omega) (by omega)) rfl rfl ?_) | (refine Xg.ev (EvF.move rfl rfl) rfl rfl ?_) | (refine Xg.ev (EvF.assign rfl rfl) rfl rfl ?_) | (refine Xg.ev (EvF.pickT rfl rfl rfl) rfl rfl ?_) | (refine Xg.ev (EvF.fieldAddr rfl rfl (te rfl) rfl (te rfl) (by decide)) rfl rfl ?_) | (refine Xg.ev (EvF.loadV rfl rfl (LoadV.own (te rfl) rfl (List.Mem.tail _ (List.Mem.head _)) rfl)) rfl rfl ?_))))) | (refine XO.done rfl ?_; refine hK _ _ ?_; clear hK K) | refine X.seq rfl ?_ | refine X.region rfl (fun K hK => ?_) | refine X.ret rfl ?_)
    all_goals try (exfalso; contradiction)
    exact ret_one (by first | exact .inr rfl | exact .inl rfl) Tryz.results7 rfl (H' := _) (List.Sublist.refl _) rfl
  · repeat' (first | (refine XO.op rfl ?_; (first | ((first | refine Xo.ng rfl ?_); (first | (refine Xg.ev (EvF.cmp (b := true) rfl rfl rfl (congrArg some (decide_eq_true (by omega)))) rfl rfl ?_) | (refine Xg.ev (EvF.move rfl rfl) rfl rfl ?_) | (refine Xg.ev (EvF.assign rfl rfl) rfl rfl ?_) | (refine Xg.ev (EvF.fieldAddr rfl rfl (te rfl) rfl (te rfl) (by decide)) rfl rfl ?_) | (refine Xg.ev (EvF.loadV rfl rfl (LoadV.own (te rfl) rfl (List.Mem.head _) rfl)) rfl rfl ?_) | (refine Xg.ev (EvF.loadV rfl rfl (LoadV.own (te rfl) rfl (List.Mem.tail _ (List.Mem.head _)) rfl)) rfl rfl ?_))))) | (refine XO.done rfl ?_; refine hK _ _ ?_; clear hK K) | refine X.seq rfl ?_ | refine X.region rfl (fun K hK => ?_) | refine X.ret rfl ?_ | (refine X.ite rfl rfl (fun hc => ?_); (first | (with_reducible refine Xb.t hc ?_)) <;> clear hc))
    all_goals try (exfalso; contradiction)
    all_goals exact ret_one (by first | exact .inr rfl | exact .inl rfl) Tryz.results7 rfl (H' := _) (List.Sublist.refl _) rfl
set_option maxHeartbeats 16000000 in
theorem termsSay_spec (T : Tm) (p : Pt) (a b s k : Int) (h1 : u8 a) (h2 : u8 b) (h3 : u8 s) (h4 : u8 k) (H : List Row) (hg : SlE H p.a1 cI 1 T.G) (hs : SlE H p.a2 cI 1 T.S) :
    Fc Tryz.prog 7 [.agg (cTm T p).toArray, .int .u8 a, .int .u8 b, .int .u8 s, .int .u8 k] H (fun v _ => v = .bool true) := by
  by_cases hr : rdy T
  · have hT : TmOk H T p := ⟨hg, hs, by have := hr.1; omega, by have := hr.1; omega⟩
    have hok := hr.2
    have hc := hok.cls
    have hR : ∀ H', TmOk H' T p → _ := fun H' h => readyT T p hr H' h
    have hx := smS_ok a b
    have hSm := some_spec a b h1 h2
    obtain ⟨x, hxe⟩ : ∃ x, smS a b = x := ⟨_, rfl⟩
    rw [hxe] at hx hSm
    have hy := nines s
    have hz := nines k
    have hpo : partOk x.lo x.hi := ⟨hx.1.2, by omega, by omega⟩
    unfold u8 at h1 h2 h3 h4
    have hE : sayE T (1 + s % 9) x = if (byS T (1 + s % 9) x 9).1 = 0 then 6 else 0 := by unfold sayE; rw [if_pos hok, if_pos hpo, if_pos hy]
    have hSy : ∀ H', TmOk H' T p → Fc Tryz.prog 22 [.agg (cTm T p).toArray, .agg (cSp x).toArray, .int .i64 (1 + s % 9)] H' _ := fun H' h => kSay_spec T p (1 + s % 9) x H' h
    unfold sayS sayG at hSy
    rw [hE] at hSy
    have hby := byS_is T (1 + s % 9) x 9
    rcases hby with ⟨e0, hno⟩ | ⟨j, hj, e1, hm, e2, hbest⟩
    · rw [if_pos e0, if_neg (by decide), if_neg (by decide)] at hSy
      have hsh : 1 + s % 9 < T.short := by
        have := of_decide_eq_false (hno 0 (by decide))
        dsimp only at this
        omega
      clear hno hE hpo e0
      refine Fc.mk (callable Tryz.call7) Tryz.func7 rfl Tryz.ntmps7 rfl ?_; dsimp only [fr]
      repeat' (first | (refine XO.op rfl ?_; (first | ((first | refine Xo.ng rfl ?_ | (refine Xo.g rfl rfl ?_; with_reducible refine Xw.tt ?_) | (refine Xo.g rfl rfl ?_; with_reducible refine Xw.ff ?_)); (first | (refine Xg.call (EnF.st rfl (by (repeat (first | exact Args.nil | refine Args.cons rfl ?_)); done)) rfl rfl (alive_spec _) ?_; rintro _ H9 ⟨rfl, hH9⟩; subst H9) | (refine Xg.call (EnF.st rfl (Args.cons rfl Args.nil)) rfl rfl (hR _ (hT.sub (fun _ h => by repeat (first | exact h | apply List.Mem.tail)))) ?_; rintro _ H9 ⟨rfl, hH9⟩; subst H9) | (refine Xg.call (EnF.st rfl (Args.cons rfl (Args.cons rfl Args.nil))) rfl rfl (hSm _) ?_; rintro _ H9 ⟨rfl, hH9⟩; subst H9) | (refine Xg.call (EnF.st rfl (Args.cons rfl (Args.cons rfl (Args.cons rfl Args.nil)))) rfl rfl (hSy _ (hT.sub (fun _ h => by repeat (first | exact h | apply List.Mem.tail)))) ?_; rintro _ H9 ⟨rfl, hH9⟩; subst H9) | (refine Xg.ev (notT rfl rfl) rfl rfl ?_) | (refine Xg.ev (EvF.cmp (b := true) rfl rfl rfl (congrArg some (decide_eq_true (by omega)))) rfl rfl ?_) | (refine Xg.ev (EvF.cmp (b := true) rfl rfl rfl (congrArg some (nd_t (by omega)))) rfl rfl ?_) | (refine Xg.ev (EvF.conv rfl rfl int8_und int64_und (by omega) (by omega)) rfl rfl ?_) | (refine Xg.ev (EvF.rem64 rfl rfl rfl (by omega) (by omega)) rfl rfl ?_) | (refine Xg.ev (EvF.add64 rfl rfl rfl (by omega) (by omega)) rfl rfl ?_) | (refine Xg.ev (EvF.move rfl rfl) rfl rfl ?_) | (refine Xg.ev (EvF.assign rfl rfl) rfl rfl ?_) | (refine Xg.ev (EvF.pickT rfl rfl rfl) rfl rfl ?_) | (refine Xg.ev (EvF.pickF rfl rfl rfl) rfl rfl ?_) | (refine Xg.ev (EvF.fieldAddr rfl rfl (te rfl) rfl (te rfl) (by decide)) rfl rfl ?_) | (refine Xg.ev (EvF.loadV rfl rfl (LoadV.own (te rfl) rfl (List.Mem.tail _ (List.Mem.head _)) rfl)) rfl rfl ?_) | (refine Xg.ev (EvF.loadV rfl rfl (LoadV.whole (te rfl) rfl (List.Mem.head _) rfl)) rfl rfl ?_) | (refine Xg.ev (EvF.loadV rfl rfl (LoadV.whole (te rfl) rfl (List.Mem.tail _ (List.Mem.head _)) rfl)) rfl rfl ?_) | (refine Xg.ev (EvF.extract rfl rfl rfl) rfl rfl ?_) | (refine Xg.st (StF.boxAgg rfl rfl) rfl rfl ?_; rintro _ _ ⟨bx, rfl, rfl⟩) | (refine Xg.st (StF.alloc rfl Tryz.zeroValue30 rfl) rfl rfl ?_; rintro _ _ ⟨bx, rfl, rfl⟩) | (refine Xg.st0 (StF.storeAll (i := 0) rfl rfl rfl (te rfl) rfl rfl rfl rfl) rfl ?_; rintro _ _ ⟨rfl, rfl⟩; dsimp only [List.set]))))) | (refine XO.done rfl ?_; refine hK _ _ ?_; clear hK K) | refine X.seq rfl ?_ | refine X.region rfl (fun K hK => ?_) | refine X.skip rfl ?_ | refine X.ret rfl ?_ | (refine X.ite rfl rfl (fun hc => ?_); (first | (with_reducible refine Xb.t hc ?_) | (with_reducible refine Xb.f hc ?_)) <;> clear hc))
      all_goals try (exfalso; contradiction)

      exact ret_one (by first | exact .inr rfl | exact .inl rfl) Tryz.results7 rfl (H' := _) (List.Sublist.refl _) rfl
    · have hne : ¬ (byS T (1 + s % 9) x 9).1 = 0 := by rw [e1]; omega
      rw [if_neg hne, if_pos rfl, if_pos rfl] at hSy
      clear hne
      have hbest' : ∀ g : Int, 1 ≤ g ∧ g ≤ 9 → may T ⟨g, 1 + s % 9⟩ = true → gnL T g (1 + s % 9) x ≤ (byS T (1 + s % 9) x 9).2 ∧ (gnL T g (1 + s % 9) x = (byS T (1 + s % 9) x 9).2 → 1 + (j : Int) ≤ g) := fun g hg hmg => by
        have := hbest (g - 1).toNat (by omega)
        rw [show 1 + ((g - 1).toNat : Int) = g by omega] at this
        have h := this hmg
        exact ⟨h.1, fun e => by have := h.2 e; omega⟩
      clear hbest
      have hj9 : 1 ≤ 1 + (j : Int) ∧ 1 + (j : Int) ≤ 9 := by omega
      rw [e1] at hSy
      have hSu : ∀ g : Int, 1 ≤ g ∧ g ≤ 9 → may T ⟨g, 1 + s % 9⟩ = true → ∀ H', TmOk H' T p → Fc Tryz.prog 39 [.agg (cTm T p).toArray, .int .i64 g, .agg (cSp x).toArray, .int .i64 (1 + s % 9)] H' (fun v H'' => v = .tuple #[.int .i64 (gnL T g (1 + s % 9) x), .bool true] ∧ H'' = H') := fun g hg hmg H' h => surely_spec T p g (1 + s % 9) x H' h hok hg hy hx hmg
      have hS0 := hSu _ hj9 hm
      rw [← e2] at hS0
      have hgt : x.hi ≤ T.worst → may T ⟨x.hi, 1 + s % 9⟩ = true ∧ val T x.hi (1 + s % 9) ≤ (byS T (1 + s % 9) x 9).2 ∧ (byS T (1 + s % 9) x 9).2 ≤ val T x.hi (1 + s % 9) + T.fee := fun hw => by
        have hm' := of_decide_eq_true hm
        dsimp only at hm'
        have hmh : may T ⟨x.hi, 1 + s % 9⟩ = true := decide_eq_true ⟨hw, hm'.2⟩
        refine ⟨hmh, ?_, ?_⟩
        · have a := (hbest' x.hi (by omega) hmh).1
          have b := gnL_low (T := T) (s := 1 + s % 9) (lo := x.lo) (hi := x.hi) hx.1.2
          exact Int.le_trans b a
        · rw [e2]
          exact gnL_up hok (lo := x.lo) (hi := x.hi) (by omega) hx.1.1 hx.1.2 hw ⟨hm'.2, hy.2⟩ hm
      obtain ⟨gq, hgte⟩ : ∃ q, (byS T (1 + s % 9) x 9).2 = q := ⟨_, rfl⟩
      rw [hgte] at hSy hgt hbest' hS0
      obtain ⟨sd, hsde⟩ : ∃ q, 1 + (j : Int) = q := ⟨_, rfl⟩
      rw [hsde] at hSy hj9 hbest' hS0 hm
      clear e1 e2 hgte hsde hE hj
      refine Fc.mk (callable Tryz.call7) Tryz.func7 rfl Tryz.ntmps7 rfl ?_; dsimp only [fr]
      repeat' (first | (refine XO.op rfl ?_; (first | ((first | refine Xo.ng rfl ?_ | (refine Xo.g rfl rfl ?_; with_reducible refine Xw.ff ?_)); (first | (refine Xg.call (EnF.st rfl (by (repeat (first | exact Args.nil | refine Args.cons rfl ?_)); done)) rfl rfl (alive_spec _) ?_; rintro _ H9 ⟨rfl, hH9⟩; subst H9) | (refine Xg.call (EnF.st rfl (Args.cons rfl Args.nil)) rfl rfl (hR _ (hT.sub (fun _ h => by repeat (first | exact h | apply List.Mem.tail)))) ?_; rintro _ H9 ⟨rfl, hH9⟩; subst H9) | (refine Xg.call (EnF.st rfl (Args.cons rfl (Args.cons rfl Args.nil))) rfl rfl (hSm _) ?_; rintro _ H9 ⟨rfl, hH9⟩; subst H9) | (refine Xg.call (EnF.st rfl (Args.cons rfl (Args.cons rfl (Args.cons rfl Args.nil)))) rfl rfl (hSy _ (hT.sub (fun _ h => by repeat (first | exact h | apply List.Mem.tail)))) ?_; rintro _ H9 ⟨rfl, hH9⟩; subst H9) | (refine Xg.ev (notT rfl rfl) rfl rfl ?_) | (refine Xg.ev (EvF.cmp (b := false) rfl rfl rfl (congrArg some (nd_f (by omega)))) rfl rfl ?_) | (refine Xg.ev (EvF.conv rfl rfl int8_und int64_und (by omega) (by omega)) rfl rfl ?_) | (refine Xg.ev (EvF.rem64 rfl rfl rfl (by omega) (by omega)) rfl rfl ?_) | (refine Xg.ev (EvF.add64 rfl rfl rfl (by omega) (by omega)) rfl rfl ?_) | (refine Xg.ev (EvF.move rfl rfl) rfl rfl ?_) | (refine Xg.ev (EvF.assign rfl rfl) rfl rfl ?_) | (refine Xg.ev (EvF.pickF rfl rfl rfl) rfl rfl ?_) | (refine Xg.ev (EvF.loadV rfl rfl (LoadV.whole (te rfl) rfl (List.Mem.head _) rfl)) rfl rfl ?_) | (refine Xg.ev (EvF.loadV rfl rfl (LoadV.whole (te rfl) rfl (List.Mem.tail _ (List.Mem.head _)) rfl)) rfl rfl ?_) | (refine Xg.ev (EvF.extract rfl rfl rfl) rfl rfl ?_) | (refine Xg.st (StF.boxAgg rfl rfl) rfl rfl ?_; rintro _ _ ⟨bx, rfl, rfl⟩) | (refine Xg.st (StF.alloc rfl Tryz.zeroValue30 rfl) rfl rfl ?_; rintro _ _ ⟨bx, rfl, rfl⟩) | (refine Xg.st0 (StF.storeAll (i := 0) rfl rfl rfl (te rfl) rfl rfl rfl rfl) rfl ?_; rintro _ _ ⟨rfl, rfl⟩; dsimp only [List.set]))))) | (refine XO.done rfl ?_; refine hK _ _ ?_; clear hK K) | refine X.seq rfl ?_ | refine X.region rfl (fun K hK => ?_) | refine X.skip rfl ?_ | (refine X.ite rfl rfl (fun hc => ?_); (first | (with_reducible refine Xb.f hc ?_)) <;> clear hc))
      all_goals try (exfalso; contradiction)
      rename_i b5
      obtain ⟨b12, hb12⟩ : ∃ b, b = bx := ⟨_, rfl⟩
      rw [← hb12]
      clear hb12
      obtain ⟨y, hye⟩ : ∃ q, 1 + s % 9 = q := ⟨_, rfl⟩
      rw [hye] at hy hbest' hSu hS0 hgt hm
      refine X.weak (F' := [(4, .int .u8 k), (5, .pointer (some ⟨b5, 0, none⟩)), (11, .bool true), (12, .pointer (some ⟨b12, 0, none⟩)), (13, .int .i64 y), (14, .int .i64 sd), (15, .int .i64 gq)]) (H' := ⟨b12, 0, cSp x, some 30, 2⟩ :: ⟨b5, 0, cTm T p, some 32, 11⟩ :: H) (by rw [← hye]; exact (by (repeat (first | exact Sub.nil _ | refine Sub.cons rfl ?_)); done)) (by (repeat (first | exact List.Sublist.refl _ | apply List.Sublist.cons_cons | apply List.Sublist.cons)); done) ?_
      clear hye hSy hpo hSm hxe
      have hMy : ∀ H', Fc Tryz.prog 37 [.agg (cTm T p).toArray, .agg (cCl ⟨sd, y⟩).toArray] H' (fun v H'' => v = .bool true ∧ H'' = H') := fun H' => by have := rmay_spec T p ⟨sd, y⟩ H'; rwa [hm] at this
      refine X.regionOb tsSy1 [4, 5, 11, 12, 13, 14, 15] [(4, .int .u8 k), (5, .pointer (some ⟨b5, 0, none⟩)), (11, .bool true), (12, .pointer (some ⟨b12, 0, none⟩)), (13, .int .i64 y), (14, .int .i64 sd), (15, .int .i64 gq)] (valSy1 b5 b12 T p y sd gq k) (rowsSy1 b5 b12 T p y sd gq k) (fun _ => (0, 0)) (⟨b12, 0, cSp x, some 30, 2⟩ :: ⟨b5, 0, cTm T p, some 32, 11⟩ :: H) rfl mixed (by (repeat (first | exact Sub.nil _ | refine Sub.cons rfl ?_)); done) rfl (by kernel_rfl) (locSy1 b5 b12 T p y sd gq k) (List.Sublist.refl _) ?_ ?_
      · repeat' (first | exact AllF.done rfl | (refine AllF.step rfl ?_ ?_; · (first | fail | ((first | refine Ob.ng rfl ?_ | refine Ob.g rfl rfl (fun _ => rfl) ?_); (first | exact ObK.pure (fun env R hR => by exact ⟨_, EvF.move rfl rfl, rfl⟩) rfl (fun _ => rfl) | exact ObK.pure (fun env R hR => by exact ⟨_, EvF.pickF rfl rfl rfl, rfl⟩) rfl (fun _ => rfl) | exact ObK.pure (fun env R hR => by exact ⟨_, EvF.not rfl rfl, rfl⟩) rfl (fun _ => rfl) | exact ObK.pure (fun env R hR => by exact ⟨_, EvF.loadV rfl rfl (LoadV.whole (te rfl) rfl (hR _ (List.Mem.tail _ (List.Mem.head _))) rfl), rfl⟩) rfl (fun _ => rfl) | (exact fun env S hS => OpF.callV (Z := []) (EnF.st rfl (Args.cons rfl (Args.cons rfl Args.nil))) (lclass_spec sd y _) rfl rfl) | (exact fun env S hS => OpF.callV (Z := []) (EnF.st rfl (Args.cons rfl (Args.cons rfl Args.nil))) (hMy _) rfl rfl) | (exact ObK.pure (fun env S hS => ⟨_, EvF.cmp (b := false) rfl rfl rfl (congrArg some (decide_eq_false (by omega))), rfl⟩) rfl (fun _ => rfl)))))))
      intro env t ha2 hv; refine ⟨_, ha2.cons (hv 13 74 (Nat.le_of_ble_eq_true rfl) rfl), ?_⟩; clear hv ha2
      obtain ⟨mz, hmz⟩ : ∃ q, may T ⟨1 + k % 9, y⟩ = q := ⟨_, rfl⟩
      have tl : ∀ (F : FS) (H' : List Row), Fw.Sub [(5, .pointer (some ⟨b5, 0, none⟩)), (11, .bool true), (12, .pointer (some ⟨b12, 0, none⟩)), (13, .int .i64 y), (15, .int .i64 gq)] F → (⟨b12, 0, cSp x, some 30, 2⟩ :: ⟨b5, 0, cTm T p, some 32, 11⟩ :: H : List Row).Sublist H' → X Tryz.prog 157 (csnd (csnd (csnd (csnd (csnd (csnd (csnd (csnd (csnd (csnd (cof Tryz.f7))))))))))) F H' (retX Tryz.prog Tryz.f7 (fun v _ => v = .bool true)) := fun F H' q1 q2 => X.weak q1 q2 (sayTail T p x y gq b5 b12 H hok hT hx hy hgt)
      repeat' (first | (refine XO.op rfl ?_; (first | ((first | refine Xo.ng rfl ?_ | (refine Xo.g rfl rfl ?_; with_reducible refine Xw.ff ?_)); (first | (refine Xg.call (EnF.st rfl (Args.cons rfl (Args.cons rfl (Args.cons rfl (Args.cons rfl Args.nil))))) rfl rfl (hS0 _ (hT.sub (fun _ h => by repeat (first | exact h | apply List.Mem.tail)))) ?_; rintro _ _ ⟨rfl, rfl⟩) | (refine Xg.ev (notT rfl rfl) rfl rfl ?_) | (refine Xg.ev (EvF.cmp (b := false) rfl rfl rfl (congrArg some (nd_f (by omega)))) rfl rfl ?_) | (refine Xg.ev (EvF.conv rfl rfl int8_und int64_und (by omega) (by omega)) rfl rfl ?_) | (refine Xg.ev (EvF.rem64 rfl rfl rfl (by omega) (by omega)) rfl rfl ?_) | (refine Xg.ev (EvF.add64 rfl rfl rfl (by omega) (by omega)) rfl rfl ?_) | (refine Xg.ev (EvF.move rfl rfl) rfl rfl ?_) | (refine Xg.ev (EvF.assign rfl rfl) rfl rfl ?_) | (refine Xg.ev (EvF.pickF rfl rfl rfl) rfl rfl ?_) | (refine Xg.ev (EvF.loadV rfl rfl (LoadV.whole (te rfl) rfl (List.Mem.head _) rfl)) rfl rfl ?_) | (refine Xg.ev (EvF.loadV rfl rfl (LoadV.whole (te rfl) rfl (List.Mem.tail _ (List.Mem.head _)) rfl)) rfl rfl ?_) | (refine Xg.ev (EvF.extract rfl rfl rfl) rfl rfl ?_))))) | (refine XO.done rfl ?_; refine hK _ _ ?_; clear hK K) | refine X.seq rfl ?_ | refine X.region rfl (fun K hK => ?_) | refine X.skip rfl ?_ | refine X.ret rfl ?_ | (refine X.ite rfl rfl (fun hc => ?_); (first | (with_reducible refine Xb.f hc ?_) | (with_reducible refine Xb.caseB hc (fun h => ?_) (fun h => ?_))) <;> clear hc))
      all_goals try (exfalso; contradiction)
      obtain ⟨z, hze⟩ : ∃ q, 1 + k % 9 = q := ⟨_, rfl⟩
      rw [hze] at hz hmz
      refine X.weak (F' := [(5, .pointer (some ⟨b5, 0, none⟩)), (11, .bool true), (12, .pointer (some ⟨b12, 0, none⟩)), (13, .int .i64 y), (14, .int .i64 sd), (15, .int .i64 gq), (19, .int .i64 z)]) (H' := ⟨b12, 0, cSp x, some 30, 2⟩ :: ⟨b5, 0, cTm T p, some 32, 11⟩ :: H) (by rw [← hze]; exact (by (repeat (first | exact Sub.nil _ | refine Sub.cons rfl ?_)); done)) (by (repeat (first | exact List.Sublist.refl _ | apply List.Sublist.cons_cons | apply List.Sublist.cons)); done) ?_
      clear hze
      have hMz : ∀ H', Fc Tryz.prog 37 [.agg (cTm T p).toArray, .agg (cCl ⟨z, y⟩).toArray] H' (fun v H'' => v = .bool mz ∧ H'' = H') := fun H' => by have := rmay_spec T p ⟨z, y⟩ H'; rwa [hmz] at this
      refine X.regionOb tsSy2 [5, 11, 12, 13, 14, 15, 19] [(5, .pointer (some ⟨b5, 0, none⟩)), (11, .bool true), (12, .pointer (some ⟨b12, 0, none⟩)), (13, .int .i64 y), (14, .int .i64 sd), (15, .int .i64 gq), (19, .int .i64 z)] (valSy2 b5 b12 T p y sd gq z mz) (rowsSy2 b5 b12 T p y sd gq z mz) (fun _ => (0, 0)) (⟨b12, 0, cSp x, some 30, 2⟩ :: ⟨b5, 0, cTm T p, some 32, 11⟩ :: H) rfl mixed (by (repeat (first | exact Sub.nil _ | refine Sub.cons rfl ?_)); done) rfl (by kernel_rfl) (locSy2 b5 b12 T p y sd gq z mz) (List.Sublist.refl _) ?_ ?_
      · repeat' (first | exact AllF.done rfl | (refine AllF.step rfl ?_ ?_; · (first | fail | ((first | refine Ob.ng rfl ?_); (first | exact ObK.pure (fun env R hR => by exact ⟨_, EvF.move rfl rfl, rfl⟩) rfl (fun _ => rfl) | exact ObK.pure (fun env R hR => by exact ⟨_, EvF.loadV rfl rfl (LoadV.whole (te rfl) rfl (hR _ (List.Mem.tail _ (List.Mem.head _))) rfl), rfl⟩) rfl (fun _ => rfl) | (exact fun env S hS => OpF.callV (Z := []) (EnF.st rfl (Args.cons rfl (Args.cons rfl Args.nil))) (lclass_spec z y _) rfl rfl) | (exact fun env S hS => OpF.callV (Z := []) (EnF.st rfl (Args.cons rfl (Args.cons rfl Args.nil))) (hMz _) rfl rfl))))))
      intro env t ha2 hv; refine ⟨_, ha2.cons (hv 4 98 (Nat.le_of_ble_eq_true rfl) rfl), ?_⟩; clear hv ha2
      cases mz
      · repeat' (first | (refine tl _ _ ?_ ?_; exact (by (repeat (first | exact Sub.nil _ | refine Sub.cons rfl ?_)); done); exact (by (repeat (first | exact List.Sublist.refl _ | apply List.Sublist.cons_cons | apply List.Sublist.cons)); done)) | refine X.skip rfl ?_ | (refine X.ite rfl rfl (fun hc => ?_); (first | (with_reducible refine Xb.f hc ?_)) <;> clear hc))
        all_goals try (exfalso; contradiction)
      · have hS1 := hSu z hz hmz
        obtain ⟨q1, q2⟩ := hbest' z hz hmz
        obtain ⟨gz, hgz⟩ : ∃ q, gnL T z y x = q := ⟨_, rfl⟩
        rw [hgz] at hS1 q1 q2
        rcases (by omega : gz < gq ∨ (gz = gq ∧ sd ≤ z)) with hlt | ⟨hlt, hle⟩
        · repeat' (first | (refine tl _ _ ?_ ?_; exact (by (repeat (first | exact Sub.nil _ | refine Sub.cons rfl ?_)); done); exact (by (repeat (first | exact List.Sublist.refl _ | apply List.Sublist.cons_cons | apply List.Sublist.cons)); done)) | (refine XO.op rfl ?_; (first | ((first | refine Xo.ng rfl ?_ | (refine Xo.g rfl rfl ?_; with_reducible refine Xw.ff ?_)); (first | (refine Xg.call (EnF.st rfl (Args.cons rfl (Args.cons rfl (Args.cons rfl (Args.cons rfl Args.nil))))) rfl rfl (hS1 _ (hT.sub (fun _ h => by repeat (first | exact h | apply List.Mem.tail)))) ?_; rintro _ _ ⟨rfl, rfl⟩) | (refine Xg.ev (notT rfl rfl) rfl rfl ?_) | (refine Xg.ev (EvF.cmp (b := false) rfl rfl rfl (congrArg some (decide_eq_false (by omega)))) rfl rfl ?_) | (refine Xg.ev (EvF.move rfl rfl) rfl rfl ?_) | (refine Xg.ev (EvF.assign rfl rfl) rfl rfl ?_) | (refine Xg.ev (EvF.pickF rfl rfl rfl) rfl rfl ?_) | (refine Xg.ev (EvF.loadV rfl rfl (LoadV.whole (te rfl) rfl (List.Mem.head _) rfl)) rfl rfl ?_) | (refine Xg.ev (EvF.loadV rfl rfl (LoadV.whole (te rfl) rfl (List.Mem.tail _ (List.Mem.head _)) rfl)) rfl rfl ?_) | (refine Xg.ev (EvF.extract rfl rfl rfl) rfl rfl ?_))) | (refine Xo.g rfl rfl ?_; (first | (with_reducible refine Xw.ft rfl rfl ?_))))) | (refine XO.done rfl ?_; refine hK _ _ ?_; clear hK K) | refine X.seq rfl ?_ | refine X.region rfl (fun K hK => ?_) | refine X.skip rfl ?_ | (refine X.ite rfl rfl (fun hc => ?_); (first | (with_reducible refine Xb.t hc ?_) | (with_reducible refine Xb.f hc ?_)) <;> clear hc))
          all_goals try (exfalso; contradiction)
        · repeat' (first | (refine tl _ _ ?_ ?_; exact (by (repeat (first | exact Sub.nil _ | refine Sub.cons rfl ?_)); done); exact (by (repeat (first | exact List.Sublist.refl _ | apply List.Sublist.cons_cons | apply List.Sublist.cons)); done)) | (refine XO.op rfl ?_; (first | ((first | refine Xo.ng rfl ?_ | (refine Xo.g rfl rfl ?_; with_reducible refine Xw.tt ?_) | (refine Xo.g rfl rfl ?_; with_reducible refine Xw.ff ?_)); (first | (refine Xg.call (EnF.st rfl (Args.cons rfl (Args.cons rfl (Args.cons rfl (Args.cons rfl Args.nil))))) rfl rfl (hS1 _ (hT.sub (fun _ h => by repeat (first | exact h | apply List.Mem.tail)))) ?_; rintro _ _ ⟨rfl, rfl⟩) | (refine Xg.ev (notT rfl rfl) rfl rfl ?_) | (refine Xg.ev (EvF.cmp (b := true) rfl rfl rfl (congrArg some (decide_eq_true (by omega)))) rfl rfl ?_) | (refine Xg.ev (EvF.cmp (b := false) rfl rfl rfl (congrArg some (decide_eq_false (by omega)))) rfl rfl ?_) | (refine Xg.ev (EvF.move rfl rfl) rfl rfl ?_) | (refine Xg.ev (EvF.assign rfl rfl) rfl rfl ?_) | (refine Xg.ev (EvF.pickT rfl rfl rfl) rfl rfl ?_) | (refine Xg.ev (EvF.pickF rfl rfl rfl) rfl rfl ?_) | (refine Xg.ev (EvF.loadV rfl rfl (LoadV.whole (te rfl) rfl (List.Mem.head _) rfl)) rfl rfl ?_) | (refine Xg.ev (EvF.loadV rfl rfl (LoadV.whole (te rfl) rfl (List.Mem.tail _ (List.Mem.head _)) rfl)) rfl rfl ?_) | (refine Xg.ev (EvF.extract rfl rfl rfl) rfl rfl ?_))))) | (refine XO.done rfl ?_; refine hK _ _ ?_; clear hK K) | refine X.seq rfl ?_ | refine X.region rfl (fun K hK => ?_) | refine X.skip rfl ?_ | (refine X.ite rfl rfl (fun hc => ?_); (first | (with_reducible refine Xb.t hc ?_) | (with_reducible refine Xb.f hc ?_)) <;> clear hc))
          all_goals try (exfalso; contradiction)
  · have hR : ∀ Z : List Row, _ := fun Z => readyF T p hr (Z ++ H) (hg.sub (fun _ h => List.mem_append_right _ h)) (hs.sub (fun _ h => List.mem_append_right _ h))
    refine Fc.mk (callable Tryz.call7) Tryz.func7 rfl Tryz.ntmps7 rfl ?_; dsimp only [fr]
    repeat' (first | (refine XO.op rfl ?_; (first | ((first | refine Xo.ng rfl ?_); (first | (refine Xg.call (EnF.st rfl (by (repeat (first | exact Args.nil | refine Args.cons rfl ?_)); done)) rfl rfl (alive_spec _) ?_; rintro _ H9 ⟨rfl, hH9⟩; subst H9) | (refine Xg.call (EnF.st rfl (Args.cons rfl Args.nil)) rfl rfl (hR [_]) ?_; rintro _ H9 ⟨rfl, hH9⟩; subst H9) | (refine Xg.ev (notF rfl rfl) rfl rfl ?_) | (refine Xg.ev (EvF.move rfl rfl) rfl rfl ?_) | (refine Xg.ev (EvF.assign rfl rfl) rfl rfl ?_) | (refine Xg.ev (EvF.pickT rfl rfl rfl) rfl rfl ?_) | (refine Xg.ev (EvF.loadV rfl rfl (LoadV.whole (te rfl) rfl (List.Mem.head _) rfl)) rfl rfl ?_) | (refine Xg.st (StF.boxAgg rfl rfl) rfl rfl ?_; rintro _ _ ⟨bx, rfl, rfl⟩))) | (refine Xo.g rfl rfl ?_; (first | (with_reducible refine Xw.tf rfl rfl ?_))))) | (refine XO.done rfl ?_; refine hK _ _ ?_; clear hK K) | refine X.seq rfl ?_ | refine X.region rfl (fun K hK => ?_) | refine X.ret rfl ?_ | (refine X.ite rfl rfl (fun hc => ?_); (first | (with_reducible refine Xb.t hc ?_)) <;> clear hc))
    all_goals try (exfalso; contradiction)
    exact ret_one (by first | exact .inr rfl | exact .inl rfl) Tryz.results7 rfl (H' := _) (List.Sublist.refl _) rfl
end Go.Proofs.YtcjlegjchllgjaaGreat
end
section
set_option linter.unusedVariables false
namespace Go.Proofs.YtcjlegjchllgjaaGreat
open Go Go.Fw Go.ChangeShapes Go.WideShapes Go.ChangeAt Go.RowKit
set_option linter.unusedVariables false
set_option maxRecDepth 100000
theorem termsSay_run (T : Tm) (pT : Pt) (a : Int) (b : Int) (s : Int) (k : Int) (w : World) (ha : u8 a) (hb : u8 b) (hs : u8 s) (hk : u8 k) (hT : InTm w T pT) :
    Calls Tryz.prog 7 #[.agg (cTm T pT).toArray, .int .u8 a, .int .u8 b, .int .u8 s, .int .u8 k] w fun e w' => e = .returned (.bool true) ∧ Below w.heap.size w w' :=
  Fc.calls (H := rowsTm T pT) (termsSay_spec T pT a b s k ha hb hs hk _ (hT.g (fun _ h => h)) (hT.s (fun _ h => h))) (fun r hr => by
    exact hT.ok r hr
  )
theorem termsSay_lifted (os : Os) (started : os.Started) (H : Type) (enc : TypeId × Value → H) :
    ReturnsInHanded {} Tryz.checked os 7 .any (Rows.termsSaySpec.pre6 enc Tryz.prog Tryz.f7 Rows.termsSayRow.domain false) (Rows.termsSaySpec.post enc Tryz.prog Tryz.f7 false true false false) := by
  refine returnsInHanded_of_change (C := Tryz.checked) ownK started (by kernel_rfl) Tryz.func7
    (ChangeSpec.witness6 (enc := enc) (C := Tryz.checked) false ⟨#[], #[.agg (cTm Tz pz).toArray, .int .u8 0, .int .u8 0, .int .u8 0, .int .u8 0], []⟩ 8 (by kernel_rfl) (by kernel_rfl) (by kernel_rfl) (by kernel_rfl)) ?_
  intro W base args ds gs before hval0 hW hcnd _
  have hval : ∀ (j : Nat) t v, Tryz.f7.params[j]? = some t → args[j]? = some v → Value.okWide Tryz.prog W .any base t v := hval0
  have hW' := hW
  obtain ⟨p, q, hA0, hV, rfl, hfz, hnd⟩ := hW
  have hA : DataW.TrodAll enc Tryz.prog W 0 (fun _ => true) true Tryz.f7.params.toList args.toList ds p := hA0
  rw [Tryz.params7] at hA hval
  obtain ⟨v0, vs0, d0, ds0, p0, q0, hargs, rfl, rfl, h0, r0⟩ := trodAll_cons hA
  obtain ⟨v1, vs1, d1, ds1, p1, q1, rfl, rfl, rfl, h1, r1⟩ := trodAll_cons r0
  obtain ⟨v2, vs2, d2, ds2, p2, q2, rfl, rfl, rfl, h2, r2⟩ := trodAll_cons r1
  obtain ⟨v3, vs3, d3, ds3, p3, q3, rfl, rfl, rfl, h3, r3⟩ := trodAll_cons r2
  obtain ⟨v4, vs4, d4, ds4, p4, q4, rfl, rfl, rfl, h4, r4⟩ := trodAll_cons r3
  obtain ⟨rfl, rfl, rfl⟩ := trodAll_nil r4
  obtain rfl : args = #[v0, v1, v2, v3, v4] := by cases args; simp_all
  obtain ⟨rfl, rfl⟩ := trodVars_none hV
  have lt : ∀ {t v d ps}, DataW.Trod enc Tryz.prog W 0 (fun _ => true) true t v d ps → ∀ x ∈ ps, x.block < W.heap.size := fun h => by obtain ⟨m, hm⟩ := h; exact DataW.trod_lt m _ _ _ hm
  obtain ⟨T, pT, rfl, hT⟩ := open_terms (hval 0 _ v0 rfl rfl) h0
  obtain ⟨a, rfl, ha⟩ := open_u8 (hval 1 _ v1 rfl rfl) h1
  obtain ⟨b, rfl, hb⟩ := open_u8 (hval 2 _ v2 rfl rfl) h2
  obtain ⟨s, rfl, hs⟩ := open_u8 (hval 3 _ v3 rfl rfl) h3
  obtain ⟨k, rfl, hk⟩ := open_u8 (hval 4 _ v4 rfl rfl) h4
  clear hA0 hval0
  refine (termsSay_run T pT a b s k W ha hb hs hk hT).mono fun e W' ⟨he, bel⟩ => ?_
  subst he
  exact ⟨_, rfl, _, _, _, [], _, [], hW', trodAll_mk1 (shut_bool Tryz.underlying4 _), (trodAll_cons_mk (Below.trod laidO (by kernel_rfl) (of_decide_eq_true (by kernel_rfl)) h0 bel (lt h0)) (trodAll_cons_mk (Below.trod laidO (by kernel_rfl) (of_decide_eq_true (by kernel_rfl)) h1 bel (lt h1)) (trodAll_cons_mk (Below.trod laidO (by kernel_rfl) (of_decide_eq_true (by kernel_rfl)) h2 bel (lt h2)) (trodAll_cons_mk (Below.trod laidO (by kernel_rfl) (of_decide_eq_true (by kernel_rfl)) h3 bel (lt h3)) (trodAll_cons_mk (Below.trod laidO (by kernel_rfl) (of_decide_eq_true (by kernel_rfl)) h4 bel (lt h4)) trodAll_mk0))))), rfl, bel.frame _, fun h => by cases h⟩
theorem termsSay_over : Rows.termsSayRow.holds Tryz.pinned (OpenSpec.ofChange Rows.termsSaySpec) :=
  OpenClaim.holds_of_wide 7 Tryz.f7 rfl rfl rfl rfl rfl rfl rfl ⟨rfl, rfl, rfl, rfl, rfl⟩ rfl rfl rfl rfl rfl (by kernel_rfl) Tryz.func7 (by kernel_rfl)
    (of_decide_eq_true (by kernel_rfl)) (by unfold Func.isWrapper; first | (rw [if_pos (by decide +kernel)]; kernel_rfl) | (rw [if_neg (by decide +kernel)]; exact ⟨rfl, rfl⟩))
    (fun os started H enc _ => termsSay_lifted os started H enc)
theorem termsSay_proved : Rows.TermsSaySaid := termsSay_over
#print axioms termsSay_proved
end Go.Proofs.YtcjlegjchllgjaaGreat
end
