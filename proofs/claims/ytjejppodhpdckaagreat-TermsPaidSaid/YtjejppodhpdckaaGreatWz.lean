/- TermsPaid: for all terms, grades, staples and a choice the law returns true (by another look nobody gets what the other one does not pay but for the fee; who has said the true grade never pays it; without a look the invoice of the said grade is paid; the examples are as told), and each argument reads afterwards as before. No condition. -/
import Derived.Test.YtjejppodhpdckaaGreatW06
import Derived.OpenShut
section
set_option linter.unusedVariables false
set_option linter.unusedSimpArgs false
namespace Go.Proofs.YtjejppodhpdckaaGreat
open Go Go.Fw
set_option maxRecDepth 10000
set_option maxHeartbeats 16000000 in
theorem alive_spec (H : List Row) : Fc Tryz.prog 13 [] H (fun v H' => v = .bool true ∧ H' = H) := by
  refine Fc.mk (callable Tryz.call13) Tryz.func13 rfl Tryz.ntmps13 rfl ?_; dsimp only [fr]
  repeat' (first | (refine XO.op rfl ?_; (first | ((first | refine Xo.ng rfl ?_); (first | (refine Xg.call (EnF.st rfl (Args.cons rfl Args.nil)) rfl rfl (cotton_spec _ _) ?_; rintro _ _ ⟨b1, b2, rfl, rfl⟩) | (refine Xg.call (EnF.st rfl (Args.cons rfl (Args.cons rfl Args.nil))) rfl rfl (lclass_spec _ _ _) ?_; rintro _ H9 ⟨rfl, hH9⟩; subst H9) | (refine Xg.call (EnF.st rfl (Args.cons rfl (Args.cons rfl Args.nil))) rfl rfl (lspan_spec _ _ _) ?_; rintro _ H9 ⟨rfl, hH9⟩; subst H9) | (refine Xg.call (EnF.st rfl (Args.cons rfl (Args.cons rfl Args.nil))) rfl rfl (x1 _ _ (ctnOk 12 b1 b2 _ (List.Mem.tail _ (List.Mem.head _)) (List.Mem.head _))) ?_; rintro _ H9 ⟨rfl, hH9⟩; subst H9) | (refine Xg.call (EnF.st rfl (Args.cons rfl (Args.cons rfl (Args.cons rfl Args.nil)))) rfl rfl (x2 _ _ (ctnOk 12 b1 b2 _ (List.Mem.tail _ (List.Mem.head _)) (List.Mem.head _))) ?_; rintro _ H9 ⟨rfl, hH9⟩; subst H9) | (refine Xg.call (EnF.st rfl (by (repeat (first | exact Args.nil | refine Args.cons rfl ?_)); done)) rfl rfl (x3 _ _ (ctnOk 12 b1 b2 _ (List.Mem.tail _ (List.Mem.head _)) (List.Mem.head _))) ?_; rintro _ H9 ⟨rfl, hH9⟩; subst H9) | (refine Xg.call (EnF.st rfl (Args.cons rfl (Args.cons rfl (Args.cons rfl Args.nil)))) rfl rfl (x4 _ _ (ctnOk 12 b1 b2 _ (List.Mem.tail _ (List.Mem.head _)) (List.Mem.head _))) ?_; rintro _ H9 ⟨rfl, hH9⟩; subst H9) | (refine Xg.call (EnF.st rfl (by (repeat (first | exact Args.nil | refine Args.cons rfl ?_)); done)) rfl rfl (x5 _ _ (ctnOk 12 b1 b2 _ (List.Mem.tail _ (List.Mem.head _)) (List.Mem.head _))) ?_; rintro _ H9 ⟨rfl, hH9⟩; subst H9) | (refine Xg.call (EnF.st rfl (by (repeat (first | exact Args.nil | refine Args.cons rfl ?_)); done)) rfl rfl (x6 _ _ (ctnOk 12 b1 b2 _ (List.Mem.tail _ (List.Mem.head _)) (List.Mem.head _))) ?_; rintro _ H9 ⟨rfl, hH9⟩; subst H9) | (refine Xg.call (EnF.st rfl (Args.cons rfl (Args.cons rfl (Args.cons rfl Args.nil)))) rfl rfl (x7 _ _ (ctnOk 40 b1 b2 _ (List.Mem.tail _ (List.Mem.head _)) (List.Mem.head _))) ?_; rintro _ H9 ⟨rfl, hH9⟩; subst H9) | (refine Xg.ev (EvF.move rfl rfl) rfl rfl ?_) | (refine Xg.ev (EvF.assign rfl rfl) rfl rfl ?_) | (refine Xg.ev (EvF.extract rfl rfl rfl) rfl rfl ?_) | (refine Xg.st (StF.alloc rfl Tryz.zeroValue30 rfl) rfl rfl ?_; rintro _ _ ⟨bx, rfl, rfl⟩) | (refine Xg.st0 (StF.storeAll (i := 0) rfl rfl rfl (te rfl) rfl rfl rfl rfl) rfl ?_; rintro _ _ ⟨rfl, rfl⟩; dsimp only [List.set]))))) | (refine XO.done rfl ?_; refine hK _ _ ?_; clear hK K) | refine X.seq rfl ?_ | refine X.region rfl (fun K hK => ?_))
  obtain ⟨b7, hb7⟩ : ∃ b, b = bx := ⟨_, rfl⟩
  rw [← hb7]
  clear hb7
  refine X.weak (F' := [(0, .bool false), (1, .int .i64 425), (2, .int .i64 0), (3, .bool true), (4, .int .i64 0), (5, .int .u8 1), (6, .int .i64 0), (7, .pointer (some ⟨b7, 0, none⟩)), (8, .int .i64 0), (9, .int .i64 428), (10, .int .i64 440), (11, .int .i64 0), (12, .bool true), (13, .int .i64 12), (14, .int .i64 0), (15, .int .i64 5), (16, .int .i64 475), (17, .int .i64 0)]) (H' := ⟨b7, 0, cSp ⟨425, 530⟩, some 30, 2⟩ :: H) (by (repeat (first | exact Sub.nil _ | refine Sub.cons rfl ?_)); done) (by (repeat (first | exact List.Sublist.refl _ | apply List.Sublist.cons_cons | apply List.Sublist.cons)); done) ?_
  have key : ∀ (F : FS) (H' : List Row), H.Sublist H' → X Tryz.prog 295 (csnd (csnd (csnd (csnd (csnd (csnd (csnd (csnd (csnd (cof Tryz.f13)))))))))) F H' (retX Tryz.prog Tryz.f13 (fun v H' => v = .bool true ∧ H' = H)) := fun F H' hs => X.weak (F' := []) (H' := H) (Sub.nil _) hs (alive2 H)
  generalize hcc : (csnd (csnd (csnd (csnd (csnd (csnd (csnd (csnd (csnd (cof Tryz.f13)))))))))) = cc at key ⊢
  repeat' (first | (refine XO.op rfl ?_; (first | ((first | refine Xo.ng rfl ?_); (first | (refine Xg.ev (EvF.assign rfl rfl) rfl rfl ?_))))) | (refine XO.done rfl ?_; refine hK _ _ ?_; clear hK K) | (refine XQ.op rfl ?_; (first | ((first | refine Yo.ng rfl ?_ | (refine Yo.g rfl rfl ?_; with_reducible refine Yw.ff ?_)); (first | (refine Yg.ev (EvF.cmp (b := false) rfl rfl rfl rfl) rfl rfl ?_) | (refine Yg.ev (EvF.eqSt (r := true) (b := false) rfl rfl rfl (by kernel_rfl) (eqSpT ⟨425, 530⟩) rfl) rfl rfl ?_) | (refine Yg.call (EnF.st rfl (Args.cons rfl (Args.cons rfl Args.nil))) rfl rfl (lspan_spec 425 530 _) ?_) | (refine Yg.ev (EvF.move rfl rfl) rfl rfl ?_) | (refine Yg.ev (EvF.pickT rfl rfl rfl) rfl rfl ?_) | (refine Yg.ev (EvF.pickF rfl rfl rfl) rfl rfl ?_) | (refine Yg.ev (EvF.not rfl rfl) rfl rfl ?_) | (refine Yg.ev (EvF.loadV rfl rfl (LoadV.whole (te rfl) rfl (List.Mem.head _) rfl)) rfl rfl ?_))) | (refine Yo.g rfl rfl ?_; (first | (with_reducible refine Yw.tf rfl rfl ?_) | (with_reducible refine Yw.caseB (fun h => ?_) (fun h => ?_) <;> simp only [h, decide_true, decide_false, Bool.not_true, Bool.not_false, and_self, and_true, true_and, and_false, false_and]))))) | (refine XQ.done rfl ?_; refine hK _ ?_; clear hK K) | refine X.seq rfl ?_ | refine X.region rfl (fun K hK => ?_) | refine X.regionD rfl mixed (by kernel_rfl) (fun K hK => ?_) | refine X.skip rfl ?_ | refine X.ret rfl ?_ | (refine X.ite rfl rfl (fun hc => ?_); (first | (with_reducible refine Xb.t hc ?_) | (with_reducible refine Xb.f hc ?_)) <;> clear hc))
  all_goals try (exfalso; contradiction)
  all_goals exact key _ _ (List.sublist_cons_self _ _)
end Go.Proofs.YtjejppodhpdckaaGreat
end
section
set_option linter.unusedVariables false
set_option linter.unusedSimpArgs false
namespace Go.Proofs.YtjejppodhpdckaaGreat
open Go Go.Fw
set_option maxRecDepth 10000
theorem notT {n : Nat} {H : List Row} {F : FS} {o : Oper} {T : TypeId} {x : Operand} (h : o.op = .unOp .not T x) (hx : evF F x = some (.bool true)) : EvF Tryz.prog n H F o (.bool false) := EvF.not h hx
theorem notF {n : Nat} {H : List Row} {F : FS} {o : Oper} {T : TypeId} {x : Operand} (h : o.op = .unOp .not T x) (hx : evF F x = some (.bool false)) : EvF Tryz.prog n H F o (.bool true) := EvF.not h hx
theorem nd_t {p : Prop} [Decidable p] (h : ¬ p) : (!decide p) = true := by rw [decide_eq_false h]; rfl
theorem nd_f {p : Prop} [Decidable p] (h : p) : (!decide p) = false := by rw [decide_eq_true h]; rfl
theorem falls_at : ∀ {l : List Int}, falls l → ∀ {i j : Nat} {a b : Int}, i ≤ j → l[i]? = some a → l[j]? = some b → b ≤ a
  | [], _, i, _, _, _, _, h, _ => by simp at h
  | [x], _, i, j, a, b, _, h1, h2 => by
    cases i with
    | zero => cases j with
      | zero => simp at h1 h2; omega
      | succ j => simp at h2
    | succ i => simp at h1
  | x :: y :: l, h, i, j, a, b, hij, h1, h2 => by
    have hh : y ≤ x ∧ falls (y :: l) := h
    cases j with
    | zero => obtain rfl : i = 0 := by omega
              simp at h1 h2; omega
    | succ j =>
      rw [List.getElem?_cons_succ] at h2
      cases i with
      | zero =>
        simp at h1
        have := falls_at hh.2 (Nat.zero_le j) (by simp : (y :: l)[0]? = some y) h2
        omega
      | succ i =>
        rw [List.getElem?_cons_succ] at h1
        exact falls_at hh.2 (by omega) h1 h2
theorem grows_at : ∀ {l : List Int}, grows l → ∀ {i j : Nat} {a b : Int}, i ≤ j → l[i]? = some a → l[j]? = some b → a ≤ b
  | [], _, i, _, _, _, _, h, _ => by simp at h
  | [x], _, i, j, a, b, _, h1, h2 => by
    cases i with
    | zero => cases j with
      | zero => simp at h1 h2; omega
      | succ j => simp at h2
    | succ i => simp at h1
  | x :: y :: l, h, i, j, a, b, hij, h1, h2 => by
    have hh : x ≤ y ∧ grows (y :: l) := h
    cases j with
    | zero => obtain rfl : i = 0 := by omega
              simp at h1 h2; omega
    | succ j =>
      rw [List.getElem?_cons_succ] at h2
      cases i with
      | zero =>
        simp at h1
        have := grows_at hh.2 (Nat.zero_le j) (by simp : (y :: l)[0]? = some y) h2
        omega
      | succ i =>
        rw [List.getElem?_cons_succ] at h1
        exact grows_at hh.2 (by omega) h1 h2
/-- a better grade, or a longer staple, is worth no less -/
theorem val_mono {T : Tm} (hok : tmOk T) {g g' s s' : Int} (hg : 1 ≤ g ∧ g ≤ g' ∧ g' ≤ 9) (hs : 1 ≤ s' ∧ s' ≤ s ∧ s ≤ 9) : val T g' s' ≤ val T g s := by
  unfold val
  have h1 := falls_at hok.ord.1 (i := (g - 1).toNat) (j := (g' - 1).toNat) (by omega) (at1_get (by omega) hok.gr.1) (at1_get (by omega) hok.gr.1)
  have h2 := grows_at hok.ord.2 (i := (s' - 1).toNat) (j := (s - 1).toNat) (by omega) (at1_get (by omega) hok.st.1) (at1_get (by omega) hok.st.1)
  omega
theorem val_pos {T : Tm} (hok : tmOk T) {g s : Int} (hg : 1 ≤ g ∧ g ≤ T.worst) (hs : T.short ≤ s ∧ s ≤ 9) : 1 ≤ val T g s := by
  have h1 := hok.least
  have h2 := hok.cls
  have := val_mono hok (g := g) (g' := T.worst) (s := s) (s' := T.short) (by omega) (by omega)
  omega
theorem payE_ok {T : Tm} (hok : tmOk T) {sd g s : Int} (h1 : 1 ≤ sd ∧ sd ≤ 9) (h2 : 1 ≤ g ∧ g ≤ 9) (h3 : 1 ≤ s ∧ s ≤ 9) : payE T sd g s = if may T ⟨sd, s⟩ = true then 0 else 6 := by
  unfold payE
  rw [if_pos hok, if_pos ⟨h1, h2⟩, if_pos h3]
theorem nines (x : Int) : 1 ≤ 1 + x % 9 ∧ 1 + x % 9 ≤ 9 := by omega
/-- what another look comes to, in numbers -/
theorem stl_facts {T : Tm} (hok : tmOk T) {sd g s : Int} (h1 : 1 ≤ sd ∧ sd ≤ 9) (h2 : 1 ≤ g ∧ g ≤ 9) (h3 : 1 ≤ s ∧ s ≤ 9) (hm : may T ⟨sd, s⟩ = true) :
    (stl T ⟨sd, s⟩ ⟨g, s⟩ false).gets = val T sd s ∧ (stl T ⟨sd, s⟩ ⟨g, s⟩ false).pays = val T sd s ∧
    (stl T ⟨sd, s⟩ ⟨g, s⟩ true).pays - (stl T ⟨sd, s⟩ ⟨g, s⟩ true).gets = T.fee ∧ 0 ≤ (stl T ⟨sd, s⟩ ⟨g, s⟩ true).pays ∧ (stl T ⟨sd, s⟩ ⟨g, s⟩ true).pays ≤ val T sd s + T.fee ∧ (sd < g ∨ (stl T ⟨sd, s⟩ ⟨g, s⟩ true).gets = val T sd s) := by
  unfold may at hm
  have hm' := of_decide_eq_true hm
  dsimp only at hm'
  have hn := hok.num
  have hp := val_pos hok (g := sd) (s := s) (by omega) (by omega)
  refine ⟨rfl, rfl, ?_⟩
  unfold stl
  rw [if_neg (by decide)]
  dsimp only
  by_cases hg : g ≤ sd
  · rw [if_pos hg]; dsimp only; omega
  · rw [if_neg hg]
    by_cases ha : g ≤ T.worst ∧ T.short ≤ s
    · rw [if_pos ha]
      have := val_mono hok (g := sd) (g' := g) (s := s) (s' := s) (by omega) (by omega)
      have := val_pos hok (g := g) (s := s) (by omega) (by omega)
      dsimp only; omega
    · rw [if_neg ha]; dsimp only; omega
set_option maxHeartbeats 8000000 in
theorem termsPaid_spec (T : Tm) (p : Pt) (sd g s : Int) (ask : Bool) (h1 : u8 sd) (h2 : u8 g) (h3 : u8 s) (H : List Row) (hg : SlE H p.a1 cI 1 T.G) (hs : SlE H p.a2 cI 1 T.S) :
    Fc Tryz.prog 5 [.agg (cTm T p).toArray, .int .u8 sd, .int .u8 g, .int .u8 s, .bool ask] H (fun v _ => v = .bool true) := by
  by_cases hr : rdy T
  · have hT : TmOk H T p := ⟨hg, hs, by have := hr.1; omega, by have := hr.1; omega⟩
    have hT1 : ∀ Z : List Row, TmOk (Z ++ H) T p := fun Z => hT.sub (fun _ h => List.mem_append_right _ h)
    have hok := hr.2
    have hP : ∀ Z : List Row, _ := fun Z => kPays_spec T p (1 + sd % 9) (1 + g % 9) (1 + s % 9) ask (Z ++ H) (hT1 Z)
    have hI : ∀ Z : List Row, _ := fun Z => kinvoice_spec T p ⟨1 + sd % 9, 1 + s % 9⟩ (Z ++ H) (hT1 Z)
    have hR : ∀ Z : List Row, _ := fun Z => readyT T p hr (Z ++ H) (hT1 Z)
    have q1 := nines sd
    have q2 := nines g
    have q3 := nines s
    unfold u8 at h1 h2 h3
    unfold payG payP at hP
    rw [payE_ok hok q1 q2 q3] at hP
    unfold invR at hI
    rw [oI hok ⟨q1, q3⟩] at hI
    have hf := stl_facts hok q1 q2 q3
    have hm : may T ⟨1 + sd % 9, 1 + s % 9⟩ = true ∨ may T ⟨1 + sd % 9, 1 + s % 9⟩ = false := by cases may T ⟨1 + sd % 9, 1 + s % 9⟩ <;> simp
    obtain ⟨x1, hx1⟩ : ∃ x, x = 1 + sd % 9 := ⟨_, rfl⟩
    obtain ⟨x2, hx2⟩ : ∃ x, x = 1 + g % 9 := ⟨_, rfl⟩
    obtain ⟨x3, hx3⟩ : ∃ x, x = 1 + s % 9 := ⟨_, rfl⟩
    rcases hm with hm | hm
    · rw [if_pos hm, if_pos rfl, if_pos rfl] at hP
      rw [if_pos hm, if_pos rfl] at hI
      obtain ⟨f1, f2, f3, f4, f5, f6⟩ := hf hm
      cases ask
      · refine Fc.mk (callable Tryz.call5) Tryz.func5 rfl Tryz.ntmps5 rfl ?_; dsimp only [fr]
        repeat' (first | (refine XO.op rfl ?_; (first | ((first | refine Xo.ng rfl ?_ | (refine Xo.g rfl rfl ?_; with_reducible refine Xw.tt ?_) | (refine Xo.g rfl rfl ?_; with_reducible refine Xw.ff ?_)); (first | (refine Xg.call (EnF.st rfl (by (repeat (first | exact Args.nil | refine Args.cons rfl ?_)); done)) rfl rfl (alive_spec _) ?_; rintro _ H9 ⟨rfl, hH9⟩; subst H9) | (refine Xg.call (EnF.st rfl (Args.cons rfl Args.nil)) rfl rfl (hR [_]) ?_; rintro _ H9 ⟨rfl, hH9⟩; subst H9) | (refine Xg.call (EnF.st rfl (by (repeat (first | exact Args.nil | refine Args.cons rfl ?_)); done)) rfl rfl (hP [_]) ?_; rintro _ H9 ⟨rfl, hH9⟩; subst H9) | (refine Xg.ev (notT rfl rfl) rfl rfl ?_) | (refine Xg.ev (notF rfl rfl) rfl rfl ?_) | (refine Xg.ev (EvF.cmp (b := true) rfl rfl rfl (congrArg some (decide_eq_true (by omega)))) rfl rfl ?_) | (refine Xg.ev (EvF.cmp (b := false) rfl rfl rfl (congrArg some (nd_f (by omega)))) rfl rfl ?_) | (refine Xg.ev (EvF.conv rfl rfl int8_und int64_und (by omega) (by omega)) rfl rfl ?_) | (refine Xg.ev (EvF.rem64 rfl rfl rfl (by omega) (by omega)) rfl rfl ?_) | (refine Xg.ev (EvF.move rfl rfl) rfl rfl ?_) | (refine Xg.ev (EvF.assign rfl rfl) rfl rfl ?_) | (refine Xg.ev (EvF.pickT rfl rfl rfl) rfl rfl ?_) | (refine Xg.ev (EvF.pickF rfl rfl rfl) rfl rfl ?_) | (refine Xg.ev (EvF.add64 rfl rfl rfl (by omega) (by omega)) rfl rfl ?_) | (refine Xg.ev (EvF.loadV rfl rfl (LoadV.whole (te rfl) rfl (List.Mem.head _) rfl)) rfl rfl ?_) | (refine Xg.ev (EvF.extract rfl rfl rfl) rfl rfl ?_) | (refine Xg.st (StF.boxAgg rfl rfl) rfl rfl ?_; rintro _ _ ⟨bx, rfl, rfl⟩))))) | (refine XO.done rfl ?_; refine hK _ _ ?_; clear hK K) | (refine XQ.op rfl ?_; (first | ((first | refine Yo.ng rfl ?_); (first | (refine Yg.call (EnF.st rfl (Args.cons rfl (Args.cons rfl Args.nil))) rfl rfl (hI [_]) ?_) | (refine Yg.call (EnF.st rfl (Args.cons rfl (Args.cons rfl Args.nil))) rfl rfl (lclass_spec _ _ _) ?_) | (refine Yg.ev (EvF.move rfl rfl) rfl rfl ?_) | (refine Yg.ev (EvF.assign rfl rfl) rfl rfl ?_) | (refine Yg.ev (EvF.loadV rfl rfl (LoadV.whole (te rfl) rfl (List.Mem.head _) rfl)) rfl rfl ?_) | (refine Yg.ev (EvF.extract rfl rfl rfl) rfl rfl ?_))))) | (refine XQ.done rfl ?_; refine hK _ ?_; clear hK K) | refine X.seq rfl ?_ | refine X.region rfl (fun K hK => ?_) | refine X.regionD rfl mixed (by kernel_rfl) (fun K hK => ?_) | refine X.skip rfl ?_ | refine X.ret rfl ?_ | (refine X.ite rfl rfl (fun hc => ?_); (first | (with_reducible refine Xb.t hc ?_) | (with_reducible refine Xb.f hc ?_)) <;> clear hc))
        all_goals try (exfalso; contradiction)
        exact ret_one (by first | exact .inr rfl | exact .inl rfl) Tryz.results5 rfl (H' := _) (List.Sublist.refl _) rfl
      · obtain ⟨y1, hy1⟩ : ∃ y, (stl T ⟨1 + sd % 9, 1 + s % 9⟩ ⟨1 + g % 9, 1 + s % 9⟩ true).gets = y := ⟨_, rfl⟩
        obtain ⟨y2, hy2⟩ : ∃ y, (stl T ⟨1 + sd % 9, 1 + s % 9⟩ ⟨1 + g % 9, 1 + s % 9⟩ true).pays = y := ⟨_, rfl⟩
        rw [hy1, hy2] at hP
        rw [hy1, hy2] at f3
        rw [hy2] at f4 f5
        rw [hy1] at f6
        have hb := val_bd hok (1 + sd % 9) (1 + s % 9)
        have hn := hok.num
        obtain ⟨vv, hvv⟩ : ∃ y, val T (1 + sd % 9) (1 + s % 9) = y := ⟨_, rfl⟩
        rw [hvv] at hI f5 f6 hb
        clear f1 f2 hy1 hy2 hvv hf
        by_cases hgs : 1 + sd % 9 < 1 + g % 9
        · refine Fc.mk (callable Tryz.call5) Tryz.func5 rfl Tryz.ntmps5 rfl ?_; dsimp only [fr]
          repeat' (first | (refine XO.op rfl ?_; (first | ((first | refine Xo.ng rfl ?_ | (refine Xo.g rfl rfl ?_; with_reducible refine Xw.tt ?_) | (refine Xo.g rfl rfl ?_; with_reducible refine Xw.ff ?_)); (first | (refine Xg.call (EnF.st rfl (by (repeat (first | exact Args.nil | refine Args.cons rfl ?_)); done)) rfl rfl (alive_spec _) ?_; rintro _ H9 ⟨rfl, hH9⟩; subst H9) | (refine Xg.call (EnF.st rfl (Args.cons rfl Args.nil)) rfl rfl (hR [_]) ?_; rintro _ H9 ⟨rfl, hH9⟩; subst H9) | (refine Xg.call (EnF.st rfl (by (repeat (first | exact Args.nil | refine Args.cons rfl ?_)); done)) rfl rfl (hP [_]) ?_; rintro _ H9 ⟨rfl, hH9⟩; subst H9) | (refine Xg.ev (notT rfl rfl) rfl rfl ?_) | (refine Xg.ev (EvF.cmp (b := true) rfl rfl rfl (congrArg some (decide_eq_true (by omega)))) rfl rfl ?_) | (refine Xg.ev (EvF.cmp (b := false) rfl rfl rfl (congrArg some (decide_eq_false (by omega)))) rfl rfl ?_) | (refine Xg.ev (EvF.cmp (b := false) rfl rfl rfl (congrArg some (nd_f (by omega)))) rfl rfl ?_) | (refine Xg.ev (EvF.conv rfl rfl int8_und int64_und (by omega) (by omega)) rfl rfl ?_) | (refine Xg.ev (EvF.rem64 rfl rfl rfl (by omega) (by omega)) rfl rfl ?_) | (refine Xg.ev (EvF.loadV rfl rfl (LoadV.own (te rfl) rfl (List.Mem.head _) rfl)) rfl rfl ?_) | (refine Xg.ev (EvF.move rfl rfl) rfl rfl ?_) | (refine Xg.ev (EvF.assign rfl rfl) rfl rfl ?_) | (refine Xg.ev (EvF.pickT rfl rfl rfl) rfl rfl ?_) | (refine Xg.ev (EvF.pickF rfl rfl rfl) rfl rfl ?_) | (refine Xg.ev (EvF.add64 rfl rfl rfl (by omega) (by omega)) rfl rfl ?_) | (refine Xg.ev (EvF.sub64 rfl rfl rfl (by omega) (by omega)) rfl rfl ?_) | (refine Xg.ev (EvF.fieldAddr rfl rfl (te rfl) rfl (te rfl) (by decide)) rfl rfl ?_) | (refine Xg.ev (EvF.loadV rfl rfl (LoadV.whole (te rfl) rfl (List.Mem.head _) rfl)) rfl rfl ?_) | (refine Xg.ev (EvF.extract rfl rfl rfl) rfl rfl ?_) | (refine Xg.st (StF.boxAgg rfl rfl) rfl rfl ?_; rintro _ _ ⟨bx, rfl, rfl⟩))) | (refine Xo.g rfl rfl ?_; (first | (with_reducible refine Xw.tf rfl rfl ?_))))) | (refine XO.done rfl ?_; refine hK _ _ ?_; clear hK K) | (refine XQ.op rfl ?_; (first | ((first | refine Yo.ng rfl ?_); (first | (refine Yg.call (EnF.st rfl (Args.cons rfl (Args.cons rfl Args.nil))) rfl rfl (hI [_]) ?_) | (refine Yg.call (EnF.st rfl (Args.cons rfl (Args.cons rfl Args.nil))) rfl rfl (lclass_spec _ _ _) ?_) | (refine Yg.ev (EvF.move rfl rfl) rfl rfl ?_) | (refine Yg.ev (EvF.assign rfl rfl) rfl rfl ?_) | (refine Yg.ev (EvF.loadV rfl rfl (LoadV.whole (te rfl) rfl (List.Mem.head _) rfl)) rfl rfl ?_) | (refine Yg.ev (EvF.extract rfl rfl rfl) rfl rfl ?_))))) | (refine XQ.done rfl ?_; refine hK _ ?_; clear hK K) | refine X.seq rfl ?_ | refine X.region rfl (fun K hK => ?_) | refine X.regionD rfl mixed (by kernel_rfl) (fun K hK => ?_) | refine X.skip rfl ?_ | refine X.ret rfl ?_ | (refine X.ite rfl rfl (fun hc => ?_); (first | (with_reducible refine Xb.f hc ?_)) <;> clear hc))
          all_goals try (exfalso; contradiction)
          exact ret_one (by first | exact .inr rfl | exact .inl rfl) Tryz.results5 rfl (H' := _) (List.Sublist.refl _) rfl
        · refine Fc.mk (callable Tryz.call5) Tryz.func5 rfl Tryz.ntmps5 rfl ?_; dsimp only [fr]
          repeat' (first | (refine XO.op rfl ?_; (first | ((first | refine Xo.ng rfl ?_ | (refine Xo.g rfl rfl ?_; with_reducible refine Xw.tt ?_) | (refine Xo.g rfl rfl ?_; with_reducible refine Xw.ff ?_)); (first | (refine Xg.call (EnF.st rfl (by (repeat (first | exact Args.nil | refine Args.cons rfl ?_)); done)) rfl rfl (alive_spec _) ?_; rintro _ H9 ⟨rfl, hH9⟩; subst H9) | (refine Xg.call (EnF.st rfl (Args.cons rfl Args.nil)) rfl rfl (hR [_]) ?_; rintro _ H9 ⟨rfl, hH9⟩; subst H9) | (refine Xg.call (EnF.st rfl (by (repeat (first | exact Args.nil | refine Args.cons rfl ?_)); done)) rfl rfl (hP [_]) ?_; rintro _ H9 ⟨rfl, hH9⟩; subst H9) | (refine Xg.ev (notT rfl rfl) rfl rfl ?_) | (refine Xg.ev (EvF.cmp (b := true) rfl rfl rfl (congrArg some (decide_eq_true (by omega)))) rfl rfl ?_) | (refine Xg.ev (EvF.cmp (b := false) rfl rfl rfl (congrArg some (decide_eq_false (by omega)))) rfl rfl ?_) | (refine Xg.ev (EvF.cmp (b := false) rfl rfl rfl (congrArg some (nd_f (by omega)))) rfl rfl ?_) | (refine Xg.ev (EvF.conv rfl rfl int8_und int64_und (by omega) (by omega)) rfl rfl ?_) | (refine Xg.ev (EvF.rem64 rfl rfl rfl (by omega) (by omega)) rfl rfl ?_) | (refine Xg.ev (EvF.loadV rfl rfl (LoadV.own (te rfl) rfl (List.Mem.head _) rfl)) rfl rfl ?_) | (refine Xg.ev (EvF.move rfl rfl) rfl rfl ?_) | (refine Xg.ev (EvF.assign rfl rfl) rfl rfl ?_) | (refine Xg.ev (EvF.pickT rfl rfl rfl) rfl rfl ?_) | (refine Xg.ev (EvF.pickF rfl rfl rfl) rfl rfl ?_) | (refine Xg.ev (EvF.add64 rfl rfl rfl (by omega) (by omega)) rfl rfl ?_) | (refine Xg.ev (EvF.sub64 rfl rfl rfl (by omega) (by omega)) rfl rfl ?_) | (refine Xg.ev (EvF.fieldAddr rfl rfl (te rfl) rfl (te rfl) (by decide)) rfl rfl ?_) | (refine Xg.ev (EvF.loadV rfl rfl (LoadV.whole (te rfl) rfl (List.Mem.head _) rfl)) rfl rfl ?_) | (refine Xg.ev (EvF.extract rfl rfl rfl) rfl rfl ?_) | (refine Xg.st (StF.boxAgg rfl rfl) rfl rfl ?_; rintro _ _ ⟨bx, rfl, rfl⟩))))) | (refine XO.done rfl ?_; refine hK _ _ ?_; clear hK K) | (refine XQ.op rfl ?_; (first | ((first | refine Yo.ng rfl ?_); (first | (refine Yg.call (EnF.st rfl (Args.cons rfl (Args.cons rfl Args.nil))) rfl rfl (hI [_]) ?_) | (refine Yg.call (EnF.st rfl (Args.cons rfl (Args.cons rfl Args.nil))) rfl rfl (lclass_spec _ _ _) ?_) | (refine Yg.ev (EvF.move rfl rfl) rfl rfl ?_) | (refine Yg.ev (EvF.assign rfl rfl) rfl rfl ?_) | (refine Yg.ev (EvF.loadV rfl rfl (LoadV.whole (te rfl) rfl (List.Mem.head _) rfl)) rfl rfl ?_) | (refine Yg.ev (EvF.extract rfl rfl rfl) rfl rfl ?_))))) | (refine XQ.done rfl ?_; refine hK _ ?_; clear hK K) | refine X.seq rfl ?_ | refine X.region rfl (fun K hK => ?_) | refine X.regionD rfl mixed (by kernel_rfl) (fun K hK => ?_) | refine X.skip rfl ?_ | refine X.ret rfl ?_ | (refine X.ite rfl rfl (fun hc => ?_); (first | (with_reducible refine Xb.f hc ?_)) <;> clear hc))
          all_goals try (exfalso; contradiction)
          exact ret_one (by first | exact .inr rfl | exact .inl rfl) Tryz.results5 rfl (H' := _) (List.Sublist.refl _) rfl
    · have hm' : ¬ may T ⟨1 + sd % 9, 1 + s % 9⟩ = true := by rw [hm]; decide
      rw [if_neg hm', if_neg (by decide), if_neg (by decide)] at hP
      rw [if_neg hm', if_neg (by decide)] at hI
      refine Fc.mk (callable Tryz.call5) Tryz.func5 rfl Tryz.ntmps5 rfl ?_; dsimp only [fr]
      repeat' (first | (refine XO.op rfl ?_; (first | ((first | refine Xo.ng rfl ?_ | (refine Xo.g rfl rfl ?_; with_reducible refine Xw.tt ?_) | (refine Xo.g rfl rfl ?_; with_reducible refine Xw.ff ?_)); (first | (refine Xg.call (EnF.st rfl (by (repeat (first | exact Args.nil | refine Args.cons rfl ?_)); done)) rfl rfl (alive_spec _) ?_; rintro _ H9 ⟨rfl, hH9⟩; subst H9) | (refine Xg.call (EnF.st rfl (Args.cons rfl Args.nil)) rfl rfl (hR [_]) ?_; rintro _ H9 ⟨rfl, hH9⟩; subst H9) | (refine Xg.call (EnF.st rfl (by (repeat (first | exact Args.nil | refine Args.cons rfl ?_)); done)) rfl rfl (hP [_]) ?_; rintro _ H9 ⟨rfl, hH9⟩; subst H9) | (refine Xg.ev (notT rfl rfl) rfl rfl ?_) | (refine Xg.ev (EvF.cmp (b := true) rfl rfl rfl (congrArg some (decide_eq_true (by omega)))) rfl rfl ?_) | (refine Xg.ev (EvF.cmp (b := true) rfl rfl rfl (congrArg some (nd_t (by omega)))) rfl rfl ?_) | (refine Xg.ev (EvF.cmp (b := false) rfl rfl rfl (congrArg some (nd_f (by omega)))) rfl rfl ?_) | (refine Xg.ev (EvF.conv rfl rfl int8_und int64_und (by omega) (by omega)) rfl rfl ?_) | (refine Xg.ev (EvF.rem64 rfl rfl rfl (by omega) (by omega)) rfl rfl ?_) | (refine Xg.ev (EvF.move rfl rfl) rfl rfl ?_) | (refine Xg.ev (EvF.assign rfl rfl) rfl rfl ?_) | (refine Xg.ev (EvF.pickT rfl rfl rfl) rfl rfl ?_) | (refine Xg.ev (EvF.pickF rfl rfl rfl) rfl rfl ?_) | (refine Xg.ev (EvF.add64 rfl rfl rfl (by omega) (by omega)) rfl rfl ?_) | (refine Xg.ev (EvF.loadV rfl rfl (LoadV.whole (te rfl) rfl (List.Mem.head _) rfl)) rfl rfl ?_) | (refine Xg.ev (EvF.extract rfl rfl rfl) rfl rfl ?_) | (refine Xg.st (StF.boxAgg rfl rfl) rfl rfl ?_; rintro _ _ ⟨bx, rfl, rfl⟩))))) | (refine XO.done rfl ?_; refine hK _ _ ?_; clear hK K) | (refine XQ.op rfl ?_; (first | ((first | refine Yo.ng rfl ?_); (first | (refine Yg.call (EnF.st rfl (Args.cons rfl (Args.cons rfl Args.nil))) rfl rfl (hI [_]) ?_) | (refine Yg.call (EnF.st rfl (Args.cons rfl (Args.cons rfl Args.nil))) rfl rfl (lclass_spec _ _ _) ?_) | (refine Yg.ev (EvF.move rfl rfl) rfl rfl ?_) | (refine Yg.ev (EvF.assign rfl rfl) rfl rfl ?_) | (refine Yg.ev (EvF.loadV rfl rfl (LoadV.whole (te rfl) rfl (List.Mem.head _) rfl)) rfl rfl ?_) | (refine Yg.ev (EvF.extract rfl rfl rfl) rfl rfl ?_))))) | (refine XQ.done rfl ?_; refine hK _ ?_; clear hK K) | refine X.seq rfl ?_ | refine X.region rfl (fun K hK => ?_) | refine X.regionD rfl mixed (by kernel_rfl) (fun K hK => ?_) | refine X.skip rfl ?_ | refine X.ret rfl ?_ | (refine X.ite rfl rfl (fun hc => ?_); (first | (with_reducible refine Xb.t hc ?_) | (with_reducible refine Xb.f hc ?_)) <;> clear hc))
      all_goals try (exfalso; contradiction)
      exact ret_one (by first | exact .inr rfl | exact .inl rfl) Tryz.results5 rfl (H' := _) (List.Sublist.refl _) rfl
  · have hR : ∀ Z : List Row, _ := fun Z => readyF T p hr (Z ++ H) (hg.sub (fun _ h => List.mem_append_right _ h)) (hs.sub (fun _ h => List.mem_append_right _ h))
    refine Fc.mk (callable Tryz.call5) Tryz.func5 rfl Tryz.ntmps5 rfl ?_; dsimp only [fr]
    repeat' (first | (refine XO.op rfl ?_; (first | ((first | refine Xo.ng rfl ?_); (first | (refine Xg.call (EnF.st rfl (by (repeat (first | exact Args.nil | refine Args.cons rfl ?_)); done)) rfl rfl (alive_spec _) ?_; rintro _ H9 ⟨rfl, hH9⟩; subst H9) | (refine Xg.call (EnF.st rfl (Args.cons rfl Args.nil)) rfl rfl (hR [_]) ?_; rintro _ H9 ⟨rfl, hH9⟩; subst H9) | (refine Xg.ev (notF rfl rfl) rfl rfl ?_) | (refine Xg.ev (EvF.move rfl rfl) rfl rfl ?_) | (refine Xg.ev (EvF.assign rfl rfl) rfl rfl ?_) | (refine Xg.ev (EvF.pickT rfl rfl rfl) rfl rfl ?_) | (refine Xg.ev (EvF.loadV rfl rfl (LoadV.whole (te rfl) rfl (List.Mem.head _) rfl)) rfl rfl ?_) | (refine Xg.st (StF.boxAgg rfl rfl) rfl rfl ?_; rintro _ _ ⟨bx, rfl, rfl⟩))) | (refine Xo.g rfl rfl ?_; (first | (with_reducible refine Xw.tf rfl rfl ?_))))) | (refine XO.done rfl ?_; refine hK _ _ ?_; clear hK K) | refine X.seq rfl ?_ | refine X.region rfl (fun K hK => ?_) | refine X.ret rfl ?_ | (refine X.ite rfl rfl (fun hc => ?_); (first | (with_reducible refine Xb.t hc ?_)) <;> clear hc))
    all_goals try (exfalso; contradiction)
    exact ret_one (by first | exact .inr rfl | exact .inl rfl) Tryz.results5 rfl (H' := _) (List.Sublist.refl _) rfl
end Go.Proofs.YtjejppodhpdckaaGreat
end
section
set_option linter.unusedVariables false
namespace Go.Proofs.YtjejppodhpdckaaGreat
open Go Go.Fw Go.ChangeShapes Go.WideShapes Go.ChangeAt Go.RowKit
set_option linter.unusedVariables false
set_option maxRecDepth 10000
def c8 (l : List Int) : List Value := l.map (Value.int .u8)
section
variable {H : Type} {enc : TypeId × Value → H} {w : World} {base : Nat} {spare : Nat → Bool} {held : Bool} {v : Value} {d : DataW H} {p : List MemPlace} {r : Reach} {b0 : Nat}
theorem u8_wf {n : Int} (h : (Lit.int .u8 n).wf = true) : u8 n := by
  simp [Lit.wf, IntKind.min, IntKind.max, IntKind.signed, IntKind.bits] at h
  exact ⟨by omega, by omega⟩
theorem open_u8 (hv : Value.okWide Tryz.prog w r b0 5 v) (h : DataW.Trod enc Tryz.prog w base spare held 5 v d p) : ∃ n, v = .int .u8 n ∧ u8 n := by
  obtain ⟨n, h1, _, _, h2⟩ := Go.ChangeShapes.open_int Tryz.underlying5 hv h
  exact ⟨n, h1, u8_wf h2⟩
theorem cells_u8 : Tryz.prog.cellsOf 5 = 1 := by kernel_rfl
theorem arr8 {T n : Nat} (hu : Tryz.prog.underlying T = some (.array n 5)) (hc : Tryz.prog.cellsOf T = n) (hv : Value.okWide Tryz.prog w r b0 T v) (h : DataW.Trod enc Tryz.prog w base spare held T v d p) : ∃ l : List Int, v = .agg (c8 l).toArray ∧ l.length = n ∧ ∀ x ∈ l, u8 x := by
  unfold Value.okWide at hv
  rw [hu] at hv
  obtain ⟨cs, rfl, hs, _⟩ := hv
  obtain ⟨fuel, hf⟩ := h
  obtain ⟨xs, m, _, _, hl, hxl, hi⟩ := DataW.trod_array hu hf
  simp only [Value.cells] at hl hi
  rw [hc] at hl hs
  rw [cells_u8] at hi
  have hk : ∀ i, i < n → ∃ q : Int, cs.toList[i]? = some (.int .u8 q) ∧ u8 q := by
    intro i hlt
    have h1 := hi i hlt
    have hx : xs[i]? = some xs[i] := List.getElem?_eq_getElem (by omega)
    rw [hx, Nat.mul_one] at h1
    obtain ⟨q, hq, hw⟩ := trod_i (te rfl) h1
    refine ⟨q, ?_, u8_wf hw⟩
    have h2 := congrArg (·[0]?) hq
    simp only [List.getElem?_take, List.getElem?_drop, Nat.add_zero, Nat.lt_one_iff, if_true, List.getElem?_cons_zero] at h2
    exact h2
  clear hi hf hxl
  have key : ∀ (k : Nat) (l : List Value), l.length = k → (∀ i, i < k → ∃ q : Int, l[i]? = some (.int .u8 q) ∧ u8 q) → ∃ z : List Int, l = c8 z ∧ z.length = k ∧ ∀ x ∈ z, u8 x := by
    intro k
    induction k with
    | zero => intro l hl _; exact ⟨[], List.eq_nil_of_length_eq_zero hl, rfl, fun x hx => absurd hx List.not_mem_nil⟩
    | succ k ih =>
      intro l hl hq
      cases l with
      | nil => cases hl
      | cons a l =>
        obtain ⟨q, h1, h2⟩ := hq 0 (by omega)
        simp only [List.getElem?_cons_zero, Option.some.injEq] at h1
        obtain ⟨z, rfl, hz, hz2⟩ := ih l (by simpa using hl) (fun i hi => by have := hq (i + 1) (by omega); rwa [List.getElem?_cons_succ] at this)
        refine ⟨q :: z, by rw [h1]; rfl, by rw [List.length_cons, hz], fun x hx => ?_⟩
        rcases List.mem_cons.1 hx with rfl | hx
        · exact h2
        · exact hz2 x hx
  obtain ⟨z, h1, h2, h3⟩ := key n cs.toList (by rw [Array.length_toList]; exact hs) hk
  exact ⟨z, by rw [← h1], h2, h3⟩
end
end Go.Proofs.YtjejppodhpdckaaGreat
end
section
set_option linter.unusedVariables false
namespace Go.Proofs.YtjejppodhpdckaaGreat
open Go Go.Fw Go.ChangeShapes Go.WideShapes Go.ChangeAt Go.RowKit
set_option linter.unusedVariables false
set_option maxRecDepth 100000
theorem termsPaid_run (T : Tm) (pT : Pt) (sd : Int) (g : Int) (s : Int) (ask : Bool) (w : World) (hsd : u8 sd) (hg : u8 g) (hs : u8 s) (hT : InTm w T pT) :
    Calls Tryz.prog 5 #[.agg (cTm T pT).toArray, .int .u8 sd, .int .u8 g, .int .u8 s, .bool ask] w fun e w' => e = .returned (.bool true) ∧ Below w.heap.size w w' :=
  Fc.calls (H := rowsTm T pT) (termsPaid_spec T pT sd g s ask hsd hg hs _ (hT.g (fun _ h => h)) (hT.s (fun _ h => h))) (fun r hr => by
    exact hT.ok r hr
  )
theorem termsPaid_lifted (os : Os) (started : os.Started) (H : Type) (enc : TypeId × Value → H) :
    ReturnsInHanded {} Tryz.checked os 5 .any (Rows.termsPaidSpec.pre6 enc Tryz.prog Tryz.f5 Rows.termsPaidRow.domain false) (Rows.termsPaidSpec.post enc Tryz.prog Tryz.f5 false true false false) := by
  refine returnsInHanded_of_change (C := Tryz.checked) ownK started (by kernel_rfl) Tryz.func5
    (ChangeSpec.witness6 (enc := enc) (C := Tryz.checked) false ⟨#[], #[.agg (cTm Tz pz).toArray, .int .u8 0, .int .u8 0, .int .u8 0, .bool false], []⟩ 8 (by kernel_rfl) (by kernel_rfl) (by kernel_rfl) (by kernel_rfl)) ?_
  intro W base args ds gs before hval0 hW hcnd _
  have hval : ∀ (j : Nat) t v, Tryz.f5.params[j]? = some t → args[j]? = some v → Value.okWide Tryz.prog W .any base t v := hval0
  have hW' := hW
  obtain ⟨p, q, hA0, hV, rfl, hfz, hnd⟩ := hW
  have hA : DataW.TrodAll enc Tryz.prog W 0 (fun _ => true) true Tryz.f5.params.toList args.toList ds p := hA0
  rw [Tryz.params5] at hA hval
  obtain ⟨v0, vs0, d0, ds0, p0, q0, hargs, rfl, rfl, h0, r0⟩ := trodAll_cons hA
  obtain ⟨v1, vs1, d1, ds1, p1, q1, rfl, rfl, rfl, h1, r1⟩ := trodAll_cons r0
  obtain ⟨v2, vs2, d2, ds2, p2, q2, rfl, rfl, rfl, h2, r2⟩ := trodAll_cons r1
  obtain ⟨v3, vs3, d3, ds3, p3, q3, rfl, rfl, rfl, h3, r3⟩ := trodAll_cons r2
  obtain ⟨v4, vs4, d4, ds4, p4, q4, rfl, rfl, rfl, h4, r4⟩ := trodAll_cons r3
  obtain ⟨rfl, rfl, rfl⟩ := trodAll_nil r4
  obtain rfl : args = #[v0, v1, v2, v3, v4] := by cases args; simp_all
  obtain ⟨rfl, rfl⟩ := trodVars_none hV
  have lt : ∀ {t v d ps}, DataW.Trod enc Tryz.prog W 0 (fun _ => true) true t v d ps → ∀ x ∈ ps, x.block < W.heap.size := fun h => by obtain ⟨m, hm⟩ := h; exact DataW.trod_lt m _ _ _ hm
  obtain ⟨T, pT, rfl, hT⟩ := open_terms (hval 0 _ v0 rfl rfl) h0
  obtain ⟨sd, rfl, hsd⟩ := open_u8 (hval 1 _ v1 rfl rfl) h1
  obtain ⟨g, rfl, hg⟩ := open_u8 (hval 2 _ v2 rfl rfl) h2
  obtain ⟨s, rfl, hs⟩ := open_u8 (hval 3 _ v3 rfl rfl) h3
  obtain ⟨ask, rfl, _, _⟩ := open_bool Tryz.underlying4 (hval 4 _ v4 rfl rfl) h4
  clear hA0 hval0
  refine (termsPaid_run T pT sd g s ask W hsd hg hs hT).mono fun e W' ⟨he, bel⟩ => ?_
  subst he
  exact ⟨_, rfl, _, _, _, [], _, [], hW', trodAll_mk1 (shut_bool Tryz.underlying4 _), (trodAll_cons_mk (Below.trod laidO (by kernel_rfl) (of_decide_eq_true (by kernel_rfl)) h0 bel (lt h0)) (trodAll_cons_mk (Below.trod laidO (by kernel_rfl) (of_decide_eq_true (by kernel_rfl)) h1 bel (lt h1)) (trodAll_cons_mk (Below.trod laidO (by kernel_rfl) (of_decide_eq_true (by kernel_rfl)) h2 bel (lt h2)) (trodAll_cons_mk (Below.trod laidO (by kernel_rfl) (of_decide_eq_true (by kernel_rfl)) h3 bel (lt h3)) (trodAll_cons_mk (Below.trod laidO (by kernel_rfl) (of_decide_eq_true (by kernel_rfl)) h4 bel (lt h4)) trodAll_mk0))))), rfl, bel.frame _, fun h => by cases h⟩
theorem termsPaid_over : Rows.termsPaidRow.holds Tryz.pinned (OpenSpec.ofChange Rows.termsPaidSpec) :=
  OpenClaim.holds_of_wide 5 Tryz.f5 rfl rfl rfl rfl rfl rfl rfl ⟨rfl, rfl, rfl, rfl, rfl⟩ rfl rfl rfl rfl rfl (by kernel_rfl) Tryz.func5 (by kernel_rfl)
    (of_decide_eq_true (by kernel_rfl)) (by unfold Func.isWrapper; first | (rw [if_pos (by decide +kernel)]; kernel_rfl) | (rw [if_neg (by decide +kernel)]; exact ⟨rfl, rfl⟩))
    (fun os started H enc _ => termsPaid_lifted os started H enc)
theorem termsPaid_proved : Rows.TermsPaidSaid := termsPaid_over
#print axioms termsPaid_proved
end Go.Proofs.YtjejppodhpdckaaGreat
end
