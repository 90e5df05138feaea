/- TermsAsk: for all terms and numbers the law returns true (the receiver never loses more than is told, whatever the true grade is; by the other choice it may lose as much or more; the examples are as told), and each argument reads afterwards as before. No condition. -/
import Derived.Test.YtcjlegjchllgjaaGreatW06
import Derived.OpenShut
section
set_option linter.unusedVariables false
set_option linter.unusedSimpArgs false
namespace Go.Proofs.YtcjlegjchllgjaaGreat
open Go Go.Fw
set_option maxRecDepth 10000
theorem litDy (d1 d2 d3 : Dy) : fillL (fun i => some (i * 3, 3)) ((Array.range (3 * 3)).map (fun x => (Value.agg #[.int .i64 0, .slice none 0 0, .slice none 0 0]).cells[x % (Value.agg #[.int .i64 0, .slice none 0 0, .slice none 0 0]).cells.size]!)).toList [(0, .agg (cDy d1).toArray), (1, .agg (cDy d2).toArray), (2, .agg (cDy d3).toArray)] = some ([d1, d2, d3].flatMap cDy) := by kernel_rfl
theorem litCl (d1 d2 d3 : Cl) : fillL (fun i => some (i * 2, 2)) ((Array.range (3 * 2)).map (fun x => (Value.agg #[.int .i64 0, .int .i64 0]).cells[x % (Value.agg #[.int .i64 0, .int .i64 0]).cells.size]!)).toList [(0, .agg (cCl d1).toArray), (1, .agg (cCl d2).toArray), (2, .agg (cCl d3).toArray)] = some ([d1, d2, d3].flatMap cCl) := by kernel_rfl
set_option maxHeartbeats 16000000 in
theorem alive2 (H : List Row) : X Tryz.prog 295 (csnd (csnd (csnd (csnd (csnd (csnd (csnd (csnd (csnd (cof Tryz.f13)))))))))) [] H (retX Tryz.prog Tryz.f13 (fun v H' => v = .bool true ∧ H' = H)) := by
  repeat' (first | (refine XO.op rfl ?_; (first | ((first | refine Xo.ng rfl ?_); (first | (refine Xg.call (EnF.st rfl (Args.cons rfl Args.nil)) rfl rfl (cotton_spec _ _) ?_; rintro _ _ ⟨b1, b2, rfl, rfl⟩) | (refine Xg.call (EnF.st rfl (Args.cons rfl Args.nil)) rfl rfl (day_spec _ _) ?_; rintro _ _ ⟨d1, d2, rfl, rfl⟩) | (refine Xg.call (EnF.st rfl (Args.cons rfl (Args.cons rfl Args.nil))) rfl rfl (lclass_spec _ _ _) ?_; rintro _ H9 ⟨rfl, hH9⟩; subst H9) | (refine Xg.call (EnF.st rfl (Args.cons rfl (Args.cons rfl Args.nil))) rfl rfl (x10 _ _ _ _ (ctnOk 12 b1 b2 _ (List.Mem.tail _ (List.Mem.tail _ (List.Mem.tail _ (List.Mem.head _)))) (List.Mem.tail _ (List.Mem.tail _ (List.Mem.head _)))) (dyEOk 510 d1 d2 _ (List.Mem.tail _ (List.Mem.head _)) (List.Mem.head _))) ?_; rintro _ H9 ⟨rfl, hH9⟩; subst H9) | (refine Xg.call (EnF.st rfl (Args.cons rfl (Args.cons rfl (Args.cons rfl Args.nil)))) rfl rfl (x11 _ _ _ _ (ctnOk 12 b1 b2 _ (List.Mem.tail _ (List.Mem.tail _ (List.Mem.tail _ (List.Mem.head _)))) (List.Mem.tail _ (List.Mem.tail _ (List.Mem.head _)))) (dyEOk 510 d1 d2 _ (List.Mem.tail _ (List.Mem.head _)) (List.Mem.head _))) ?_; rintro _ H9 ⟨rfl, hH9⟩; subst H9) | (refine Xg.ev (EvF.move rfl rfl) rfl rfl ?_) | (refine Xg.ev (EvF.assign rfl rfl) rfl rfl ?_) | (refine Xg.ev (EvF.extract rfl rfl rfl) rfl rfl ?_) | (refine Xg.st (StF.alloc rfl Tryz.zeroValue30 rfl) rfl rfl ?_; rintro _ _ ⟨bx, rfl, rfl⟩) | (refine Xg.st0 (StF.storeAll (i := 0) rfl rfl rfl (te rfl) rfl rfl rfl rfl) rfl ?_; rintro _ _ ⟨rfl, rfl⟩; dsimp only [List.set]))))) | (refine XO.done rfl ?_; refine hK _ _ ?_; clear hK K) | refine X.seq rfl ?_ | refine X.region rfl (fun K hK => ?_))
  rename_i e1 e2 e3 e4
  obtain ⟨b18, hb⟩ : ∃ b, b = bx := ⟨_, rfl⟩
  rw [← hb]
  clear hb
  repeat' (first | (refine XO.op rfl ?_; (first | ((first | refine Xo.ng rfl ?_); (first | (refine Xg.st (StF.buildLit (len := 3) (vs := [(0, .agg (cDy (dyE 510 (some ⟨e1, 0, none⟩) (some ⟨e2, 0, none⟩))).toArray), (1, .agg (cDy (dyE 505 (some ⟨e3, 0, none⟩) (some ⟨e4, 0, none⟩))).toArray), (2, .agg (cDy (dyE 520 (some ⟨d1, 0, none⟩) (some ⟨d2, 0, none⟩))).toArray)]) rfl elDy Tryz.zeroValue48 (ArgsP.cons rfl (ArgsP.cons rfl (ArgsP.cons rfl ArgsP.nil))) (litDy _ _ _) rfl rfl rfl) rfl rfl ?_; rintro _ _ ⟨l1, rfl, rfl⟩) | (refine Xg.call (EnF.st rfl (Args.cons rfl (Args.cons rfl Args.nil))) rfl rfl (x12 _ (some ⟨e1, 0, none⟩) (some ⟨e2, 0, none⟩) (some ⟨e3, 0, none⟩) (some ⟨e4, 0, none⟩) (some ⟨d1, 0, none⟩) (some ⟨d2, 0, none⟩) _ _ _ (ctnOk 12 b1 b2 _ (List.Mem.tail _ (List.Mem.tail _ (List.Mem.tail _ (List.Mem.tail _ (List.Mem.tail _ (List.Mem.tail _ (List.Mem.tail _ (List.Mem.tail _ (List.Mem.head _))))))))) (List.Mem.tail _ (List.Mem.tail _ (List.Mem.tail _ (List.Mem.tail _ (List.Mem.tail _ (List.Mem.tail _ (List.Mem.tail _ (List.Mem.head _))))))))) ⟨SlE.ofRow (List.Mem.head _) (fun _ _ => rfl), fun d hd => by rcases List.mem_cons.1 hd with rfl | hd; exact dyEOk 510 e1 e2 _ (List.Mem.tail _ (List.Mem.tail _ (List.Mem.tail _ (List.Mem.tail _ (List.Mem.tail _ (List.Mem.tail _ (List.Mem.head _))))))) (List.Mem.tail _ (List.Mem.tail _ (List.Mem.tail _ (List.Mem.tail _ (List.Mem.tail _ (List.Mem.head _)))))); rcases List.mem_cons.1 hd with rfl | hd; exact dyEOk 505 e3 e4 _ (List.Mem.tail _ (List.Mem.tail _ (List.Mem.tail _ (List.Mem.tail _ (List.Mem.head _))))) (List.Mem.tail _ (List.Mem.tail _ (List.Mem.tail _ (List.Mem.head _)))); rw [List.mem_singleton.1 hd]; exact dyEOk 520 d1 d2 _ (List.Mem.tail _ (List.Mem.tail _ (List.Mem.head _))) (List.Mem.tail _ (List.Mem.head _))⟩) ?_; rintro _ H9 ⟨rfl, hH9⟩; subst H9) | (refine Xg.call (EnF.st rfl (Args.cons rfl Args.nil)) rfl rfl (cotton_spec _ _) ?_; rintro _ _ ⟨b1, b2, rfl, rfl⟩) | (refine Xg.call (EnF.st rfl (Args.cons rfl (Args.cons rfl Args.nil))) rfl rfl (lclass_spec _ _ _) ?_; rintro _ H9 ⟨rfl, hH9⟩; subst H9) | (refine Xg.st (StF.buildLit (len := 3) (vs := [(0, .agg (cCl ⟨4, 5⟩).toArray), (1, .agg (cCl ⟨7, 5⟩).toArray), (2, .agg (cCl ⟨5, 4⟩).toArray)]) rfl elCl Tryz.zeroValue27 (ArgsP.cons rfl (ArgsP.cons rfl (ArgsP.cons rfl ArgsP.nil))) (litCl _ _ _) rfl rfl rfl) rfl rfl ?_; rintro _ _ ⟨l2, rfl, rfl⟩) | (refine Xg.call (EnF.st rfl (Args.cons rfl (Args.cons rfl (Args.cons rfl Args.nil)))) rfl rfl (x13 _ _ _ _ (ctnOk 12 b1 b2 _ (List.Mem.tail _ (List.Mem.tail _ (List.Mem.head _))) (List.Mem.tail _ (List.Mem.head _))) (SlE.ofRow (List.Mem.head _) (fun _ _ => rfl))) ?_; rintro _ _ ⟨br, qr, rfl, rfl⟩) | (refine Xg.call (EnF.st rfl (Args.cons rfl (Args.cons rfl Args.nil))) rfl rfl (x14 _ _ (ctnOk 12 b1 b2 _ (List.Mem.tail _ (List.Mem.head _)) (List.Mem.head _))) ?_; rintro _ _ ⟨z1, z2, z3, z4, rfl, rfl⟩) | (refine Xg.call (EnF.st rfl (Args.cons rfl (Args.cons rfl Args.nil))) rfl rfl (x15 _ _ (ctnOk 12 b1 b2 _ (List.Mem.tail _ (List.Mem.head _)) (List.Mem.head _))) ?_; rintro _ _ ⟨t1, k1, t2, k2, t3, k3, t4, k4, rfl, rfl⟩) | (refine Xg.call (EnF.st rfl (Args.cons rfl (Args.cons rfl Args.nil))) rfl rfl (x16 _ _ _ ⟨SlE.ofRow (List.Mem.tail _ (List.Mem.tail _ (List.Mem.head _))) (fun _ _ => rfl), SlE.ofRow (List.Mem.tail _ (List.Mem.tail _ (List.Mem.tail _ (List.Mem.head _)))) (fun _ _ => rfl), Nat.le_of_ble_eq_true rfl, Nat.le_of_ble_eq_true rfl⟩ ⟨SlE.ofRow (List.Mem.tail _ (List.Mem.tail _ (List.Mem.tail _ (List.Mem.tail _ (List.Mem.head _))))) (fun _ _ => rfl), SlE.ofRow (List.Mem.tail _ (List.Mem.tail _ (List.Mem.tail _ (List.Mem.tail _ (List.Mem.tail _ (List.Mem.head _)))))) (fun _ _ => rfl), Nat.le_of_ble_eq_true rfl, Nat.le_of_ble_eq_true rfl⟩) ?_; rintro _ _ ⟨j1, m1, j2, m2, rfl, rfl⟩) | (refine Xg.call (EnF.st rfl (Args.cons rfl (Args.cons rfl (Args.cons rfl Args.nil)))) rfl rfl (x17 _ _ (ctnOk 12 b1 b2 _ (List.Mem.tail _ (List.Mem.head _)) (List.Mem.head _))) ?_; rintro _ _ ⟨s1, n1, s2, n2, rfl, rfl⟩) | (refine Xg.ev (EvF.move rfl rfl) rfl rfl ?_) | (refine Xg.ev (EvF.assign rfl rfl) rfl rfl ?_) | (refine Xg.ev (EvF.loadV rfl rfl (LoadV.whole (te rfl) rfl (List.Mem.head _) rfl)) rfl rfl ?_) | (refine Xg.ev (EvF.loadV rfl rfl (LoadV.whole (te rfl) rfl (List.Mem.tail _ (List.Mem.head _)) rfl)) rfl rfl ?_) | (refine Xg.ev (EvF.extract rfl rfl rfl) rfl rfl ?_) | (refine Xg.st (StF.alloc rfl Tryz.zeroValue30 rfl) rfl rfl ?_; rintro _ _ ⟨bx, rfl, rfl⟩) | (refine Xg.st (StF.alloc rfl Tryz.zeroValue32 rfl) rfl rfl ?_; rintro _ _ ⟨bx, rfl, rfl⟩) | (refine Xg.st0 (StF.storeAll (i := 0) rfl rfl rfl (te rfl) rfl rfl rfl rfl) rfl ?_; rintro _ _ ⟨rfl, rfl⟩; dsimp only [List.set]) | (refine Xg.st0 (StF.storeAll (i := 1) rfl rfl rfl (te rfl) rfl rfl rfl rfl) rfl ?_; rintro _ _ ⟨rfl, rfl⟩; dsimp only [List.set]))))) | (refine XO.done rfl ?_; refine hK _ _ ?_; clear hK K) | refine X.seq rfl ?_ | refine X.region rfl (fun K hK => ?_))
  exact X.weak (F' := _) (H' := _) (by (repeat (first | exact Sub.nil _ | refine Sub.cons rfl ?_)); done) (by (repeat (first | exact List.Sublist.refl _ | apply List.Sublist.cons_cons | apply List.Sublist.cons)); done) (alive3 _ _ _ _ _ _ _ _ _ _ _ _ _ _ _ _ _ _ _ _ _ _ _ _ H)
end Go.Proofs.YtcjlegjchllgjaaGreat
end
section
set_option linter.unusedVariables false
set_option linter.unusedSimpArgs false
namespace Go.Proofs.YtcjlegjchllgjaaGreat
open Go Go.Fw
set_option maxRecDepth 10000
set_option maxHeartbeats 16000000 in
theorem alive_spec (H : List Row) : Fc Tryz.prog 13 [] H (fun v H' => v = .bool true ∧ H' = H) := by
  refine Fc.mk (callable Tryz.call13) Tryz.func13 rfl Tryz.ntmps13 rfl ?_; dsimp only [fr]
  repeat' (first | (refine XO.op rfl ?_; (first | ((first | refine Xo.ng rfl ?_); (first | (refine Xg.call (EnF.st rfl (Args.cons rfl Args.nil)) rfl rfl (cotton_spec _ _) ?_; rintro _ _ ⟨b1, b2, rfl, rfl⟩) | (refine Xg.call (EnF.st rfl (Args.cons rfl (Args.cons rfl Args.nil))) rfl rfl (lclass_spec _ _ _) ?_; rintro _ H9 ⟨rfl, hH9⟩; subst H9) | (refine Xg.call (EnF.st rfl (Args.cons rfl (Args.cons rfl Args.nil))) rfl rfl (lspan_spec _ _ _) ?_; rintro _ H9 ⟨rfl, hH9⟩; subst H9) | (refine Xg.call (EnF.st rfl (Args.cons rfl (Args.cons rfl Args.nil))) rfl rfl (x1 _ _ (ctnOk 12 b1 b2 _ (List.Mem.tail _ (List.Mem.head _)) (List.Mem.head _))) ?_; rintro _ H9 ⟨rfl, hH9⟩; subst H9) | (refine Xg.call (EnF.st rfl (Args.cons rfl (Args.cons rfl (Args.cons rfl Args.nil)))) rfl rfl (x2 _ _ (ctnOk 12 b1 b2 _ (List.Mem.tail _ (List.Mem.head _)) (List.Mem.head _))) ?_; rintro _ H9 ⟨rfl, hH9⟩; subst H9) | (refine Xg.call (EnF.st rfl (by (repeat (first | exact Args.nil | refine Args.cons rfl ?_)); done)) rfl rfl (x3 _ _ (ctnOk 12 b1 b2 _ (List.Mem.tail _ (List.Mem.head _)) (List.Mem.head _))) ?_; rintro _ H9 ⟨rfl, hH9⟩; subst H9) | (refine Xg.call (EnF.st rfl (Args.cons rfl (Args.cons rfl (Args.cons rfl Args.nil)))) rfl rfl (x4 _ _ (ctnOk 12 b1 b2 _ (List.Mem.tail _ (List.Mem.head _)) (List.Mem.head _))) ?_; rintro _ H9 ⟨rfl, hH9⟩; subst H9) | (refine Xg.call (EnF.st rfl (by (repeat (first | exact Args.nil | refine Args.cons rfl ?_)); done)) rfl rfl (x5 _ _ (ctnOk 12 b1 b2 _ (List.Mem.tail _ (List.Mem.head _)) (List.Mem.head _))) ?_; rintro _ H9 ⟨rfl, hH9⟩; subst H9) | (refine Xg.call (EnF.st rfl (by (repeat (first | exact Args.nil | refine Args.cons rfl ?_)); done)) rfl rfl (x6 _ _ (ctnOk 12 b1 b2 _ (List.Mem.tail _ (List.Mem.head _)) (List.Mem.head _))) ?_; rintro _ H9 ⟨rfl, hH9⟩; subst H9) | (refine Xg.call (EnF.st rfl (Args.cons rfl (Args.cons rfl (Args.cons rfl Args.nil)))) rfl rfl (x7 _ _ (ctnOk 40 b1 b2 _ (List.Mem.tail _ (List.Mem.head _)) (List.Mem.head _))) ?_; rintro _ H9 ⟨rfl, hH9⟩; subst H9) | (refine Xg.ev (EvF.move rfl rfl) rfl rfl ?_) | (refine Xg.ev (EvF.assign rfl rfl) rfl rfl ?_) | (refine Xg.ev (EvF.extract rfl rfl rfl) rfl rfl ?_) | (refine Xg.st (StF.alloc rfl Tryz.zeroValue30 rfl) rfl rfl ?_; rintro _ _ ⟨bx, rfl, rfl⟩) | (refine Xg.st0 (StF.storeAll (i := 0) rfl rfl rfl (te rfl) rfl rfl rfl rfl) rfl ?_; rintro _ _ ⟨rfl, rfl⟩; dsimp only [List.set]))))) | (refine XO.done rfl ?_; refine hK _ _ ?_; clear hK K) | refine X.seq rfl ?_ | refine X.region rfl (fun K hK => ?_))
  obtain ⟨b7, hb7⟩ : ∃ b, b = bx := ⟨_, rfl⟩
  rw [← hb7]
  clear hb7
  refine X.weak (F' := [(0, .bool false), (1, .int .i64 425), (2, .int .i64 0), (3, .bool true), (4, .int .i64 0), (5, .int .u8 1), (6, .int .i64 0), (7, .pointer (some ⟨b7, 0, none⟩)), (8, .int .i64 0), (9, .int .i64 428), (10, .int .i64 440), (11, .int .i64 0), (12, .bool true), (13, .int .i64 12), (14, .int .i64 0), (15, .int .i64 5), (16, .int .i64 475), (17, .int .i64 0)]) (H' := ⟨b7, 0, cSp ⟨425, 530⟩, some 30, 2⟩ :: H) (by (repeat (first | exact Sub.nil _ | refine Sub.cons rfl ?_)); done) (by (repeat (first | exact List.Sublist.refl _ | apply List.Sublist.cons_cons | apply List.Sublist.cons)); done) ?_
  have key : ∀ (F : FS) (H' : List Row), H.Sublist H' → X Tryz.prog 295 (csnd (csnd (csnd (csnd (csnd (csnd (csnd (csnd (csnd (cof Tryz.f13)))))))))) F H' (retX Tryz.prog Tryz.f13 (fun v H' => v = .bool true ∧ H' = H)) := fun F H' hs => X.weak (F' := []) (H' := H) (Sub.nil _) hs (alive2 H)
  generalize hcc : (csnd (csnd (csnd (csnd (csnd (csnd (csnd (csnd (csnd (cof Tryz.f13)))))))))) = cc at key ⊢
  repeat' (first | (refine XO.op rfl ?_; (first | ((first | refine Xo.ng rfl ?_); (first | (refine Xg.ev (EvF.assign rfl rfl) rfl rfl ?_))))) | (refine XO.done rfl ?_; refine hK _ _ ?_; clear hK K) | (refine XQ.op rfl ?_; (first | ((first | refine Yo.ng rfl ?_ | (refine Yo.g rfl rfl ?_; with_reducible refine Yw.ff ?_)); (first | (refine Yg.ev (EvF.cmp (b := false) rfl rfl rfl rfl) rfl rfl ?_) | (refine Yg.ev (EvF.eqSt (r := true) (b := false) rfl rfl rfl (by kernel_rfl) (eqSpT ⟨425, 530⟩) rfl) rfl rfl ?_) | (refine Yg.call (EnF.st rfl (Args.cons rfl (Args.cons rfl Args.nil))) rfl rfl (lspan_spec 425 530 _) ?_) | (refine Yg.ev (EvF.move rfl rfl) rfl rfl ?_) | (refine Yg.ev (EvF.pickT rfl rfl rfl) rfl rfl ?_) | (refine Yg.ev (EvF.pickF rfl rfl rfl) rfl rfl ?_) | (refine Yg.ev (EvF.not rfl rfl) rfl rfl ?_) | (refine Yg.ev (EvF.loadV rfl rfl (LoadV.whole (te rfl) rfl (List.Mem.head _) rfl)) rfl rfl ?_))) | (refine Yo.g rfl rfl ?_; (first | (with_reducible refine Yw.tf rfl rfl ?_) | (with_reducible refine Yw.caseB (fun h => ?_) (fun h => ?_) <;> simp only [h, decide_true, decide_false, Bool.not_true, Bool.not_false, and_self, and_true, true_and, and_false, false_and]))))) | (refine XQ.done rfl ?_; refine hK _ ?_; clear hK K) | refine X.seq rfl ?_ | refine X.region rfl (fun K hK => ?_) | refine X.regionD rfl mixed (by kernel_rfl) (fun K hK => ?_) | refine X.skip rfl ?_ | refine X.ret rfl ?_ | (refine X.ite rfl rfl (fun hc => ?_); (first | (with_reducible refine Xb.t hc ?_) | (with_reducible refine Xb.f hc ?_)) <;> clear hc))
  all_goals try (exfalso; contradiction)
  all_goals exact key _ _ (List.sublist_cons_self _ _)
end Go.Proofs.YtcjlegjchllgjaaGreat
end
section
set_option linter.unusedVariables false
set_option linter.unusedSimpArgs false
namespace Go.Proofs.YtcjlegjchllgjaaGreat
open Go Go.Fw
set_option maxRecDepth 10000
theorem notT {n : Nat} {H : List Row} {F : FS} {o : Oper} {T : TypeId} {x : Operand} (h : o.op = .unOp .not T x) (hx : evF F x = some (.bool true)) : EvF Tryz.prog n H F o (.bool false) := EvF.not h hx
theorem notF {n : Nat} {H : List Row} {F : FS} {o : Oper} {T : TypeId} {x : Operand} (h : o.op = .unOp .not T x) (hx : evF F x = some (.bool false)) : EvF Tryz.prog n H F o (.bool true) := EvF.not h hx
theorem nd_t {p : Prop} [Decidable p] (h : ¬ p) : (!decide p) = true := by rw [decide_eq_false h]; rfl
theorem nd_f {p : Prop} [Decidable p] (h : p) : (!decide p) = false := by rw [decide_eq_true h]; rfl
theorem falls_at : ∀ {l : List Int}, falls l → ∀ {i j : Nat} {a b : Int}, i ≤ j → l[i]? = some a → l[j]? = some b → b ≤ a
  | [], _, i, _, _, _, _, h, _ => by simp at h
  | [x], _, i, j, a, b, _, h1, h2 => by
    cases i with
    | zero => cases j with
      | zero => simp at h1 h2; omega
      | succ j => simp at h2
    | succ i => simp at h1
  | x :: y :: l, h, i, j, a, b, hij, h1, h2 => by
    have hh : y ≤ x ∧ falls (y :: l) := h
    cases j with
    | zero => obtain rfl : i = 0 := by omega
              simp at h1 h2; omega
    | succ j =>
      rw [List.getElem?_cons_succ] at h2
      cases i with
      | zero =>
        simp at h1
        have := falls_at hh.2 (Nat.zero_le j) (by simp : (y :: l)[0]? = some y) h2
        omega
      | succ i =>
        rw [List.getElem?_cons_succ] at h1
        exact falls_at hh.2 (by omega) h1 h2
theorem grows_at : ∀ {l : List Int}, grows l → ∀ {i j : Nat} {a b : Int}, i ≤ j → l[i]? = some a → l[j]? = some b → a ≤ b
  | [], _, i, _, _, _, _, h, _ => by simp at h
  | [x], _, i, j, a, b, _, h1, h2 => by
    cases i with
    | zero => cases j with
      | zero => simp at h1 h2; omega
      | succ j => simp at h2
    | succ i => simp at h1
  | x :: y :: l, h, i, j, a, b, hij, h1, h2 => by
    have hh : x ≤ y ∧ grows (y :: l) := h
    cases j with
    | zero => obtain rfl : i = 0 := by omega
              simp at h1 h2; omega
    | succ j =>
      rw [List.getElem?_cons_succ] at h2
      cases i with
      | zero =>
        simp at h1
        have := grows_at hh.2 (Nat.zero_le j) (by simp : (y :: l)[0]? = some y) h2
        omega
      | succ i =>
        rw [List.getElem?_cons_succ] at h1
        exact grows_at hh.2 (by omega) h1 h2
/-- a better grade, or a longer staple, is worth no less -/
theorem val_mono {T : Tm} (hok : tmOk T) {g g' s s' : Int} (hg : 1 ≤ g ∧ g ≤ g' ∧ g' ≤ 9) (hs : 1 ≤ s' ∧ s' ≤ s ∧ s ≤ 9) : val T g' s' ≤ val T g s := by
  unfold val
  have h1 := falls_at hok.ord.1 (i := (g - 1).toNat) (j := (g' - 1).toNat) (by omega) (at1_get (by omega) hok.gr.1) (at1_get (by omega) hok.gr.1)
  have h2 := grows_at hok.ord.2 (i := (s' - 1).toNat) (j := (s - 1).toNat) (by omega) (at1_get (by omega) hok.st.1) (at1_get (by omega) hok.st.1)
  omega
theorem val_pos {T : Tm} (hok : tmOk T) {g s : Int} (hg : 1 ≤ g ∧ g ≤ T.worst) (hs : T.short ≤ s ∧ s ≤ 9) : 1 ≤ val T g s := by
  have h1 := hok.least
  have h2 := hok.cls
  have := val_mono hok (g := g) (g' := T.worst) (s := s) (s' := T.short) (by omega) (by omega)
  omega
theorem nines (x : Int) : 1 ≤ 1 + x % 9 ∧ 1 + x % 9 ≤ 9 := by omega
end Go.Proofs.YtcjlegjchllgjaaGreat
end
section
set_option linter.unusedVariables false
set_option linter.unusedSimpArgs false
namespace Go.Proofs.YtcjlegjchllgjaaGreat
open Go Go.Fw
set_option maxRecDepth 10000
set_option maxHeartbeats 16000000 in
theorem llost_spec (T : Tm) (p : Pt) (sd g s : Int) (ask : Bool) (H : List Row) (hT : TmOk H T p) (hok : tmOk T) (h1 : 1 ≤ sd ∧ sd ≤ 9) (h2 : 1 ≤ g ∧ g ≤ 9) (h3 : 1 ≤ s ∧ s ≤ 9) (hm : may T ⟨sd, s⟩ = true) :
    Fc Tryz.prog 38 [.agg (cTm T p).toArray, .int .i64 sd, .int .i64 g, .int .i64 s, .bool ask] H (fun v H' => v = .tuple #[.int .i64 (los T sd s ask g), .bool true] ∧ H' = H) := by
  have b1 := val_bd hok sd s
  have b2 := val_bd hok g s
  have b3 := hok.num
  have hE : payE T sd g s = 0 := by unfold payE; rw [if_pos hok, if_pos ⟨h1, h2⟩, if_pos h3, if_pos hm]
  have hP := kPays_spec T p sd g s ask
  unfold payG payP at hP
  rw [hE, if_pos rfl, if_pos rfl] at hP
  have hL : los T sd s ask g = (stl T ⟨sd, s⟩ ⟨g, s⟩ ask).pays - (stl T ⟨sd, s⟩ ⟨g, s⟩ ask).has := rfl
  have hb : (-2000 ≤ (stl T ⟨sd, s⟩ ⟨g, s⟩ ask).pays ∧ (stl T ⟨sd, s⟩ ⟨g, s⟩ ask).pays ≤ 1003000) ∧ (((ask = false ∨ g ≤ sd ∨ may T ⟨g, s⟩ = true) ∧ (stl T ⟨sd, s⟩ ⟨g, s⟩ ask).has = val T g s) ∨ (ask = true ∧ sd < g ∧ may T ⟨g, s⟩ = false ∧ (stl T ⟨sd, s⟩ ⟨g, s⟩ ask).has = 0)) := by
    have hmy : may T ⟨g, s⟩ = decide (g ≤ T.worst ∧ T.short ≤ s) := rfl
    unfold stl
    dsimp only
    cases ask
    · rw [if_pos rfl]; exact ⟨by dsimp only; omega, .inl ⟨.inl rfl, rfl⟩⟩
    · rw [if_neg (by decide)]
      by_cases q1 : g ≤ sd
      · rw [if_pos q1]; exact ⟨by dsimp only; omega, .inl ⟨.inr (.inl q1), rfl⟩⟩
      · rw [if_neg q1]
        by_cases q2 : g ≤ T.worst ∧ T.short ≤ s
        · rw [if_pos q2]; exact ⟨by dsimp only; omega, .inl ⟨.inr (.inr (by rw [hmy]; exact decide_eq_true q2)), rfl⟩⟩
        · rw [if_neg q2]; exact ⟨by dsimp only; omega, .inr ⟨rfl, by omega, by rw [hmy]; exact decide_eq_false q2, rfl⟩⟩
  generalize stl T ⟨sd, s⟩ ⟨g, s⟩ ask = o at hP hL hb
  rw [hL]
  clear hL hE
  obtain ⟨hb, hc⟩ := hb
  have hV : ∀ H', TmOk H' T p → Fc Tryz.prog 42 [.agg (cTm T p).toArray, .agg (cCl ⟨g, s⟩).toArray] H' (fun v H'' => v = .int .i64 (val T g s) ∧ H'' = H') := fun H' h => rvalue_spec T p ⟨g, s⟩ H' h hok.gr hok.st (by omega) h2 h3
  rcases hc with ⟨hc, hh⟩ | ⟨rfl, hc, hd, hh⟩
  · rw [hh]
    have hM : ∀ H', Fc Tryz.prog 37 [.agg (cTm T p).toArray, .agg (cCl ⟨g, s⟩).toArray] H' (fun v H'' => v = .bool (may T ⟨g, s⟩) ∧ H'' = H') := fun H' => rmay_spec T p ⟨g, s⟩ H'
    generalize may T ⟨g, s⟩ = my at hc hM
    cases ask
    · refine Fc.mk (callable Tryz.call38) Tryz.func38 rfl Tryz.ntmps38 rfl ?_; dsimp only [fr]
      repeat' (first | (refine XO.op rfl ?_; (first | ((first | refine Xo.ng rfl ?_ | (refine Xo.g rfl rfl ?_; with_reducible refine Xw.ff ?_)); (first | (refine Xg.call (EnF.st rfl (Args.cons rfl (Args.cons rfl (Args.cons rfl (Args.cons rfl (Args.cons rfl Args.nil)))))) rfl rfl (hP _ (hT.sub (fun _ h => by repeat (first | exact h | apply List.Mem.tail)))) ?_; rintro _ _ ⟨rfl, rfl⟩) | (refine Xg.call (EnF.st rfl (Args.cons rfl (Args.cons rfl Args.nil))) rfl rfl (lclass_spec _ _ _) ?_; rintro _ H9 ⟨rfl, hH9⟩; subst H9) | (refine Xg.call (EnF.st rfl (Args.cons rfl (Args.cons rfl Args.nil))) rfl rfl (hV _ (hT.sub (fun _ h => by repeat (first | exact h | apply List.Mem.tail)))) ?_; rintro _ H9 ⟨rfl, hH9⟩; subst H9) | (refine Xg.ev (EvF.sub64 rfl rfl rfl (by omega) (by omega)) rfl rfl ?_) | (refine Xg.ev (EvF.cmp (b := true) rfl rfl rfl (congrArg some (decide_eq_true (by omega)))) rfl rfl ?_) | (refine Xg.ev (EvF.cmp (b := false) rfl rfl rfl (congrArg some (decide_eq_false (by omega)))) rfl rfl ?_) | (refine Xg.ev (EvF.move rfl rfl) rfl rfl ?_) | (refine Xg.ev (EvF.assign rfl rfl) rfl rfl ?_) | (refine Xg.ev (EvF.pickF rfl rfl rfl) rfl rfl ?_) | (refine Xg.ev (EvF.loadV rfl rfl (LoadV.whole (te rfl) rfl (List.Mem.head _) rfl)) rfl rfl ?_) | (refine Xg.ev (EvF.loadV rfl rfl (LoadV.whole (te rfl) rfl (List.Mem.tail _ (List.Mem.head _)) rfl)) rfl rfl ?_) | (refine Xg.ev (EvF.extract rfl rfl rfl) rfl rfl ?_) | (refine Xg.st (StF.boxAgg rfl rfl) rfl rfl ?_; rintro _ _ ⟨bx, rfl, rfl⟩) | (refine Xg.st (StF.alloc rfl Tryz.zeroValue30 rfl) rfl rfl ?_; rintro _ _ ⟨bx, rfl, rfl⟩) | (refine Xg.st0 (StF.storeAll (i := 0) rfl rfl rfl (te rfl) rfl rfl rfl rfl) rfl ?_; rintro _ _ ⟨rfl, rfl⟩; dsimp only [List.set]))) | (refine Xo.g rfl rfl ?_; (first | (with_reducible refine Xw.ft rfl rfl ?_))))) | (refine XO.done rfl ?_; refine hK _ _ ?_; clear hK K) | refine X.seq rfl ?_ | refine X.region rfl (fun K hK => ?_) | refine X.skip rfl ?_ | refine X.ret rfl ?_ | (refine X.ite rfl rfl (fun hc => ?_); (first | (with_reducible refine Xb.f hc ?_)) <;> clear hc))
      all_goals try (exfalso; contradiction)
      refine ret_two (by first | exact .inr rfl | exact .inl rfl) Tryz.results38 rfl rfl (H' := H) (by (repeat (first | exact List.Sublist.refl _ | apply List.Sublist.cons)); done) ?_; simp only [and_true, true_and]
    · by_cases hg : sd < g
      · have hy : my = true := by rcases hc with h | h | h; cases h; omega; exact h
        subst hy
        refine Fc.mk (callable Tryz.call38) Tryz.func38 rfl Tryz.ntmps38 rfl ?_; dsimp only [fr]
        repeat' (first | (refine XO.op rfl ?_; (first | ((first | refine Xo.ng rfl ?_ | (refine Xo.g rfl rfl ?_; with_reducible refine Xw.tt ?_) | (refine Xo.g rfl rfl ?_; with_reducible refine Xw.ff ?_)); (first | (refine Xg.call (EnF.st rfl (Args.cons rfl (Args.cons rfl (Args.cons rfl (Args.cons rfl (Args.cons rfl Args.nil)))))) rfl rfl (hP _ (hT.sub (fun _ h => by repeat (first | exact h | apply List.Mem.tail)))) ?_; rintro _ _ ⟨rfl, rfl⟩) | (refine Xg.call (EnF.st rfl (Args.cons rfl (Args.cons rfl Args.nil))) rfl rfl (lclass_spec _ _ _) ?_; rintro _ H9 ⟨rfl, hH9⟩; subst H9) | (refine Xg.call (EnF.st rfl (Args.cons rfl (Args.cons rfl Args.nil))) rfl rfl (hM _) ?_; rintro _ H9 ⟨rfl, hH9⟩; subst H9) | (refine Xg.call (EnF.st rfl (Args.cons rfl (Args.cons rfl Args.nil))) rfl rfl (hV _ (hT.sub (fun _ h => by repeat (first | exact h | apply List.Mem.tail)))) ?_; rintro _ H9 ⟨rfl, hH9⟩; subst H9) | (refine Xg.ev (EvF.sub64 rfl rfl rfl (by omega) (by omega)) rfl rfl ?_) | (refine Xg.ev (notT rfl rfl) rfl rfl ?_) | (refine Xg.ev (EvF.cmp (b := true) rfl rfl rfl (congrArg some (decide_eq_true (by omega)))) rfl rfl ?_) | (refine Xg.ev (EvF.cmp (b := false) rfl rfl rfl (congrArg some (decide_eq_false (by omega)))) rfl rfl ?_) | (refine Xg.ev (EvF.move rfl rfl) rfl rfl ?_) | (refine Xg.ev (EvF.assign rfl rfl) rfl rfl ?_) | (refine Xg.ev (EvF.pickT rfl rfl rfl) rfl rfl ?_) | (refine Xg.ev (EvF.pickF rfl rfl rfl) rfl rfl ?_) | (refine Xg.ev (EvF.loadV rfl rfl (LoadV.whole (te rfl) rfl (List.Mem.head _) rfl)) rfl rfl ?_) | (refine Xg.ev (EvF.loadV rfl rfl (LoadV.whole (te rfl) rfl (List.Mem.tail _ (List.Mem.head _)) rfl)) rfl rfl ?_) | (refine Xg.ev (EvF.extract rfl rfl rfl) rfl rfl ?_) | (refine Xg.st (StF.boxAgg rfl rfl) rfl rfl ?_; rintro _ _ ⟨bx, rfl, rfl⟩) | (refine Xg.st (StF.alloc rfl Tryz.zeroValue30 rfl) rfl rfl ?_; rintro _ _ ⟨bx, rfl, rfl⟩) | (refine Xg.st0 (StF.storeAll (i := 0) rfl rfl rfl (te rfl) rfl rfl rfl rfl) rfl ?_; rintro _ _ ⟨rfl, rfl⟩; dsimp only [List.set]))))) | (refine XO.done rfl ?_; refine hK _ _ ?_; clear hK K) | refine X.seq rfl ?_ | refine X.region rfl (fun K hK => ?_) | refine X.skip rfl ?_ | refine X.ret rfl ?_ | (refine X.ite rfl rfl (fun hc => ?_); (first | (with_reducible refine Xb.f hc ?_)) <;> clear hc))
        all_goals try (exfalso; contradiction)
        refine ret_two (by first | exact .inr rfl | exact .inl rfl) Tryz.results38 rfl rfl (H' := H) (by (repeat (first | exact List.Sublist.refl _ | apply List.Sublist.cons)); done) ?_; simp only [and_true, true_and]
      · refine Fc.mk (callable Tryz.call38) Tryz.func38 rfl Tryz.ntmps38 rfl ?_; dsimp only [fr]
        repeat' (first | (refine XO.op rfl ?_; (first | ((first | refine Xo.ng rfl ?_ | (refine Xo.g rfl rfl ?_; with_reducible refine Xw.tt ?_) | (refine Xo.g rfl rfl ?_; with_reducible refine Xw.ff ?_)); (first | (refine Xg.call (EnF.st rfl (Args.cons rfl (Args.cons rfl (Args.cons rfl (Args.cons rfl (Args.cons rfl Args.nil)))))) rfl rfl (hP _ (hT.sub (fun _ h => by repeat (first | exact h | apply List.Mem.tail)))) ?_; rintro _ _ ⟨rfl, rfl⟩) | (refine Xg.call (EnF.st rfl (Args.cons rfl (Args.cons rfl Args.nil))) rfl rfl (lclass_spec _ _ _) ?_; rintro _ H9 ⟨rfl, hH9⟩; subst H9) | (refine Xg.call (EnF.st rfl (Args.cons rfl (Args.cons rfl Args.nil))) rfl rfl (hV _ (hT.sub (fun _ h => by repeat (first | exact h | apply List.Mem.tail)))) ?_; rintro _ H9 ⟨rfl, hH9⟩; subst H9) | (refine Xg.ev (EvF.sub64 rfl rfl rfl (by omega) (by omega)) rfl rfl ?_) | (refine Xg.ev (EvF.cmp (b := true) rfl rfl rfl (congrArg some (decide_eq_true (by omega)))) rfl rfl ?_) | (refine Xg.ev (EvF.cmp (b := false) rfl rfl rfl (congrArg some (decide_eq_false (by omega)))) rfl rfl ?_) | (refine Xg.ev (EvF.move rfl rfl) rfl rfl ?_) | (refine Xg.ev (EvF.assign rfl rfl) rfl rfl ?_) | (refine Xg.ev (EvF.pickT rfl rfl rfl) rfl rfl ?_) | (refine Xg.ev (EvF.pickF rfl rfl rfl) rfl rfl ?_) | (refine Xg.ev (EvF.loadV rfl rfl (LoadV.whole (te rfl) rfl (List.Mem.head _) rfl)) rfl rfl ?_) | (refine Xg.ev (EvF.loadV rfl rfl (LoadV.whole (te rfl) rfl (List.Mem.tail _ (List.Mem.head _)) rfl)) rfl rfl ?_) | (refine Xg.ev (EvF.extract rfl rfl rfl) rfl rfl ?_) | (refine Xg.st (StF.boxAgg rfl rfl) rfl rfl ?_; rintro _ _ ⟨bx, rfl, rfl⟩) | (refine Xg.st (StF.alloc rfl Tryz.zeroValue30 rfl) rfl rfl ?_; rintro _ _ ⟨bx, rfl, rfl⟩) | (refine Xg.st0 (StF.storeAll (i := 0) rfl rfl rfl (te rfl) rfl rfl rfl rfl) rfl ?_; rintro _ _ ⟨rfl, rfl⟩; dsimp only [List.set]))) | (refine Xo.g rfl rfl ?_; (first | (with_reducible refine Xw.ft rfl rfl ?_))))) | (refine XO.done rfl ?_; refine hK _ _ ?_; clear hK K) | refine X.seq rfl ?_ | refine X.region rfl (fun K hK => ?_) | refine X.skip rfl ?_ | refine X.ret rfl ?_ | (refine X.ite rfl rfl (fun hc => ?_); (first | (with_reducible refine Xb.f hc ?_)) <;> clear hc))
        all_goals try (exfalso; contradiction)
        refine ret_two (by first | exact .inr rfl | exact .inl rfl) Tryz.results38 rfl rfl (H' := H) (by (repeat (first | exact List.Sublist.refl _ | apply List.Sublist.cons)); done) ?_; simp only [and_true, true_and]
  · rw [hh]
    have hM : ∀ H', Fc Tryz.prog 37 [.agg (cTm T p).toArray, .agg (cCl ⟨g, s⟩).toArray] H' (fun v H'' => v = .bool false ∧ H'' = H') := fun H' => by have := rmay_spec T p ⟨g, s⟩ H'; rwa [hd] at this
    rw [Int.sub_zero]
    refine Fc.mk (callable Tryz.call38) Tryz.func38 rfl Tryz.ntmps38 rfl ?_; dsimp only [fr]
    repeat' (first | (refine XO.op rfl ?_; (first | ((first | refine Xo.ng rfl ?_ | (refine Xo.g rfl rfl ?_; with_reducible refine Xw.tt ?_)); (first | (refine Xg.call (EnF.st rfl (Args.cons rfl (Args.cons rfl (Args.cons rfl (Args.cons rfl (Args.cons rfl Args.nil)))))) rfl rfl (hP _ (hT.sub (fun _ h => by repeat (first | exact h | apply List.Mem.tail)))) ?_; rintro _ _ ⟨rfl, rfl⟩) | (refine Xg.call (EnF.st rfl (Args.cons rfl (Args.cons rfl Args.nil))) rfl rfl (lclass_spec _ _ _) ?_; rintro _ H9 ⟨rfl, hH9⟩; subst H9) | (refine Xg.call (EnF.st rfl (Args.cons rfl (Args.cons rfl Args.nil))) rfl rfl (hM _) ?_; rintro _ H9 ⟨rfl, hH9⟩; subst H9) | (refine Xg.ev (notF rfl rfl) rfl rfl ?_) | (refine Xg.ev (EvF.cmp (b := true) rfl rfl rfl (congrArg some (decide_eq_true (by omega)))) rfl rfl ?_) | (refine Xg.ev (EvF.move rfl rfl) rfl rfl ?_) | (refine Xg.ev (EvF.assign rfl rfl) rfl rfl ?_) | (refine Xg.ev (EvF.pickT rfl rfl rfl) rfl rfl ?_) | (refine Xg.ev (EvF.loadV rfl rfl (LoadV.whole (te rfl) rfl (List.Mem.head _) rfl)) rfl rfl ?_) | (refine Xg.ev (EvF.loadV rfl rfl (LoadV.whole (te rfl) rfl (List.Mem.tail _ (List.Mem.head _)) rfl)) rfl rfl ?_) | (refine Xg.ev (EvF.extract rfl rfl rfl) rfl rfl ?_) | (refine Xg.st (StF.boxAgg rfl rfl) rfl rfl ?_; rintro _ _ ⟨bx, rfl, rfl⟩) | (refine Xg.st (StF.alloc rfl Tryz.zeroValue30 rfl) rfl rfl ?_; rintro _ _ ⟨bx, rfl, rfl⟩) | (refine Xg.st0 (StF.storeAll (i := 0) rfl rfl rfl (te rfl) rfl rfl rfl rfl) rfl ?_; rintro _ _ ⟨rfl, rfl⟩; dsimp only [List.set]))))) | (refine XO.done rfl ?_; refine hK _ _ ?_; clear hK K) | refine X.seq rfl ?_ | refine X.region rfl (fun K hK => ?_) | refine X.ret rfl ?_ | (refine X.ite rfl rfl (fun hc => ?_); (first | (with_reducible refine Xb.t hc ?_)) <;> clear hc))
    all_goals try (exfalso; contradiction)
    refine ret_two (by first | exact .inr rfl | exact .inl rfl) Tryz.results38 rfl rfl (H' := H) (by (repeat (first | exact List.Sublist.refl _ | apply List.Sublist.cons)); done) ?_; simp only [and_true, true_and]
end Go.Proofs.YtcjlegjchllgjaaGreat
end
section
set_option linter.unusedVariables false
set_option linter.unusedSimpArgs false
namespace Go.Proofs.YtcjlegjchllgjaaGreat
open Go Go.Fw
set_option maxRecDepth 10000
theorem ir_in {a b g : Int} (h : a ≤ g ∧ g ≤ b) : g ∈ ir a b := by
  have := List.mem_of_getElem? (ir_get (a := a) (b := b) (k := (g - a).toNat) (by omega))
  rwa [show a + ((g - a).toNat : Int) = g by omega] at this
theorem ir_ne {α : Type} {a b : Int} {f : Int → α} (h : a ≤ b) : (ir a b).map f ≠ [] := by
  intro e
  have := ir_in (a := a) (b := b) (g := a) ⟨Int.le_refl _, h⟩
  rw [List.map_eq_nil_iff.1 e] at this
  cases this
end Go.Proofs.YtcjlegjchllgjaaGreat
end
section
set_option linter.unusedVariables false
set_option linter.unusedSimpArgs false
namespace Go.Proofs.YtcjlegjchllgjaaGreat
open Go Go.Fw
set_option maxRecDepth 10000
theorem los_le {T : Tm} {sd s g : Int} {a : Bool} {gs : Sp} (hg : gs.lo ≤ g ∧ g ≤ gs.hi) : los T sd s a g ≤ lsL T sd s gs a :=
  (maxL_spec (ir_ne (f := los T sd s a) (by omega))).2 _ (List.mem_map.2 ⟨g, ir_in hg, rfl⟩)
theorem los_ex (T : Tm) (sd s : Int) (a : Bool) {gs : Sp} (h : gs.lo ≤ gs.hi) : ∃ g, (gs.lo ≤ g ∧ g ≤ gs.hi) ∧ los T sd s a g = lsL T sd s gs a := by
  obtain ⟨g, hg, e⟩ := List.mem_map.1 (maxL_spec (ir_ne (f := los T sd s a) h)).1
  exact ⟨g, ir_bd hg, e⟩
theorem shN_is (T : Tm) (sd s : Int) (gs : Sp) : shN T sd s gs = lsL T sd s gs (shA T sd s gs) ∧ shN T sd s gs ≤ lsL T sd s gs (!shA T sd s gs) := by
  unfold shN shA
  by_cases h : lsL T sd s gs true < lsL T sd s gs false
  · rw [if_pos h, decide_eq_true h]; exact ⟨rfl, by show _ ≤ lsL T sd s gs false; omega⟩
  · rw [if_neg h, decide_eq_false h]; exact ⟨rfl, by show _ ≤ lsL T sd s gs true; omega⟩
/-- another look is asked for only where something may be lost by it -/
theorem shN_nn {T : Tm} (hok : tmOk T) {sd s : Int} {gs : Sp} (h : gs.lo ≤ gs.hi) (ha : shA T sd s gs = true) : 0 ≤ shN T sd s gs := by
  have hlt := of_decide_eq_true ha
  have e : shN T sd s gs = lsL T sd s gs true := by unfold shN; rw [if_pos hlt]
  rw [e]
  obtain ⟨g, hg, e1⟩ := los_ex T sd s false h
  have h2 : los T sd s true g ≤ lsL T sd s gs true := los_le hg
  have hn := hok.num
  apply Decidable.byContradiction
  intro hc
  unfold los stl at e1 h2
  rw [if_pos rfl] at e1
  rw [if_neg (by decide)] at h2
  dsimp only at e1 h2
  by_cases q1 : g ≤ sd
  · rw [if_pos q1] at h2; dsimp only at h2; omega
  · rw [if_neg q1] at h2
    by_cases q2 : g ≤ T.worst ∧ T.short ≤ s
    · rw [if_pos q2] at h2; dsimp only at h2; omega
    · rw [if_neg q2] at h2; dsimp only at h2; omega
end Go.Proofs.YtcjlegjchllgjaaGreat
end
section
set_option linter.unusedVariables false
set_option linter.unusedSimpArgs false
namespace Go.Proofs.YtcjlegjchllgjaaGreat
open Go Go.Fw
set_option maxRecDepth 10000
theorem in_allC {l : Lo} {c : Cl} (hg : l.g1 ≤ c.g ∧ c.g ≤ l.g2) (hs : l.s1 ≤ c.s ∧ c.s ≤ l.s2) : c ∈ allC l := by
  unfold allC allI
  exact List.mem_flatMap.2 ⟨c.g, ir_in hg, List.mem_map.2 ⟨c.s, ir_in hs, rfl⟩⟩
theorem kno_mem {T : Tm} {l : Lo} {m : Int} {c : Cl} (h1 : l.g1 ≤ l.g2) (h2 : l.s1 ≤ l.s2) (hc : c ∈ allC l) : (knoV T l m = 0 ∨ knoV T l m = 1 ∨ knoV T l m = 2) ∧ (knoV T l m = 2 → qM T m c = true) ∧ (knoV T l m = 0 → qM T m c = false) := by
  rw [knoV_all h1 h2]
  by_cases ha : (allC l).all (qM T m) = true
  · rw [if_pos ha]
    exact ⟨.inr (.inr rfl), fun _ => List.all_eq_true.1 ha c hc, fun h => absurd h (by decide)⟩
  · rw [if_neg ha]
    by_cases hb : (allC l).any (qM T m) = true
    · rw [if_pos hb]; exact ⟨.inr (.inl rfl), fun h => absurd h (by decide), fun h => absurd h (by decide)⟩
    · rw [if_neg hb]
      refine ⟨.inl rfl, fun h => absurd h (by decide), fun _ => ?_⟩
      cases hq : qM T m c
      · rfl
      · exact absurd (List.any_eq_true.2 ⟨c, hc, hq⟩) hb
theorem ir_self (a : Int) : ir a a = [a] := by
  unfold ir
  rw [show (a - a + 1).toNat = 1 by omega]
  simp
theorem kno_one (T : Tm) (m : Int) (c : Cl) : knoV T (lo1 c) m = if qM T m c = true then 2 else 0 := by
  rw [knoV_all (Int.le_refl _) (Int.le_refl _)]
  have e : allC (lo1 c) = [c] := by
    unfold allC allI rowA lo1
    rw [ir_self, ir_self]; rfl
  rw [e]
  cases hq : qM T m c <;> simp [hq]
theorem cls_mem {T : Tm} {l : Lo} {c : Cl} (h : c ∈ cls T l) : (l.g1 ≤ c.g ∧ c.g ≤ l.g2) ∧ (l.s1 ≤ c.s ∧ c.s ≤ l.s2) ∧ may T c = true := by
  rw [cls_all] at h
  obtain ⟨h, hm⟩ := List.mem_filter.1 h
  unfold allC allI at h
  obtain ⟨g, hg, h⟩ := List.mem_flatMap.1 h
  obtain ⟨s, hs, rfl⟩ := List.mem_map.1 h
  exact ⟨ir_bd hg, ir_bd hs, hm⟩
theorem rng_facts {T : Tm} {l : Lo} (h : cls T l ≠ []) : (∀ c ∈ cls T l, (rng T l).lo ≤ val T c.g c.s ∧ val T c.g c.s ≤ (rng T l).hi) ∧ (∃ c ∈ cls T l, val T c.g c.s = (rng T l).lo) ∧ (∃ c ∈ cls T l, val T c.g c.s = (rng T l).hi) := by
  have hv : vals T l ≠ [] := by unfold vals; intro e; exact h (List.map_eq_nil_iff.1 e)
  have a := minL_spec hv
  have b := maxL_spec hv
  refine ⟨fun c hc => ⟨a.2 _ (List.mem_map.2 ⟨c, hc, rfl⟩), b.2 _ (List.mem_map.2 ⟨c, hc, rfl⟩)⟩, ?_, ?_⟩
  · obtain ⟨c, hc, e⟩ := List.mem_map.1 a.1; exact ⟨c, hc, e⟩
  · obtain ⟨c, hc, e⟩ := List.mem_map.1 b.1; exact ⟨c, hc, e⟩
end Go.Proofs.YtcjlegjchllgjaaGreat
end
section
set_option linter.unusedVariables false
namespace Go.Proofs.YtcjlegjchllgjaaGreat
open Go Go.Fw Go.ChangeShapes Go.WideShapes Go.ChangeAt Go.RowKit
set_option linter.unusedVariables false
set_option maxRecDepth 10000
def c8 (l : List Int) : List Value := l.map (Value.int .u8)
section
variable {H : Type} {enc : TypeId × Value → H} {w : World} {base : Nat} {spare : Nat → Bool} {held : Bool} {v : Value} {d : DataW H} {p : List MemPlace} {r : Reach} {b0 : Nat}
theorem u8_wf {n : Int} (h : (Lit.int .u8 n).wf = true) : u8 n := by
  simp [Lit.wf, IntKind.min, IntKind.max, IntKind.signed, IntKind.bits] at h
  exact ⟨by omega, by omega⟩
theorem open_u8 (hv : Value.okWide Tryz.prog w r b0 5 v) (h : DataW.Trod enc Tryz.prog w base spare held 5 v d p) : ∃ n, v = .int .u8 n ∧ u8 n := by
  obtain ⟨n, h1, _, _, h2⟩ := Go.ChangeShapes.open_int Tryz.underlying5 hv h
  exact ⟨n, h1, u8_wf h2⟩
theorem cells_u8 : Tryz.prog.cellsOf 5 = 1 := by kernel_rfl
theorem arr8 {T n : Nat} (hu : Tryz.prog.underlying T = some (.array n 5)) (hc : Tryz.prog.cellsOf T = n) (hv : Value.okWide Tryz.prog w r b0 T v) (h : DataW.Trod enc Tryz.prog w base spare held T v d p) : ∃ l : List Int, v = .agg (c8 l).toArray ∧ l.length = n ∧ ∀ x ∈ l, u8 x := by
  unfold Value.okWide at hv
  rw [hu] at hv
  obtain ⟨cs, rfl, hs, _⟩ := hv
  obtain ⟨fuel, hf⟩ := h
  obtain ⟨xs, m, _, _, hl, hxl, hi⟩ := DataW.trod_array hu hf
  simp only [Value.cells] at hl hi
  rw [hc] at hl hs
  rw [cells_u8] at hi
  have hk : ∀ i, i < n → ∃ q : Int, cs.toList[i]? = some (.int .u8 q) ∧ u8 q := by
    intro i hlt
    have h1 := hi i hlt
    have hx : xs[i]? = some xs[i] := List.getElem?_eq_getElem (by omega)
    rw [hx, Nat.mul_one] at h1
    obtain ⟨q, hq, hw⟩ := trod_i (te rfl) h1
    refine ⟨q, ?_, u8_wf hw⟩
    have h2 := congrArg (·[0]?) hq
    simp only [List.getElem?_take, List.getElem?_drop, Nat.add_zero, Nat.lt_one_iff, if_true, List.getElem?_cons_zero] at h2
    exact h2
  clear hi hf hxl
  have key : ∀ (k : Nat) (l : List Value), l.length = k → (∀ i, i < k → ∃ q : Int, l[i]? = some (.int .u8 q) ∧ u8 q) → ∃ z : List Int, l = c8 z ∧ z.length = k ∧ ∀ x ∈ z, u8 x := by
    intro k
    induction k with
    | zero => intro l hl _; exact ⟨[], List.eq_nil_of_length_eq_zero hl, rfl, fun x hx => absurd hx List.not_mem_nil⟩
    | succ k ih =>
      intro l hl hq
      cases l with
      | nil => cases hl
      | cons a l =>
        obtain ⟨q, h1, h2⟩ := hq 0 (by omega)
        simp only [List.getElem?_cons_zero, Option.some.injEq] at h1
        obtain ⟨z, rfl, hz, hz2⟩ := ih l (by simpa using hl) (fun i hi => by have := hq (i + 1) (by omega); rwa [List.getElem?_cons_succ] at this)
        refine ⟨q :: z, by rw [h1]; rfl, by rw [List.length_cons, hz], fun x hx => ?_⟩
        rcases List.mem_cons.1 hx with rfl | hx
        · exact h2
        · exact hz2 x hx
  obtain ⟨z, h1, h2, h3⟩ := key n cs.toList (by rw [Array.length_toList]; exact hs) hk
  exact ⟨z, by rw [← h1], h2, h3⟩
end
end Go.Proofs.YtcjlegjchllgjaaGreat
end
section
set_option linter.unusedVariables false
set_option linter.unusedSimpArgs false
namespace Go.Proofs.YtcjlegjchllgjaaGreat
open Go Go.Fw
set_option maxRecDepth 10000
def tsAa : List TOp := [⟨some 34, [], [], []⟩, ⟨some 35, [0], [0], []⟩, ⟨some 36, [0, 1], [1], []⟩, ⟨some 37, [0, 1, 2], [2], []⟩, ⟨some 38, [0, 1, 2, 3], [3], []⟩, ⟨some 39, [], [], []⟩, ⟨some 40, [5], [5], []⟩, ⟨some 41, [], [], []⟩, ⟨some 42, [7], [7], []⟩, ⟨some 43, [5, 6, 7, 8], [6, 8], []⟩, ⟨some 44, [], [], []⟩, ⟨some 45, [10], [10], []⟩, ⟨some 46, [10, 11], [11], []⟩, ⟨some 47, [10, 11, 12], [12], []⟩, ⟨some 11, [], [], []⟩, ⟨some 10, [0, 1, 2, 3, 4, 5, 6, 7, 8, 9, 14], [4], []⟩, ⟨none, [0, 1, 2, 3, 4, 5, 6, 7, 8, 9, 14, 15], [14, 9], [14]⟩, ⟨some 12, [0, 1, 2, 3, 4, 5, 6, 7, 8, 9, 10, 11, 12, 13, 14, 15, 16], [13], []⟩]
def valAa (b4 b5 : Nat) (a b c s w : Int) (k : Nat) (env : Env) : Value :=
  match k with
  | 0 => .pointer (some ⟨b5, 0, none⟩)
  | 1 => .int .u8 a
  | 2 => .int .i64 a
  | 3 => .int .i64 (a % 9)
  | 4 => .int .i64 (1 + (a % 9))
  | 5 => .pointer (some ⟨b5, 1, none⟩)
  | 6 => .int .u8 b
  | 7 => .pointer (some ⟨b5, 2, none⟩)
  | 8 => .int .u8 c
  | 9 => .agg (cSp (smS b c)).toArray
  | 10 => .int .u8 s
  | 11 => .int .i64 s
  | 12 => .int .i64 (s % 9)
  | 13 => .int .i64 (1 + (s % 9))
  | 14 => .pointer (some ⟨(env 14).1, 0, none⟩)
  | 15 => .int .i64 (1 + (a % 9))
  | 16 => undef
  | 17 => .int .i64 (1 + (s % 9))
  | _ => undef
def rowsAa (b4 b5 : Nat) (a b c s w : Int) (k : Nat) (env : Env) : List Row :=
  match k with
  | 14 => [⟨(env 14).1, 0, cSp ⟨0, 0⟩, some 30, 2⟩]
  | 16 => [⟨(env 14).1, 0, cSp (smS b c), some 30, 2⟩]
  | _ => []
theorem locAa (b4 b5 : Nat) (a b c s w : Int) : ∀ k env i q9, i ≠ k → (tAt tsAa k).sup.contains i = false → valAa b4 b5 a b c s w k (upd env i q9) = valAa b4 b5 a b c s w k env ∧ rowsAa b4 b5 a b c s w k (upd env i q9) = rowsAa b4 b5 a b c s w k env := by
  intro k env i q hk hs
  have hu : ∀ j, j ≠ i → upd env i q j = env j := fun j hj => by unfold upd; rw [if_neg hj]
  match k, hk, hs with
  | 0, _, _ => exact ⟨rfl, rfl⟩
  | 1, _, _ => exact ⟨rfl, rfl⟩
  | 2, _, _ => exact ⟨rfl, rfl⟩
  | 3, _, _ => exact ⟨rfl, rfl⟩
  | 4, _, _ => exact ⟨rfl, rfl⟩
  | 5, _, _ => exact ⟨rfl, rfl⟩
  | 6, _, _ => exact ⟨rfl, rfl⟩
  | 7, _, _ => exact ⟨rfl, rfl⟩
  | 8, _, _ => exact ⟨rfl, rfl⟩
  | 9, _, _ => exact ⟨rfl, rfl⟩
  | 10, _, _ => exact ⟨rfl, rfl⟩
  | 11, _, _ => exact ⟨rfl, rfl⟩
  | 12, _, _ => exact ⟨rfl, rfl⟩
  | 13, _, _ => exact ⟨rfl, rfl⟩
  | 14, hk, hs => exact ⟨by simp only [valAa, hu 14 (fun e => hk e.symm)], by simp only [rowsAa, hu 14 (fun e => hk e.symm)]⟩
  | 15, _, _ => exact ⟨rfl, rfl⟩
  | 16, hk, hs => exact ⟨by simp only [valAa, hu 14 (by rintro rfl; cases hs)], by simp only [rowsAa, hu 14 (by rintro rfl; cases hs)]⟩
  | 17, _, _ => exact ⟨rfl, rfl⟩
  | _ + 18, _, _ => exact ⟨rfl, rfl⟩
def tsAb : List TOp := [⟨some 59, [], [], []⟩, ⟨some 60, [0], [0], []⟩, ⟨some 61, [0, 1], [], []⟩, ⟨some 62, [0, 1, 2], [2], []⟩, ⟨some 63, [0, 1, 2, 3], [1, 3], []⟩, ⟨some 64, [0, 1, 2, 3, 4], [4], []⟩, ⟨some 65, [0, 1, 2, 3, 4, 5], [], []⟩, ⟨some 66, [0, 1, 2, 3, 4, 5], [], []⟩, ⟨some 67, [0, 1, 2, 3, 4, 5], [], []⟩, ⟨some 68, [0, 1, 2, 3, 4, 5, 7, 8], [7, 8], []⟩, ⟨some 69, [0, 1, 2, 3, 4, 5, 6, 7, 8, 9], [6, 9], []⟩, ⟨some 70, [0, 1, 2, 3, 4, 5, 6, 7, 8, 9, 10], [10], []⟩, ⟨some 71, [0, 1, 2, 3, 4, 5, 6, 7, 8, 9, 10, 11], [5, 11], []⟩, ⟨some 8, [0, 1, 2, 3, 4, 5, 6, 7, 8, 9, 10, 11, 12], [12], []⟩]
def valAb (b4 : Nat) (T : Tm) (p : Pt) (sd y : Int) (k : Nat) (env : Env) : Value :=
  match k with
  | 0 => .bool true
  | 1 => .bool true
  | 2 => gt (!true) (.int .i64 6)
  | 3 => gt (!true) (.bool true)
  | 4 => .bool (true && true)
  | 5 => .bool (true && true)
  | 6 => gt (!(true && true)) (.agg (cTm T p).toArray)
  | 7 => gt (!(true && true)) (.int .i64 sd)
  | 8 => gt (!(true && true)) (.int .i64 y)
  | 9 => gt (!(true && true)) (.agg (cCl ⟨sd, y⟩).toArray)
  | 10 => gt (!(true && true)) (.bool false)
  | 11 => gt (!(true && true)) (.bool (!false))
  | 12 => .bool ((true && true) && !false)
  | 13 => .bool ((true && true) && !false)
  | _ => undef
def rowsAb (b4 : Nat) (T : Tm) (p : Pt) (sd y : Int) (k : Nat) (env : Env) : List Row :=
  match k with
  | _ => []
theorem locAb (b4 : Nat) (T : Tm) (p : Pt) (sd y : Int) : ∀ k env i q9, i ≠ k → (tAt tsAb k).sup.contains i = false → valAb b4 T p sd y k (upd env i q9) = valAb b4 T p sd y k env ∧ rowsAb b4 T p sd y k (upd env i q9) = rowsAb b4 T p sd y k env := by
  intro k env i q hk hs
  have hu : ∀ j, j ≠ i → upd env i q j = env j := fun j hj => by unfold upd; rw [if_neg hj]
  match k, hk, hs with
  | 0, _, _ => exact ⟨rfl, rfl⟩
  | 1, _, _ => exact ⟨rfl, rfl⟩
  | 2, _, _ => exact ⟨rfl, rfl⟩
  | 3, _, _ => exact ⟨rfl, rfl⟩
  | 4, _, _ => exact ⟨rfl, rfl⟩
  | 5, _, _ => exact ⟨rfl, rfl⟩
  | 6, _, _ => exact ⟨rfl, rfl⟩
  | 7, _, _ => exact ⟨rfl, rfl⟩
  | 8, _, _ => exact ⟨rfl, rfl⟩
  | 9, _, _ => exact ⟨rfl, rfl⟩
  | 10, _, _ => exact ⟨rfl, rfl⟩
  | 11, _, _ => exact ⟨rfl, rfl⟩
  | 12, _, _ => exact ⟨rfl, rfl⟩
  | 13, _, _ => exact ⟨rfl, rfl⟩
  | _ + 14, _, _ => exact ⟨rfl, rfl⟩
def tsAc : List TOp := [⟨some 123, [], [], []⟩, ⟨some 124, [], [], []⟩, ⟨some 125, [], [], []⟩, ⟨some 126, [], [], []⟩, ⟨some 127, [2, 3], [2, 3], []⟩, ⟨some 128, [], [], []⟩, ⟨some 129, [], [], []⟩, ⟨some 130, [0, 1, 2, 3, 4, 5, 6], [0, 1, 4, 5, 6], []⟩, ⟨some 122, [0, 1, 2, 3, 4, 5, 6, 7], [7], []⟩, ⟨some 131, [0, 1, 2, 3, 4, 5, 6, 7, 8], [8], []⟩, ⟨some 132, [0, 1, 2, 3, 4, 5, 6, 7, 8], [8], []⟩, ⟨some 23, [0, 1, 2, 3, 4, 5, 6, 7, 8, 9], [9], []⟩, ⟨some 24, [0, 1, 2, 3, 4, 5, 6, 7, 8, 9, 10, 11], [10], []⟩]
def valAc (b4 b11 : Nat) (T : Tm) (p : Pt) (x : Sp) (sd y loss w n : Int) (ask : Bool) (k : Nat) (env : Env) : Value :=
  match k with
  | 0 => .agg (cTm T p).toArray
  | 1 => .int .i64 sd
  | 2 => .agg (cSp x).toArray
  | 3 => .int .u8 w
  | 4 => .int .i64 (pkI x w)
  | 5 => .int .i64 y
  | 6 => .bool ask
  | 7 => .tuple #[.int .i64 n, .bool true]
  | 8 => .tuple #[.int .i64 n, .bool true]
  | 9 => .int .i64 n
  | 10 => .bool true
  | 11 => .int .i64 n
  | 12 => .bool true
  | _ => undef
def rowsAc (b4 b11 : Nat) (T : Tm) (p : Pt) (x : Sp) (sd y loss w n : Int) (ask : Bool) (k : Nat) (env : Env) : List Row :=
  match k with
  | _ => []
theorem locAc (b4 b11 : Nat) (T : Tm) (p : Pt) (x : Sp) (sd y loss w n : Int) (ask : Bool) : ∀ k env i q9, i ≠ k → (tAt tsAc k).sup.contains i = false → valAc b4 b11 T p x sd y loss w n ask k (upd env i q9) = valAc b4 b11 T p x sd y loss w n ask k env ∧ rowsAc b4 b11 T p x sd y loss w n ask k (upd env i q9) = rowsAc b4 b11 T p x sd y loss w n ask k env := by
  intro k env i q hk hs
  have hu : ∀ j, j ≠ i → upd env i q j = env j := fun j hj => by unfold upd; rw [if_neg hj]
  match k, hk, hs with
  | 0, _, _ => exact ⟨rfl, rfl⟩
  | 1, _, _ => exact ⟨rfl, rfl⟩
  | 2, _, _ => exact ⟨rfl, rfl⟩
  | 3, _, _ => exact ⟨rfl, rfl⟩
  | 4, _, _ => exact ⟨rfl, rfl⟩
  | 5, _, _ => exact ⟨rfl, rfl⟩
  | 6, _, _ => exact ⟨rfl, rfl⟩
  | 7, _, _ => exact ⟨rfl, rfl⟩
  | 8, _, _ => exact ⟨rfl, rfl⟩
  | 9, _, _ => exact ⟨rfl, rfl⟩
  | 10, _, _ => exact ⟨rfl, rfl⟩
  | 11, _, _ => exact ⟨rfl, rfl⟩
  | 12, _, _ => exact ⟨rfl, rfl⟩
  | _ + 13, _, _ => exact ⟨rfl, rfl⟩
set_option maxHeartbeats 16000000 in
theorem termsAsk_spec (T : Tm) (p : Pt) (u : List Int) (w s : Int) (hu : u.length = 3 ∧ ∀ x ∈ u, u8 x) (hw8 : u8 w) (hs8 : u8 s) (H : List Row) (hg : SlE H p.a1 cI 1 T.G) (hs : SlE H p.a2 cI 1 T.S) :
    Fc Tryz.prog 6 [.agg (cTm T p).toArray, .agg (c8 u).toArray, .int .u8 w, .int .u8 s] H (fun v _ => v = .bool true) := by
  obtain ⟨hl, h8⟩ := hu
  match u, hl, h8 with
  | [a, b, c], _, h8 =>
  have ha := h8 a (by simp)
  have hb := h8 b (by simp)
  have hc := h8 c (by simp)
  clear h8
  by_cases hr : rdy T
  · have hT : TmOk H T p := ⟨hg, hs, by have := hr.1; omega, by have := hr.1; omega⟩
    have hok := hr.2
    have hR : ∀ H', TmOk H' T p → _ := fun H' h => readyT T p hr H' h
    refine Fc.mk (callable Tryz.call6) Tryz.func6 rfl Tryz.ntmps6 rfl ?_; dsimp only [fr]
    repeat' (first | (refine XO.op rfl ?_; (first | ((first | refine Xo.ng rfl ?_ | (refine Xo.g rfl rfl ?_; with_reducible refine Xw.ff ?_)); (first | (refine Xg.call (EnF.st rfl (by (repeat (first | exact Args.nil | refine Args.cons rfl ?_)); done)) rfl rfl (alive_spec _) ?_; rintro _ H9 ⟨rfl, hH9⟩; subst H9) | (refine Xg.call (EnF.st rfl (Args.cons rfl Args.nil)) rfl rfl (hR _ (hT.sub (fun _ h => by repeat (first | exact h | apply List.Mem.tail)))) ?_; rintro _ H9 ⟨rfl, hH9⟩; subst H9) | (refine Xg.ev (notT rfl rfl) rfl rfl ?_) | (refine Xg.ev (EvF.move rfl rfl) rfl rfl ?_) | (refine Xg.ev (EvF.assign rfl rfl) rfl rfl ?_) | (refine Xg.ev (EvF.pickF rfl rfl rfl) rfl rfl ?_) | (refine Xg.ev (EvF.loadV rfl rfl (LoadV.whole (te rfl) rfl (List.Mem.tail _ (List.Mem.head _)) rfl)) rfl rfl ?_) | (refine Xg.st (StF.boxAgg rfl rfl) rfl rfl ?_; rintro _ _ ⟨bx, rfl, rfl⟩))))) | (refine XO.done rfl ?_; refine hK _ _ ?_; clear hK K) | refine X.seq rfl ?_ | refine X.region rfl (fun K hK => ?_) | refine X.skip rfl ?_ | (refine X.ite rfl rfl (fun hc => ?_); (first | (with_reducible refine Xb.f hc ?_)) <;> clear hc))
    all_goals try (exfalso; contradiction)
    rename_i b4
    obtain ⟨b5, hb5⟩ : ∃ b, b = bx := ⟨_, rfl⟩
    rw [← hb5]
    clear hb5
    refine X.weak (F' := [(2, .int .u8 w), (3, .int .u8 s), (4, .pointer (some ⟨b4, 0, none⟩)), (5, .pointer (some ⟨b5, 0, none⟩)), (9, .bool true)]) (H' := ⟨b5, 0, c8 [a, b, c], some 72, 3⟩ :: ⟨b4, 0, cTm T p, some 32, 11⟩ :: H) (by (repeat (first | exact Sub.nil _ | refine Sub.cons rfl ?_)); done) (by (repeat (first | exact List.Sublist.refl _ | apply List.Sublist.cons_cons | apply List.Sublist.cons)); done) ?_
    refine X.regionOb tsAa [2, 3, 4, 5, 9] [(2, .int .u8 w), (3, .int .u8 s), (4, .pointer (some ⟨b4, 0, none⟩)), (5, .pointer (some ⟨b5, 0, none⟩)), (9, .bool true)] (valAa b4 b5 a b c s w) (rowsAa b4 b5 a b c s w) (fun _ => (0, 0)) (⟨b5, 0, c8 [a, b, c], some 72, 3⟩ :: ⟨b4, 0, cTm T p, some 32, 11⟩ :: H) rfl mixed (by (repeat (first | exact Sub.nil _ | refine Sub.cons rfl ?_)); done) rfl (by kernel_rfl) (locAa b4 b5 a b c s w) (List.Sublist.refl _) ?_ ?_
    · unfold u8 at ha hb hc hs8 hw8
      repeat' (first | exact AllF.done rfl | (refine AllF.step rfl ?_ ?_; · (first | fail | ((first | refine Ob.ng rfl ?_); (first | exact ObK.pure (fun env R hR => by exact ⟨_, EvF.move rfl rfl, rfl⟩) rfl (fun _ => rfl) | exact ObK.pure (fun env R hR => by exact ⟨_, EvF.assign rfl rfl, rfl⟩) rfl (fun _ => rfl) | exact ObK.pure (fun env R hR => by exact ⟨_, EvF.loadV rfl rfl (LoadV.own (te rfl) rfl (hR _ (List.Mem.head _)) rfl), rfl⟩) rfl (fun _ => rfl) | (exact fun env S hS => OpF.callV (Z := []) (EnF.st rfl (Args.cons rfl (Args.cons rfl Args.nil))) (some_spec b c hb hc _) rfl rfl) | (exact ObK.pure (fun env S hS => ⟨_, EvF.indexArray (i := 0) rfl rfl rfl (te rfl) (te rfl) (by decide) (by decide), rfl⟩) rfl (fun _ => rfl)) | (exact ObK.pure (fun env S hS => ⟨_, EvF.indexArray (i := 1) rfl rfl rfl (te rfl) (te rfl) (by decide) (by decide), rfl⟩) rfl (fun _ => rfl)) | (exact ObK.pure (fun env S hS => ⟨_, EvF.indexArray (i := 2) rfl rfl rfl (te rfl) (te rfl) (by decide) (by decide), rfl⟩) rfl (fun _ => rfl)) | (exact fun env S hS => (StF.alloc rfl Tryz.zeroValue30 rfl).op.mono (fun v H' ⟨b, hv, hH⟩ => ⟨(b, 0), fun _ => hv, by rw [hH]; exact List.Perm.refl _⟩)) | (exact fun env S hS => (StF.storeAll (i := 0) (vs := cSp (smS b c)) (cs := cSp ⟨0, 0⟩) rfl rfl rfl (te rfl) rfl rfl rfl rfl).op.mono (fun v H' ⟨hv, hH⟩ => ⟨(0, 0), fun h => absurd rfl h, by rw [hH]; exact List.Perm.refl _⟩)) | (exact ObK.pure (fun env S hS => ⟨_, EvF.conv rfl rfl int8_und int64_und (by omega) (by omega), rfl⟩) rfl (fun _ => rfl)) | (exact ObK.pure (fun env S hS => ⟨_, EvF.rem64 rfl rfl rfl (by omega) (by omega), rfl⟩) rfl (fun _ => rfl)) | (exact ObK.pure (fun env S hS => ⟨_, EvF.add64 rfl rfl rfl (by omega) (by omega), rfl⟩) rfl (fun _ => rfl)))))))
    intro env t ha2 hv; refine ⟨_, ((ha2.cons (hv 15 10 (Nat.le_of_ble_eq_true rfl) rfl)).cons (hv 14 11 (Nat.le_of_ble_eq_true rfl) rfl)).cons (hv 17 12 (Nat.le_of_ble_eq_true rfl) rfl), ?_⟩; clear hv ha2
    have hx := smS_ok b c
    obtain ⟨x, hxe⟩ : ∃ x, smS b c = x := ⟨_, rfl⟩
    obtain ⟨b11, hb11⟩ : ∃ q, q = (env 14).1 := ⟨_, rfl⟩
    have hsd := nines a
    have hy := nines s
    obtain ⟨sd, hsde⟩ : ∃ q, 1 + a % 9 = q := ⟨_, rfl⟩
    obtain ⟨y, hye⟩ : ∃ q, 1 + s % 9 = q := ⟨_, rfl⟩
    refine X.weak (F' := [(2, .int .u8 w), (4, .pointer (some ⟨b4, 0, none⟩)), (9, .bool true), (10, .int .i64 sd), (11, .pointer (some ⟨b11, 0, none⟩)), (12, .int .i64 y)]) (H' := ⟨b11, 0, cSp x, some 30, 2⟩ :: ⟨b4, 0, cTm T p, some 32, 11⟩ :: H) (by rw [hb11, ← hsde, ← hye]; exact (by (repeat (first | exact Sub.nil _ | refine Sub.cons rfl ?_)); done)) (by rw [hb11, ← hxe]; exact (by (repeat (first | exact List.Sublist.refl _ | apply List.Sublist.cons_cons | apply List.Sublist.cons)); done)) ?_
    rw [hxe] at hx
    rw [hsde] at hsd
    rw [hye] at hy
    clear hxe hb11 hsde hye env
    have hpo : partOk x.lo x.hi := ⟨hx.1.2, by omega, by omega⟩
    have hA : ∀ H', TmOk H' T p → Fc Tryz.prog 21 [.agg (cTm T p).toArray, .int .i64 sd, .agg (cSp x).toArray, .int .i64 y] H' _ := fun H' h => kAsk_spec T p sd y x H' h
    have hE : askE T sd y x = if may T ⟨sd, y⟩ = true then 0 else 6 := by unfold askE; rw [if_pos hok, if_pos ⟨hsd, hpo⟩, if_pos hy]
    unfold askA askL at hA
    rw [hE] at hA
    have hM : ∀ H', Fc Tryz.prog 37 [.agg (cTm T p).toArray, .agg (cCl ⟨sd, y⟩).toArray] H' (fun v H'' => v = .bool (may T ⟨sd, y⟩) ∧ H'' = H') := fun H' => rmay_spec T p ⟨sd, y⟩ H'
    obtain ⟨mb, hmb⟩ : ∃ q, may T ⟨sd, y⟩ = q := ⟨_, rfl⟩
    rw [hmb] at hM hA
    cases mb
    · rw [if_neg (by decide), if_neg (by decide), if_neg (by decide)] at hA
      clear hE hpo
      repeat' (first | (refine XO.op rfl ?_; (first | ((first | refine Xo.ng rfl ?_); (first | (refine Xg.call (EnF.st rfl (Args.cons rfl (Args.cons rfl (Args.cons rfl (Args.cons rfl Args.nil))))) rfl rfl (hA _ (hT.sub (fun _ h => by repeat (first | exact h | apply List.Mem.tail)))) ?_; rintro _ _ ⟨rfl, rfl⟩) | (refine Xg.ev (EvF.cmp (b := true) rfl rfl rfl (congrArg some (nd_t (by omega)))) rfl rfl ?_) | (refine Xg.ev (EvF.move rfl rfl) rfl rfl ?_) | (refine Xg.ev (EvF.assign rfl rfl) rfl rfl ?_) | (refine Xg.ev (EvF.loadV rfl rfl (LoadV.whole (te rfl) rfl (List.Mem.head _) rfl)) rfl rfl ?_) | (refine Xg.ev (EvF.loadV rfl rfl (LoadV.whole (te rfl) rfl (List.Mem.tail _ (List.Mem.head _)) rfl)) rfl rfl ?_) | (refine Xg.ev (EvF.extract rfl rfl rfl) rfl rfl ?_))))) | (refine XO.done rfl ?_; refine hK _ _ ?_; clear hK K) | refine X.seq rfl ?_ | refine X.region rfl (fun K hK => ?_) | (refine X.ite rfl rfl (fun hc => ?_); (first | (with_reducible refine Xb.t hc ?_)) <;> clear hc))
      all_goals try (exfalso; contradiction)
      refine X.regionOb tsAb [4, 9, 10, 12, 15] [(4, .pointer (some ⟨b4, 0, none⟩)), (9, .bool true), (10, .int .i64 sd), (12, .int .i64 y), (15, .int .i64 6)] (valAb b4 T p sd y) (rowsAb b4 T p sd y) (fun _ => (0, 0)) (⟨b11, 0, cSp x, some 30, 2⟩ :: ⟨b4, 0, cTm T p, some 32, 11⟩ :: H) rfl mixed (by (repeat (first | exact Sub.nil _ | refine Sub.cons rfl ?_)); done) rfl (by kernel_rfl) (locAb b4 T p sd y) (List.Sublist.refl _) ?_ ?_
      · repeat' (first | exact AllF.done rfl | (refine AllF.step rfl ?_ ?_; · (first | fail | ((first | refine Ob.ng rfl ?_ | refine Ob.g rfl rfl (fun _ => rfl) ?_); (first | exact ObK.pure (fun env R hR => by exact ⟨_, EvF.move rfl rfl, rfl⟩) rfl (fun _ => rfl) | exact ObK.pure (fun env R hR => by exact ⟨_, EvF.assign rfl rfl, rfl⟩) rfl (fun _ => rfl) | exact ObK.pure (fun env R hR => by exact ⟨_, EvF.pickT rfl rfl rfl, rfl⟩) rfl (fun _ => rfl) | exact ObK.pure (fun env R hR => by exact ⟨_, EvF.not rfl rfl, rfl⟩) rfl (fun _ => rfl) | exact ObK.pure (fun env R hR => by exact ⟨_, EvF.cmp rfl rfl rfl rfl, rfl⟩) rfl (fun _ => rfl) | exact ObK.pure (fun env R hR => by exact ⟨_, EvF.loadV rfl rfl (LoadV.whole (te rfl) rfl (hR _ (List.Mem.tail _ (List.Mem.head _))) rfl), rfl⟩) rfl (fun _ => rfl) | (exact fun env S hS => OpF.callV (Z := []) (EnF.st rfl (Args.cons rfl (Args.cons rfl Args.nil))) (lclass_spec sd y _) rfl rfl) | (exact fun env S hS => OpF.callV (Z := []) (EnF.st rfl (Args.cons rfl (Args.cons rfl Args.nil))) (hM _) rfl rfl))))))
      intro env t ha2 hv; refine ⟨_, ha2.cons (hv 13 8 (Nat.le_of_ble_eq_true rfl) rfl), ?_⟩; clear hv ha2
      repeat' (first | refine X.ret rfl ?_)
      exact ret_one (by first | exact .inr rfl | exact .inl rfl) Tryz.results6 rfl (H' := _) (List.Sublist.refl _) rfl
    · rw [if_pos rfl, if_pos rfl, if_pos rfl] at hA
      have hL : ∀ g : Int, 1 ≤ g ∧ g ≤ 9 → ∀ (q : Bool) (H' : List Row), TmOk H' T p → Fc Tryz.prog 38 [.agg (cTm T p).toArray, .int .i64 sd, .int .i64 g, .int .i64 y, .bool q] H' (fun v H'' => v = .tuple #[.int .i64 (los T sd y q g), .bool true] ∧ H'' = H') := fun g hg q H' h => llost_spec T p sd g y q H' h hok hsd hg hy hmb
      have f1 := shN_is T sd y x
      have f2 := fun h => shN_nn hok (sd := sd) (s := y) (gs := x) hx.1.2 h
      obtain ⟨ask, hask⟩ : ∃ q, shA T sd y x = q := ⟨_, rfl⟩
      obtain ⟨loss, hlo⟩ : ∃ q, shN T sd y x = q := ⟨_, rfl⟩
      rw [hask, hlo] at hA f1 f2
      have f3 : ∀ g, x.lo ≤ g ∧ g ≤ x.hi → los T sd y ask g ≤ loss := fun g hg => by rw [f1.1]; exact los_le hg
      have f4 : ∃ g, (x.lo ≤ g ∧ g ≤ x.hi) ∧ los T sd y ask g = loss := by rw [f1.1]; exact los_ex T sd y ask hx.1.2
      have f5 : ∃ g, (x.lo ≤ g ∧ g ≤ x.hi) ∧ los T sd y (!ask) g ≥ loss := by
        obtain ⟨g, hg, e⟩ := los_ex T sd y (!ask) hx.1.2
        exact ⟨g, hg, by rw [e]; exact f1.2⟩
      clear f1 hE hask hlo hM hmb
      repeat' (first | (refine XO.op rfl ?_; (first | ((first | refine Xo.ng rfl ?_); (first | (refine Xg.call (EnF.st rfl (Args.cons rfl (Args.cons rfl (Args.cons rfl (Args.cons rfl Args.nil))))) rfl rfl (hA _ (hT.sub (fun _ h => by repeat (first | exact h | apply List.Mem.tail)))) ?_; rintro _ _ ⟨rfl, rfl⟩) | (refine Xg.ev (EvF.cmp (b := false) rfl rfl rfl (congrArg some (nd_f (by omega)))) rfl rfl ?_) | (refine Xg.ev (EvF.move rfl rfl) rfl rfl ?_) | (refine Xg.ev (EvF.assign rfl rfl) rfl rfl ?_) | (refine Xg.ev (EvF.fieldAddr rfl rfl (te rfl) rfl (te rfl) (by decide)) rfl rfl ?_) | (refine Xg.ev (EvF.loadV rfl rfl (LoadV.own (te rfl) rfl (List.Mem.head _) rfl)) rfl rfl ?_) | (refine Xg.ev (EvF.loadV rfl rfl (LoadV.whole (te rfl) rfl (List.Mem.head _) rfl)) rfl rfl ?_) | (refine Xg.ev (EvF.loadV rfl rfl (LoadV.whole (te rfl) rfl (List.Mem.tail _ (List.Mem.head _)) rfl)) rfl rfl ?_) | (refine Xg.ev (EvF.extract rfl rfl rfl) rfl rfl ?_))))) | (refine XO.done rfl ?_; refine hK _ _ ?_; clear hK K) | refine X.seq rfl ?_ | refine X.region rfl (fun K hK => ?_) | refine X.block rfl ?_ | refine X.skip rfl ?_ | (refine X.ite rfl rfl (fun hc => ?_); (first | (with_reducible refine Xb.f hc ?_)) <;> clear hc))
      all_goals try (exfalso; contradiction)
      refine X.lp rfl (fun q9 F' H' => ∃ (k : Nat) (w1 w2 : Bool), (q9 : Int) = x.hi - x.lo + 1 - k ∧ x.lo + k ≤ x.hi + 1 ∧ (w1 = true ∨ ∀ i : Nat, i < k → los T sd y ask (x.lo + i) ≠ loss) ∧ (w2 = true ∨ ∀ i : Nat, i < k → ¬ los T sd y (!ask) (x.lo + i) ≥ loss) ∧ H' = ⟨b11, 0, cSp x, some 30, 2⟩ :: ⟨b4, 0, cTm T p, some 32, 11⟩ :: H ∧ F' = [(2, .int .u8 w), (4, .pointer (some ⟨b4, 0, none⟩)), (9, .bool true), (10, .int .i64 sd), (11, .pointer (some ⟨b11, 0, none⟩)), (12, .int .i64 y), (13, .bool ask), (14, .int .i64 loss), (16, .bool w1), (17, .bool w2), (18, .int .i64 (x.lo + k))])
        (x.hi - x.lo + 1).toNat [(2, .int .u8 w), (4, .pointer (some ⟨b4, 0, none⟩)), (9, .bool true), (10, .int .i64 sd), (11, .pointer (some ⟨b11, 0, none⟩)), (12, .int .i64 y), (13, .bool ask), (14, .int .i64 loss), (16, .bool false), (17, .bool false), (18, .int .i64 (x.lo + (0 : Nat)))] _ (by rw [show x.lo + ((0 : Nat) : Int) = x.lo from Int.add_zero _]; exact (by (repeat (first | exact Sub.nil _ | refine Sub.cons rfl ?_)); done)) (by (repeat (first | exact List.Sublist.refl _ | apply List.Sublist.cons_cons | apply List.Sublist.cons)); done) ⟨0, false, false, by omega, by omega, .inr fun i h => absurd h (Nat.not_lt_zero _), .inr fun i h => absurd h (Nat.not_lt_zero _), rfl, rfl⟩ ?_
      rintro q9 _ _ ⟨k, w1, w2, hw, hk, hw1, hw2, rfl, rfl⟩
      by_cases hk9 : x.lo + k ≤ x.hi
      · have hq := hL (x.lo + k) (by omega)
        have hn := f3 (x.lo + k) (by omega)
        have hbn := los_bd hok sd y ask (x.lo + k)
        have hbm := los_bd hok sd y (!ask) (x.lo + k)
        have hq1 := hq ask
        have hq2 := hq (!ask)
        obtain ⟨n, hne⟩ : ∃ q, los T sd y ask (x.lo + k) = q := ⟨_, rfl⟩
        obtain ⟨m, hme⟩ : ∃ q, los T sd y (!ask) (x.lo + k) = q := ⟨_, rfl⟩
        rw [hne] at hq1 hn hbn
        rw [hme] at hq2 hbm
        have n1 : w1 = false → decide (n = loss) = true ∨ ∀ i : Nat, i < k + 1 → los T sd y ask (x.lo + i) ≠ loss := fun hf => by
          by_cases e : n = loss
          · exact .inl (decide_eq_true e)
          · refine .inr fun i hi => ?_
            by_cases ei : i = k
            · subst ei; rw [hne]; exact e
            · rcases hw1 with h | h
              · rw [hf] at h; cases h
              · exact h i (by omega)
        have n2 : w2 = false → decide (m ≥ loss) = true ∨ ∀ i : Nat, i < k + 1 → ¬ los T sd y (!ask) (x.lo + i) ≥ loss := fun hf => by
          by_cases e : m ≥ loss
          · exact .inl (decide_eq_true e)
          · refine .inr fun i hi => ?_
            by_cases ei : i = k
            · subst ei; rw [hme]; exact e
            · rcases hw2 with h | h
              · rw [hf] at h; cases h
              · exact h i (by omega)
        clear hw1 hw2 hne hme hq
        have hrows : ∀ (H' : List Row), (∀ r ∈ H, r ∈ H') → TmOk H' T p := fun H' h => hT.sub h
        cases w1 <;> cases w2
        · replace n1 := n1 rfl
          replace n2 := n2 rfl
          repeat' (first | (refine XO.op rfl ?_; (first | ((first | refine Xo.ng rfl ?_ | (refine Xo.g rfl rfl ?_; with_reducible refine Xw.ff ?_)); (first | (refine Xg.call (EnF.st rfl (Args.cons rfl (Args.cons rfl (Args.cons rfl (Args.cons rfl (Args.cons rfl Args.nil)))))) rfl rfl (hq1 _ (hT.sub (fun _ h => by repeat (first | exact h | apply List.Mem.tail)))) ?_; rintro _ _ ⟨rfl, rfl⟩) | (refine Xg.call (EnF.st rfl (Args.cons rfl (Args.cons rfl (Args.cons rfl (Args.cons rfl (Args.cons rfl Args.nil)))))) rfl rfl (hq2 _ (hT.sub (fun _ h => by repeat (first | exact h | apply List.Mem.tail)))) ?_; rintro _ _ ⟨rfl, rfl⟩) | (refine Xg.ev (EvF.add64 rfl rfl rfl (by omega) (by omega)) rfl rfl ?_) | (refine Xg.ev (notT rfl rfl) rfl rfl ?_) | (refine Xg.ev (EvF.cmp (b := true) rfl rfl rfl (congrArg some (decide_eq_true (by omega)))) rfl rfl ?_) | (refine Xg.ev (EvF.cmp (b := false) rfl rfl rfl (congrArg some (decide_eq_false (by omega)))) rfl rfl ?_) | (refine Xg.ev (EvF.move rfl rfl) rfl rfl ?_) | (refine Xg.ev (EvF.assign rfl rfl) rfl rfl ?_) | (refine Xg.ev (EvF.pickF rfl rfl rfl) rfl rfl ?_) | (refine Xg.ev (EvF.cmp rfl rfl rfl rfl) rfl rfl ?_) | (refine Xg.ev (EvF.not rfl rfl) rfl rfl ?_) | (refine Xg.ev (EvF.fieldAddr rfl rfl (te rfl) rfl (te rfl) (by decide)) rfl rfl ?_) | (refine Xg.ev (EvF.loadV rfl rfl (LoadV.own (te rfl) rfl (List.Mem.head _) rfl)) rfl rfl ?_) | (refine Xg.ev (EvF.loadV rfl rfl (LoadV.whole (te rfl) rfl (List.Mem.tail _ (List.Mem.head _)) rfl)) rfl rfl ?_) | (refine Xg.ev (EvF.extract rfl rfl rfl) rfl rfl ?_))))) | (refine XO.done rfl ?_; refine hK _ _ ?_; clear hK K) | refine X.seq rfl ?_ | refine X.region rfl (fun K hK => ?_) | refine X.block rfl ?_ | refine X.skip rfl ?_ | (refine X.ite rfl rfl (fun hc => ?_); (first | (with_reducible refine Xb.t hc ?_) | (with_reducible refine Xb.f hc ?_)) <;> clear hc))
          all_goals try (exfalso; first | contradiction | omega)
          refine ⟨q9 - 1, [(2, .int .u8 w), (4, .pointer (some ⟨b4, 0, none⟩)), (9, .bool true), (10, .int .i64 sd), (11, .pointer (some ⟨b11, 0, none⟩)), (12, .int .i64 y), (13, .bool ask), (14, .int .i64 loss), (16, .bool (decide (n = loss))), (17, .bool (decide (m ≥ loss))), (18, .int .i64 (x.lo + (k + 1 : Nat)))], _, (by rw [show x.lo + ((k + 1 : Nat) : Int) = x.lo + k + 1 by omega]; exact (by (repeat (first | exact Sub.nil _ | refine Sub.cons rfl ?_)); done)), (by (repeat (first | exact List.Sublist.refl _ | apply List.Sublist.cons_cons | apply List.Sublist.cons)); done), ⟨k + 1, (decide (n = loss)), (decide (m ≥ loss)), by omega, by omega, n1, n2, rfl, rfl⟩, by omega⟩
        · replace n1 := n1 rfl
          clear n2
          repeat' (first | (refine XO.op rfl ?_; (first | ((first | refine Xo.ng rfl ?_ | (refine Xo.g rfl rfl ?_; with_reducible refine Xw.ff ?_)); (first | (refine Xg.call (EnF.st rfl (Args.cons rfl (Args.cons rfl (Args.cons rfl (Args.cons rfl (Args.cons rfl Args.nil)))))) rfl rfl (hq1 _ (hT.sub (fun _ h => by repeat (first | exact h | apply List.Mem.tail)))) ?_; rintro _ _ ⟨rfl, rfl⟩) | (refine Xg.call (EnF.st rfl (Args.cons rfl (Args.cons rfl (Args.cons rfl (Args.cons rfl (Args.cons rfl Args.nil)))))) rfl rfl (hq2 _ (hT.sub (fun _ h => by repeat (first | exact h | apply List.Mem.tail)))) ?_; rintro _ _ ⟨rfl, rfl⟩) | (refine Xg.ev (EvF.add64 rfl rfl rfl (by omega) (by omega)) rfl rfl ?_) | (refine Xg.ev (notT rfl rfl) rfl rfl ?_) | (refine Xg.ev (EvF.cmp (b := true) rfl rfl rfl (congrArg some (decide_eq_true (by omega)))) rfl rfl ?_) | (refine Xg.ev (EvF.cmp (b := false) rfl rfl rfl (congrArg some (decide_eq_false (by omega)))) rfl rfl ?_) | (refine Xg.ev (EvF.move rfl rfl) rfl rfl ?_) | (refine Xg.ev (EvF.assign rfl rfl) rfl rfl ?_) | (refine Xg.ev (EvF.pickT rfl rfl rfl) rfl rfl ?_) | (refine Xg.ev (EvF.pickF rfl rfl rfl) rfl rfl ?_) | (refine Xg.ev (EvF.cmp rfl rfl rfl rfl) rfl rfl ?_) | (refine Xg.ev (EvF.not rfl rfl) rfl rfl ?_) | (refine Xg.ev (EvF.fieldAddr rfl rfl (te rfl) rfl (te rfl) (by decide)) rfl rfl ?_) | (refine Xg.ev (EvF.loadV rfl rfl (LoadV.own (te rfl) rfl (List.Mem.head _) rfl)) rfl rfl ?_) | (refine Xg.ev (EvF.loadV rfl rfl (LoadV.whole (te rfl) rfl (List.Mem.tail _ (List.Mem.head _)) rfl)) rfl rfl ?_) | (refine Xg.ev (EvF.extract rfl rfl rfl) rfl rfl ?_))) | (refine Xo.g rfl rfl ?_; (first | (with_reducible refine Xw.tf rfl rfl ?_))))) | (refine XO.done rfl ?_; refine hK _ _ ?_; clear hK K) | refine X.seq rfl ?_ | refine X.region rfl (fun K hK => ?_) | refine X.block rfl ?_ | refine X.skip rfl ?_ | (refine X.ite rfl rfl (fun hc => ?_); (first | (with_reducible refine Xb.t hc ?_) | (with_reducible refine Xb.f hc ?_)) <;> clear hc))
          all_goals try (exfalso; first | contradiction | omega)
          refine ⟨q9 - 1, [(2, .int .u8 w), (4, .pointer (some ⟨b4, 0, none⟩)), (9, .bool true), (10, .int .i64 sd), (11, .pointer (some ⟨b11, 0, none⟩)), (12, .int .i64 y), (13, .bool ask), (14, .int .i64 loss), (16, .bool (decide (n = loss))), (17, .bool true), (18, .int .i64 (x.lo + (k + 1 : Nat)))], _, (by rw [show x.lo + ((k + 1 : Nat) : Int) = x.lo + k + 1 by omega]; exact (by (repeat (first | exact Sub.nil _ | refine Sub.cons rfl ?_)); done)), (by (repeat (first | exact List.Sublist.refl _ | apply List.Sublist.cons_cons | apply List.Sublist.cons)); done), ⟨k + 1, (decide (n = loss)), true, by omega, by omega, n1, .inl rfl, rfl, rfl⟩, by omega⟩
        · clear n1
          replace n2 := n2 rfl
          repeat' (first | (refine XO.op rfl ?_; (first | ((first | refine Xo.ng rfl ?_ | (refine Xo.g rfl rfl ?_; with_reducible refine Xw.ff ?_)); (first | (refine Xg.call (EnF.st rfl (Args.cons rfl (Args.cons rfl (Args.cons rfl (Args.cons rfl (Args.cons rfl Args.nil)))))) rfl rfl (hq1 _ (hT.sub (fun _ h => by repeat (first | exact h | apply List.Mem.tail)))) ?_; rintro _ _ ⟨rfl, rfl⟩) | (refine Xg.call (EnF.st rfl (Args.cons rfl (Args.cons rfl (Args.cons rfl (Args.cons rfl (Args.cons rfl Args.nil)))))) rfl rfl (hq2 _ (hT.sub (fun _ h => by repeat (first | exact h | apply List.Mem.tail)))) ?_; rintro _ _ ⟨rfl, rfl⟩) | (refine Xg.ev (EvF.add64 rfl rfl rfl (by omega) (by omega)) rfl rfl ?_) | (refine Xg.ev (notT rfl rfl) rfl rfl ?_) | (refine Xg.ev (EvF.cmp (b := true) rfl rfl rfl (congrArg some (decide_eq_true (by omega)))) rfl rfl ?_) | (refine Xg.ev (EvF.cmp (b := false) rfl rfl rfl (congrArg some (decide_eq_false (by omega)))) rfl rfl ?_) | (refine Xg.ev (EvF.move rfl rfl) rfl rfl ?_) | (refine Xg.ev (EvF.assign rfl rfl) rfl rfl ?_) | (refine Xg.ev (EvF.pickT rfl rfl rfl) rfl rfl ?_) | (refine Xg.ev (EvF.pickF rfl rfl rfl) rfl rfl ?_) | (refine Xg.ev (EvF.cmp rfl rfl rfl rfl) rfl rfl ?_) | (refine Xg.ev (EvF.not rfl rfl) rfl rfl ?_) | (refine Xg.ev (EvF.fieldAddr rfl rfl (te rfl) rfl (te rfl) (by decide)) rfl rfl ?_) | (refine Xg.ev (EvF.loadV rfl rfl (LoadV.own (te rfl) rfl (List.Mem.head _) rfl)) rfl rfl ?_) | (refine Xg.ev (EvF.loadV rfl rfl (LoadV.whole (te rfl) rfl (List.Mem.tail _ (List.Mem.head _)) rfl)) rfl rfl ?_) | (refine Xg.ev (EvF.extract rfl rfl rfl) rfl rfl ?_))) | (refine Xo.g rfl rfl ?_; (first | (with_reducible refine Xw.tf rfl rfl ?_))))) | (refine XO.done rfl ?_; refine hK _ _ ?_; clear hK K) | refine X.seq rfl ?_ | refine X.region rfl (fun K hK => ?_) | refine X.block rfl ?_ | refine X.skip rfl ?_ | (refine X.ite rfl rfl (fun hc => ?_); (first | (with_reducible refine Xb.t hc ?_) | (with_reducible refine Xb.f hc ?_)) <;> clear hc))
          all_goals try (exfalso; first | contradiction | omega)
          refine ⟨q9 - 1, [(2, .int .u8 w), (4, .pointer (some ⟨b4, 0, none⟩)), (9, .bool true), (10, .int .i64 sd), (11, .pointer (some ⟨b11, 0, none⟩)), (12, .int .i64 y), (13, .bool ask), (14, .int .i64 loss), (16, .bool true), (17, .bool (decide (m ≥ loss))), (18, .int .i64 (x.lo + (k + 1 : Nat)))], _, (by rw [show x.lo + ((k + 1 : Nat) : Int) = x.lo + k + 1 by omega]; exact (by (repeat (first | exact Sub.nil _ | refine Sub.cons rfl ?_)); done)), (by (repeat (first | exact List.Sublist.refl _ | apply List.Sublist.cons_cons | apply List.Sublist.cons)); done), ⟨k + 1, true, (decide (m ≥ loss)), by omega, by omega, .inl rfl, n2, rfl, rfl⟩, by omega⟩
        · clear n1
          clear n2
          repeat' (first | (refine XO.op rfl ?_; (first | ((first | refine Xo.ng rfl ?_ | (refine Xo.g rfl rfl ?_; with_reducible refine Xw.ff ?_)); (first | (refine Xg.call (EnF.st rfl (Args.cons rfl (Args.cons rfl (Args.cons rfl (Args.cons rfl (Args.cons rfl Args.nil)))))) rfl rfl (hq1 _ (hT.sub (fun _ h => by repeat (first | exact h | apply List.Mem.tail)))) ?_; rintro _ _ ⟨rfl, rfl⟩) | (refine Xg.call (EnF.st rfl (Args.cons rfl (Args.cons rfl (Args.cons rfl (Args.cons rfl (Args.cons rfl Args.nil)))))) rfl rfl (hq2 _ (hT.sub (fun _ h => by repeat (first | exact h | apply List.Mem.tail)))) ?_; rintro _ _ ⟨rfl, rfl⟩) | (refine Xg.ev (EvF.add64 rfl rfl rfl (by omega) (by omega)) rfl rfl ?_) | (refine Xg.ev (notT rfl rfl) rfl rfl ?_) | (refine Xg.ev (EvF.cmp (b := true) rfl rfl rfl (congrArg some (decide_eq_true (by omega)))) rfl rfl ?_) | (refine Xg.ev (EvF.cmp (b := false) rfl rfl rfl (congrArg some (decide_eq_false (by omega)))) rfl rfl ?_) | (refine Xg.ev (EvF.move rfl rfl) rfl rfl ?_) | (refine Xg.ev (EvF.assign rfl rfl) rfl rfl ?_) | (refine Xg.ev (EvF.pickT rfl rfl rfl) rfl rfl ?_) | (refine Xg.ev (EvF.pickF rfl rfl rfl) rfl rfl ?_) | (refine Xg.ev (EvF.not rfl rfl) rfl rfl ?_) | (refine Xg.ev (EvF.fieldAddr rfl rfl (te rfl) rfl (te rfl) (by decide)) rfl rfl ?_) | (refine Xg.ev (EvF.loadV rfl rfl (LoadV.own (te rfl) rfl (List.Mem.head _) rfl)) rfl rfl ?_) | (refine Xg.ev (EvF.loadV rfl rfl (LoadV.whole (te rfl) rfl (List.Mem.tail _ (List.Mem.head _)) rfl)) rfl rfl ?_) | (refine Xg.ev (EvF.extract rfl rfl rfl) rfl rfl ?_))) | (refine Xo.g rfl rfl ?_; (first | (with_reducible refine Xw.tf rfl rfl ?_))))) | (refine XO.done rfl ?_; refine hK _ _ ?_; clear hK K) | refine X.seq rfl ?_ | refine X.region rfl (fun K hK => ?_) | refine X.block rfl ?_ | refine X.skip rfl ?_ | (refine X.ite rfl rfl (fun hc => ?_); (first | (with_reducible refine Xb.t hc ?_) | (with_reducible refine Xb.f hc ?_)) <;> clear hc))
          all_goals try (exfalso; first | contradiction | omega)
          refine ⟨q9 - 1, [(2, .int .u8 w), (4, .pointer (some ⟨b4, 0, none⟩)), (9, .bool true), (10, .int .i64 sd), (11, .pointer (some ⟨b11, 0, none⟩)), (12, .int .i64 y), (13, .bool ask), (14, .int .i64 loss), (16, .bool true), (17, .bool true), (18, .int .i64 (x.lo + (k + 1 : Nat)))], _, (by rw [show x.lo + ((k + 1 : Nat) : Int) = x.lo + k + 1 by omega]; exact (by (repeat (first | exact Sub.nil _ | refine Sub.cons rfl ?_)); done)), (by (repeat (first | exact List.Sublist.refl _ | apply List.Sublist.cons_cons | apply List.Sublist.cons)); done), ⟨k + 1, true, true, by omega, by omega, .inl rfl, .inl rfl, rfl, rfl⟩, by omega⟩
      · have e1 : w1 = true := by
          rcases hw1 with h | h
          · exact h
          · obtain ⟨g, hg, e⟩ := f4
            exact absurd (by rw [show x.lo + ((g - x.lo).toNat : Int) = g by omega]; exact e) (h (g - x.lo).toNat (by omega))
        have e2 : w2 = true := by
          rcases hw2 with h | h
          · exact h
          · obtain ⟨g, hg, e⟩ := f5
            exact absurd (by rw [show x.lo + ((g - x.lo).toNat : Int) = g by omega]; exact e) (h (g - x.lo).toNat (by omega))
        subst e1
        subst e2
        clear f4 f5 hw1 hw2
        repeat' (first | (refine XO.op rfl ?_; (first | ((first | refine Xo.ng rfl ?_); (first | (refine Xg.ev (EvF.cmp (b := false) rfl rfl rfl (congrArg some (decide_eq_false (by omega)))) rfl rfl ?_) | (refine Xg.ev (EvF.move rfl rfl) rfl rfl ?_) | (refine Xg.ev (EvF.fieldAddr rfl rfl (te rfl) rfl (te rfl) (by decide)) rfl rfl ?_) | (refine Xg.ev (EvF.loadV rfl rfl (LoadV.own (te rfl) rfl (List.Mem.head _) rfl)) rfl rfl ?_))))) | (refine XO.done rfl ?_; refine hK _ _ ?_; clear hK K) | refine X.seq rfl ?_ | refine X.region rfl (fun K hK => ?_) | (refine X.brk rfl ?_; repeat (first | refine blockX_hit rfl ?_ | refine blockX_miss (by decide) ?_)) | (refine X.ite rfl rfl (fun hc => ?_); (first | (with_reducible refine Xb.f hc ?_)) <;> clear hc))
        all_goals try (exfalso; first | contradiction | omega)
        have hpk := pkI_in (n := w) hx.1.2
        have hn := f3 _ hpk
        have hq := hL (pkI x w) (by omega) ask
        obtain ⟨n, hne⟩ : ∃ q, los T sd y ask (pkI x w) = q := ⟨_, rfl⟩
        rw [hne] at hn hq
        refine X.weak (F' := [(2, .int .u8 w), (4, .pointer (some ⟨b4, 0, none⟩)), (9, .bool true), (10, .int .i64 sd), (11, .pointer (some ⟨b11, 0, none⟩)), (12, .int .i64 y), (13, .bool ask), (14, .int .i64 loss), (16, .bool true), (17, .bool true)]) (H' := ⟨b11, 0, cSp x, some 30, 2⟩ :: ⟨b4, 0, cTm T p, some 32, 11⟩ :: H) (by (repeat (first | exact Sub.nil _ | refine Sub.cons rfl ?_)); done) (by (repeat (first | exact List.Sublist.refl _ | apply List.Sublist.cons_cons | apply List.Sublist.cons)); done) ?_
        refine X.regionOb tsAc [2, 4, 9, 10, 11, 12, 13, 14, 16, 17] [(2, .int .u8 w), (4, .pointer (some ⟨b4, 0, none⟩)), (9, .bool true), (10, .int .i64 sd), (11, .pointer (some ⟨b11, 0, none⟩)), (12, .int .i64 y), (13, .bool ask), (14, .int .i64 loss), (16, .bool true), (17, .bool true)] (valAc b4 b11 T p x sd y loss w n ask) (rowsAc b4 b11 T p x sd y loss w n ask) (fun _ => (0, 0)) (⟨b11, 0, cSp x, some 30, 2⟩ :: ⟨b4, 0, cTm T p, some 32, 11⟩ :: H) rfl mixed (by (repeat (first | exact Sub.nil _ | refine Sub.cons rfl ?_)); done) rfl (by kernel_rfl) (locAc b4 b11 T p x sd y loss w n ask) (List.Sublist.refl _) ?_ ?_
        · repeat' (first | exact AllF.done rfl | (refine AllF.step rfl ?_ ?_; · (first | fail | ((first | refine Ob.ng rfl ?_); (first | exact ObK.pure (fun env R hR => by exact ⟨_, EvF.move rfl rfl, rfl⟩) rfl (fun _ => rfl) | exact ObK.pure (fun env R hR => by exact ⟨_, EvF.assign rfl rfl, rfl⟩) rfl (fun _ => rfl) | exact ObK.pure (fun env R hR => by exact ⟨_, EvF.loadV rfl rfl (LoadV.whole (te rfl) rfl (hR _ (List.Mem.head _)) rfl), rfl⟩) rfl (fun _ => rfl) | exact ObK.pure (fun env R hR => by exact ⟨_, EvF.loadV rfl rfl (LoadV.whole (te rfl) rfl (hR _ (List.Mem.tail _ (List.Mem.head _))) rfl), rfl⟩) rfl (fun _ => rfl) | (exact fun env S hS => OpF.callV (Z := []) (EnF.st rfl (Args.cons rfl (Args.cons rfl Args.nil))) (pick_spec x w hw8 ⟨hx.1.2, by omega, by omega⟩ _) rfl rfl) | (exact fun env S hS => OpF.callV (Z := []) (EnF.st rfl (Args.cons rfl (Args.cons rfl (Args.cons rfl (Args.cons rfl (Args.cons rfl Args.nil)))))) (hq _ (hT.sub (fun r hr => hS r (List.mem_append_right [_, _] hr)))) rfl rfl) | (exact ObK.pure (fun env S hS => ⟨_, EvF.extract rfl rfl rfl, rfl⟩) rfl (fun _ => rfl)))))))
        intro env t ha2 hv; refine ⟨_, (ha2.cons (hv 11 23 (Nat.le_of_ble_eq_true rfl) rfl)).cons (hv 12 24 (Nat.le_of_ble_eq_true rfl) rfl), ?_⟩; clear hv ha2
        cases ask
        · repeat' (first | (refine XO.op rfl ?_; (first | ((first | refine Xo.ng rfl ?_ | (refine Xo.g rfl rfl ?_; with_reducible refine Xw.tt ?_)); (first | (refine Xg.ev (notF rfl rfl) rfl rfl ?_) | (refine Xg.ev (EvF.cmp (b := true) rfl rfl rfl (congrArg some (decide_eq_true (by omega)))) rfl rfl ?_) | (refine Xg.ev (EvF.move rfl rfl) rfl rfl ?_) | (refine Xg.ev (EvF.assign rfl rfl) rfl rfl ?_) | (refine Xg.ev (EvF.pickT rfl rfl rfl) rfl rfl ?_))) | (refine Xo.g rfl rfl ?_; (first | (with_reducible refine Xw.tf rfl rfl ?_))))) | (refine XO.done rfl ?_; refine hK _ _ ?_; clear hK K) | refine X.seq rfl ?_ | refine X.region rfl (fun K hK => ?_) | refine X.ret rfl ?_)
          all_goals try (exfalso; contradiction)
          exact ret_one (by first | exact .inr rfl | exact .inl rfl) Tryz.results6 rfl (H' := _) (List.Sublist.refl _) rfl
        · have f6 := f2 rfl
          repeat' (first | (refine XO.op rfl ?_; (first | ((first | refine Xo.ng rfl ?_ | (refine Xo.g rfl rfl ?_; with_reducible refine Xw.tt ?_) | (refine Xo.g rfl rfl ?_; with_reducible refine Xw.ff ?_)); (first | (refine Xg.ev (notT rfl rfl) rfl rfl ?_) | (refine Xg.ev (EvF.cmp (b := true) rfl rfl rfl (congrArg some (decide_eq_true (by omega)))) rfl rfl ?_) | (refine Xg.ev (EvF.move rfl rfl) rfl rfl ?_) | (refine Xg.ev (EvF.assign rfl rfl) rfl rfl ?_) | (refine Xg.ev (EvF.pickT rfl rfl rfl) rfl rfl ?_) | (refine Xg.ev (EvF.pickF rfl rfl rfl) rfl rfl ?_))))) | (refine XO.done rfl ?_; refine hK _ _ ?_; clear hK K) | refine X.seq rfl ?_ | refine X.region rfl (fun K hK => ?_) | refine X.ret rfl ?_)
          all_goals try (exfalso; contradiction)
          exact ret_one (by first | exact .inr rfl | exact .inl rfl) Tryz.results6 rfl (H' := _) (List.Sublist.refl _) rfl
  · have hR : ∀ Z : List Row, _ := fun Z => readyF T p hr (Z ++ H) (hg.sub (fun _ h => List.mem_append_right _ h)) (hs.sub (fun _ h => List.mem_append_right _ h))
    refine Fc.mk (callable Tryz.call6) Tryz.func6 rfl Tryz.ntmps6 rfl ?_; dsimp only [fr]
    repeat' (first | (refine XO.op rfl ?_; (first | ((first | refine Xo.ng rfl ?_); (first | (refine Xg.call (EnF.st rfl (by (repeat (first | exact Args.nil | refine Args.cons rfl ?_)); done)) rfl rfl (alive_spec _) ?_; rintro _ H9 ⟨rfl, hH9⟩; subst H9) | (refine Xg.call (EnF.st rfl (Args.cons rfl Args.nil)) rfl rfl (hR [_, _]) ?_; rintro _ H9 ⟨rfl, hH9⟩; subst H9) | (refine Xg.ev (notF rfl rfl) rfl rfl ?_) | (refine Xg.ev (EvF.move rfl rfl) rfl rfl ?_) | (refine Xg.ev (EvF.assign rfl rfl) rfl rfl ?_) | (refine Xg.ev (EvF.pickT rfl rfl rfl) rfl rfl ?_) | (refine Xg.ev (EvF.loadV rfl rfl (LoadV.whole (te rfl) rfl (List.Mem.tail _ (List.Mem.head _)) rfl)) rfl rfl ?_) | (refine Xg.st (StF.boxAgg rfl rfl) rfl rfl ?_; rintro _ _ ⟨bx, rfl, rfl⟩))) | (refine Xo.g rfl rfl ?_; (first | (with_reducible refine Xw.tf rfl rfl ?_))))) | (refine XO.done rfl ?_; refine hK _ _ ?_; clear hK K) | refine X.seq rfl ?_ | refine X.region rfl (fun K hK => ?_) | refine X.ret rfl ?_ | (refine X.ite rfl rfl (fun hc => ?_); (first | (with_reducible refine Xb.t hc ?_)) <;> clear hc))
    all_goals try (exfalso; contradiction)
    exact ret_one (by first | exact .inr rfl | exact .inl rfl) Tryz.results6 rfl (H' := _) (List.Sublist.refl _) rfl
end Go.Proofs.YtcjlegjchllgjaaGreat
end
section
set_option linter.unusedVariables false
namespace Go.Proofs.YtcjlegjchllgjaaGreat
open Go Go.Fw Go.ChangeShapes Go.WideShapes Go.ChangeAt Go.RowKit
set_option linter.unusedVariables false
set_option maxRecDepth 100000
theorem termsAsk_run (T : Tm) (pT : Pt) (u : List Int) (wh : Int) (sh : Int) (w : World) (hu : u.length = 3 ∧ ∀ x ∈ u, u8 x) (hwh : u8 wh) (hsh : u8 sh) (hT : InTm w T pT) :
    Calls Tryz.prog 6 #[.agg (cTm T pT).toArray, .agg (c8 u).toArray, .int .u8 wh, .int .u8 sh] w fun e w' => e = .returned (.bool true) ∧ Below w.heap.size w w' :=
  Fc.calls (H := rowsTm T pT) (termsAsk_spec T pT u wh sh hu hwh hsh _ (hT.g (fun _ h => h)) (hT.s (fun _ h => h))) (fun r hr => by
    exact hT.ok r hr
  )
theorem termsAsk_lifted (os : Os) (started : os.Started) (H : Type) (enc : TypeId × Value → H) :
    ReturnsInHanded {} Tryz.checked os 6 .any (Rows.termsAskSpec.pre6 enc Tryz.prog Tryz.f6 Rows.termsAskRow.domain false) (Rows.termsAskSpec.post enc Tryz.prog Tryz.f6 false true false false) := by
  refine returnsInHanded_of_change (C := Tryz.checked) ownK started (by kernel_rfl) Tryz.func6
    (ChangeSpec.witness6 (enc := enc) (C := Tryz.checked) false ⟨#[], #[.agg (cTm Tz pz).toArray, .agg (c8 [0, 0, 0]).toArray, .int .u8 0, .int .u8 0], []⟩ 8 (by kernel_rfl) (by kernel_rfl) (by kernel_rfl) (by kernel_rfl)) ?_
  intro W base args ds gs before hval0 hW hcnd _
  have hval : ∀ (j : Nat) t v, Tryz.f6.params[j]? = some t → args[j]? = some v → Value.okWide Tryz.prog W .any base t v := hval0
  have hW' := hW
  obtain ⟨p, q, hA0, hV, rfl, hfz, hnd⟩ := hW
  have hA : DataW.TrodAll enc Tryz.prog W 0 (fun _ => true) true Tryz.f6.params.toList args.toList ds p := hA0
  rw [Tryz.params6] at hA hval
  obtain ⟨v0, vs0, d0, ds0, p0, q0, hargs, rfl, rfl, h0, r0⟩ := trodAll_cons hA
  obtain ⟨v1, vs1, d1, ds1, p1, q1, rfl, rfl, rfl, h1, r1⟩ := trodAll_cons r0
  obtain ⟨v2, vs2, d2, ds2, p2, q2, rfl, rfl, rfl, h2, r2⟩ := trodAll_cons r1
  obtain ⟨v3, vs3, d3, ds3, p3, q3, rfl, rfl, rfl, h3, r3⟩ := trodAll_cons r2
  obtain ⟨rfl, rfl, rfl⟩ := trodAll_nil r3
  obtain rfl : args = #[v0, v1, v2, v3] := by cases args; simp_all
  obtain ⟨rfl, rfl⟩ := trodVars_none hV
  have lt : ∀ {t v d ps}, DataW.Trod enc Tryz.prog W 0 (fun _ => true) true t v d ps → ∀ x ∈ ps, x.block < W.heap.size := fun h => by obtain ⟨m, hm⟩ := h; exact DataW.trod_lt m _ _ _ hm
  obtain ⟨T, pT, rfl, hT⟩ := open_terms (hval 0 _ v0 rfl rfl) h0
  obtain ⟨u, rfl, hu⟩ := arr8 Tryz.underlying72 (by kernel_rfl) (hval 1 _ v1 rfl rfl) h1
  obtain ⟨wh, rfl, hwh⟩ := open_u8 (hval 2 _ v2 rfl rfl) h2
  obtain ⟨sh, rfl, hsh⟩ := open_u8 (hval 3 _ v3 rfl rfl) h3
  clear hA0 hval0
  refine (termsAsk_run T pT u wh sh W hu hwh hsh hT).mono fun e W' ⟨he, bel⟩ => ?_
  subst he
  exact ⟨_, rfl, _, _, _, [], _, [], hW', trodAll_mk1 (shut_bool Tryz.underlying4 _), (trodAll_cons_mk (Below.trod laidO (by kernel_rfl) (of_decide_eq_true (by kernel_rfl)) h0 bel (lt h0)) (trodAll_cons_mk (Below.trod laidO (by kernel_rfl) (of_decide_eq_true (by kernel_rfl)) h1 bel (lt h1)) (trodAll_cons_mk (Below.trod laidO (by kernel_rfl) (of_decide_eq_true (by kernel_rfl)) h2 bel (lt h2)) (trodAll_cons_mk (Below.trod laidO (by kernel_rfl) (of_decide_eq_true (by kernel_rfl)) h3 bel (lt h3)) trodAll_mk0)))), rfl, bel.frame _, fun h => by cases h⟩
theorem termsAsk_over : Rows.termsAskRow.holds Tryz.pinned (OpenSpec.ofChange Rows.termsAskSpec) :=
  OpenClaim.holds_of_wide 6 Tryz.f6 rfl rfl rfl rfl rfl rfl rfl ⟨rfl, rfl, rfl, rfl, rfl⟩ rfl rfl rfl rfl rfl (by kernel_rfl) Tryz.func6 (by kernel_rfl)
    (of_decide_eq_true (by kernel_rfl)) (by unfold Func.isWrapper; first | (rw [if_pos (by decide +kernel)]; kernel_rfl) | (rw [if_neg (by decide +kernel)]; exact ⟨rfl, rfl⟩))
    (fun os started H enc _ => termsAsk_lifted os started H enc)
theorem termsAsk_proved : Rows.TermsAskSaid := termsAsk_over
#print axioms termsAsk_proved
end Go.Proofs.YtcjlegjchllgjaaGreat
end
