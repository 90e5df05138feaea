/- TermsSums: for all terms, a month and numbers the law returns true (what some bales come to is what each one comes to, and those that may not be delivered are told; the examples are as told), and each argument reads afterwards as before. No condition. -/
import Derived.Test.YtcjlegjchllgjaaGreatW06
import Derived.OpenShut
section
set_option linter.unusedVariables false
set_option linter.unusedSimpArgs false
namespace Go.Proofs.YtcjlegjchllgjaaGreat
open Go Go.Fw
set_option maxRecDepth 10000
theorem litDy (d1 d2 d3 : Dy) : fillL (fun i => some (i * 3, 3)) ((Array.range (3 * 3)).map (fun x => (Value.agg #[.int .i64 0, .slice none 0 0, .slice none 0 0]).cells[x % (Value.agg #[.int .i64 0, .slice none 0 0, .slice none 0 0]).cells.size]!)).toList [(0, .agg (cDy d1).toArray), (1, .agg (cDy d2).toArray), (2, .agg (cDy d3).toArray)] = some ([d1, d2, d3].flatMap cDy) := by kernel_rfl
theorem litCl (d1 d2 d3 : Cl) : fillL (fun i => some (i * 2, 2)) ((Array.range (3 * 2)).map (fun x => (Value.agg #[.int .i64 0, .int .i64 0]).cells[x % (Value.agg #[.int .i64 0, .int .i64 0]).cells.size]!)).toList [(0, .agg (cCl d1).toArray), (1, .agg (cCl d2).toArray), (2, .agg (cCl d3).toArray)] = some ([d1, d2, d3].flatMap cCl) := by kernel_rfl
set_option maxHeartbeats 16000000 in
theorem alive2 (H : List Row) : X Tryz.prog 295 (csnd (csnd (csnd (csnd (csnd (csnd (csnd (csnd (csnd (cof Tryz.f13)))))))))) [] H (retX Tryz.prog Tryz.f13 (fun v H' => v = .bool true ∧ H' = H)) := by
  repeat' (first | (refine XO.op rfl ?_; (first | ((first | refine Xo.ng rfl ?_); (first | (refine Xg.call (EnF.st rfl (Args.cons rfl Args.nil)) rfl rfl (cotton_spec _ _) ?_; rintro _ _ ⟨b1, b2, rfl, rfl⟩) | (refine Xg.call (EnF.st rfl (Args.cons rfl Args.nil)) rfl rfl (day_spec _ _) ?_; rintro _ _ ⟨d1, d2, rfl, rfl⟩) | (refine Xg.call (EnF.st rfl (Args.cons rfl (Args.cons rfl Args.nil))) rfl rfl (lclass_spec _ _ _) ?_; rintro _ H9 ⟨rfl, hH9⟩; subst H9) | (refine Xg.call (EnF.st rfl (Args.cons rfl (Args.cons rfl Args.nil))) rfl rfl (x10 _ _ _ _ (ctnOk 12 b1 b2 _ (List.Mem.tail _ (List.Mem.tail _ (List.Mem.tail _ (List.Mem.head _)))) (List.Mem.tail _ (List.Mem.tail _ (List.Mem.head _)))) (dyEOk 510 d1 d2 _ (List.Mem.tail _ (List.Mem.head _)) (List.Mem.head _))) ?_; rintro _ H9 ⟨rfl, hH9⟩; subst H9) | (refine Xg.call (EnF.st rfl (Args.cons rfl (Args.cons rfl (Args.cons rfl Args.nil)))) rfl rfl (x11 _ _ _ _ (ctnOk 12 b1 b2 _ (List.Mem.tail _ (List.Mem.tail _ (List.Mem.tail _ (List.Mem.head _)))) (List.Mem.tail _ (List.Mem.tail _ (List.Mem.head _)))) (dyEOk 510 d1 d2 _ (List.Mem.tail _ (List.Mem.head _)) (List.Mem.head _))) ?_; rintro _ H9 ⟨rfl, hH9⟩; subst H9) | (refine Xg.ev (EvF.move rfl rfl) rfl rfl ?_) | (refine Xg.ev (EvF.assign rfl rfl) rfl rfl ?_) | (refine Xg.ev (EvF.extract rfl rfl rfl) rfl rfl ?_) | (refine Xg.st (StF.alloc rfl Tryz.zeroValue30 rfl) rfl rfl ?_; rintro _ _ ⟨bx, rfl, rfl⟩) | (refine Xg.st0 (StF.storeAll (i := 0) rfl rfl rfl (te rfl) rfl rfl rfl rfl) rfl ?_; rintro _ _ ⟨rfl, rfl⟩; dsimp only [List.set]))))) | (refine XO.done rfl ?_; refine hK _ _ ?_; clear hK K) | refine X.seq rfl ?_ | refine X.region rfl (fun K hK => ?_))
  rename_i e1 e2 e3 e4
  obtain ⟨b18, hb⟩ : ∃ b, b = bx := ⟨_, rfl⟩
  rw [← hb]
  clear hb
  repeat' (first | (refine XO.op rfl ?_; (first | ((first | refine Xo.ng rfl ?_); (first | (refine Xg.st (StF.buildLit (len := 3) (vs := [(0, .agg (cDy (dyE 510 (some ⟨e1, 0, none⟩) (some ⟨e2, 0, none⟩))).toArray), (1, .agg (cDy (dyE 505 (some ⟨e3, 0, none⟩) (some ⟨e4, 0, none⟩))).toArray), (2, .agg (cDy (dyE 520 (some ⟨d1, 0, none⟩) (some ⟨d2, 0, none⟩))).toArray)]) rfl elDy Tryz.zeroValue48 (ArgsP.cons rfl (ArgsP.cons rfl (ArgsP.cons rfl ArgsP.nil))) (litDy _ _ _) rfl rfl rfl) rfl rfl ?_; rintro _ _ ⟨l1, rfl, rfl⟩) | (refine Xg.call (EnF.st rfl (Args.cons rfl (Args.cons rfl Args.nil))) rfl rfl (x12 _ (some ⟨e1, 0, none⟩) (some ⟨e2, 0, none⟩) (some ⟨e3, 0, none⟩) (some ⟨e4, 0, none⟩) (some ⟨d1, 0, none⟩) (some ⟨d2, 0, none⟩) _ _ _ (ctnOk 12 b1 b2 _ (List.Mem.tail _ (List.Mem.tail _ (List.Mem.tail _ (List.Mem.tail _ (List.Mem.tail _ (List.Mem.tail _ (List.Mem.tail _ (List.Mem.tail _ (List.Mem.head _))))))))) (List.Mem.tail _ (List.Mem.tail _ (List.Mem.tail _ (List.Mem.tail _ (List.Mem.tail _ (List.Mem.tail _ (List.Mem.tail _ (List.Mem.head _))))))))) ⟨SlE.ofRow (List.Mem.head _) (fun _ _ => rfl), fun d hd => by rcases List.mem_cons.1 hd with rfl | hd; exact dyEOk 510 e1 e2 _ (List.Mem.tail _ (List.Mem.tail _ (List.Mem.tail _ (List.Mem.tail _ (List.Mem.tail _ (List.Mem.tail _ (List.Mem.head _))))))) (List.Mem.tail _ (List.Mem.tail _ (List.Mem.tail _ (List.Mem.tail _ (List.Mem.tail _ (List.Mem.head _)))))); rcases List.mem_cons.1 hd with rfl | hd; exact dyEOk 505 e3 e4 _ (List.Mem.tail _ (List.Mem.tail _ (List.Mem.tail _ (List.Mem.tail _ (List.Mem.head _))))) (List.Mem.tail _ (List.Mem.tail _ (List.Mem.tail _ (List.Mem.head _)))); rw [List.mem_singleton.1 hd]; exact dyEOk 520 d1 d2 _ (List.Mem.tail _ (List.Mem.tail _ (List.Mem.head _))) (List.Mem.tail _ (List.Mem.head _))⟩) ?_; rintro _ H9 ⟨rfl, hH9⟩; subst H9) | (refine Xg.call (EnF.st rfl (Args.cons rfl Args.nil)) rfl rfl (cotton_spec _ _) ?_; rintro _ _ ⟨b1, b2, rfl, rfl⟩) | (refine Xg.call (EnF.st rfl (Args.cons rfl (Args.cons rfl Args.nil))) rfl rfl (lclass_spec _ _ _) ?_; rintro _ H9 ⟨rfl, hH9⟩; subst H9) | (refine Xg.st (StF.buildLit (len := 3) (vs := [(0, .agg (cCl ⟨4, 5⟩).toArray), (1, .agg (cCl ⟨7, 5⟩).toArray), (2, .agg (cCl ⟨5, 4⟩).toArray)]) rfl elCl Tryz.zeroValue27 (ArgsP.cons rfl (ArgsP.cons rfl (ArgsP.cons rfl ArgsP.nil))) (litCl _ _ _) rfl rfl rfl) rfl rfl ?_; rintro _ _ ⟨l2, rfl, rfl⟩) | (refine Xg.call (EnF.st rfl (Args.cons rfl (Args.cons rfl (Args.cons rfl Args.nil)))) rfl rfl (x13 _ _ _ _ (ctnOk 12 b1 b2 _ (List.Mem.tail _ (List.Mem.tail _ (List.Mem.head _))) (List.Mem.tail _ (List.Mem.head _))) (SlE.ofRow (List.Mem.head _) (fun _ _ => rfl))) ?_; rintro _ _ ⟨br, qr, rfl, rfl⟩) | (refine Xg.call (EnF.st rfl (Args.cons rfl (Args.cons rfl Args.nil))) rfl rfl (x14 _ _ (ctnOk 12 b1 b2 _ (List.Mem.tail _ (List.Mem.head _)) (List.Mem.head _))) ?_; rintro _ _ ⟨z1, z2, z3, z4, rfl, rfl⟩) | (refine Xg.call (EnF.st rfl (Args.cons rfl (Args.cons rfl Args.nil))) rfl rfl (x15 _ _ (ctnOk 12 b1 b2 _ (List.Mem.tail _ (List.Mem.head _)) (List.Mem.head _))) ?_; rintro _ _ ⟨t1, k1, t2, k2, t3, k3, t4, k4, rfl, rfl⟩) | (refine Xg.call (EnF.st rfl (Args.cons rfl (Args.cons rfl Args.nil))) rfl rfl (x16 _ _ _ ⟨SlE.ofRow (List.Mem.tail _ (List.Mem.tail _ (List.Mem.head _))) (fun _ _ => rfl), SlE.ofRow (List.Mem.tail _ (List.Mem.tail _ (List.Mem.tail _ (List.Mem.head _)))) (fun _ _ => rfl), Nat.le_of_ble_eq_true rfl, Nat.le_of_ble_eq_true rfl⟩ ⟨SlE.ofRow (List.Mem.tail _ (List.Mem.tail _ (List.Mem.tail _ (List.Mem.tail _ (List.Mem.head _))))) (fun _ _ => rfl), SlE.ofRow (List.Mem.tail _ (List.Mem.tail _ (List.Mem.tail _ (List.Mem.tail _ (List.Mem.tail _ (List.Mem.head _)))))) (fun _ _ => rfl), Nat.le_of_ble_eq_true rfl, Nat.le_of_ble_eq_true rfl⟩) ?_; rintro _ _ ⟨j1, m1, j2, m2, rfl, rfl⟩) | (refine Xg.call (EnF.st rfl (Args.cons rfl (Args.cons rfl (Args.cons rfl Args.nil)))) rfl rfl (x17 _ _ (ctnOk 12 b1 b2 _ (List.Mem.tail _ (List.Mem.head _)) (List.Mem.head _))) ?_; rintro _ _ ⟨s1, n1, s2, n2, rfl, rfl⟩) | (refine Xg.ev (EvF.move rfl rfl) rfl rfl ?_) | (refine Xg.ev (EvF.assign rfl rfl) rfl rfl ?_) | (refine Xg.ev (EvF.loadV rfl rfl (LoadV.whole (te rfl) rfl (List.Mem.head _) rfl)) rfl rfl ?_) | (refine Xg.ev (EvF.loadV rfl rfl (LoadV.whole (te rfl) rfl (List.Mem.tail _ (List.Mem.head _)) rfl)) rfl rfl ?_) | (refine Xg.ev (EvF.extract rfl rfl rfl) rfl rfl ?_) | (refine Xg.st (StF.alloc rfl Tryz.zeroValue30 rfl) rfl rfl ?_; rintro _ _ ⟨bx, rfl, rfl⟩) | (refine Xg.st (StF.alloc rfl Tryz.zeroValue32 rfl) rfl rfl ?_; rintro _ _ ⟨bx, rfl, rfl⟩) | (refine Xg.st0 (StF.storeAll (i := 0) rfl rfl rfl (te rfl) rfl rfl rfl rfl) rfl ?_; rintro _ _ ⟨rfl, rfl⟩; dsimp only [List.set]) | (refine Xg.st0 (StF.storeAll (i := 1) rfl rfl rfl (te rfl) rfl rfl rfl rfl) rfl ?_; rintro _ _ ⟨rfl, rfl⟩; dsimp only [List.set]))))) | (refine XO.done rfl ?_; refine hK _ _ ?_; clear hK K) | refine X.seq rfl ?_ | refine X.region rfl (fun K hK => ?_))
  exact X.weak (F' := _) (H' := _) (by (repeat (first | exact Sub.nil _ | refine Sub.cons rfl ?_)); done) (by (repeat (first | exact List.Sublist.refl _ | apply List.Sublist.cons_cons | apply List.Sublist.cons)); done) (alive3 _ _ _ _ _ _ _ _ _ _ _ _ _ _ _ _ _ _ _ _ _ _ _ _ H)
end Go.Proofs.YtcjlegjchllgjaaGreat
end
section
set_option linter.unusedVariables false
set_option linter.unusedSimpArgs false
namespace Go.Proofs.YtcjlegjchllgjaaGreat
open Go Go.Fw
set_option maxRecDepth 10000
set_option maxHeartbeats 16000000 in
theorem alive_spec (H : List Row) : Fc Tryz.prog 13 [] H (fun v H' => v = .bool true ∧ H' = H) := by
  refine Fc.mk (callable Tryz.call13) Tryz.func13 rfl Tryz.ntmps13 rfl ?_; dsimp only [fr]
  repeat' (first | (refine XO.op rfl ?_; (first | ((first | refine Xo.ng rfl ?_); (first | (refine Xg.call (EnF.st rfl (Args.cons rfl Args.nil)) rfl rfl (cotton_spec _ _) ?_; rintro _ _ ⟨b1, b2, rfl, rfl⟩) | (refine Xg.call (EnF.st rfl (Args.cons rfl (Args.cons rfl Args.nil))) rfl rfl (lclass_spec _ _ _) ?_; rintro _ H9 ⟨rfl, hH9⟩; subst H9) | (refine Xg.call (EnF.st rfl (Args.cons rfl (Args.cons rfl Args.nil))) rfl rfl (lspan_spec _ _ _) ?_; rintro _ H9 ⟨rfl, hH9⟩; subst H9) | (refine Xg.call (EnF.st rfl (Args.cons rfl (Args.cons rfl Args.nil))) rfl rfl (x1 _ _ (ctnOk 12 b1 b2 _ (List.Mem.tail _ (List.Mem.head _)) (List.Mem.head _))) ?_; rintro _ H9 ⟨rfl, hH9⟩; subst H9) | (refine Xg.call (EnF.st rfl (Args.cons rfl (Args.cons rfl (Args.cons rfl Args.nil)))) rfl rfl (x2 _ _ (ctnOk 12 b1 b2 _ (List.Mem.tail _ (List.Mem.head _)) (List.Mem.head _))) ?_; rintro _ H9 ⟨rfl, hH9⟩; subst H9) | (refine Xg.call (EnF.st rfl (by (repeat (first | exact Args.nil | refine Args.cons rfl ?_)); done)) rfl rfl (x3 _ _ (ctnOk 12 b1 b2 _ (List.Mem.tail _ (List.Mem.head _)) (List.Mem.head _))) ?_; rintro _ H9 ⟨rfl, hH9⟩; subst H9) | (refine Xg.call (EnF.st rfl (Args.cons rfl (Args.cons rfl (Args.cons rfl Args.nil)))) rfl rfl (x4 _ _ (ctnOk 12 b1 b2 _ (List.Mem.tail _ (List.Mem.head _)) (List.Mem.head _))) ?_; rintro _ H9 ⟨rfl, hH9⟩; subst H9) | (refine Xg.call (EnF.st rfl (by (repeat (first | exact Args.nil | refine Args.cons rfl ?_)); done)) rfl rfl (x5 _ _ (ctnOk 12 b1 b2 _ (List.Mem.tail _ (List.Mem.head _)) (List.Mem.head _))) ?_; rintro _ H9 ⟨rfl, hH9⟩; subst H9) | (refine Xg.call (EnF.st rfl (by (repeat (first | exact Args.nil | refine Args.cons rfl ?_)); done)) rfl rfl (x6 _ _ (ctnOk 12 b1 b2 _ (List.Mem.tail _ (List.Mem.head _)) (List.Mem.head _))) ?_; rintro _ H9 ⟨rfl, hH9⟩; subst H9) | (refine Xg.call (EnF.st rfl (Args.cons rfl (Args.cons rfl (Args.cons rfl Args.nil)))) rfl rfl (x7 _ _ (ctnOk 40 b1 b2 _ (List.Mem.tail _ (List.Mem.head _)) (List.Mem.head _))) ?_; rintro _ H9 ⟨rfl, hH9⟩; subst H9) | (refine Xg.ev (EvF.move rfl rfl) rfl rfl ?_) | (refine Xg.ev (EvF.assign rfl rfl) rfl rfl ?_) | (refine Xg.ev (EvF.extract rfl rfl rfl) rfl rfl ?_) | (refine Xg.st (StF.alloc rfl Tryz.zeroValue30 rfl) rfl rfl ?_; rintro _ _ ⟨bx, rfl, rfl⟩) | (refine Xg.st0 (StF.storeAll (i := 0) rfl rfl rfl (te rfl) rfl rfl rfl rfl) rfl ?_; rintro _ _ ⟨rfl, rfl⟩; dsimp only [List.set]))))) | (refine XO.done rfl ?_; refine hK _ _ ?_; clear hK K) | refine X.seq rfl ?_ | refine X.region rfl (fun K hK => ?_))
  obtain ⟨b7, hb7⟩ : ∃ b, b = bx := ⟨_, rfl⟩
  rw [← hb7]
  clear hb7
  refine X.weak (F' := [(0, .bool false), (1, .int .i64 425), (2, .int .i64 0), (3, .bool true), (4, .int .i64 0), (5, .int .u8 1), (6, .int .i64 0), (7, .pointer (some ⟨b7, 0, none⟩)), (8, .int .i64 0), (9, .int .i64 428), (10, .int .i64 440), (11, .int .i64 0), (12, .bool true), (13, .int .i64 12), (14, .int .i64 0), (15, .int .i64 5), (16, .int .i64 475), (17, .int .i64 0)]) (H' := ⟨b7, 0, cSp ⟨425, 530⟩, some 30, 2⟩ :: H) (by (repeat (first | exact Sub.nil _ | refine Sub.cons rfl ?_)); done) (by (repeat (first | exact List.Sublist.refl _ | apply List.Sublist.cons_cons | apply List.Sublist.cons)); done) ?_
  have key : ∀ (F : FS) (H' : List Row), H.Sublist H' → X Tryz.prog 295 (csnd (csnd (csnd (csnd (csnd (csnd (csnd (csnd (csnd (cof Tryz.f13)))))))))) F H' (retX Tryz.prog Tryz.f13 (fun v H' => v = .bool true ∧ H' = H)) := fun F H' hs => X.weak (F' := []) (H' := H) (Sub.nil _) hs (alive2 H)
  generalize hcc : (csnd (csnd (csnd (csnd (csnd (csnd (csnd (csnd (csnd (cof Tryz.f13)))))))))) = cc at key ⊢
  repeat' (first | (refine XO.op rfl ?_; (first | ((first | refine Xo.ng rfl ?_); (first | (refine Xg.ev (EvF.assign rfl rfl) rfl rfl ?_))))) | (refine XO.done rfl ?_; refine hK _ _ ?_; clear hK K) | (refine XQ.op rfl ?_; (first | ((first | refine Yo.ng rfl ?_ | (refine Yo.g rfl rfl ?_; with_reducible refine Yw.ff ?_)); (first | (refine Yg.ev (EvF.cmp (b := false) rfl rfl rfl rfl) rfl rfl ?_) | (refine Yg.ev (EvF.eqSt (r := true) (b := false) rfl rfl rfl (by kernel_rfl) (eqSpT ⟨425, 530⟩) rfl) rfl rfl ?_) | (refine Yg.call (EnF.st rfl (Args.cons rfl (Args.cons rfl Args.nil))) rfl rfl (lspan_spec 425 530 _) ?_) | (refine Yg.ev (EvF.move rfl rfl) rfl rfl ?_) | (refine Yg.ev (EvF.pickT rfl rfl rfl) rfl rfl ?_) | (refine Yg.ev (EvF.pickF rfl rfl rfl) rfl rfl ?_) | (refine Yg.ev (EvF.not rfl rfl) rfl rfl ?_) | (refine Yg.ev (EvF.loadV rfl rfl (LoadV.whole (te rfl) rfl (List.Mem.head _) rfl)) rfl rfl ?_))) | (refine Yo.g rfl rfl ?_; (first | (with_reducible refine Yw.tf rfl rfl ?_) | (with_reducible refine Yw.caseB (fun h => ?_) (fun h => ?_) <;> simp only [h, decide_true, decide_false, Bool.not_true, Bool.not_false, and_self, and_true, true_and, and_false, false_and]))))) | (refine XQ.done rfl ?_; refine hK _ ?_; clear hK K) | refine X.seq rfl ?_ | refine X.region rfl (fun K hK => ?_) | refine X.regionD rfl mixed (by kernel_rfl) (fun K hK => ?_) | refine X.skip rfl ?_ | refine X.ret rfl ?_ | (refine X.ite rfl rfl (fun hc => ?_); (first | (with_reducible refine Xb.t hc ?_) | (with_reducible refine Xb.f hc ?_)) <;> clear hc))
  all_goals try (exfalso; contradiction)
  all_goals exact key _ _ (List.sublist_cons_self _ _)
end Go.Proofs.YtcjlegjchllgjaaGreat
end
section
set_option linter.unusedVariables false
set_option linter.unusedSimpArgs false
namespace Go.Proofs.YtcjlegjchllgjaaGreat
open Go Go.Fw
set_option maxRecDepth 10000
theorem notT {n : Nat} {H : List Row} {F : FS} {o : Oper} {T : TypeId} {x : Operand} (h : o.op = .unOp .not T x) (hx : evF F x = some (.bool true)) : EvF Tryz.prog n H F o (.bool false) := EvF.not h hx
theorem notF {n : Nat} {H : List Row} {F : FS} {o : Oper} {T : TypeId} {x : Operand} (h : o.op = .unOp .not T x) (hx : evF F x = some (.bool false)) : EvF Tryz.prog n H F o (.bool true) := EvF.not h hx
theorem nd_t {p : Prop} [Decidable p] (h : ¬ p) : (!decide p) = true := by rw [decide_eq_false h]; rfl
theorem nd_f {p : Prop} [Decidable p] (h : p) : (!decide p) = false := by rw [decide_eq_true h]; rfl
theorem falls_at : ∀ {l : List Int}, falls l → ∀ {i j : Nat} {a b : Int}, i ≤ j → l[i]? = some a → l[j]? = some b → b ≤ a
  | [], _, i, _, _, _, _, h, _ => by simp at h
  | [x], _, i, j, a, b, _, h1, h2 => by
    cases i with
    | zero => cases j with
      | zero => simp at h1 h2; omega
      | succ j => simp at h2
    | succ i => simp at h1
  | x :: y :: l, h, i, j, a, b, hij, h1, h2 => by
    have hh : y ≤ x ∧ falls (y :: l) := h
    cases j with
    | zero => obtain rfl : i = 0 := by omega
              simp at h1 h2; omega
    | succ j =>
      rw [List.getElem?_cons_succ] at h2
      cases i with
      | zero =>
        simp at h1
        have := falls_at hh.2 (Nat.zero_le j) (by simp : (y :: l)[0]? = some y) h2
        omega
      | succ i =>
        rw [List.getElem?_cons_succ] at h1
        exact falls_at hh.2 (by omega) h1 h2
theorem grows_at : ∀ {l : List Int}, grows l → ∀ {i j : Nat} {a b : Int}, i ≤ j → l[i]? = some a → l[j]? = some b → a ≤ b
  | [], _, i, _, _, _, _, h, _ => by simp at h
  | [x], _, i, j, a, b, _, h1, h2 => by
    cases i with
    | zero => cases j with
      | zero => simp at h1 h2; omega
      | succ j => simp at h2
    | succ i => simp at h1
  | x :: y :: l, h, i, j, a, b, hij, h1, h2 => by
    have hh : x ≤ y ∧ grows (y :: l) := h
    cases j with
    | zero => obtain rfl : i = 0 := by omega
              simp at h1 h2; omega
    | succ j =>
      rw [List.getElem?_cons_succ] at h2
      cases i with
      | zero =>
        simp at h1
        have := grows_at hh.2 (Nat.zero_le j) (by simp : (y :: l)[0]? = some y) h2
        omega
      | succ i =>
        rw [List.getElem?_cons_succ] at h1
        exact grows_at hh.2 (by omega) h1 h2
/-- a better grade, or a longer staple, is worth no less -/
theorem val_mono {T : Tm} (hok : tmOk T) {g g' s s' : Int} (hg : 1 ≤ g ∧ g ≤ g' ∧ g' ≤ 9) (hs : 1 ≤ s' ∧ s' ≤ s ∧ s ≤ 9) : val T g' s' ≤ val T g s := by
  unfold val
  have h1 := falls_at hok.ord.1 (i := (g - 1).toNat) (j := (g' - 1).toNat) (by omega) (at1_get (by omega) hok.gr.1) (at1_get (by omega) hok.gr.1)
  have h2 := grows_at hok.ord.2 (i := (s' - 1).toNat) (j := (s - 1).toNat) (by omega) (at1_get (by omega) hok.st.1) (at1_get (by omega) hok.st.1)
  omega
theorem val_pos {T : Tm} (hok : tmOk T) {g s : Int} (hg : 1 ≤ g ∧ g ≤ T.worst) (hs : T.short ≤ s ∧ s ≤ 9) : 1 ≤ val T g s := by
  have h1 := hok.least
  have h2 := hok.cls
  have := val_mono hok (g := g) (g' := T.worst) (s := s) (s' := T.short) (by omega) (by omega)
  omega
theorem nines (x : Int) : 1 ≤ 1 + x % 9 ∧ 1 + x % 9 ≤ 9 := by omega
end Go.Proofs.YtcjlegjchllgjaaGreat
end
section
set_option linter.unusedVariables false
set_option linter.unusedSimpArgs false
namespace Go.Proofs.YtcjlegjchllgjaaGreat
open Go Go.Fw
set_option maxRecDepth 10000
set_option maxHeartbeats 16000000 in
theorem llost_spec (T : Tm) (p : Pt) (sd g s : Int) (ask : Bool) (H : List Row) (hT : TmOk H T p) (hok : tmOk T) (h1 : 1 ≤ sd ∧ sd ≤ 9) (h2 : 1 ≤ g ∧ g ≤ 9) (h3 : 1 ≤ s ∧ s ≤ 9) (hm : may T ⟨sd, s⟩ = true) :
    Fc Tryz.prog 38 [.agg (cTm T p).toArray, .int .i64 sd, .int .i64 g, .int .i64 s, .bool ask] H (fun v H' => v = .tuple #[.int .i64 (los T sd s ask g), .bool true] ∧ H' = H) := by
  have b1 := val_bd hok sd s
  have b2 := val_bd hok g s
  have b3 := hok.num
  have hE : payE T sd g s = 0 := by unfold payE; rw [if_pos hok, if_pos ⟨h1, h2⟩, if_pos h3, if_pos hm]
  have hP := kPays_spec T p sd g s ask
  unfold payG payP at hP
  rw [hE, if_pos rfl, if_pos rfl] at hP
  have hL : los T sd s ask g = (stl T ⟨sd, s⟩ ⟨g, s⟩ ask).pays - (stl T ⟨sd, s⟩ ⟨g, s⟩ ask).has := rfl
  have hb : (-2000 ≤ (stl T ⟨sd, s⟩ ⟨g, s⟩ ask).pays ∧ (stl T ⟨sd, s⟩ ⟨g, s⟩ ask).pays ≤ 1003000) ∧ (((ask = false ∨ g ≤ sd ∨ may T ⟨g, s⟩ = true) ∧ (stl T ⟨sd, s⟩ ⟨g, s⟩ ask).has = val T g s) ∨ (ask = true ∧ sd < g ∧ may T ⟨g, s⟩ = false ∧ (stl T ⟨sd, s⟩ ⟨g, s⟩ ask).has = 0)) := by
    have hmy : may T ⟨g, s⟩ = decide (g ≤ T.worst ∧ T.short ≤ s) := rfl
    unfold stl
    dsimp only
    cases ask
    · rw [if_pos rfl]; exact ⟨by dsimp only; omega, .inl ⟨.inl rfl, rfl⟩⟩
    · rw [if_neg (by decide)]
      by_cases q1 : g ≤ sd
      · rw [if_pos q1]; exact ⟨by dsimp only; omega, .inl ⟨.inr (.inl q1), rfl⟩⟩
      · rw [if_neg q1]
        by_cases q2 : g ≤ T.worst ∧ T.short ≤ s
        · rw [if_pos q2]; exact ⟨by dsimp only; omega, .inl ⟨.inr (.inr (by rw [hmy]; exact decide_eq_true q2)), rfl⟩⟩
        · rw [if_neg q2]; exact ⟨by dsimp only; omega, .inr ⟨rfl, by omega, by rw [hmy]; exact decide_eq_false q2, rfl⟩⟩
  generalize stl T ⟨sd, s⟩ ⟨g, s⟩ ask = o at hP hL hb
  rw [hL]
  clear hL hE
  obtain ⟨hb, hc⟩ := hb
  have hV : ∀ H', TmOk H' T p → Fc Tryz.prog 42 [.agg (cTm T p).toArray, .agg (cCl ⟨g, s⟩).toArray] H' (fun v H'' => v = .int .i64 (val T g s) ∧ H'' = H') := fun H' h => rvalue_spec T p ⟨g, s⟩ H' h hok.gr hok.st (by omega) h2 h3
  rcases hc with ⟨hc, hh⟩ | ⟨rfl, hc, hd, hh⟩
  · rw [hh]
    have hM : ∀ H', Fc Tryz.prog 37 [.agg (cTm T p).toArray, .agg (cCl ⟨g, s⟩).toArray] H' (fun v H'' => v = .bool (may T ⟨g, s⟩) ∧ H'' = H') := fun H' => rmay_spec T p ⟨g, s⟩ H'
    generalize may T ⟨g, s⟩ = my at hc hM
    cases ask
    · refine Fc.mk (callable Tryz.call38) Tryz.func38 rfl Tryz.ntmps38 rfl ?_; dsimp only [fr]
      repeat' (first | (refine XO.op rfl ?_; (first | ((first | refine Xo.ng rfl ?_ | (refine Xo.g rfl rfl ?_; with_reducible refine Xw.ff ?_)); (first | (refine Xg.call (EnF.st rfl (Args.cons rfl (Args.cons rfl (Args.cons rfl (Args.cons rfl (Args.cons rfl Args.nil)))))) rfl rfl (hP _ (hT.sub (fun _ h => by repeat (first | exact h | apply List.Mem.tail)))) ?_; rintro _ _ ⟨rfl, rfl⟩) | (refine Xg.call (EnF.st rfl (Args.cons rfl (Args.cons rfl Args.nil))) rfl rfl (lclass_spec _ _ _) ?_; rintro _ H9 ⟨rfl, hH9⟩; subst H9) | (refine Xg.call (EnF.st rfl (Args.cons rfl (Args.cons rfl Args.nil))) rfl rfl (hV _ (hT.sub (fun _ h => by repeat (first | exact h | apply List.Mem.tail)))) ?_; rintro _ H9 ⟨rfl, hH9⟩; subst H9) | (refine Xg.ev (EvF.sub64 rfl rfl rfl (by omega) (by omega)) rfl rfl ?_) | (refine Xg.ev (EvF.cmp (b := true) rfl rfl rfl (congrArg some (decide_eq_true (by omega)))) rfl rfl ?_) | (refine Xg.ev (EvF.cmp (b := false) rfl rfl rfl (congrArg some (decide_eq_false (by omega)))) rfl rfl ?_) | (refine Xg.ev (EvF.move rfl rfl) rfl rfl ?_) | (refine Xg.ev (EvF.assign rfl rfl) rfl rfl ?_) | (refine Xg.ev (EvF.pickF rfl rfl rfl) rfl rfl ?_) | (refine Xg.ev (EvF.loadV rfl rfl (LoadV.whole (te rfl) rfl (List.Mem.head _) rfl)) rfl rfl ?_) | (refine Xg.ev (EvF.loadV rfl rfl (LoadV.whole (te rfl) rfl (List.Mem.tail _ (List.Mem.head _)) rfl)) rfl rfl ?_) | (refine Xg.ev (EvF.extract rfl rfl rfl) rfl rfl ?_) | (refine Xg.st (StF.boxAgg rfl rfl) rfl rfl ?_; rintro _ _ ⟨bx, rfl, rfl⟩) | (refine Xg.st (StF.alloc rfl Tryz.zeroValue30 rfl) rfl rfl ?_; rintro _ _ ⟨bx, rfl, rfl⟩) | (refine Xg.st0 (StF.storeAll (i := 0) rfl rfl rfl (te rfl) rfl rfl rfl rfl) rfl ?_; rintro _ _ ⟨rfl, rfl⟩; dsimp only [List.set]))) | (refine Xo.g rfl rfl ?_; (first | (with_reducible refine Xw.ft rfl rfl ?_))))) | (refine XO.done rfl ?_; refine hK _ _ ?_; clear hK K) | refine X.seq rfl ?_ | refine X.region rfl (fun K hK => ?_) | refine X.skip rfl ?_ | refine X.ret rfl ?_ | (refine X.ite rfl rfl (fun hc => ?_); (first | (with_reducible refine Xb.f hc ?_)) <;> clear hc))
      all_goals try (exfalso; contradiction)
      refine ret_two (by first | exact .inr rfl | exact .inl rfl) Tryz.results38 rfl rfl (H' := H) (by (repeat (first | exact List.Sublist.refl _ | apply List.Sublist.cons)); done) ?_; simp only [and_true, true_and]
    · by_cases hg : sd < g
      · have hy : my = true := by rcases hc with h | h | h; cases h; omega; exact h
        subst hy
        refine Fc.mk (callable Tryz.call38) Tryz.func38 rfl Tryz.ntmps38 rfl ?_; dsimp only [fr]
        repeat' (first | (refine XO.op rfl ?_; (first | ((first | refine Xo.ng rfl ?_ | (refine Xo.g rfl rfl ?_; with_reducible refine Xw.tt ?_) | (refine Xo.g rfl rfl ?_; with_reducible refine Xw.ff ?_)); (first | (refine Xg.call (EnF.st rfl (Args.cons rfl (Args.cons rfl (Args.cons rfl (Args.cons rfl (Args.cons rfl Args.nil)))))) rfl rfl (hP _ (hT.sub (fun _ h => by repeat (first | exact h | apply List.Mem.tail)))) ?_; rintro _ _ ⟨rfl, rfl⟩) | (refine Xg.call (EnF.st rfl (Args.cons rfl (Args.cons rfl Args.nil))) rfl rfl (lclass_spec _ _ _) ?_; rintro _ H9 ⟨rfl, hH9⟩; subst H9) | (refine Xg.call (EnF.st rfl (Args.cons rfl (Args.cons rfl Args.nil))) rfl rfl (hM _) ?_; rintro _ H9 ⟨rfl, hH9⟩; subst H9) | (refine Xg.call (EnF.st rfl (Args.cons rfl (Args.cons rfl Args.nil))) rfl rfl (hV _ (hT.sub (fun _ h => by repeat (first | exact h | apply List.Mem.tail)))) ?_; rintro _ H9 ⟨rfl, hH9⟩; subst H9) | (refine Xg.ev (EvF.sub64 rfl rfl rfl (by omega) (by omega)) rfl rfl ?_) | (refine Xg.ev (notT rfl rfl) rfl rfl ?_) | (refine Xg.ev (EvF.cmp (b := true) rfl rfl rfl (congrArg some (decide_eq_true (by omega)))) rfl rfl ?_) | (refine Xg.ev (EvF.cmp (b := false) rfl rfl rfl (congrArg some (decide_eq_false (by omega)))) rfl rfl ?_) | (refine Xg.ev (EvF.move rfl rfl) rfl rfl ?_) | (refine Xg.ev (EvF.assign rfl rfl) rfl rfl ?_) | (refine Xg.ev (EvF.pickT rfl rfl rfl) rfl rfl ?_) | (refine Xg.ev (EvF.pickF rfl rfl rfl) rfl rfl ?_) | (refine Xg.ev (EvF.loadV rfl rfl (LoadV.whole (te rfl) rfl (List.Mem.head _) rfl)) rfl rfl ?_) | (refine Xg.ev (EvF.loadV rfl rfl (LoadV.whole (te rfl) rfl (List.Mem.tail _ (List.Mem.head _)) rfl)) rfl rfl ?_) | (refine Xg.ev (EvF.extract rfl rfl rfl) rfl rfl ?_) | (refine Xg.st (StF.boxAgg rfl rfl) rfl rfl ?_; rintro _ _ ⟨bx, rfl, rfl⟩) | (refine Xg.st (StF.alloc rfl Tryz.zeroValue30 rfl) rfl rfl ?_; rintro _ _ ⟨bx, rfl, rfl⟩) | (refine Xg.st0 (StF.storeAll (i := 0) rfl rfl rfl (te rfl) rfl rfl rfl rfl) rfl ?_; rintro _ _ ⟨rfl, rfl⟩; dsimp only [List.set]))))) | (refine XO.done rfl ?_; refine hK _ _ ?_; clear hK K) | refine X.seq rfl ?_ | refine X.region rfl (fun K hK => ?_) | refine X.skip rfl ?_ | refine X.ret rfl ?_ | (refine X.ite rfl rfl (fun hc => ?_); (first | (with_reducible refine Xb.f hc ?_)) <;> clear hc))
        all_goals try (exfalso; contradiction)
        refine ret_two (by first | exact .inr rfl | exact .inl rfl) Tryz.results38 rfl rfl (H' := H) (by (repeat (first | exact List.Sublist.refl _ | apply List.Sublist.cons)); done) ?_; simp only [and_true, true_and]
      · refine Fc.mk (callable Tryz.call38) Tryz.func38 rfl Tryz.ntmps38 rfl ?_; dsimp only [fr]
        repeat' (first | (refine XO.op rfl ?_; (first | ((first | refine Xo.ng rfl ?_ | (refine Xo.g rfl rfl ?_; with_reducible refine Xw.tt ?_) | (refine Xo.g rfl rfl ?_; with_reducible refine Xw.ff ?_)); (first | (refine Xg.call (EnF.st rfl (Args.cons rfl (Args.cons rfl (Args.cons rfl (Args.cons rfl (Args.cons rfl Args.nil)))))) rfl rfl (hP _ (hT.sub (fun _ h => by repeat (first | exact h | apply List.Mem.tail)))) ?_; rintro _ _ ⟨rfl, rfl⟩) | (refine Xg.call (EnF.st rfl (Args.cons rfl (Args.cons rfl Args.nil))) rfl rfl (lclass_spec _ _ _) ?_; rintro _ H9 ⟨rfl, hH9⟩; subst H9) | (refine Xg.call (EnF.st rfl (Args.cons rfl (Args.cons rfl Args.nil))) rfl rfl (hV _ (hT.sub (fun _ h => by repeat (first | exact h | apply List.Mem.tail)))) ?_; rintro _ H9 ⟨rfl, hH9⟩; subst H9) | (refine Xg.ev (EvF.sub64 rfl rfl rfl (by omega) (by omega)) rfl rfl ?_) | (refine Xg.ev (EvF.cmp (b := true) rfl rfl rfl (congrArg some (decide_eq_true (by omega)))) rfl rfl ?_) | (refine Xg.ev (EvF.cmp (b := false) rfl rfl rfl (congrArg some (decide_eq_false (by omega)))) rfl rfl ?_) | (refine Xg.ev (EvF.move rfl rfl) rfl rfl ?_) | (refine Xg.ev (EvF.assign rfl rfl) rfl rfl ?_) | (refine Xg.ev (EvF.pickT rfl rfl rfl) rfl rfl ?_) | (refine Xg.ev (EvF.pickF rfl rfl rfl) rfl rfl ?_) | (refine Xg.ev (EvF.loadV rfl rfl (LoadV.whole (te rfl) rfl (List.Mem.head _) rfl)) rfl rfl ?_) | (refine Xg.ev (EvF.loadV rfl rfl (LoadV.whole (te rfl) rfl (List.Mem.tail _ (List.Mem.head _)) rfl)) rfl rfl ?_) | (refine Xg.ev (EvF.extract rfl rfl rfl) rfl rfl ?_) | (refine Xg.st (StF.boxAgg rfl rfl) rfl rfl ?_; rintro _ _ ⟨bx, rfl, rfl⟩) | (refine Xg.st (StF.alloc rfl Tryz.zeroValue30 rfl) rfl rfl ?_; rintro _ _ ⟨bx, rfl, rfl⟩) | (refine Xg.st0 (StF.storeAll (i := 0) rfl rfl rfl (te rfl) rfl rfl rfl rfl) rfl ?_; rintro _ _ ⟨rfl, rfl⟩; dsimp only [List.set]))) | (refine Xo.g rfl rfl ?_; (first | (with_reducible refine Xw.ft rfl rfl ?_))))) | (refine XO.done rfl ?_; refine hK _ _ ?_; clear hK K) | refine X.seq rfl ?_ | refine X.region rfl (fun K hK => ?_) | refine X.skip rfl ?_ | refine X.ret rfl ?_ | (refine X.ite rfl rfl (fun hc => ?_); (first | (with_reducible refine Xb.f hc ?_)) <;> clear hc))
        all_goals try (exfalso; contradiction)
        refine ret_two (by first | exact .inr rfl | exact .inl rfl) Tryz.results38 rfl rfl (H' := H) (by (repeat (first | exact List.Sublist.refl _ | apply List.Sublist.cons)); done) ?_; simp only [and_true, true_and]
  · rw [hh]
    have hM : ∀ H', Fc Tryz.prog 37 [.agg (cTm T p).toArray, .agg (cCl ⟨g, s⟩).toArray] H' (fun v H'' => v = .bool false ∧ H'' = H') := fun H' => by have := rmay_spec T p ⟨g, s⟩ H'; rwa [hd] at this
    rw [Int.sub_zero]
    refine Fc.mk (callable Tryz.call38) Tryz.func38 rfl Tryz.ntmps38 rfl ?_; dsimp only [fr]
    repeat' (first | (refine XO.op rfl ?_; (first | ((first | refine Xo.ng rfl ?_ | (refine Xo.g rfl rfl ?_; with_reducible refine Xw.tt ?_)); (first | (refine Xg.call (EnF.st rfl (Args.cons rfl (Args.cons rfl (Args.cons rfl (Args.cons rfl (Args.cons rfl Args.nil)))))) rfl rfl (hP _ (hT.sub (fun _ h => by repeat (first | exact h | apply List.Mem.tail)))) ?_; rintro _ _ ⟨rfl, rfl⟩) | (refine Xg.call (EnF.st rfl (Args.cons rfl (Args.cons rfl Args.nil))) rfl rfl (lclass_spec _ _ _) ?_; rintro _ H9 ⟨rfl, hH9⟩; subst H9) | (refine Xg.call (EnF.st rfl (Args.cons rfl (Args.cons rfl Args.nil))) rfl rfl (hM _) ?_; rintro _ H9 ⟨rfl, hH9⟩; subst H9) | (refine Xg.ev (notF rfl rfl) rfl rfl ?_) | (refine Xg.ev (EvF.cmp (b := true) rfl rfl rfl (congrArg some (decide_eq_true (by omega)))) rfl rfl ?_) | (refine Xg.ev (EvF.move rfl rfl) rfl rfl ?_) | (refine Xg.ev (EvF.assign rfl rfl) rfl rfl ?_) | (refine Xg.ev (EvF.pickT rfl rfl rfl) rfl rfl ?_) | (refine Xg.ev (EvF.loadV rfl rfl (LoadV.whole (te rfl) rfl (List.Mem.head _) rfl)) rfl rfl ?_) | (refine Xg.ev (EvF.loadV rfl rfl (LoadV.whole (te rfl) rfl (List.Mem.tail _ (List.Mem.head _)) rfl)) rfl rfl ?_) | (refine Xg.ev (EvF.extract rfl rfl rfl) rfl rfl ?_) | (refine Xg.st (StF.boxAgg rfl rfl) rfl rfl ?_; rintro _ _ ⟨bx, rfl, rfl⟩) | (refine Xg.st (StF.alloc rfl Tryz.zeroValue30 rfl) rfl rfl ?_; rintro _ _ ⟨bx, rfl, rfl⟩) | (refine Xg.st0 (StF.storeAll (i := 0) rfl rfl rfl (te rfl) rfl rfl rfl rfl) rfl ?_; rintro _ _ ⟨rfl, rfl⟩; dsimp only [List.set]))))) | (refine XO.done rfl ?_; refine hK _ _ ?_; clear hK K) | refine X.seq rfl ?_ | refine X.region rfl (fun K hK => ?_) | refine X.ret rfl ?_ | (refine X.ite rfl rfl (fun hc => ?_); (first | (with_reducible refine Xb.t hc ?_)) <;> clear hc))
    all_goals try (exfalso; contradiction)
    refine ret_two (by first | exact .inr rfl | exact .inl rfl) Tryz.results38 rfl rfl (H' := H) (by (repeat (first | exact List.Sublist.refl _ | apply List.Sublist.cons)); done) ?_; simp only [and_true, true_and]
end Go.Proofs.YtcjlegjchllgjaaGreat
end
section
set_option linter.unusedVariables false
set_option linter.unusedSimpArgs false
namespace Go.Proofs.YtcjlegjchllgjaaGreat
open Go Go.Fw
set_option maxRecDepth 10000
theorem ir_in {a b g : Int} (h : a ≤ g ∧ g ≤ b) : g ∈ ir a b := by
  have := List.mem_of_getElem? (ir_get (a := a) (b := b) (k := (g - a).toNat) (by omega))
  rwa [show a + ((g - a).toNat : Int) = g by omega] at this
theorem ir_ne {α : Type} {a b : Int} {f : Int → α} (h : a ≤ b) : (ir a b).map f ≠ [] := by
  intro e
  have := ir_in (a := a) (b := b) (g := a) ⟨Int.le_refl _, h⟩
  rw [List.map_eq_nil_iff.1 e] at this
  cases this
end Go.Proofs.YtcjlegjchllgjaaGreat
end
section
set_option linter.unusedVariables false
set_option linter.unusedSimpArgs false
namespace Go.Proofs.YtcjlegjchllgjaaGreat
open Go Go.Fw
set_option maxRecDepth 10000
theorem los_le {T : Tm} {sd s g : Int} {a : Bool} {gs : Sp} (hg : gs.lo ≤ g ∧ g ≤ gs.hi) : los T sd s a g ≤ lsL T sd s gs a :=
  (maxL_spec (ir_ne (f := los T sd s a) (by omega))).2 _ (List.mem_map.2 ⟨g, ir_in hg, rfl⟩)
theorem los_ex (T : Tm) (sd s : Int) (a : Bool) {gs : Sp} (h : gs.lo ≤ gs.hi) : ∃ g, (gs.lo ≤ g ∧ g ≤ gs.hi) ∧ los T sd s a g = lsL T sd s gs a := by
  obtain ⟨g, hg, e⟩ := List.mem_map.1 (maxL_spec (ir_ne (f := los T sd s a) h)).1
  exact ⟨g, ir_bd hg, e⟩
theorem shN_is (T : Tm) (sd s : Int) (gs : Sp) : shN T sd s gs = lsL T sd s gs (shA T sd s gs) ∧ shN T sd s gs ≤ lsL T sd s gs (!shA T sd s gs) := by
  unfold shN shA
  by_cases h : lsL T sd s gs true < lsL T sd s gs false
  · rw [if_pos h, decide_eq_true h]; exact ⟨rfl, by show _ ≤ lsL T sd s gs false; omega⟩
  · rw [if_neg h, decide_eq_false h]; exact ⟨rfl, by show _ ≤ lsL T sd s gs true; omega⟩
/-- another look is asked for only where something may be lost by it -/
theorem shN_nn {T : Tm} (hok : tmOk T) {sd s : Int} {gs : Sp} (h : gs.lo ≤ gs.hi) (ha : shA T sd s gs = true) : 0 ≤ shN T sd s gs := by
  have hlt := of_decide_eq_true ha
  have e : shN T sd s gs = lsL T sd s gs true := by unfold shN; rw [if_pos hlt]
  rw [e]
  obtain ⟨g, hg, e1⟩ := los_ex T sd s false h
  have h2 : los T sd s true g ≤ lsL T sd s gs true := los_le hg
  have hn := hok.num
  apply Decidable.byContradiction
  intro hc
  unfold los stl at e1 h2
  rw [if_pos rfl] at e1
  rw [if_neg (by decide)] at h2
  dsimp only at e1 h2
  by_cases q1 : g ≤ sd
  · rw [if_pos q1] at h2; dsimp only at h2; omega
  · rw [if_neg q1] at h2
    by_cases q2 : g ≤ T.worst ∧ T.short ≤ s
    · rw [if_pos q2] at h2; dsimp only at h2; omega
    · rw [if_neg q2] at h2; dsimp only at h2; omega
end Go.Proofs.YtcjlegjchllgjaaGreat
end
section
set_option linter.unusedVariables false
set_option linter.unusedSimpArgs false
namespace Go.Proofs.YtcjlegjchllgjaaGreat
open Go Go.Fw
set_option maxRecDepth 10000
theorem in_allC {l : Lo} {c : Cl} (hg : l.g1 ≤ c.g ∧ c.g ≤ l.g2) (hs : l.s1 ≤ c.s ∧ c.s ≤ l.s2) : c ∈ allC l := by
  unfold allC allI
  exact List.mem_flatMap.2 ⟨c.g, ir_in hg, List.mem_map.2 ⟨c.s, ir_in hs, rfl⟩⟩
theorem kno_mem {T : Tm} {l : Lo} {m : Int} {c : Cl} (h1 : l.g1 ≤ l.g2) (h2 : l.s1 ≤ l.s2) (hc : c ∈ allC l) : (knoV T l m = 0 ∨ knoV T l m = 1 ∨ knoV T l m = 2) ∧ (knoV T l m = 2 → qM T m c = true) ∧ (knoV T l m = 0 → qM T m c = false) := by
  rw [knoV_all h1 h2]
  by_cases ha : (allC l).all (qM T m) = true
  · rw [if_pos ha]
    exact ⟨.inr (.inr rfl), fun _ => List.all_eq_true.1 ha c hc, fun h => absurd h (by decide)⟩
  · rw [if_neg ha]
    by_cases hb : (allC l).any (qM T m) = true
    · rw [if_pos hb]; exact ⟨.inr (.inl rfl), fun h => absurd h (by decide), fun h => absurd h (by decide)⟩
    · rw [if_neg hb]
      refine ⟨.inl rfl, fun h => absurd h (by decide), fun _ => ?_⟩
      cases hq : qM T m c
      · rfl
      · exact absurd (List.any_eq_true.2 ⟨c, hc, hq⟩) hb
theorem ir_self (a : Int) : ir a a = [a] := by
  unfold ir
  rw [show (a - a + 1).toNat = 1 by omega]
  simp
theorem kno_one (T : Tm) (m : Int) (c : Cl) : knoV T (lo1 c) m = if qM T m c = true then 2 else 0 := by
  rw [knoV_all (Int.le_refl _) (Int.le_refl _)]
  have e : allC (lo1 c) = [c] := by
    unfold allC allI rowA lo1
    rw [ir_self, ir_self]; rfl
  rw [e]
  cases hq : qM T m c <;> simp [hq]
theorem cls_mem {T : Tm} {l : Lo} {c : Cl} (h : c ∈ cls T l) : (l.g1 ≤ c.g ∧ c.g ≤ l.g2) ∧ (l.s1 ≤ c.s ∧ c.s ≤ l.s2) ∧ may T c = true := by
  rw [cls_all] at h
  obtain ⟨h, hm⟩ := List.mem_filter.1 h
  unfold allC allI at h
  obtain ⟨g, hg, h⟩ := List.mem_flatMap.1 h
  obtain ⟨s, hs, rfl⟩ := List.mem_map.1 h
  exact ⟨ir_bd hg, ir_bd hs, hm⟩
theorem rng_facts {T : Tm} {l : Lo} (h : cls T l ≠ []) : (∀ c ∈ cls T l, (rng T l).lo ≤ val T c.g c.s ∧ val T c.g c.s ≤ (rng T l).hi) ∧ (∃ c ∈ cls T l, val T c.g c.s = (rng T l).lo) ∧ (∃ c ∈ cls T l, val T c.g c.s = (rng T l).hi) := by
  have hv : vals T l ≠ [] := by unfold vals; intro e; exact h (List.map_eq_nil_iff.1 e)
  have a := minL_spec hv
  have b := maxL_spec hv
  refine ⟨fun c hc => ⟨a.2 _ (List.mem_map.2 ⟨c, hc, rfl⟩), b.2 _ (List.mem_map.2 ⟨c, hc, rfl⟩)⟩, ?_, ?_⟩
  · obtain ⟨c, hc, e⟩ := List.mem_map.1 a.1; exact ⟨c, hc, e⟩
  · obtain ⟨c, hc, e⟩ := List.mem_map.1 b.1; exact ⟨c, hc, e⟩
end Go.Proofs.YtcjlegjchllgjaaGreat
end
section
set_option linter.unusedVariables false
namespace Go.Proofs.YtcjlegjchllgjaaGreat
open Go Go.Fw Go.ChangeShapes Go.WideShapes Go.ChangeAt Go.RowKit
set_option linter.unusedVariables false
set_option maxRecDepth 10000
def c8 (l : List Int) : List Value := l.map (Value.int .u8)
section
variable {H : Type} {enc : TypeId × Value → H} {w : World} {base : Nat} {spare : Nat → Bool} {held : Bool} {v : Value} {d : DataW H} {p : List MemPlace} {r : Reach} {b0 : Nat}
theorem u8_wf {n : Int} (h : (Lit.int .u8 n).wf = true) : u8 n := by
  simp [Lit.wf, IntKind.min, IntKind.max, IntKind.signed, IntKind.bits] at h
  exact ⟨by omega, by omega⟩
theorem open_u8 (hv : Value.okWide Tryz.prog w r b0 5 v) (h : DataW.Trod enc Tryz.prog w base spare held 5 v d p) : ∃ n, v = .int .u8 n ∧ u8 n := by
  obtain ⟨n, h1, _, _, h2⟩ := Go.ChangeShapes.open_int Tryz.underlying5 hv h
  exact ⟨n, h1, u8_wf h2⟩
theorem cells_u8 : Tryz.prog.cellsOf 5 = 1 := by kernel_rfl
theorem arr8 {T n : Nat} (hu : Tryz.prog.underlying T = some (.array n 5)) (hc : Tryz.prog.cellsOf T = n) (hv : Value.okWide Tryz.prog w r b0 T v) (h : DataW.Trod enc Tryz.prog w base spare held T v d p) : ∃ l : List Int, v = .agg (c8 l).toArray ∧ l.length = n ∧ ∀ x ∈ l, u8 x := by
  unfold Value.okWide at hv
  rw [hu] at hv
  obtain ⟨cs, rfl, hs, _⟩ := hv
  obtain ⟨fuel, hf⟩ := h
  obtain ⟨xs, m, _, _, hl, hxl, hi⟩ := DataW.trod_array hu hf
  simp only [Value.cells] at hl hi
  rw [hc] at hl hs
  rw [cells_u8] at hi
  have hk : ∀ i, i < n → ∃ q : Int, cs.toList[i]? = some (.int .u8 q) ∧ u8 q := by
    intro i hlt
    have h1 := hi i hlt
    have hx : xs[i]? = some xs[i] := List.getElem?_eq_getElem (by omega)
    rw [hx, Nat.mul_one] at h1
    obtain ⟨q, hq, hw⟩ := trod_i (te rfl) h1
    refine ⟨q, ?_, u8_wf hw⟩
    have h2 := congrArg (·[0]?) hq
    simp only [List.getElem?_take, List.getElem?_drop, Nat.add_zero, Nat.lt_one_iff, if_true, List.getElem?_cons_zero] at h2
    exact h2
  clear hi hf hxl
  have key : ∀ (k : Nat) (l : List Value), l.length = k → (∀ i, i < k → ∃ q : Int, l[i]? = some (.int .u8 q) ∧ u8 q) → ∃ z : List Int, l = c8 z ∧ z.length = k ∧ ∀ x ∈ z, u8 x := by
    intro k
    induction k with
    | zero => intro l hl _; exact ⟨[], List.eq_nil_of_length_eq_zero hl, rfl, fun x hx => absurd hx List.not_mem_nil⟩
    | succ k ih =>
      intro l hl hq
      cases l with
      | nil => cases hl
      | cons a l =>
        obtain ⟨q, h1, h2⟩ := hq 0 (by omega)
        simp only [List.getElem?_cons_zero, Option.some.injEq] at h1
        obtain ⟨z, rfl, hz, hz2⟩ := ih l (by simpa using hl) (fun i hi => by have := hq (i + 1) (by omega); rwa [List.getElem?_cons_succ] at this)
        refine ⟨q :: z, by rw [h1]; rfl, by rw [List.length_cons, hz], fun x hx => ?_⟩
        rcases List.mem_cons.1 hx with rfl | hx
        · exact h2
        · exact hz2 x hx
  obtain ⟨z, h1, h2, h3⟩ := key n cs.toList (by rw [Array.length_toList]; exact hs) hk
  exact ⟨z, by rw [← h1], h2, h3⟩
end
end Go.Proofs.YtcjlegjchllgjaaGreat
end
section
set_option linter.unusedVariables false
namespace Go.Fw
open Go Go.RowKit
section
variable {P : Program} {H : List Row} {F : FS} {n : Nat} {o : Oper}
end
end Go.Fw
end
section
set_option linter.unusedVariables false
namespace Go.Fw
open Go Go.RowKit
def reFs (ts : List TOp) (F0 : FS) (i : Nat) : List (Nat × Nat × Value) → FS
  | [] => F0
  | e :: l => match (tAt ts e.1).sup.contains i with | true => (e.2.1, e.2.2) :: reFs ts F0 i l | false => reFs ts F0 i l
theorem wpAny_ob6 {P : Program} {n : Nat} {ops : Array Oper} {ts : List TOp} {dom : List Nat} {F0 : FS} {sm : List Nat} (hd : F0.map (·.1) = dom) (hok : okReg3 sm ops ts dom n = true) (rd : Nat → List Nat) (hrd : okRd ts rd ops.size = true) (val : Nat → Env → Value) (rows : Nat → Env → List Row)
    (hloc : ∀ k env i p, i ≠ k → (tAt ts k).sup.contains i = false → val k (upd env i p) = val k env ∧ rows k (upd env i p) = rows k env)
    (hsm : ∀ i d, sm.contains i = true → (tAt ts i).dst = some d → ∀ env v, lk F0 d = some v → val i env = v)
    {re : List (Nat × Nat × Value)} (hre : ∀ e ∈ re, (tAt ts e.1).dst = some e.2.1 ∧ e.1 < ops.size)
    (R0 : List Row) (hob : ∀ i o, opAt ops.toList i = some o → ObR P n ts rd val rows (reFs ts F0 i re) R0 i o)
    {Q : QT} (hQ : ∀ env t, Ag n F0 t → (∀ i d, i < ops.size → (tAt ts i).dst = some d → t[d]? = some (val i env)) → Q .normal t ((alive ts).flatMap (fun k => rows k env) ++ R0))
    {ρ : Option Nat} {ds : List Deferred} {B : Nat} {w0 : World} :
    ∀ (fuel : Nat) (listed : Array Bool) (U A : List Nat) (t : List Value) (H : List Row) (w : World) (env : Env), listed.size = ops.size → U.length = fuel → U.Nodup → (∀ k, k ∈ U ↔ k < ops.size ∧ listed.getD k true = false) →
      (∀ k, k < ops.size → listed.getD k true = true → ∀ j, (tAt ts k).sup.contains j = true → listed.getD j true = true) →
      A.Nodup → (∀ k, k ∈ A ↔ k < ts.length ∧ listed.getD k true = true ∧ ∀ j, j < ops.size → listed.getD j true = true → k ∉ (tAt ts j).kills) →
      Ag n F0 t → (∀ e ∈ re, listed.getD e.1 true = false → t[e.2.1]? = some e.2.2) → (∀ k d, k < ops.size → listed.getD k true = true → (tAt ts k).dst = some d → t[d]? = some (val k env)) →
      St B w0 H w → H.Perm (R0 ++ A.flatMap (fun k => rows k env)) → wpAnyIn (wf ρ) 0 P .any ops (lift ds B w0 Q) fuel listed ⟨t.toArray, ds⟩ w := by
  unfold okReg3 at hok
  simp only [Bool.and_eq_true, decide_eq_true_eq] at hok
  obtain ⟨⟨⟨hlen, hops⟩, hkn⟩, hps⟩ := hok
  have hopAt : ∀ i o, ops[i]? = some o → okOp3 sm ts dom n ops.size i o = true := by
    intro i o hi
    have := List.all_eq_true.1 hops (o, i) (by
      rw [List.mem_zipIdx_iff_getElem?]; simpa using hi)
    exact this
  intro fuel
  induction fuel with
  | zero =>
    intro listed U A t H w env hls hUl hUn hU hcl hAn hA hag hr0 hv hS hH
    have hU0 : U = [] := List.eq_nil_of_length_eq_zero hUl
    subst hU0
    have hall : ∀ k, listed.getD k true = true := by
      intro k
      cases hk : listed.getD k true with
      | true => rfl
      | false =>
        by_cases h1 : k < ops.size
        · exact absurd ((hU k).2 ⟨h1, hk⟩) (by simp)
        · rw [Array.getD_eq_getD_getElem?, Array.getElem?_eq_none (by omega)] at hk; cases hk
    refine ⟨?_, rfl, _, ?_, hS.perm (H' := (alive ts).flatMap (fun k => rows k env) ++ R0) ?_⟩
    · unfold Region.ready
      rw [List.filter_eq_nil_iff]
      intro k _
      rw [hall]; simp
    · have := hQ env t hag (fun i d hi hd => hv i d hi (hall i) hd)
      simpa using this
    · refine List.perm_append_comm.trans ((List.Perm.append_left R0 (List.Perm.flatMap_right _ ?_)).trans hH.symm)
      refine perm_of_mem ((List.nodup_range).sublist List.filter_sublist) hAn fun k => ?_
      rw [hA, alive, List.mem_filter, List.mem_range]
      simp only [hall, true_and, Bool.not_eq_true', List.contains_eq_mem, decide_eq_false_iff_not, true_implies]
      refine and_congr_right fun _ => ⟨fun h j _ hj => h (tAt_mem hj), fun h hm => ?_⟩
      obtain ⟨T, hT, hk⟩ := List.mem_flatMap.1 hm
      obtain ⟨j, hj, rfl⟩ := List.mem_iff_getElem.1 hT
      by_cases hj' : j < ops.size
      · exact h j hj' (by unfold tAt; simp [List.getD, hj, hk])
      · have := List.all_eq_true.1 hps ts[j] (by
          rw [List.mem_iff_getElem?]
          exact ⟨j - ops.size, by rw [List.getElem?_drop, show ops.size + (j - ops.size) = j by omega, List.getElem?_eq_getElem hj]⟩)
        simp only [Bool.and_eq_true, List.isEmpty_iff] at this
        rw [this.1] at hk; cases hk
  | succ fuel ih =>
    intro listed U A t H w env hls hUl hUn hU hcl hAn hA hag hr0 hv hS hH
    have hge : ∀ k, ops.size ≤ k → listed.getD k true = true := fun k hk => by rw [Array.getD_eq_getD_getElem?, Array.getElem?_eq_none (by omega)]; rfl
    have hgd : ∀ k, k < ops.size → listed.getD k false = listed.getD k true := fun k hk => by
      rw [Array.getD_eq_getD_getElem?, Array.getD_eq_getD_getElem?, Array.getElem?_eq_getElem (by omega)]; rfl
    refine ⟨fun h0 => ?_, fun i hi => ?_⟩
    · exfalso
      have key : ∀ m, m ∈ U → False := by
        intro m
        induction m using Nat.strongRecOn with
        | _ m ihm =>
          intro hm
          obtain ⟨hms, hml⟩ := (hU m).1 hm
          obtain ⟨o, ho⟩ : ∃ o, ops[m]? = some o := ⟨ops[m], Array.getElem?_eq_getElem hms⟩
          have hc := hopAt m o ho
          unfold okOp3 at hc
          simp only [Bool.and_eq_true] at hc
          obtain ⟨⟨⟨⟨_, haf⟩, _⟩, _⟩, _⟩ := hc
          by_cases hal : o.after.all (fun e => !Region.binds .any e || listed.getD e.on false) = true
          · have : m ∈ Region.ready .any ops listed := by
              unfold Region.ready
              rw [List.mem_filter]
              refine ⟨List.mem_range.2 hms, ?_⟩
              rw [hml, ho]
              simp only [Option.map_some, Option.getD_some, Bool.not_false, Bool.true_and]
              exact hal
            rw [h0] at this; cases this
          · have : ∃ e ∈ o.after, ¬ ((!Region.binds .any e || listed.getD e.on false) = true) := by
              rw [Array.all_eq_true_iff_forall_mem] at hal
              simpa using hal
            obtain ⟨e, he, hne⟩ := this
            have h1 := List.all_eq_true.1 haf e (Array.mem_toList_iff.2 he)
            simp only [Bool.or_eq_true, Bool.not_eq_true', not_or, Bool.not_eq_false, Bool.not_eq_true] at hne h1
            have h2 : e.on < m := by
              rcases h1 with h1 | h1
              · rw [hne.1] at h1; cases h1
              · simpa using h1
            refine ihm e.on h2 ((hU e.on).2 ⟨by omega, ?_⟩)
            rw [← hgd e.on (by omega)]; exact hne.2
      cases U with
      | nil => simp at hUl
      | cons u U => exact key u (List.mem_cons_self ..)
    · unfold Region.ready at hi
      rw [List.mem_filter, List.mem_range] at hi
      obtain ⟨his, hi2⟩ := hi
      obtain ⟨o, ho⟩ : ∃ o, ops[i]? = some o := ⟨ops[i], Array.getElem?_eq_getElem his⟩
      simp only [ho, Option.map_some, Option.getD_some, Bool.and_eq_true, Bool.not_eq_true'] at hi2
      obtain ⟨hil, hia⟩ := hi2
      have hc := hopAt i o ho
      unfold okOp3 at hc
      simp only [Bool.and_eq_true] at hc
      obtain ⟨⟨⟨⟨⟨⟨hgu, hdst⟩, hds⟩, haf⟩, hsup⟩, hdeps⟩, hkil⟩ := hc
      have hdst' : o.dst = (tAt ts i).dst := by simpa using hdst
      rw [Array.all_eq_true_iff_forall_mem] at hia
      have hson : ∀ j, (tAt ts i).sup.contains j = true → j < i ∧ listed.getD j true = true := by
        intro j hj
        have h1 := List.all_eq_true.1 hsup j (by simpa using hj)
        simp only [Bool.and_eq_true, decide_eq_true_eq, List.any_eq_true] at h1
        obtain ⟨hji, e, he', hb, h2⟩ := h1
        have he := Array.mem_toList_iff.1 he'
        refine ⟨hji, ?_⟩
        have h3 := hia e he
        rw [hb] at h3
        have h4 := List.all_eq_true.1 haf e he'
        rw [hb] at h4
        simp only [Bool.not_true, Bool.false_or, decide_eq_true_eq] at h3 h4
        rw [hgd e.on (by omega)] at h3
        simp only [Bool.or_eq_true, beq_iff_eq] at h2
        rcases h2 with h2 | h2
        · rw [← h2]; exact h3
        · exact hcl e.on (by omega) h3 j h2
      have hks : ∀ k ∈ (tAt ts i).kills, k ∈ A := by
        intro k hk
        rw [hA]
        have h1 := List.all_eq_true.1 hkil k hk
        simp only [Bool.or_eq_true, decide_eq_true_eq] at h1
        refine ⟨?_, ?_, fun j hj hjl hkj => ?_⟩
        · rcases h1 with h1 | h1
          · have := (hson k h1).1; omega
          · omega
        · rcases h1 with h1 | h1
          · exact (hson k h1).2
          · exact hge k h1.1
        · have := kills_once hkn hk hkj
          subst this
          rw [hil] at hjl; cases hjl
      have hkin : (tAt ts i).kills.Nodup := by
        unfold tAt List.getD
        cases hti : ts[i]? with
        | none => simp
        | some T =>
          simp only [Option.getD_some]
          exact kills_nodup hkn (List.mem_of_getElem? hti)
      obtain ⟨A', hp, hA'n, hA'm⟩ := take_out _ A hkin hAn hks
      have hH1 : ((tAt ts i).kills.flatMap (fun k => rows k env) ++ (R0 ++ A'.flatMap (fun k => rows k env))).Perm H := by
        refine List.Perm.trans ?_ hH.symm
        refine List.Perm.trans ?_ (List.Perm.append_left R0 (List.Perm.flatMap_right _ hp.symm))
        rw [List.flatMap_append, ← List.append_assoc, ← List.append_assoc]
        exact List.Perm.append_right _ List.perm_append_comm
      have hdp : ∀ k ∈ (tAt ts i).deps, ∀ d, (tAt ts k).dst = some d → t[d]? = some (val k env) := by
        intro k hk d hd
        have h1 := List.all_eq_true.1 hdeps k hk
        obtain ⟨h2, h3⟩ := hson k h1
        exact hv k d (by omega) h3 hd
      have hag' : Ag n (reFs ts F0 i re) t := by
        have hgen : ∀ l : List (Nat × Nat × Value), (∀ e ∈ l, e.1 < ops.size) → (∀ e ∈ l, listed.getD e.1 true = false → t[e.2.1]? = some e.2.2) → Ag n (reFs ts F0 i l) t := by
          intro l
          induction l with
          | nil => exact fun _ _ => hag
          | cons e l ihl =>
            intro ha hb
            have hl' := ihl (fun e' he' => ha e' (List.mem_cons_of_mem _ he')) (fun e' he' => hb e' (List.mem_cons_of_mem _ he'))
            unfold reFs
            cases hci : (tAt ts e.1).sup.contains i with
            | false => exact hl'
            | true =>
              refine hl'.cons (hb e List.mem_cons_self ?_)
              cases hx : listed.getD e.1 true with
              | false => rfl
              | true => have := hcl e.1 (ha e List.mem_cons_self) hx i hci; rw [hil] at this; cases this
        exact hgen re (fun e he => (hre e he).2) hr0
      have hst := hob i o (by rw [opAt_eq]; simpa using ho)
      have hreads : ∀ k ∈ rd i, ∀ r ∈ rows k env, r ∈ R0 ++ A'.flatMap (fun k => rows k env) := by
        intro k hk r hr
        refine List.mem_append_right _ (List.mem_flatMap.2 ⟨k, ?_, hr⟩)
        have h1 := List.all_eq_true.1 (List.all_eq_true.1 hrd i (List.mem_range.2 his)) k hk
        simp only [Bool.and_eq_true, Bool.or_eq_true, decide_eq_true_eq, Bool.not_eq_true'] at h1
        obtain ⟨⟨h1, h2⟩, h3⟩ := h1
        rw [hA'm, hA]
        refine ⟨⟨?_, ?_, fun j hj hjl hkj => ?_⟩, by simpa using h2⟩
        · rcases h1 with h1 | h1
          · have := (hson k h1).1; omega
          · omega
        · rcases h1 with h1 | h1
          · exact (hson k h1).2
          · exact hge k h1.1
        · have h4 := List.all_eq_true.1 h3 j (List.mem_range.2 hj)
          simp only [Bool.or_eq_true, Bool.not_eq_true'] at h4
          rcases h4 with h4 | h4
          · rw [List.contains_iff_mem.2 hkj] at h4; cases h4
          · have := hcl j hj hjl i h4
            rw [hil] at this; cases this
      have hyv : ∀ j ww, o.guard = some (j, ww) → (tAt ts j).dst ≠ none → yielded ops t.toArray j = bv (val j env) := by
        intro j ww hg hj
        rw [hg] at hgu
        obtain ⟨h1, h2⟩ := hson j hgu
        obtain ⟨d, hd'⟩ := Option.ne_none_iff_exists'.1 hj
        have hoj : ops[j]? = some ops[j] := Array.getElem?_eq_getElem (by omega)
        have hcj := hopAt j _ hoj
        unfold okOp3 at hcj
        simp only [Bool.and_eq_true] at hcj
        have hdj : (ops[j]).dst = (tAt ts j).dst := by simpa using hcj.1.1.1.1.1.2
        exact yielded_bv hoj (by rw [hdj, hd']) (hv j d (by omega) h2 hd')
      have hnext : ∀ (v : Value) (w' : World) (H' : List Row), St B w0 H' w' → (∃ p, ((tAt ts i).dst ≠ none → v = val i (upd env i p)) ∧ H'.Perm (rows i (upd env i p) ++ (R0 ++ A'.flatMap (fun k => rows k env)))) → wpAnyIn (wf ρ) 0 P .any ops (lift ds B w0 Q) fuel (listed.setIfInBounds i true) ⟨(put t o.dst v).toArray, ds⟩ w' := by
        rintro v w' H' hS' ⟨p, hval, hH'⟩
        have hl' : ∀ k, (listed.setIfInBounds i true).getD k true = if k = i then true else listed.getD k true := by
          intro k
          rw [Array.getD_eq_getD_getElem?, Array.getD_eq_getD_getElem?, Array.getElem?_setIfInBounds]
          by_cases hki : k = i
          · subst hki; simp; split <;> rfl
          · rw [if_neg (fun e => hki e.symm), if_neg hki]
        have hnot : ∀ k, listed.getD k true = true → (tAt ts k).sup.contains i = false := by
          intro k hk
          by_cases hks' : k < ops.size
          · cases hcs : (tAt ts k).sup.contains i with
            | false => rfl
            | true => have := hcl k hks' hk i hcs; rw [hil] at this; cases this
          · by_cases hkt : k < ts.length
            · have := List.all_eq_true.1 hps ts[k] (by
                rw [List.mem_iff_getElem?]
                exact ⟨k - ops.size, by rw [List.getElem?_drop, show ops.size + (k - ops.size) = k by omega, List.getElem?_eq_getElem hkt]⟩)
              simp only [Bool.and_eq_true, List.isEmpty_iff] at this
              have e : tAt ts k = ts[k] := by unfold tAt; simp [List.getD, hkt]
              rw [e, this.2]; rfl
            · have e : tAt ts k = ⟨none, [], [], []⟩ := by unfold tAt; simp [List.getD, List.getElem?_eq_none (by omega : ts.length ≤ k)]
              rw [e]; rfl
        have hiA : i ∉ A := fun h => by have := ((hA i).1 h).2.1; rw [hil] at this; cases this
        refine ih (listed.setIfInBounds i true) (U.erase i) (i :: A') (put t o.dst v) H' w' (upd env i p) (by simpa using hls) ?_ (hUn.sublist List.erase_sublist) ?_ ?_ ?_ ?_ ?_ ?_ ?_ hS' ?_
        · rw [List.length_erase_of_mem ((hU i).2 ⟨his, hil⟩)]; omega
        · intro k
          rw [hUn.mem_erase_iff, hU, hl']
          by_cases hki : k = i
          · simp [hki]
          · simp [hki]
        · intro k hk hkl j hj
          rw [hl'] at hkl ⊢
          split
          · rfl
          · by_cases hki : k = i
            · subst hki; exact (hson j hj).2
            · rw [if_neg hki] at hkl; exact hcl k hk hkl j hj
        · exact List.nodup_cons.2 ⟨fun h => hiA ((hA'm i).1 h).1, hA'n⟩
        · intro k
          rw [List.mem_cons, hA'm, hA, hl']
          by_cases hki : k = i
          · subst hki
            simp only [true_or, if_true, true_and, true_iff]
            refine ⟨by omega, fun j hj hjl hkj => ?_⟩
            have h1 : ops[j]? = some ops[j] := Array.getElem?_eq_getElem hj
            have hcj := hopAt j _ h1
            unfold okOp3 at hcj
            simp only [Bool.and_eq_true] at hcj
            have h2 := List.all_eq_true.1 hcj.2 k hkj
            simp only [Bool.or_eq_true, decide_eq_true_eq] at h2
            rw [hl'] at hjl
            rcases h2 with h2 | h2
            · by_cases hjk : j = k
              · subst hjk; have := (hson j h2).1; omega
              · rw [if_neg hjk] at hjl
                have := hcl j hj hjl k h2
                rw [hil] at this; cases this
            · omega
          · simp only [hki, false_or, if_false]
            constructor
            · rintro ⟨⟨h1, h2, h3⟩, h4⟩
              refine ⟨h1, h2, fun j hj hjl => ?_⟩
              rw [hl'] at hjl
              by_cases hji : j = i
              · subst hji; exact h4
              · rw [if_neg hji] at hjl; exact h3 j hj hjl
            · rintro ⟨h1, h2, h3⟩
              exact ⟨⟨h1, h2, fun j hj hjl => h3 j hj (by rw [hl']; split; rfl; exact hjl)⟩, h3 i his (by rw [hl', if_pos rfl])⟩
        · cases hdd : o.dst with
          | none => exact hag
          | some d =>
            rw [hdst'] at hdd
            rw [hdd] at hds
            simp only [Bool.and_eq_true, decide_eq_true_eq] at hds
            refine ⟨by simpa [put] using hag.1, fun s u hs => ?_⟩
            have h1 := hag.2 s u hs
            simp only [put, List.getElem?_set]
            by_cases hsd : d = s
            · subst hsd
              have : d ∈ dom := by
                rw [← hd]
                exact lk_mem hs
              have h2 := hds.1.2
              have hsi : sm.contains i = true := by simpa [this] using h2
              have e : v = u := (hval (by rw [hdd]; simp)).trans (hsm i d hsi hdd _ u hs)
              rw [if_pos rfl, e]
              exact if_pos (by rw [hag.1]; exact hds.1.1)
            · rw [if_neg hsd]
              exact h1
        · rintro ⟨i0, d0, u0⟩ he0 hl0
          have hi0 : i0 < ops.size := (hre _ he0).2
          have hre0 : (tAt ts i0).dst = some d0 := (hre _ he0).1
          dsimp only at hl0 ⊢
          rw [hl'] at hl0
          by_cases hii : i0 = i
          · rw [if_pos hii] at hl0; cases hl0
          · rw [if_neg hii] at hl0
            have h1 : t[d0]? = some u0 := hr0 _ he0 hl0
            cases hdd : o.dst with
            | none => exact h1
            | some d' =>
              simp only [put, List.getElem?_set]
              rw [if_neg]
              · exact h1
              · rintro rfl
                rw [hdst'] at hdd
                rcases Nat.lt_or_gt_of_ne hii with hlt | hlt
                · rw [hdd] at hds
                  simp only [Bool.and_eq_true] at hds
                  have := List.all_eq_true.1 hds.2 i0 (List.mem_range.2 hlt)
                  simp [hre0] at this
                · have hck := hopAt i0 _ (Array.getElem?_eq_getElem hi0)
                  unfold okOp3 at hck
                  simp only [Bool.and_eq_true] at hck
                  have hdk := hck.1.1.1.1.2
                  rw [hre0] at hdk
                  simp only [Bool.and_eq_true] at hdk
                  have := List.all_eq_true.1 hdk.2 i (List.mem_range.2 hlt)
                  simp [hdd] at this
        · intro k d hk hkl hkd
          rw [hl'] at hkl
          by_cases hki : k = i
          · subst hki
            rw [hdst', hkd]
            rw [hkd] at hds
            simp only [Bool.and_eq_true, decide_eq_true_eq] at hds
            simp only [put, List.getElem?_set, if_true]
            rw [if_pos (by rw [hag.1]; exact hds.1.1), hval (by rw [hkd]; simp)]
          · rw [if_neg hki] at hkl
            rw [(hloc k env i p (fun e => hki e.symm) (hnot k hkl)).1]
            have h1 := hv k d hk hkl hkd
            cases hdd : o.dst with
            | none => exact h1
            | some d' =>
              simp only [put, List.getElem?_set]
              rw [if_neg]
              · exact h1
              · rintro rfl
                rw [hdst'] at hdd
                rcases Nat.lt_or_gt_of_ne hki with hlt | hlt
                · rw [hdd] at hds
                  simp only [Bool.and_eq_true] at hds
                  have := List.all_eq_true.1 hds.2 k (List.mem_range.2 hlt)
                  simp [hkd] at this
                · have hck := hopAt k _ (Array.getElem?_eq_getElem hk)
                  unfold okOp3 at hck
                  simp only [Bool.and_eq_true] at hck
                  have hdk := hck.1.1.1.1.2
                  rw [hkd] at hdk
                  simp only [Bool.and_eq_true] at hdk
                  have := List.all_eq_true.1 hdk.2 i (List.mem_range.2 hlt)
                  simp [hdd] at this
        · refine hH'.trans ?_
          have e : A'.flatMap (fun k => rows k (upd env i p)) = A'.flatMap (fun k => rows k env) := by
            have : ∀ k ∈ A', rows k (upd env i p) = rows k env := fun k hk => by
              have h1 := (hA'm k).1 hk
              have h2 := ((hA k).1 h1.1).2.1
              exact (hloc k env i p (fun e => hiA (e ▸ h1.1)) (hnot k h2)).2
            exact flatMap_congr' this
          rw [List.flatMap_cons, e, ← List.append_assoc, ← List.append_assoc]
          exact List.Perm.append_right _ List.perm_append_comm
      unfold wpOpIn
      simp only [ho]
      rcases hst with ⟨hgr, hst⟩ | ⟨j, ww, hg, hj, hbv, hki, hvi, hri⟩
      · have hwant : Region.wanted o (yielded ops t.toArray) = true := by
          unfold Region.wanted
          rcases hgr with hgr | ⟨j, ww, hg, hj, hb⟩
          · rw [hgr]
          · rw [hg]; simp only [hyv j ww hg hj, hb]; simp
        simp only [hwant, if_true]
        exact hst env (R0 ++ A'.flatMap (fun k => rows k env)) (fun r hr => List.mem_append_left _ hr) hreads t (ag_fdeps hag' _ hdp) ρ ds B w0 w (hS.perm hH1) _ _ hnext
      · have hwant : Region.wanted o (yielded ops t.toArray) = false := by
          unfold Region.wanted
          rw [hg]; simp only [hyv j ww hg hj]
          simpa using hbv env
        simp only [hwant, Bool.false_eq_true, if_false]
        rw [put_act]
        refine ⟨fun _ _ => trivial, hnext undef w _ hS ⟨(0, 0), fun _ => (hvi _).symm, ?_⟩⟩
        --, fun _ => (hvi _).symm, ?_⟩
        rw [hri, List.nil_append]
        rw [hki] at hH1
        simpa using hH1.symm

theorem X.regionRs {P : Program} {n : Nat} {c : Code} {F : FS} {H : List Row} {Q : QX} (sm : List Nat) (ts : List TOp) (rd : Nat → List Nat) (dom : List Nat) (F0 : FS) (val : Nat → Env → Value) (rows : Nat → Env → List Row) (env0 : Env) (R0 : List Row)
    (h : c = .region (cid c) (cops c) true) (hm : P.follows .mixedOrders = true) (hsub : Sub F0 F) (hd : F0.map (·.1) = dom) (hok : okReg3 sm (cops c) ts dom n = true) (hrd : okRd ts rd (cops c).size = true)
    (hloc : ∀ k env i p, i ≠ k → (tAt ts k).sup.contains i = false → val k (upd env i p) = val k env ∧ rows k (upd env i p) = rows k env)
    (hsm : ∀ i d, sm.contains i = true → (tAt ts i).dst = some d → ∀ env v, lk F0 d = some v → val i env = v)
    (hH : (((List.range ts.length).drop (cops c).size).flatMap (fun k => rows k env0) ++ R0).Sublist H)
    (re : List (Nat × Nat × Value)) (hre : ∀ e ∈ re, (tAt ts e.1).dst = some e.2.1 ∧ e.1 < (cops c).size) (h0 : ∀ e ∈ re, lk F e.2.1 = some e.2.2)
    (hob' : AllF (cops c).toList 0 fun i o => ObR P n ts rd val rows (reFs ts F0 i re) R0 i o)
    (hQ : ∀ env t, Ag n F0 t → (∀ i d, i < (cops c).size → (tAt ts i).dst = some d → t[d]? = some (val i env)) → exQ n Q .normal t ((alive ts).flatMap (fun k => rows k env) ++ R0)) : X P n c F H Q := by
  have hob := fun i o ho => hob' i o (Nat.zero_le i) ho
  unfold X W
  intro t ha ρ ds B w0 w hS
  rw [h]
  refine wpIn_region_any hm ?_
  have hlen : (cops c).size ≤ ts.length := by
    have := hok
    unfold okReg3 at this
    simp only [Bool.and_eq_true, decide_eq_true_eq] at this
    exact this.1.1.1
  have hl : ∀ k d, (Array.replicate (cops c).size false).getD k d = if k < (cops c).size then false else d := by
    intro k d
    rw [Array.getD_eq_getD_getElem?, Array.getElem?_replicate]
    split <;> rfl
  have hdm : ∀ k, k ∈ (List.range ts.length).drop (cops c).size ↔ (cops c).size ≤ k ∧ k < ts.length := by
    intro k
    rw [List.mem_iff_getElem?]
    constructor
    · rintro ⟨j, hj⟩
      rw [List.getElem?_drop] at hj
      have := List.getElem?_eq_some_iff.1 hj
      obtain ⟨h1, h2⟩ := this
      simp at h1 h2
      omega
    · rintro ⟨h1, h2⟩
      exact ⟨k - (cops c).size, by rw [List.getElem?_drop, show (cops c).size + (k - (cops c).size) = k by omega, List.getElem?_range h2]⟩
  refine wpAny_ob6 hd hok rd hrd val rows hloc hsm hre R0 hob hQ (cops c).size _ (List.range (cops c).size) ((List.range ts.length).drop (cops c).size) t _ _ env0 (by simp) (by simp) List.nodup_range ?_ ?_ ((List.nodup_range).sublist (List.drop_sublist _ _)) ?_ (ha.sub hsub) (fun e he _ => ha.2 e.2.1 e.2.2 (h0 e he)) ?_ ((hS.drewN 1).sub hH) List.perm_append_comm
  · intro k
    rw [List.mem_range, hl]
    by_cases hk : k < (cops c).size <;> simp [hk]
  · intro k hk hkl
    rw [hl, if_pos hk] at hkl
    cases hkl
  · intro k
    rw [hdm, hl]
    constructor
    · rintro ⟨h1, h2⟩
      refine ⟨h2, by rw [if_neg (by omega)], fun j hj hjl => ?_⟩
      rw [hl, if_pos hj] at hjl
      cases hjl
    · rintro ⟨h1, h2, _⟩
      refine ⟨?_, h1⟩
      by_cases hk : k < (cops c).size
      · rw [if_pos hk] at h2; cases h2
      · omega
  · intro k d hk hkl
    rw [hl, if_pos hk] at hkl
    cases hkl

end Go.Fw
end
section
set_option linter.unusedVariables false
set_option linter.unusedSimpArgs false
namespace Go.Proofs.YtcjlegjchllgjaaGreat
open Go Go.Fw
set_option maxRecDepth 10000
def tsWd : List TOp := [⟨some 204, [], [], []⟩, ⟨some 205, [], [], []⟩, ⟨some 206, [], [], []⟩, ⟨some 207, [1, 2], [1, 2], []⟩, ⟨some 208, [0, 1, 2, 3], [0, 3], []⟩, ⟨some 203, [0, 1, 2, 3, 4], [4], []⟩, ⟨some 209, [0, 1, 2, 3, 4, 5], [5], []⟩, ⟨some 210, [0, 1, 2, 3, 4, 5], [5], []⟩, ⟨some 26, [0, 1, 2, 3, 4, 5, 6], [6], []⟩, ⟨some 27, [0, 1, 2, 3, 4, 5, 6, 7, 8], [7], []⟩]
def valWd (b3 b8 b9 b12 : Nat) (T : Tm) (p : Pt) (e g s n h : Int) (w1 w2 : Bool) (k : Nat) (env : Env) : Value :=
  match k with
  | 0 => .agg (cTm T p).toArray
  | 1 => .int .i64 g
  | 2 => .int .i64 s
  | 3 => .agg (cCl ⟨g, s⟩).toArray
  | 4 => .tuple #[.int .i64 n, .int .i64 h]
  | 5 => .tuple #[.int .i64 n, .int .i64 h]
  | 6 => .int .i64 n
  | 7 => .int .i64 h
  | 8 => .int .i64 n
  | 9 => .int .i64 h
  | _ => undef
def rowsWd (b3 b8 b9 b12 : Nat) (T : Tm) (p : Pt) (e g s n h : Int) (w1 w2 : Bool) (k : Nat) (env : Env) : List Row :=
  match k with
  | _ => []
theorem locWd (b3 b8 b9 b12 : Nat) (T : Tm) (p : Pt) (e g s n h : Int) (w1 w2 : Bool) : ∀ k env i q9, i ≠ k → (tAt tsWd k).sup.contains i = false → valWd b3 b8 b9 b12 T p e g s n h w1 w2 k (upd env i q9) = valWd b3 b8 b9 b12 T p e g s n h w1 w2 k env ∧ rowsWd b3 b8 b9 b12 T p e g s n h w1 w2 k (upd env i q9) = rowsWd b3 b8 b9 b12 T p e g s n h w1 w2 k env := by
  intro k env i q hk hs
  have hu : ∀ j, j ≠ i → upd env i q j = env j := fun j hj => by unfold upd; rw [if_neg hj]
  match k, hk, hs with
  | 0, _, _ => exact ⟨rfl, rfl⟩
  | 1, _, _ => exact ⟨rfl, rfl⟩
  | 2, _, _ => exact ⟨rfl, rfl⟩
  | 3, _, _ => exact ⟨rfl, rfl⟩
  | 4, _, _ => exact ⟨rfl, rfl⟩
  | 5, _, _ => exact ⟨rfl, rfl⟩
  | 6, _, _ => exact ⟨rfl, rfl⟩
  | 7, _, _ => exact ⟨rfl, rfl⟩
  | 8, _, _ => exact ⟨rfl, rfl⟩
  | 9, _, _ => exact ⟨rfl, rfl⟩
  | _ + 10, _, _ => exact ⟨rfl, rfl⟩
def tsWf : List TOp := [⟨some 211, [], [], []⟩, ⟨some 212, [0], [0], []⟩, ⟨some 213, [0, 1], [], []⟩, ⟨some 214, [0, 1, 2], [2], []⟩, ⟨some 215, [0, 1, 2, 3], [3], []⟩, ⟨some 216, [0, 1, 2, 3, 4], [], []⟩, ⟨some 217, [0, 1, 2, 3, 4], [], []⟩, ⟨some 218, [0, 1, 2, 3, 4, 6], [6], []⟩, ⟨some 219, [0, 1, 2, 3, 4, 5, 6, 7], [5, 7], []⟩, ⟨some 220, [0, 1, 2, 3, 4, 5, 6, 7, 8], [4, 8], []⟩, ⟨some 221, [0, 1, 2, 3, 4, 5, 6, 7, 8, 9], [1, 9], []⟩, ⟨some 222, [], [], []⟩, ⟨some 223, [0, 1, 2, 3, 4, 11], [11], []⟩, ⟨some 224, [0, 1, 2, 3, 4, 11, 12], [], []⟩, ⟨some 225, [0, 1, 2, 3, 4, 11, 12, 13], [13], []⟩, ⟨some 226, [0, 1, 2, 3, 4, 11, 12, 13, 14], [14], []⟩, ⟨some 227, [0, 1, 2, 3, 4, 11, 12, 13, 14, 15], [], []⟩, ⟨some 228, [0, 1, 2, 3, 4, 11, 12, 13, 14, 15], [], []⟩, ⟨some 229, [0, 1, 2, 3, 4, 11, 12, 13, 14, 15, 17], [17], []⟩, ⟨some 230, [0, 1, 2, 3, 4, 11, 12, 13, 14, 15, 16, 17, 18], [16, 18], []⟩, ⟨some 231, [0, 1, 2, 3, 4, 11, 12, 13, 14, 15, 16, 17, 18, 19], [15, 19], []⟩, ⟨some 232, [0, 1, 2, 3, 4, 11, 12, 13, 14, 15, 16, 17, 18, 19, 20], [12, 20], []⟩, ⟨some 22, [0, 1, 2, 3, 4, 5, 6, 7, 8, 9, 10, 11, 12, 13, 14, 15], [10], []⟩, ⟨some 23, [0, 1, 2, 3, 4, 5, 6, 7, 8, 9, 10, 11, 12, 13, 14, 15, 16, 17, 18, 19, 20, 21, 22], [21], []⟩]
def valWf (b3 b8 b9 b12 : Nat) (r : Sp) (e g s n h : Int) (w1 w2 z u1 u2 : Bool) (k : Nat) (env : Env) : Value :=
  match k with
  | 0 => .bool w1
  | 1 => .bool w1
  | 2 => gt (w1) (.int .i64 h)
  | 3 => gt (w1) (.bool z)
  | 4 => gt (w1) (.bool z)
  | 5 => gt (w1 || !z) (.int .i64 n)
  | 6 => gt (w1 || !z) (.pointer (some ⟨b12, 0, none⟩))
  | 7 => gt (w1 || !z) (.int .i64 r.lo)
  | 8 => gt (w1 || !z) (.bool u1)
  | 9 => gt (w1) (.bool (z && u1))
  | 10 => .bool (w1 || (z && u1))
  | 11 => .bool w2
  | 12 => .bool w2
  | 13 => gt (w2) (.int .i64 h)
  | 14 => gt (w2) (.bool z)
  | 15 => gt (w2) (.bool z)
  | 16 => gt (w2 || !z) (.int .i64 n)
  | 17 => gt (w2 || !z) (.pointer (some ⟨b12, 1, none⟩))
  | 18 => gt (w2 || !z) (.int .i64 r.hi)
  | 19 => gt (w2 || !z) (.bool u2)
  | 20 => gt (w2) (.bool (z && u2))
  | 21 => .bool (w2 || (z && u2))
  | 22 => .bool (w1 || (z && u1))
  | 23 => .bool (w2 || (z && u2))
  | _ => undef
def rowsWf (b3 b8 b9 b12 : Nat) (r : Sp) (e g s n h : Int) (w1 w2 z u1 u2 : Bool) (k : Nat) (env : Env) : List Row :=
  match k with
  | _ => []
theorem locWf (b3 b8 b9 b12 : Nat) (r : Sp) (e g s n h : Int) (w1 w2 z u1 u2 : Bool) : ∀ k env i q9, i ≠ k → (tAt tsWf k).sup.contains i = false → valWf b3 b8 b9 b12 r e g s n h w1 w2 z u1 u2 k (upd env i q9) = valWf b3 b8 b9 b12 r e g s n h w1 w2 z u1 u2 k env ∧ rowsWf b3 b8 b9 b12 r e g s n h w1 w2 z u1 u2 k (upd env i q9) = rowsWf b3 b8 b9 b12 r e g s n h w1 w2 z u1 u2 k env := by
  intro k env i q hk hs
  have hu : ∀ j, j ≠ i → upd env i q j = env j := fun j hj => by unfold upd; rw [if_neg hj]
  match k, hk, hs with
  | 0, _, _ => exact ⟨rfl, rfl⟩
  | 1, _, _ => exact ⟨rfl, rfl⟩
  | 2, _, _ => exact ⟨rfl, rfl⟩
  | 3, _, _ => exact ⟨rfl, rfl⟩
  | 4, _, _ => exact ⟨rfl, rfl⟩
  | 5, _, _ => exact ⟨rfl, rfl⟩
  | 6, _, _ => exact ⟨rfl, rfl⟩
  | 7, _, _ => exact ⟨rfl, rfl⟩
  | 8, _, _ => exact ⟨rfl, rfl⟩
  | 9, _, _ => exact ⟨rfl, rfl⟩
  | 10, _, _ => exact ⟨rfl, rfl⟩
  | 11, _, _ => exact ⟨rfl, rfl⟩
  | 12, _, _ => exact ⟨rfl, rfl⟩
  | 13, _, _ => exact ⟨rfl, rfl⟩
  | 14, _, _ => exact ⟨rfl, rfl⟩
  | 15, _, _ => exact ⟨rfl, rfl⟩
  | 16, _, _ => exact ⟨rfl, rfl⟩
  | 17, _, _ => exact ⟨rfl, rfl⟩
  | 18, _, _ => exact ⟨rfl, rfl⟩
  | 19, _, _ => exact ⟨rfl, rfl⟩
  | 20, _, _ => exact ⟨rfl, rfl⟩
  | 21, _, _ => exact ⟨rfl, rfl⟩
  | 22, _, _ => exact ⟨rfl, rfl⟩
  | 23, _, _ => exact ⟨rfl, rfl⟩
  | _ + 24, _, _ => exact ⟨rfl, rfl⟩
def rdWf (_ : Nat) : List Nat := []
/-- what was seen of the lot: the least and the greatest invoice -/
def PB (T : Tm) (r x y : Sp) (k j : Int) (w1 w2 : Bool) : Prop :=
  ∀ g s, (x.lo ≤ g ∧ y.lo ≤ s ∧ s ≤ y.hi) → (g < x.lo + k ∨ (g = x.lo + k ∧ s < y.lo + j)) → may T ⟨g, s⟩ = true → (val T g s = r.lo → w1 = true) ∧ (val T g s = r.hi → w2 = true)
theorem PB.zero {T : Tm} {r x y : Sp} : PB T r x y 0 0 false false := fun g s h h' _ => by exfalso; omega
theorem PB.row {T : Tm} {r x y : Sp} {k j : Int} {w1 w2 : Bool} (h : PB T r x y k j w1 w2) (hj : y.hi < y.lo + j) : PB T r x y (k + 1) 0 w1 w2 :=
  fun g s h1 h2 hm => h g s h1 (by omega) hm
theorem PB.step {T : Tm} {r x y : Sp} {k j : Int} {w1 w2 : Bool} (h : PB T r x y k j w1 w2) {v1 v2 : Bool} (h1 : w1 = true → v1 = true) (h2 : w2 = true → v2 = true) (hc : may T ⟨x.lo + k, y.lo + j⟩ = true → (val T (x.lo + k) (y.lo + j) = r.lo → v1 = true) ∧ (val T (x.lo + k) (y.lo + j) = r.hi → v2 = true)) : PB T r x y k (j + 1) v1 v2 := fun g s q1 q2 hm => by
  by_cases e : g = x.lo + k ∧ s = y.lo + j
  · obtain ⟨rfl, rfl⟩ := e; exact hc hm
  · obtain ⟨a, b⟩ := h g s q1 (by omega) hm
    exact ⟨fun h => h1 (a h), fun h => h2 (b h)⟩
def iE (T : Tm) (g s : Int) : Int := if may T ⟨g, s⟩ = true then 0 else 6
def iN (T : Tm) (g s : Int) : Int := if may T ⟨g, s⟩ = true then val T g s else 0
theorem inv2_spec (T : Tm) (p : Pt) (g s : Int) (hok : tmOk T) (h1 : 1 ≤ g ∧ g ≤ 9) (h2 : 1 ≤ s ∧ s ≤ 9) (H : List Row) (hT : TmOk H T p) : Fc Tryz.prog 14 [.agg (cTm T p).toArray, .agg (cCl ⟨g, s⟩).toArray] H (fun v H' => v = .tuple #[.int .i64 (iN T g s), .int .i64 (iE T g s)] ∧ H' = H) := by
  have := kinvoice_spec T p ⟨g, s⟩ H hT
  unfold invR at this
  rw [oI hok ⟨h1, h2⟩] at this
  unfold iN iE
  by_cases hm : may T ⟨g, s⟩ = true
  · rw [if_pos hm, if_pos rfl] at this; rw [if_pos hm, if_pos hm]; exact this
  · rw [if_neg hm, if_neg (by decide)] at this; rw [if_neg hm, if_neg hm]; exact this
set_option maxHeartbeats 32000000 in
theorem betwL (T : Tm) (p : Pt) (x y r : Sp) (e : Int) (b3 b8 b9 b12 : Nat) (H : List Row) (hok : tmOk T) (hT : TmOk H T p) (hx : (1 ≤ x.lo ∧ x.lo ≤ x.hi) ∧ x.hi ≤ 9) (hy : (1 ≤ y.lo ∧ y.lo ≤ y.hi) ∧ y.hi ≤ 9)
    (he : (e = 6 ∧ ∀ g s, (x.lo ≤ g ∧ g ≤ x.hi) → (y.lo ≤ s ∧ s ≤ y.hi) → may T ⟨g, s⟩ = false) ∨ (e = 0 ∧ (∃ g s, (x.lo ≤ g ∧ g ≤ x.hi) ∧ (y.lo ≤ s ∧ s ≤ y.hi) ∧ may T ⟨g, s⟩ = true ∧ val T g s = r.lo) ∧ ∃ g s, (x.lo ≤ g ∧ g ≤ x.hi) ∧ (y.lo ≤ s ∧ s ≤ y.hi) ∧ may T ⟨g, s⟩ = true ∧ val T g s = r.hi)) :
    X Tryz.prog 250 (csnd (csnd (csnd (csnd (csnd (csnd (csnd (csnd (csnd (csnd (csnd (csnd (cof Tryz.f4))))))))))))) [(3, .pointer (some ⟨b3, 0, none⟩)), (7, .bool true), (8, .pointer (some ⟨b8, 0, none⟩)), (9, .pointer (some ⟨b9, 0, none⟩)), (12, .pointer (some ⟨b12, 0, none⟩)), (13, .int .i64 e)] (⟨b12, 0, cSp r, some 30, 2⟩ :: ⟨b8, 0, cSp x, some 30, 2⟩ :: ⟨b9, 0, cSp y, some 30, 2⟩ :: ⟨b3, 0, cTm T p, some 32, 11⟩ :: H) (retX Tryz.prog Tryz.f4 (fun v _ => v = .bool true)) := by
  repeat' (first | (refine XO.op rfl ?_; (first | ((first | refine Xo.ng rfl ?_); (first | (refine Xg.ev (EvF.assign rfl rfl) rfl rfl ?_) | (refine Xg.ev (EvF.fieldAddr rfl rfl (te rfl) rfl (te rfl) (by decide)) rfl rfl ?_) | (refine Xg.ev (EvF.loadV rfl rfl (LoadV.own (te rfl) rfl (List.Mem.tail _ (List.Mem.head _)) rfl)) rfl rfl ?_))))) | (refine XO.done rfl ?_; refine hK _ _ ?_; clear hK K) | refine X.seq rfl ?_ | refine X.region rfl (fun K hK => ?_) | refine X.block rfl ?_)
  refine X.lp rfl (fun q9 F' H' => ∃ (k : Nat) (w1 w2 : Bool), (q9 : Int) = x.hi - x.lo + 1 - k ∧ x.lo + k ≤ x.hi + 1 ∧ PB T r x y k 0 w1 w2 ∧ H' = ⟨b12, 0, cSp r, some 30, 2⟩ :: ⟨b8, 0, cSp x, some 30, 2⟩ :: ⟨b9, 0, cSp y, some 30, 2⟩ :: ⟨b3, 0, cTm T p, some 32, 11⟩ :: H ∧ F' = [(3, .pointer (some ⟨b3, 0, none⟩)), (7, .bool true), (8, .pointer (some ⟨b8, 0, none⟩)), (9, .pointer (some ⟨b9, 0, none⟩)), (12, .pointer (some ⟨b12, 0, none⟩)), (13, .int .i64 e), (22, .bool w1), (23, .bool w2), (24, .int .i64 (x.lo + k))])
    (x.hi - x.lo + 1).toNat [(3, .pointer (some ⟨b3, 0, none⟩)), (7, .bool true), (8, .pointer (some ⟨b8, 0, none⟩)), (9, .pointer (some ⟨b9, 0, none⟩)), (12, .pointer (some ⟨b12, 0, none⟩)), (13, .int .i64 e), (22, .bool false), (23, .bool false), (24, .int .i64 (x.lo + (0 : Nat)))] _ (by rw [show x.lo + ((0 : Nat) : Int) = x.lo from Int.add_zero _]; exact (by (repeat (first | exact Sub.nil _ | refine Sub.cons rfl ?_)); done)) (by (repeat (first | exact List.Sublist.refl _ | apply List.Sublist.cons_cons | apply List.Sublist.cons)); done) ⟨0, false, false, by omega, by omega, PB.zero, rfl, rfl⟩ ?_
  rintro q9 _ _ ⟨k, w1, w2, hw, hk, hP, rfl, rfl⟩
  by_cases hk9 : x.lo + k ≤ x.hi
  · repeat' (first | (refine XO.op rfl ?_; (first | ((first | refine Xo.ng rfl ?_); (first | (refine Xg.ev (EvF.cmp (b := true) rfl rfl rfl (congrArg some (decide_eq_true (by omega)))) rfl rfl ?_) | (refine Xg.ev (EvF.move rfl rfl) rfl rfl ?_) | (refine Xg.ev (EvF.assign rfl rfl) rfl rfl ?_) | (refine Xg.ev (EvF.fieldAddr rfl rfl (te rfl) rfl (te rfl) (by decide)) rfl rfl ?_) | (refine Xg.ev (EvF.loadV rfl rfl (LoadV.own (te rfl) rfl (List.Mem.tail _ (List.Mem.head _)) rfl)) rfl rfl ?_) | (refine Xg.ev (EvF.loadV rfl rfl (LoadV.own (te rfl) rfl (List.Mem.tail _ (List.Mem.tail _ (List.Mem.head _))) rfl)) rfl rfl ?_))))) | (refine XO.done rfl ?_; refine hK _ _ ?_; clear hK K) | refine X.seq rfl ?_ | refine X.region rfl (fun K hK => ?_) | refine X.block rfl ?_ | refine X.skip rfl ?_ | (refine X.ite rfl rfl (fun hc => ?_); (first | (with_reducible refine Xb.t hc ?_)) <;> clear hc))
    all_goals try (exfalso; first | contradiction | omega)
    refine X.lp rfl (fun q8 F' H' => ∃ (j : Nat) (w1 w2 : Bool), (q8 : Int) = y.hi - y.lo + 1 - j ∧ y.lo + j ≤ y.hi + 1 ∧ PB T r x y k j w1 w2 ∧ H' = ⟨b12, 0, cSp r, some 30, 2⟩ :: ⟨b8, 0, cSp x, some 30, 2⟩ :: ⟨b9, 0, cSp y, some 30, 2⟩ :: ⟨b3, 0, cTm T p, some 32, 11⟩ :: H ∧ F' = [(3, .pointer (some ⟨b3, 0, none⟩)), (7, .bool true), (8, .pointer (some ⟨b8, 0, none⟩)), (9, .pointer (some ⟨b9, 0, none⟩)), (12, .pointer (some ⟨b12, 0, none⟩)), (13, .int .i64 e), (22, .bool w1), (23, .bool w2), (24, .int .i64 (x.lo + k)), (25, .int .i64 (y.lo + j))])
      (y.hi - y.lo + 1).toNat [(3, .pointer (some ⟨b3, 0, none⟩)), (7, .bool true), (8, .pointer (some ⟨b8, 0, none⟩)), (9, .pointer (some ⟨b9, 0, none⟩)), (12, .pointer (some ⟨b12, 0, none⟩)), (13, .int .i64 e), (22, .bool w1), (23, .bool w2), (24, .int .i64 (x.lo + k)), (25, .int .i64 (y.lo + (0 : Nat)))] _ (by rw [show y.lo + ((0 : Nat) : Int) = y.lo from Int.add_zero _]; exact (by (repeat (first | exact Sub.nil _ | refine Sub.cons rfl ?_)); done)) (by (repeat (first | exact List.Sublist.refl _ | apply List.Sublist.cons_cons | apply List.Sublist.cons)); done) ⟨0, w1, w2, by omega, by omega, hP, rfl, rfl⟩ ?_
    clear hP w1 w2
    rintro q8 _ _ ⟨j, w1, w2, hw', hj, hP, rfl, rfl⟩
    by_cases hj9 : y.lo + j ≤ y.hi
    · have hI := inv2_spec T p (x.lo + k) (y.lo + j) hok (by omega) (by omega)
      have hz : may T ⟨x.lo + k, y.lo + j⟩ = true → e = 0 := fun h => by
        rcases he with ⟨_, h2⟩ | ⟨h1, _⟩
        · rw [h2 (x.lo + k) (y.lo + j) (by omega) (by omega)] at h; cases h
        · exact h1
      have hst := @PB.step T r x y k j w1 w2 hP
      have hb := val_bd hok (x.lo + k) (y.lo + j)
      unfold iN iE at hI
      repeat' (first | (refine XO.op rfl ?_; (first | ((first | refine Xo.ng rfl ?_); (first | (refine Xg.ev (EvF.cmp (b := true) rfl rfl rfl (congrArg some (decide_eq_true (by omega)))) rfl rfl ?_) | (refine Xg.ev (EvF.move rfl rfl) rfl rfl ?_) | (refine Xg.ev (EvF.fieldAddr rfl rfl (te rfl) rfl (te rfl) (by decide)) rfl rfl ?_) | (refine Xg.ev (EvF.loadV rfl rfl (LoadV.own (te rfl) rfl (List.Mem.tail _ (List.Mem.tail _ (List.Mem.head _))) rfl)) rfl rfl ?_))))) | (refine XO.done rfl ?_; refine hK _ _ ?_; clear hK K) | refine X.seq rfl ?_ | refine X.region rfl (fun K hK => ?_) | refine X.block rfl ?_ | refine X.skip rfl ?_ | (refine X.ite rfl rfl (fun hc => ?_); (first | (with_reducible refine Xb.t hc ?_)) <;> clear hc))
      all_goals try (exfalso; first | contradiction | omega)
      obtain ⟨g, hge⟩ : ∃ q, x.lo + (k : Int) = q := ⟨_, rfl⟩
      obtain ⟨s, hse⟩ : ∃ q, y.lo + (j : Int) = q := ⟨_, rfl⟩
      simp only [hge, hse] at hI hz hst hb ⊢
      obtain ⟨vg, hvg⟩ : ∃ q, val T g s = q := ⟨_, rfl⟩
      obtain ⟨z, hze⟩ : ∃ q, may T ⟨g, s⟩ = q := ⟨_, rfl⟩
      rw [hvg] at hI hb hst
      rw [hze] at hI hz hst
      have hd : ∀ (v1 v2 : Bool), (w1 = true → v1 = true) → (w2 = true → v2 = true) → (z = true → (vg = r.lo → v1 = true) ∧ (vg = r.hi → v2 = true)) → PB T r x y k (j + 1 : Nat) v1 v2 := fun v1 v2 a b c => hst a b c
      clear hst hvg hze hP
      have i9 : 1 ≤ g ∧ g ≤ 9 := by omega
      have i8 : 1 ≤ s ∧ s ≤ 9 := by omega
      have he0 : e = 0 ∨ e = 6 := by rcases he with h | h; exact .inr h.1; exact .inl h.1
      cases z
      · rw [if_neg (by decide), if_neg (by decide)] at hI
        refine X.regionOb tsWd [3, 7, 8, 9, 12, 13, 22, 23, 24, 25] [(3, .pointer (some ⟨b3, 0, none⟩)), (7, .bool true), (8, .pointer (some ⟨b8, 0, none⟩)), (9, .pointer (some ⟨b9, 0, none⟩)), (12, .pointer (some ⟨b12, 0, none⟩)), (13, .int .i64 e), (22, .bool w1), (23, .bool w2), (24, .int .i64 g), (25, .int .i64 s)] (valWd b3 b8 b9 b12 T p e g s 0 6 w1 w2) (rowsWd b3 b8 b9 b12 T p e g s 0 6 w1 w2) (fun _ => (0, 0)) (⟨b12, 0, cSp r, some 30, 2⟩ :: ⟨b8, 0, cSp x, some 30, 2⟩ :: ⟨b9, 0, cSp y, some 30, 2⟩ :: ⟨b3, 0, cTm T p, some 32, 11⟩ :: H) rfl mixed (by (repeat (first | exact Sub.nil _ | refine Sub.cons rfl ?_)); done) rfl (by kernel_rfl) (locWd b3 b8 b9 b12 T p e g s 0 6 w1 w2) (List.Sublist.refl _) ?_ ?_
        · repeat' (first | exact AllF.done rfl | (refine AllF.step rfl ?_ ?_; · (first | fail | ((first | refine Ob.ng rfl ?_); (first | exact ObK.pure (fun env R hR => by exact ⟨_, EvF.move rfl rfl, rfl⟩) rfl (fun _ => rfl) | exact ObK.pure (fun env R hR => by exact ⟨_, EvF.assign rfl rfl, rfl⟩) rfl (fun _ => rfl) | exact ObK.pure (fun env R hR => by exact ⟨_, EvF.loadV rfl rfl (LoadV.whole (te rfl) rfl (hR _ (List.Mem.tail _ (List.Mem.tail _ (List.Mem.tail _ (List.Mem.head _))))) rfl), rfl⟩) rfl (fun _ => rfl) | (exact fun env S hS => OpF.callV (Z := []) (EnF.st rfl (Args.cons rfl (Args.cons rfl Args.nil))) (lclass_spec g s _) rfl rfl) | (exact fun env S hS => OpF.callV (Z := []) (EnF.st rfl (Args.cons rfl (Args.cons rfl Args.nil))) (hI _ (hT.sub (fun r hr => hS r (List.mem_append_right [_, _, _, _] hr)))) rfl rfl) | (exact ObK.pure (fun env S hS => ⟨_, EvF.extract rfl rfl rfl, rfl⟩) rfl (fun _ => rfl)))))))
        intro env t ha2 hv; refine ⟨_, (ha2.cons (hv 8 26 (Nat.le_of_ble_eq_true rfl) rfl)).cons (hv 9 27 (Nat.le_of_ble_eq_true rfl) rfl), ?_⟩; clear hv ha2
        refine X.weak (F' := [(3, .pointer (some ⟨b3, 0, none⟩)), (7, .bool true), (8, .pointer (some ⟨b8, 0, none⟩)), (9, .pointer (some ⟨b9, 0, none⟩)), (12, .pointer (some ⟨b12, 0, none⟩)), (13, .int .i64 e), (22, .bool w1), (23, .bool w2), (24, .int .i64 g), (25, .int .i64 s), (26, .int .i64 0), (27, .int .i64 6)]) (H' := ⟨b12, 0, cSp r, some 30, 2⟩ :: ⟨b8, 0, cSp x, some 30, 2⟩ :: ⟨b9, 0, cSp y, some 30, 2⟩ :: ⟨b3, 0, cTm T p, some 32, 11⟩ :: H) (by (repeat (first | exact Sub.nil _ | refine Sub.cons rfl ?_)); done) (by (repeat (first | exact List.Sublist.refl _ | apply List.Sublist.cons_cons | apply List.Sublist.cons)); done) ?_
        clear env
        refine X.seq rfl ?_
        cases w1 <;> cases w2
        · refine X.regionRs [] tsWf rdWf [3, 7, 8, 9, 12, 13, 24, 25, 26, 27] [(3, .pointer (some ⟨b3, 0, none⟩)), (7, .bool true), (8, .pointer (some ⟨b8, 0, none⟩)), (9, .pointer (some ⟨b9, 0, none⟩)), (12, .pointer (some ⟨b12, 0, none⟩)), (13, .int .i64 e), (24, .int .i64 g), (25, .int .i64 s), (26, .int .i64 0), (27, .int .i64 6)] (valWf b3 b8 b9 b12 r e g s 0 6 false false false false false) (rowsWf b3 b8 b9 b12 r e g s 0 6 false false false false false) (fun _ => (0, 0)) (⟨b12, 0, cSp r, some 30, 2⟩ :: ⟨b8, 0, cSp x, some 30, 2⟩ :: ⟨b9, 0, cSp y, some 30, 2⟩ :: ⟨b3, 0, cTm T p, some 32, 11⟩ :: H) rfl mixed (by (repeat (first | exact Sub.nil _ | refine Sub.cons rfl ?_)); done) rfl (by kernel_rfl) (by kernel_rfl) (locWf b3 b8 b9 b12 r e g s 0 6 false false false false false) (fun i d hi => by cases hi) (List.Sublist.refl _) [(22, 22, .bool false), (23, 23, .bool false)] (by intro e he; simp only [List.mem_cons, List.not_mem_nil, or_false] at he; rcases he with rfl | rfl <;> exact ⟨rfl, Nat.le_of_ble_eq_true rfl⟩) (by intro e he; simp only [List.mem_cons, List.not_mem_nil, or_false] at he; rcases he with rfl | rfl <;> exact rfl) ?_ ?_
          · repeat' (first | exact AllF.done rfl | (refine AllF.step rfl ?_ ?_; · (first | exact Ob.toR (Ob.sk rfl rfl (fun _ => rfl) (fun _ => rfl) (fun _ => rfl) (fun _ => rfl)) | (refine Ob.toR ?_; ((first | refine Ob.ng rfl ?_ | refine Ob.g rfl rfl (fun _ => rfl) ?_); (first | exact ObK.pure (fun env R hR => by exact ⟨_, EvF.move rfl rfl, rfl⟩) rfl (fun _ => rfl) | exact ObK.pure (fun env R hR => by exact ⟨_, EvF.assign rfl rfl, rfl⟩) rfl (fun _ => rfl) | exact ObK.pure (fun env R hR => by exact ⟨_, EvF.pickF rfl rfl rfl, rfl⟩) rfl (fun _ => rfl) | exact ObK.pure (fun env R hR => by exact ⟨_, EvF.cmp rfl rfl rfl rfl, rfl⟩) rfl (fun _ => rfl)))))))
          intro env t ha2 hv; refine ⟨_, (ha2.cons (hv 22 22 (Nat.le_of_ble_eq_true rfl) rfl)).cons (hv 23 23 (Nat.le_of_ble_eq_true rfl) rfl), ?_⟩; clear hv ha2
          rcases he0 with he0 | he0
          all_goals repeat' (first | (refine XO.op rfl ?_; (first | ((first | refine Xo.ng rfl ?_ | (refine Xo.g rfl rfl ?_; with_reducible refine Xw.tt ?_)); (first | (refine Xg.ev (EvF.cmp (b := false) rfl rfl rfl (congrArg some (decide_eq_false (by omega)))) rfl rfl ?_) | (refine Xg.ev (EvF.cmp (b := true) rfl rfl rfl (congrArg some (nd_t (by omega)))) rfl rfl ?_) | (refine Xg.ev (EvF.cmp (b := false) rfl rfl rfl (congrArg some (nd_f (by omega)))) rfl rfl ?_) | (refine Xg.ev (EvF.add64 rfl rfl rfl (by omega) (by omega)) rfl rfl ?_) | (refine Xg.ev (EvF.move rfl rfl) rfl rfl ?_) | (refine Xg.ev (EvF.assign rfl rfl) rfl rfl ?_) | (refine Xg.ev (EvF.pickT rfl rfl rfl) rfl rfl ?_) | (refine Xg.ev (EvF.pickF rfl rfl rfl) rfl rfl ?_))) | (refine Xo.g rfl rfl ?_; (first | (with_reducible refine Xw.ft rfl rfl ?_))))) | (refine XO.done rfl ?_; refine hK _ _ ?_; clear hK K) | refine X.seq rfl ?_ | refine X.region rfl (fun K hK => ?_) | refine X.skip rfl ?_ | (refine X.ite rfl rfl (fun hc => ?_); (first | (with_reducible refine Xb.f hc ?_)) <;> clear hc))
          all_goals try (exfalso; first | contradiction | omega)
          all_goals refine ⟨q8 - 1, [(3, .pointer (some ⟨b3, 0, none⟩)), (7, .bool true), (8, .pointer (some ⟨b8, 0, none⟩)), (9, .pointer (some ⟨b9, 0, none⟩)), (12, .pointer (some ⟨b12, 0, none⟩)), (13, .int .i64 e), (22, .bool false), (23, .bool false), (24, .int .i64 g), (25, .int .i64 (y.lo + (j + 1 : Nat)))], _, (by rw [show y.lo + ((j + 1 : Nat) : Int) = s + 1 by omega]; exact (by (repeat (first | exact Sub.nil _ | refine Sub.cons rfl ?_)); done)), (by (repeat (first | exact List.Sublist.refl _ | apply List.Sublist.cons_cons | apply List.Sublist.cons)); done), ⟨j + 1, false, false, by omega, by omega, hd _ _ (fun h => h) (fun h => h) (fun h => by cases h), rfl, rfl⟩, by omega⟩
        · refine X.regionRs [] tsWf rdWf [3, 7, 8, 9, 12, 13, 24, 25, 26, 27] [(3, .pointer (some ⟨b3, 0, none⟩)), (7, .bool true), (8, .pointer (some ⟨b8, 0, none⟩)), (9, .pointer (some ⟨b9, 0, none⟩)), (12, .pointer (some ⟨b12, 0, none⟩)), (13, .int .i64 e), (24, .int .i64 g), (25, .int .i64 s), (26, .int .i64 0), (27, .int .i64 6)] (valWf b3 b8 b9 b12 r e g s 0 6 false true false false false) (rowsWf b3 b8 b9 b12 r e g s 0 6 false true false false false) (fun _ => (0, 0)) (⟨b12, 0, cSp r, some 30, 2⟩ :: ⟨b8, 0, cSp x, some 30, 2⟩ :: ⟨b9, 0, cSp y, some 30, 2⟩ :: ⟨b3, 0, cTm T p, some 32, 11⟩ :: H) rfl mixed (by (repeat (first | exact Sub.nil _ | refine Sub.cons rfl ?_)); done) rfl (by kernel_rfl) (by kernel_rfl) (locWf b3 b8 b9 b12 r e g s 0 6 false true false false false) (fun i d hi => by cases hi) (List.Sublist.refl _) [(22, 22, .bool false), (23, 23, .bool true)] (by intro e he; simp only [List.mem_cons, List.not_mem_nil, or_false] at he; rcases he with rfl | rfl <;> exact ⟨rfl, Nat.le_of_ble_eq_true rfl⟩) (by intro e he; simp only [List.mem_cons, List.not_mem_nil, or_false] at he; rcases he with rfl | rfl <;> exact rfl) ?_ ?_
          · repeat' (first | exact AllF.done rfl | (refine AllF.step rfl ?_ ?_; · (first | exact Ob.toR (Ob.sk rfl rfl (fun _ => rfl) (fun _ => rfl) (fun _ => rfl) (fun _ => rfl)) | (refine Ob.toR ?_; ((first | refine Ob.ng rfl ?_ | refine Ob.g rfl rfl (fun _ => rfl) ?_); (first | exact ObK.pure (fun env R hR => by exact ⟨_, EvF.move rfl rfl, rfl⟩) rfl (fun _ => rfl) | exact ObK.pure (fun env R hR => by exact ⟨_, EvF.assign rfl rfl, rfl⟩) rfl (fun _ => rfl) | exact ObK.pure (fun env R hR => by exact ⟨_, EvF.pickT rfl rfl rfl, rfl⟩) rfl (fun _ => rfl) | exact ObK.pure (fun env R hR => by exact ⟨_, EvF.pickF rfl rfl rfl, rfl⟩) rfl (fun _ => rfl) | exact ObK.pure (fun env R hR => by exact ⟨_, EvF.cmp rfl rfl rfl rfl, rfl⟩) rfl (fun _ => rfl)))))))
          intro env t ha2 hv; refine ⟨_, (ha2.cons (hv 22 22 (Nat.le_of_ble_eq_true rfl) rfl)).cons (hv 23 23 (Nat.le_of_ble_eq_true rfl) rfl), ?_⟩; clear hv ha2
          rcases he0 with he0 | he0
          all_goals repeat' (first | (refine XO.op rfl ?_; (first | ((first | refine Xo.ng rfl ?_ | (refine Xo.g rfl rfl ?_; with_reducible refine Xw.tt ?_)); (first | (refine Xg.ev (EvF.cmp (b := false) rfl rfl rfl (congrArg some (decide_eq_false (by omega)))) rfl rfl ?_) | (refine Xg.ev (EvF.cmp (b := true) rfl rfl rfl (congrArg some (nd_t (by omega)))) rfl rfl ?_) | (refine Xg.ev (EvF.cmp (b := false) rfl rfl rfl (congrArg some (nd_f (by omega)))) rfl rfl ?_) | (refine Xg.ev (EvF.add64 rfl rfl rfl (by omega) (by omega)) rfl rfl ?_) | (refine Xg.ev (EvF.move rfl rfl) rfl rfl ?_) | (refine Xg.ev (EvF.assign rfl rfl) rfl rfl ?_) | (refine Xg.ev (EvF.pickT rfl rfl rfl) rfl rfl ?_) | (refine Xg.ev (EvF.pickF rfl rfl rfl) rfl rfl ?_))) | (refine Xo.g rfl rfl ?_; (first | (with_reducible refine Xw.ft rfl rfl ?_))))) | (refine XO.done rfl ?_; refine hK _ _ ?_; clear hK K) | refine X.seq rfl ?_ | refine X.region rfl (fun K hK => ?_) | refine X.skip rfl ?_ | (refine X.ite rfl rfl (fun hc => ?_); (first | (with_reducible refine Xb.f hc ?_)) <;> clear hc))
          all_goals try (exfalso; first | contradiction | omega)
          all_goals refine ⟨q8 - 1, [(3, .pointer (some ⟨b3, 0, none⟩)), (7, .bool true), (8, .pointer (some ⟨b8, 0, none⟩)), (9, .pointer (some ⟨b9, 0, none⟩)), (12, .pointer (some ⟨b12, 0, none⟩)), (13, .int .i64 e), (22, .bool false), (23, .bool true), (24, .int .i64 g), (25, .int .i64 (y.lo + (j + 1 : Nat)))], _, (by rw [show y.lo + ((j + 1 : Nat) : Int) = s + 1 by omega]; exact (by (repeat (first | exact Sub.nil _ | refine Sub.cons rfl ?_)); done)), (by (repeat (first | exact List.Sublist.refl _ | apply List.Sublist.cons_cons | apply List.Sublist.cons)); done), ⟨j + 1, false, true, by omega, by omega, hd _ _ (fun h => h) (fun h => h) (fun h => by cases h), rfl, rfl⟩, by omega⟩
        · refine X.regionRs [] tsWf rdWf [3, 7, 8, 9, 12, 13, 24, 25, 26, 27] [(3, .pointer (some ⟨b3, 0, none⟩)), (7, .bool true), (8, .pointer (some ⟨b8, 0, none⟩)), (9, .pointer (some ⟨b9, 0, none⟩)), (12, .pointer (some ⟨b12, 0, none⟩)), (13, .int .i64 e), (24, .int .i64 g), (25, .int .i64 s), (26, .int .i64 0), (27, .int .i64 6)] (valWf b3 b8 b9 b12 r e g s 0 6 true false false false false) (rowsWf b3 b8 b9 b12 r e g s 0 6 true false false false false) (fun _ => (0, 0)) (⟨b12, 0, cSp r, some 30, 2⟩ :: ⟨b8, 0, cSp x, some 30, 2⟩ :: ⟨b9, 0, cSp y, some 30, 2⟩ :: ⟨b3, 0, cTm T p, some 32, 11⟩ :: H) rfl mixed (by (repeat (first | exact Sub.nil _ | refine Sub.cons rfl ?_)); done) rfl (by kernel_rfl) (by kernel_rfl) (locWf b3 b8 b9 b12 r e g s 0 6 true false false false false) (fun i d hi => by cases hi) (List.Sublist.refl _) [(22, 22, .bool true), (23, 23, .bool false)] (by intro e he; simp only [List.mem_cons, List.not_mem_nil, or_false] at he; rcases he with rfl | rfl <;> exact ⟨rfl, Nat.le_of_ble_eq_true rfl⟩) (by intro e he; simp only [List.mem_cons, List.not_mem_nil, or_false] at he; rcases he with rfl | rfl <;> exact rfl) ?_ ?_
          · repeat' (first | exact AllF.done rfl | (refine AllF.step rfl ?_ ?_; · (first | exact Ob.toR (Ob.sk rfl rfl (fun _ => rfl) (fun _ => rfl) (fun _ => rfl) (fun _ => rfl)) | (refine Ob.toR ?_; ((first | refine Ob.ng rfl ?_ | refine Ob.g rfl rfl (fun _ => rfl) ?_); (first | exact ObK.pure (fun env R hR => by exact ⟨_, EvF.move rfl rfl, rfl⟩) rfl (fun _ => rfl) | exact ObK.pure (fun env R hR => by exact ⟨_, EvF.assign rfl rfl, rfl⟩) rfl (fun _ => rfl) | exact ObK.pure (fun env R hR => by exact ⟨_, EvF.pickT rfl rfl rfl, rfl⟩) rfl (fun _ => rfl) | exact ObK.pure (fun env R hR => by exact ⟨_, EvF.pickF rfl rfl rfl, rfl⟩) rfl (fun _ => rfl) | exact ObK.pure (fun env R hR => by exact ⟨_, EvF.cmp rfl rfl rfl rfl, rfl⟩) rfl (fun _ => rfl)))))))
          intro env t ha2 hv; refine ⟨_, (ha2.cons (hv 22 22 (Nat.le_of_ble_eq_true rfl) rfl)).cons (hv 23 23 (Nat.le_of_ble_eq_true rfl) rfl), ?_⟩; clear hv ha2
          rcases he0 with he0 | he0
          all_goals repeat' (first | (refine XO.op rfl ?_; (first | ((first | refine Xo.ng rfl ?_ | (refine Xo.g rfl rfl ?_; with_reducible refine Xw.tt ?_)); (first | (refine Xg.ev (EvF.cmp (b := false) rfl rfl rfl (congrArg some (decide_eq_false (by omega)))) rfl rfl ?_) | (refine Xg.ev (EvF.cmp (b := true) rfl rfl rfl (congrArg some (nd_t (by omega)))) rfl rfl ?_) | (refine Xg.ev (EvF.cmp (b := false) rfl rfl rfl (congrArg some (nd_f (by omega)))) rfl rfl ?_) | (refine Xg.ev (EvF.add64 rfl rfl rfl (by omega) (by omega)) rfl rfl ?_) | (refine Xg.ev (EvF.move rfl rfl) rfl rfl ?_) | (refine Xg.ev (EvF.assign rfl rfl) rfl rfl ?_) | (refine Xg.ev (EvF.pickT rfl rfl rfl) rfl rfl ?_) | (refine Xg.ev (EvF.pickF rfl rfl rfl) rfl rfl ?_))) | (refine Xo.g rfl rfl ?_; (first | (with_reducible refine Xw.ft rfl rfl ?_))))) | (refine XO.done rfl ?_; refine hK _ _ ?_; clear hK K) | refine X.seq rfl ?_ | refine X.region rfl (fun K hK => ?_) | refine X.skip rfl ?_ | (refine X.ite rfl rfl (fun hc => ?_); (first | (with_reducible refine Xb.f hc ?_)) <;> clear hc))
          all_goals try (exfalso; first | contradiction | omega)
          all_goals refine ⟨q8 - 1, [(3, .pointer (some ⟨b3, 0, none⟩)), (7, .bool true), (8, .pointer (some ⟨b8, 0, none⟩)), (9, .pointer (some ⟨b9, 0, none⟩)), (12, .pointer (some ⟨b12, 0, none⟩)), (13, .int .i64 e), (22, .bool true), (23, .bool false), (24, .int .i64 g), (25, .int .i64 (y.lo + (j + 1 : Nat)))], _, (by rw [show y.lo + ((j + 1 : Nat) : Int) = s + 1 by omega]; exact (by (repeat (first | exact Sub.nil _ | refine Sub.cons rfl ?_)); done)), (by (repeat (first | exact List.Sublist.refl _ | apply List.Sublist.cons_cons | apply List.Sublist.cons)); done), ⟨j + 1, true, false, by omega, by omega, hd _ _ (fun h => h) (fun h => h) (fun h => by cases h), rfl, rfl⟩, by omega⟩
        · refine X.regionRs [] tsWf rdWf [3, 7, 8, 9, 12, 13, 24, 25, 26, 27] [(3, .pointer (some ⟨b3, 0, none⟩)), (7, .bool true), (8, .pointer (some ⟨b8, 0, none⟩)), (9, .pointer (some ⟨b9, 0, none⟩)), (12, .pointer (some ⟨b12, 0, none⟩)), (13, .int .i64 e), (24, .int .i64 g), (25, .int .i64 s), (26, .int .i64 0), (27, .int .i64 6)] (valWf b3 b8 b9 b12 r e g s 0 6 true true false false false) (rowsWf b3 b8 b9 b12 r e g s 0 6 true true false false false) (fun _ => (0, 0)) (⟨b12, 0, cSp r, some 30, 2⟩ :: ⟨b8, 0, cSp x, some 30, 2⟩ :: ⟨b9, 0, cSp y, some 30, 2⟩ :: ⟨b3, 0, cTm T p, some 32, 11⟩ :: H) rfl mixed (by (repeat (first | exact Sub.nil _ | refine Sub.cons rfl ?_)); done) rfl (by kernel_rfl) (by kernel_rfl) (locWf b3 b8 b9 b12 r e g s 0 6 true true false false false) (fun i d hi => by cases hi) (List.Sublist.refl _) [(22, 22, .bool true), (23, 23, .bool true)] (by intro e he; simp only [List.mem_cons, List.not_mem_nil, or_false] at he; rcases he with rfl | rfl <;> exact ⟨rfl, Nat.le_of_ble_eq_true rfl⟩) (by intro e he; simp only [List.mem_cons, List.not_mem_nil, or_false] at he; rcases he with rfl | rfl <;> exact rfl) ?_ ?_
          · repeat' (first | exact AllF.done rfl | (refine AllF.step rfl ?_ ?_; · (first | exact Ob.toR (Ob.sk rfl rfl (fun _ => rfl) (fun _ => rfl) (fun _ => rfl) (fun _ => rfl)) | (refine Ob.toR ?_; ((first | refine Ob.ng rfl ?_); (first | exact ObK.pure (fun env R hR => by exact ⟨_, EvF.move rfl rfl, rfl⟩) rfl (fun _ => rfl) | exact ObK.pure (fun env R hR => by exact ⟨_, EvF.assign rfl rfl, rfl⟩) rfl (fun _ => rfl) | exact ObK.pure (fun env R hR => by exact ⟨_, EvF.pickT rfl rfl rfl, rfl⟩) rfl (fun _ => rfl)))))))
          intro env t ha2 hv; refine ⟨_, (ha2.cons (hv 22 22 (Nat.le_of_ble_eq_true rfl) rfl)).cons (hv 23 23 (Nat.le_of_ble_eq_true rfl) rfl), ?_⟩; clear hv ha2
          rcases he0 with he0 | he0
          all_goals repeat' (first | (refine XO.op rfl ?_; (first | ((first | refine Xo.ng rfl ?_ | (refine Xo.g rfl rfl ?_; with_reducible refine Xw.tt ?_)); (first | (refine Xg.ev (EvF.cmp (b := false) rfl rfl rfl (congrArg some (decide_eq_false (by omega)))) rfl rfl ?_) | (refine Xg.ev (EvF.cmp (b := true) rfl rfl rfl (congrArg some (nd_t (by omega)))) rfl rfl ?_) | (refine Xg.ev (EvF.cmp (b := false) rfl rfl rfl (congrArg some (nd_f (by omega)))) rfl rfl ?_) | (refine Xg.ev (EvF.add64 rfl rfl rfl (by omega) (by omega)) rfl rfl ?_) | (refine Xg.ev (EvF.move rfl rfl) rfl rfl ?_) | (refine Xg.ev (EvF.assign rfl rfl) rfl rfl ?_) | (refine Xg.ev (EvF.pickT rfl rfl rfl) rfl rfl ?_) | (refine Xg.ev (EvF.pickF rfl rfl rfl) rfl rfl ?_))) | (refine Xo.g rfl rfl ?_; (first | (with_reducible refine Xw.ft rfl rfl ?_))))) | (refine XO.done rfl ?_; refine hK _ _ ?_; clear hK K) | refine X.seq rfl ?_ | refine X.region rfl (fun K hK => ?_) | refine X.skip rfl ?_ | (refine X.ite rfl rfl (fun hc => ?_); (first | (with_reducible refine Xb.f hc ?_)) <;> clear hc))
          all_goals try (exfalso; first | contradiction | omega)
          all_goals refine ⟨q8 - 1, [(3, .pointer (some ⟨b3, 0, none⟩)), (7, .bool true), (8, .pointer (some ⟨b8, 0, none⟩)), (9, .pointer (some ⟨b9, 0, none⟩)), (12, .pointer (some ⟨b12, 0, none⟩)), (13, .int .i64 e), (22, .bool true), (23, .bool true), (24, .int .i64 g), (25, .int .i64 (y.lo + (j + 1 : Nat)))], _, (by rw [show y.lo + ((j + 1 : Nat) : Int) = s + 1 by omega]; exact (by (repeat (first | exact Sub.nil _ | refine Sub.cons rfl ?_)); done)), (by (repeat (first | exact List.Sublist.refl _ | apply List.Sublist.cons_cons | apply List.Sublist.cons)); done), ⟨j + 1, true, true, by omega, by omega, hd _ _ (fun h => h) (fun h => h) (fun h => by cases h), rfl, rfl⟩, by omega⟩
      · obtain rfl := hz rfl
        rw [if_pos rfl, if_pos rfl] at hI
        refine X.regionOb tsWd [3, 7, 8, 9, 12, 13, 22, 23, 24, 25] [(3, .pointer (some ⟨b3, 0, none⟩)), (7, .bool true), (8, .pointer (some ⟨b8, 0, none⟩)), (9, .pointer (some ⟨b9, 0, none⟩)), (12, .pointer (some ⟨b12, 0, none⟩)), (13, .int .i64 0), (22, .bool w1), (23, .bool w2), (24, .int .i64 g), (25, .int .i64 s)] (valWd b3 b8 b9 b12 T p 0 g s vg 0 w1 w2) (rowsWd b3 b8 b9 b12 T p 0 g s vg 0 w1 w2) (fun _ => (0, 0)) (⟨b12, 0, cSp r, some 30, 2⟩ :: ⟨b8, 0, cSp x, some 30, 2⟩ :: ⟨b9, 0, cSp y, some 30, 2⟩ :: ⟨b3, 0, cTm T p, some 32, 11⟩ :: H) rfl mixed (by (repeat (first | exact Sub.nil _ | refine Sub.cons rfl ?_)); done) rfl (by kernel_rfl) (locWd b3 b8 b9 b12 T p 0 g s vg 0 w1 w2) (List.Sublist.refl _) ?_ ?_
        · repeat' (first | exact AllF.done rfl | (refine AllF.step rfl ?_ ?_; · (first | fail | ((first | refine Ob.ng rfl ?_); (first | exact ObK.pure (fun env R hR => by exact ⟨_, EvF.move rfl rfl, rfl⟩) rfl (fun _ => rfl) | exact ObK.pure (fun env R hR => by exact ⟨_, EvF.assign rfl rfl, rfl⟩) rfl (fun _ => rfl) | exact ObK.pure (fun env R hR => by exact ⟨_, EvF.loadV rfl rfl (LoadV.whole (te rfl) rfl (hR _ (List.Mem.tail _ (List.Mem.tail _ (List.Mem.tail _ (List.Mem.head _))))) rfl), rfl⟩) rfl (fun _ => rfl) | (exact fun env S hS => OpF.callV (Z := []) (EnF.st rfl (Args.cons rfl (Args.cons rfl Args.nil))) (lclass_spec g s _) rfl rfl) | (exact fun env S hS => OpF.callV (Z := []) (EnF.st rfl (Args.cons rfl (Args.cons rfl Args.nil))) (hI _ (hT.sub (fun r hr => hS r (List.mem_append_right [_, _, _, _] hr)))) rfl rfl) | (exact ObK.pure (fun env S hS => ⟨_, EvF.extract rfl rfl rfl, rfl⟩) rfl (fun _ => rfl)))))))
        intro env t ha2 hv; refine ⟨_, (ha2.cons (hv 8 26 (Nat.le_of_ble_eq_true rfl) rfl)).cons (hv 9 27 (Nat.le_of_ble_eq_true rfl) rfl), ?_⟩; clear hv ha2
        refine X.weak (F' := [(3, .pointer (some ⟨b3, 0, none⟩)), (7, .bool true), (8, .pointer (some ⟨b8, 0, none⟩)), (9, .pointer (some ⟨b9, 0, none⟩)), (12, .pointer (some ⟨b12, 0, none⟩)), (13, .int .i64 0), (22, .bool w1), (23, .bool w2), (24, .int .i64 g), (25, .int .i64 s), (26, .int .i64 vg), (27, .int .i64 0)]) (H' := ⟨b12, 0, cSp r, some 30, 2⟩ :: ⟨b8, 0, cSp x, some 30, 2⟩ :: ⟨b9, 0, cSp y, some 30, 2⟩ :: ⟨b3, 0, cTm T p, some 32, 11⟩ :: H) (by (repeat (first | exact Sub.nil _ | refine Sub.cons rfl ?_)); done) (by (repeat (first | exact List.Sublist.refl _ | apply List.Sublist.cons_cons | apply List.Sublist.cons)); done) ?_
        clear env
        refine X.seq rfl ?_
        cases w1 <;> cases w2
        · refine X.regionRs [] tsWf rdWf [3, 7, 8, 9, 12, 13, 24, 25, 26, 27] [(3, .pointer (some ⟨b3, 0, none⟩)), (7, .bool true), (8, .pointer (some ⟨b8, 0, none⟩)), (9, .pointer (some ⟨b9, 0, none⟩)), (12, .pointer (some ⟨b12, 0, none⟩)), (13, .int .i64 0), (24, .int .i64 g), (25, .int .i64 s), (26, .int .i64 vg), (27, .int .i64 0)] (valWf b3 b8 b9 b12 r 0 g s vg 0 false false true (decide (vg = r.lo)) (decide (vg = r.hi))) (rowsWf b3 b8 b9 b12 r 0 g s vg 0 false false true (decide (vg = r.lo)) (decide (vg = r.hi))) (fun _ => (0, 0)) (⟨b12, 0, cSp r, some 30, 2⟩ :: ⟨b8, 0, cSp x, some 30, 2⟩ :: ⟨b9, 0, cSp y, some 30, 2⟩ :: ⟨b3, 0, cTm T p, some 32, 11⟩ :: H) rfl mixed (by (repeat (first | exact Sub.nil _ | refine Sub.cons rfl ?_)); done) rfl (by kernel_rfl) (by kernel_rfl) (locWf b3 b8 b9 b12 r 0 g s vg 0 false false true (decide (vg = r.lo)) (decide (vg = r.hi))) (fun i d hi => by cases hi) (List.Sublist.refl _) [(22, 22, .bool false), (23, 23, .bool false)] (by intro e he; simp only [List.mem_cons, List.not_mem_nil, or_false] at he; rcases he with rfl | rfl <;> exact ⟨rfl, Nat.le_of_ble_eq_true rfl⟩) (by intro e he; simp only [List.mem_cons, List.not_mem_nil, or_false] at he; rcases he with rfl | rfl <;> exact rfl) ?_ ?_
          · repeat' (first | exact AllF.done rfl | (refine AllF.step rfl ?_ ?_; · (first | fail | (refine Ob.toR ?_; ((first | refine Ob.ng rfl ?_ | refine Ob.g rfl rfl (fun _ => rfl) ?_); (first | exact ObK.pure (fun env R hR => by exact ⟨_, EvF.move rfl rfl, rfl⟩) rfl (fun _ => rfl) | exact ObK.pure (fun env R hR => by exact ⟨_, EvF.assign rfl rfl, rfl⟩) rfl (fun _ => rfl) | exact ObK.pure (fun env R hR => by exact ⟨_, EvF.pickT rfl rfl rfl, rfl⟩) rfl (fun _ => rfl) | exact ObK.pure (fun env R hR => by exact ⟨_, EvF.pickF rfl rfl rfl, rfl⟩) rfl (fun _ => rfl) | exact ObK.pure (fun env R hR => by exact ⟨_, EvF.fieldAddr rfl rfl (te rfl) rfl (te rfl) (by decide), rfl⟩) rfl (fun _ => rfl) | exact ObK.pure (fun env R hR => by exact ⟨_, EvF.cmp rfl rfl rfl rfl, rfl⟩) rfl (fun _ => rfl) | exact ObK.pure (fun env R hR => by exact ⟨_, EvF.loadV rfl rfl (LoadV.own (te rfl) rfl (hR _ (List.Mem.head _)) rfl), rfl⟩) rfl (fun _ => rfl)))))))
          intro env t ha2 hv; refine ⟨_, (ha2.cons (hv 22 22 (Nat.le_of_ble_eq_true rfl) rfl)).cons (hv 23 23 (Nat.le_of_ble_eq_true rfl) rfl), ?_⟩; clear hv ha2
          repeat' (first | (refine XO.op rfl ?_; (first | ((first | refine Xo.ng rfl ?_); (first | (refine Xg.ev (EvF.cmp (b := false) rfl rfl rfl (congrArg some (nd_f (by omega)))) rfl rfl ?_) | (refine Xg.ev (EvF.add64 rfl rfl rfl (by omega) (by omega)) rfl rfl ?_) | (refine Xg.ev (EvF.move rfl rfl) rfl rfl ?_) | (refine Xg.ev (EvF.assign rfl rfl) rfl rfl ?_) | (refine Xg.ev (EvF.pickF rfl rfl rfl) rfl rfl ?_))) | (refine Xo.g rfl rfl ?_; (first | (with_reducible refine Xw.ft rfl rfl ?_))))) | (refine XO.done rfl ?_; refine hK _ _ ?_; clear hK K) | refine X.seq rfl ?_ | refine X.region rfl (fun K hK => ?_) | refine X.skip rfl ?_ | (refine X.ite rfl rfl (fun hc => ?_); (first | (with_reducible refine Xb.f hc ?_)) <;> clear hc))
          all_goals try (exfalso; first | contradiction | omega)
          refine ⟨q8 - 1, [(3, .pointer (some ⟨b3, 0, none⟩)), (7, .bool true), (8, .pointer (some ⟨b8, 0, none⟩)), (9, .pointer (some ⟨b9, 0, none⟩)), (12, .pointer (some ⟨b12, 0, none⟩)), (13, .int .i64 0), (22, .bool (decide (vg = r.lo))), (23, .bool (decide (vg = r.hi))), (24, .int .i64 g), (25, .int .i64 (y.lo + (j + 1 : Nat)))], _, (by rw [show y.lo + ((j + 1 : Nat) : Int) = s + 1 by omega]; exact (by (repeat (first | exact Sub.nil _ | refine Sub.cons rfl ?_)); done)), (by (repeat (first | exact List.Sublist.refl _ | apply List.Sublist.cons_cons | apply List.Sublist.cons)); done), ⟨j + 1, (decide (vg = r.lo)), (decide (vg = r.hi)), by omega, by omega, hd _ _ (fun h => by cases h) (fun h => by cases h) (fun _ => ⟨(fun h => decide_eq_true h), (fun h => decide_eq_true h)⟩), rfl, rfl⟩, by omega⟩
        · refine X.regionRs [] tsWf rdWf [3, 7, 8, 9, 12, 13, 24, 25, 26, 27] [(3, .pointer (some ⟨b3, 0, none⟩)), (7, .bool true), (8, .pointer (some ⟨b8, 0, none⟩)), (9, .pointer (some ⟨b9, 0, none⟩)), (12, .pointer (some ⟨b12, 0, none⟩)), (13, .int .i64 0), (24, .int .i64 g), (25, .int .i64 s), (26, .int .i64 vg), (27, .int .i64 0)] (valWf b3 b8 b9 b12 r 0 g s vg 0 false true true (decide (vg = r.lo)) (decide (vg = r.hi))) (rowsWf b3 b8 b9 b12 r 0 g s vg 0 false true true (decide (vg = r.lo)) (decide (vg = r.hi))) (fun _ => (0, 0)) (⟨b12, 0, cSp r, some 30, 2⟩ :: ⟨b8, 0, cSp x, some 30, 2⟩ :: ⟨b9, 0, cSp y, some 30, 2⟩ :: ⟨b3, 0, cTm T p, some 32, 11⟩ :: H) rfl mixed (by (repeat (first | exact Sub.nil _ | refine Sub.cons rfl ?_)); done) rfl (by kernel_rfl) (by kernel_rfl) (locWf b3 b8 b9 b12 r 0 g s vg 0 false true true (decide (vg = r.lo)) (decide (vg = r.hi))) (fun i d hi => by cases hi) (List.Sublist.refl _) [(22, 22, .bool false), (23, 23, .bool true)] (by intro e he; simp only [List.mem_cons, List.not_mem_nil, or_false] at he; rcases he with rfl | rfl <;> exact ⟨rfl, Nat.le_of_ble_eq_true rfl⟩) (by intro e he; simp only [List.mem_cons, List.not_mem_nil, or_false] at he; rcases he with rfl | rfl <;> exact rfl) ?_ ?_
          · repeat' (first | exact AllF.done rfl | (refine AllF.step rfl ?_ ?_; · (first | exact Ob.toR (Ob.sk rfl rfl (fun _ => rfl) (fun _ => rfl) (fun _ => rfl) (fun _ => rfl)) | (refine Ob.toR ?_; ((first | refine Ob.ng rfl ?_ | refine Ob.g rfl rfl (fun _ => rfl) ?_); (first | exact ObK.pure (fun env R hR => by exact ⟨_, EvF.move rfl rfl, rfl⟩) rfl (fun _ => rfl) | exact ObK.pure (fun env R hR => by exact ⟨_, EvF.assign rfl rfl, rfl⟩) rfl (fun _ => rfl) | exact ObK.pure (fun env R hR => by exact ⟨_, EvF.pickT rfl rfl rfl, rfl⟩) rfl (fun _ => rfl) | exact ObK.pure (fun env R hR => by exact ⟨_, EvF.pickF rfl rfl rfl, rfl⟩) rfl (fun _ => rfl) | exact ObK.pure (fun env R hR => by exact ⟨_, EvF.fieldAddr rfl rfl (te rfl) rfl (te rfl) (by decide), rfl⟩) rfl (fun _ => rfl) | exact ObK.pure (fun env R hR => by exact ⟨_, EvF.cmp rfl rfl rfl rfl, rfl⟩) rfl (fun _ => rfl) | exact ObK.pure (fun env R hR => by exact ⟨_, EvF.loadV rfl rfl (LoadV.own (te rfl) rfl (hR _ (List.Mem.head _)) rfl), rfl⟩) rfl (fun _ => rfl)))))))
          intro env t ha2 hv; refine ⟨_, (ha2.cons (hv 22 22 (Nat.le_of_ble_eq_true rfl) rfl)).cons (hv 23 23 (Nat.le_of_ble_eq_true rfl) rfl), ?_⟩; clear hv ha2
          repeat' (first | (refine XO.op rfl ?_; (first | ((first | refine Xo.ng rfl ?_); (first | (refine Xg.ev (EvF.cmp (b := false) rfl rfl rfl (congrArg some (nd_f (by omega)))) rfl rfl ?_) | (refine Xg.ev (EvF.add64 rfl rfl rfl (by omega) (by omega)) rfl rfl ?_) | (refine Xg.ev (EvF.move rfl rfl) rfl rfl ?_) | (refine Xg.ev (EvF.assign rfl rfl) rfl rfl ?_) | (refine Xg.ev (EvF.pickF rfl rfl rfl) rfl rfl ?_))) | (refine Xo.g rfl rfl ?_; (first | (with_reducible refine Xw.ft rfl rfl ?_))))) | (refine XO.done rfl ?_; refine hK _ _ ?_; clear hK K) | refine X.seq rfl ?_ | refine X.region rfl (fun K hK => ?_) | refine X.skip rfl ?_ | (refine X.ite rfl rfl (fun hc => ?_); (first | (with_reducible refine Xb.f hc ?_)) <;> clear hc))
          all_goals try (exfalso; first | contradiction | omega)
          refine ⟨q8 - 1, [(3, .pointer (some ⟨b3, 0, none⟩)), (7, .bool true), (8, .pointer (some ⟨b8, 0, none⟩)), (9, .pointer (some ⟨b9, 0, none⟩)), (12, .pointer (some ⟨b12, 0, none⟩)), (13, .int .i64 0), (22, .bool (decide (vg = r.lo))), (23, .bool true), (24, .int .i64 g), (25, .int .i64 (y.lo + (j + 1 : Nat)))], _, (by rw [show y.lo + ((j + 1 : Nat) : Int) = s + 1 by omega]; exact (by (repeat (first | exact Sub.nil _ | refine Sub.cons rfl ?_)); done)), (by (repeat (first | exact List.Sublist.refl _ | apply List.Sublist.cons_cons | apply List.Sublist.cons)); done), ⟨j + 1, (decide (vg = r.lo)), true, by omega, by omega, hd _ _ (fun h => by cases h) (fun _ => rfl) (fun _ => ⟨(fun h => decide_eq_true h), (fun _ => rfl)⟩), rfl, rfl⟩, by omega⟩
        · refine X.regionRs [] tsWf rdWf [3, 7, 8, 9, 12, 13, 24, 25, 26, 27] [(3, .pointer (some ⟨b3, 0, none⟩)), (7, .bool true), (8, .pointer (some ⟨b8, 0, none⟩)), (9, .pointer (some ⟨b9, 0, none⟩)), (12, .pointer (some ⟨b12, 0, none⟩)), (13, .int .i64 0), (24, .int .i64 g), (25, .int .i64 s), (26, .int .i64 vg), (27, .int .i64 0)] (valWf b3 b8 b9 b12 r 0 g s vg 0 true false true (decide (vg = r.lo)) (decide (vg = r.hi))) (rowsWf b3 b8 b9 b12 r 0 g s vg 0 true false true (decide (vg = r.lo)) (decide (vg = r.hi))) (fun _ => (0, 0)) (⟨b12, 0, cSp r, some 30, 2⟩ :: ⟨b8, 0, cSp x, some 30, 2⟩ :: ⟨b9, 0, cSp y, some 30, 2⟩ :: ⟨b3, 0, cTm T p, some 32, 11⟩ :: H) rfl mixed (by (repeat (first | exact Sub.nil _ | refine Sub.cons rfl ?_)); done) rfl (by kernel_rfl) (by kernel_rfl) (locWf b3 b8 b9 b12 r 0 g s vg 0 true false true (decide (vg = r.lo)) (decide (vg = r.hi))) (fun i d hi => by cases hi) (List.Sublist.refl _) [(22, 22, .bool true), (23, 23, .bool false)] (by intro e he; simp only [List.mem_cons, List.not_mem_nil, or_false] at he; rcases he with rfl | rfl <;> exact ⟨rfl, Nat.le_of_ble_eq_true rfl⟩) (by intro e he; simp only [List.mem_cons, List.not_mem_nil, or_false] at he; rcases he with rfl | rfl <;> exact rfl) ?_ ?_
          · repeat' (first | exact AllF.done rfl | (refine AllF.step rfl ?_ ?_; · (first | exact Ob.toR (Ob.sk rfl rfl (fun _ => rfl) (fun _ => rfl) (fun _ => rfl) (fun _ => rfl)) | (refine Ob.toR ?_; ((first | refine Ob.ng rfl ?_ | refine Ob.g rfl rfl (fun _ => rfl) ?_); (first | exact ObK.pure (fun env R hR => by exact ⟨_, EvF.move rfl rfl, rfl⟩) rfl (fun _ => rfl) | exact ObK.pure (fun env R hR => by exact ⟨_, EvF.assign rfl rfl, rfl⟩) rfl (fun _ => rfl) | exact ObK.pure (fun env R hR => by exact ⟨_, EvF.pickT rfl rfl rfl, rfl⟩) rfl (fun _ => rfl) | exact ObK.pure (fun env R hR => by exact ⟨_, EvF.pickF rfl rfl rfl, rfl⟩) rfl (fun _ => rfl) | exact ObK.pure (fun env R hR => by exact ⟨_, EvF.fieldAddr rfl rfl (te rfl) rfl (te rfl) (by decide), rfl⟩) rfl (fun _ => rfl) | exact ObK.pure (fun env R hR => by exact ⟨_, EvF.cmp rfl rfl rfl rfl, rfl⟩) rfl (fun _ => rfl) | exact ObK.pure (fun env R hR => by exact ⟨_, EvF.loadV rfl rfl (LoadV.own (te rfl) rfl (hR _ (List.Mem.head _)) rfl), rfl⟩) rfl (fun _ => rfl)))))))
          intro env t ha2 hv; refine ⟨_, (ha2.cons (hv 22 22 (Nat.le_of_ble_eq_true rfl) rfl)).cons (hv 23 23 (Nat.le_of_ble_eq_true rfl) rfl), ?_⟩; clear hv ha2
          repeat' (first | (refine XO.op rfl ?_; (first | ((first | refine Xo.ng rfl ?_); (first | (refine Xg.ev (EvF.cmp (b := false) rfl rfl rfl (congrArg some (nd_f (by omega)))) rfl rfl ?_) | (refine Xg.ev (EvF.add64 rfl rfl rfl (by omega) (by omega)) rfl rfl ?_) | (refine Xg.ev (EvF.move rfl rfl) rfl rfl ?_) | (refine Xg.ev (EvF.assign rfl rfl) rfl rfl ?_) | (refine Xg.ev (EvF.pickF rfl rfl rfl) rfl rfl ?_))) | (refine Xo.g rfl rfl ?_; (first | (with_reducible refine Xw.ft rfl rfl ?_))))) | (refine XO.done rfl ?_; refine hK _ _ ?_; clear hK K) | refine X.seq rfl ?_ | refine X.region rfl (fun K hK => ?_) | refine X.skip rfl ?_ | (refine X.ite rfl rfl (fun hc => ?_); (first | (with_reducible refine Xb.f hc ?_)) <;> clear hc))
          all_goals try (exfalso; first | contradiction | omega)
          refine ⟨q8 - 1, [(3, .pointer (some ⟨b3, 0, none⟩)), (7, .bool true), (8, .pointer (some ⟨b8, 0, none⟩)), (9, .pointer (some ⟨b9, 0, none⟩)), (12, .pointer (some ⟨b12, 0, none⟩)), (13, .int .i64 0), (22, .bool true), (23, .bool (decide (vg = r.hi))), (24, .int .i64 g), (25, .int .i64 (y.lo + (j + 1 : Nat)))], _, (by rw [show y.lo + ((j + 1 : Nat) : Int) = s + 1 by omega]; exact (by (repeat (first | exact Sub.nil _ | refine Sub.cons rfl ?_)); done)), (by (repeat (first | exact List.Sublist.refl _ | apply List.Sublist.cons_cons | apply List.Sublist.cons)); done), ⟨j + 1, true, (decide (vg = r.hi)), by omega, by omega, hd _ _ (fun _ => rfl) (fun h => by cases h) (fun _ => ⟨(fun _ => rfl), (fun h => decide_eq_true h)⟩), rfl, rfl⟩, by omega⟩
        · refine X.regionRs [] tsWf rdWf [3, 7, 8, 9, 12, 13, 24, 25, 26, 27] [(3, .pointer (some ⟨b3, 0, none⟩)), (7, .bool true), (8, .pointer (some ⟨b8, 0, none⟩)), (9, .pointer (some ⟨b9, 0, none⟩)), (12, .pointer (some ⟨b12, 0, none⟩)), (13, .int .i64 0), (24, .int .i64 g), (25, .int .i64 s), (26, .int .i64 vg), (27, .int .i64 0)] (valWf b3 b8 b9 b12 r 0 g s vg 0 true true true (decide (vg = r.lo)) (decide (vg = r.hi))) (rowsWf b3 b8 b9 b12 r 0 g s vg 0 true true true (decide (vg = r.lo)) (decide (vg = r.hi))) (fun _ => (0, 0)) (⟨b12, 0, cSp r, some 30, 2⟩ :: ⟨b8, 0, cSp x, some 30, 2⟩ :: ⟨b9, 0, cSp y, some 30, 2⟩ :: ⟨b3, 0, cTm T p, some 32, 11⟩ :: H) rfl mixed (by (repeat (first | exact Sub.nil _ | refine Sub.cons rfl ?_)); done) rfl (by kernel_rfl) (by kernel_rfl) (locWf b3 b8 b9 b12 r 0 g s vg 0 true true true (decide (vg = r.lo)) (decide (vg = r.hi))) (fun i d hi => by cases hi) (List.Sublist.refl _) [(22, 22, .bool true), (23, 23, .bool true)] (by intro e he; simp only [List.mem_cons, List.not_mem_nil, or_false] at he; rcases he with rfl | rfl <;> exact ⟨rfl, Nat.le_of_ble_eq_true rfl⟩) (by intro e he; simp only [List.mem_cons, List.not_mem_nil, or_false] at he; rcases he with rfl | rfl <;> exact rfl) ?_ ?_
          · repeat' (first | exact AllF.done rfl | (refine AllF.step rfl ?_ ?_; · (first | exact Ob.toR (Ob.sk rfl rfl (fun _ => rfl) (fun _ => rfl) (fun _ => rfl) (fun _ => rfl)) | (refine Ob.toR ?_; ((first | refine Ob.ng rfl ?_); (first | exact ObK.pure (fun env R hR => by exact ⟨_, EvF.move rfl rfl, rfl⟩) rfl (fun _ => rfl) | exact ObK.pure (fun env R hR => by exact ⟨_, EvF.assign rfl rfl, rfl⟩) rfl (fun _ => rfl) | exact ObK.pure (fun env R hR => by exact ⟨_, EvF.pickT rfl rfl rfl, rfl⟩) rfl (fun _ => rfl)))))))
          intro env t ha2 hv; refine ⟨_, (ha2.cons (hv 22 22 (Nat.le_of_ble_eq_true rfl) rfl)).cons (hv 23 23 (Nat.le_of_ble_eq_true rfl) rfl), ?_⟩; clear hv ha2
          repeat' (first | (refine XO.op rfl ?_; (first | ((first | refine Xo.ng rfl ?_); (first | (refine Xg.ev (EvF.cmp (b := false) rfl rfl rfl (congrArg some (nd_f (by omega)))) rfl rfl ?_) | (refine Xg.ev (EvF.add64 rfl rfl rfl (by omega) (by omega)) rfl rfl ?_) | (refine Xg.ev (EvF.move rfl rfl) rfl rfl ?_) | (refine Xg.ev (EvF.assign rfl rfl) rfl rfl ?_) | (refine Xg.ev (EvF.pickF rfl rfl rfl) rfl rfl ?_))) | (refine Xo.g rfl rfl ?_; (first | (with_reducible refine Xw.ft rfl rfl ?_))))) | (refine XO.done rfl ?_; refine hK _ _ ?_; clear hK K) | refine X.seq rfl ?_ | refine X.region rfl (fun K hK => ?_) | refine X.skip rfl ?_ | (refine X.ite rfl rfl (fun hc => ?_); (first | (with_reducible refine Xb.f hc ?_)) <;> clear hc))
          all_goals try (exfalso; first | contradiction | omega)
          refine ⟨q8 - 1, [(3, .pointer (some ⟨b3, 0, none⟩)), (7, .bool true), (8, .pointer (some ⟨b8, 0, none⟩)), (9, .pointer (some ⟨b9, 0, none⟩)), (12, .pointer (some ⟨b12, 0, none⟩)), (13, .int .i64 0), (22, .bool true), (23, .bool true), (24, .int .i64 g), (25, .int .i64 (y.lo + (j + 1 : Nat)))], _, (by rw [show y.lo + ((j + 1 : Nat) : Int) = s + 1 by omega]; exact (by (repeat (first | exact Sub.nil _ | refine Sub.cons rfl ?_)); done)), (by (repeat (first | exact List.Sublist.refl _ | apply List.Sublist.cons_cons | apply List.Sublist.cons)); done), ⟨j + 1, true, true, by omega, by omega, hd _ _ (fun _ => rfl) (fun _ => rfl) (fun _ => ⟨(fun _ => rfl), (fun _ => rfl)⟩), rfl, rfl⟩, by omega⟩
    · repeat' (first | (refine XO.op rfl ?_; (first | ((first | refine Xo.ng rfl ?_); (first | (refine Xg.ev (EvF.cmp (b := false) rfl rfl rfl (congrArg some (decide_eq_false (by omega)))) rfl rfl ?_) | (refine Xg.ev (EvF.add64 rfl rfl rfl (by omega) (by omega)) rfl rfl ?_) | (refine Xg.ev (EvF.move rfl rfl) rfl rfl ?_) | (refine Xg.ev (EvF.assign rfl rfl) rfl rfl ?_) | (refine Xg.ev (EvF.fieldAddr rfl rfl (te rfl) rfl (te rfl) (by decide)) rfl rfl ?_) | (refine Xg.ev (EvF.loadV rfl rfl (LoadV.own (te rfl) rfl (List.Mem.tail _ (List.Mem.tail _ (List.Mem.head _))) rfl)) rfl rfl ?_))))) | (refine XO.done rfl ?_; refine hK _ _ ?_; clear hK K) | refine X.seq rfl ?_ | refine X.region rfl (fun K hK => ?_) | (refine X.brk rfl ?_; repeat (first | refine blockX_hit rfl ?_ | refine blockX_miss (by decide) ?_)) | (refine X.ite rfl rfl (fun hc => ?_); (first | (with_reducible refine Xb.f hc ?_)) <;> clear hc))
      all_goals try (exfalso; first | contradiction | omega)
      refine ⟨q9 - 1, [(3, .pointer (some ⟨b3, 0, none⟩)), (7, .bool true), (8, .pointer (some ⟨b8, 0, none⟩)), (9, .pointer (some ⟨b9, 0, none⟩)), (12, .pointer (some ⟨b12, 0, none⟩)), (13, .int .i64 e), (22, .bool w1), (23, .bool w2), (24, .int .i64 (x.lo + (k + 1 : Nat)))], _, (by rw [show x.lo + ((k + 1 : Nat) : Int) = x.lo + k + 1 by omega]; exact (by (repeat (first | exact Sub.nil _ | refine Sub.cons rfl ?_)); done)), (by (repeat (first | exact List.Sublist.refl _ | apply List.Sublist.cons_cons | apply List.Sublist.cons)); done), ⟨k + 1, w1, w2, by omega, by omega, hP.row (by omega), rfl, rfl⟩, by omega⟩
  · rcases he with ⟨rfl, _⟩ | ⟨rfl, ⟨g1, s1, a1, a2, a3, a4⟩, g2, s2, c1, c2, c3, c4⟩
    · repeat' (first | (refine XO.op rfl ?_; (first | ((first | refine Xo.ng rfl ?_ | (refine Xo.g rfl rfl ?_; with_reducible refine Xw.tt ?_)); (first | (refine Xg.ev (EvF.cmp (b := false) rfl rfl rfl (congrArg some (decide_eq_false (by omega)))) rfl rfl ?_) | (refine Xg.ev (EvF.cmp (b := true) rfl rfl rfl (congrArg some (nd_t (by omega)))) rfl rfl ?_) | (refine Xg.ev (EvF.move rfl rfl) rfl rfl ?_) | (refine Xg.ev (EvF.assign rfl rfl) rfl rfl ?_) | (refine Xg.ev (EvF.pickT rfl rfl rfl) rfl rfl ?_) | (refine Xg.ev (EvF.fieldAddr rfl rfl (te rfl) rfl (te rfl) (by decide)) rfl rfl ?_) | (refine Xg.ev (EvF.loadV rfl rfl (LoadV.own (te rfl) rfl (List.Mem.tail _ (List.Mem.head _)) rfl)) rfl rfl ?_))) | (refine Xo.g rfl rfl ?_; (first | (with_reducible refine Xw.tf rfl rfl ?_))) | (refine Xo.sk rfl rfl rfl rfl ?_))) | (refine XO.done rfl ?_; refine hK _ _ ?_; clear hK K) | refine X.seq rfl ?_ | refine X.region rfl (fun K hK => ?_) | (refine X.brk rfl ?_; repeat (first | refine blockX_hit rfl ?_ | refine blockX_miss (by decide) ?_)) | refine X.ret rfl ?_ | (refine X.ite rfl rfl (fun hc => ?_); (first | (with_reducible refine Xb.f hc ?_)) <;> clear hc))
      all_goals try (exfalso; first | contradiction | omega)
      exact ret_one (by first | exact .inr rfl | exact .inl rfl) Tryz.results4 rfl (H' := _) (List.Sublist.refl _) rfl
    · have e1 := (hP g1 s1 (by omega) (by omega) a3).1 a4
      have e2 := (hP g2 s2 (by omega) (by omega) c3).2 c4
      subst e1
      subst e2
      repeat' (first | (refine XO.op rfl ?_; (first | ((first | refine Xo.ng rfl ?_ | (refine Xo.g rfl rfl ?_; with_reducible refine Xw.tt ?_) | (refine Xo.g rfl rfl ?_; with_reducible refine Xw.ff ?_)); (first | (refine Xg.ev (EvF.cmp (b := false) rfl rfl rfl (congrArg some (decide_eq_false (by omega)))) rfl rfl ?_) | (refine Xg.ev (EvF.cmp (b := false) rfl rfl rfl (congrArg some (nd_f (by omega)))) rfl rfl ?_) | (refine Xg.ev (EvF.move rfl rfl) rfl rfl ?_) | (refine Xg.ev (EvF.assign rfl rfl) rfl rfl ?_) | (refine Xg.ev (EvF.pickT rfl rfl rfl) rfl rfl ?_) | (refine Xg.ev (EvF.pickF rfl rfl rfl) rfl rfl ?_) | (refine Xg.ev (EvF.fieldAddr rfl rfl (te rfl) rfl (te rfl) (by decide)) rfl rfl ?_) | (refine Xg.ev (EvF.loadV rfl rfl (LoadV.own (te rfl) rfl (List.Mem.tail _ (List.Mem.head _)) rfl)) rfl rfl ?_))))) | (refine XO.done rfl ?_; refine hK _ _ ?_; clear hK K) | refine X.seq rfl ?_ | refine X.region rfl (fun K hK => ?_) | (refine X.brk rfl ?_; repeat (first | refine blockX_hit rfl ?_ | refine blockX_miss (by decide) ?_)) | refine X.ret rfl ?_ | (refine X.ite rfl rfl (fun hc => ?_); (first | (with_reducible refine Xb.f hc ?_)) <;> clear hc))
      all_goals try (exfalso; first | contradiction | omega)
      exact ret_one (by first | exact .inr rfl | exact .inl rfl) Tryz.results4 rfl (H' := _) (List.Sublist.refl _) rfl
end Go.Proofs.YtcjlegjchllgjaaGreat
end
section
set_option linter.unusedVariables false
set_option linter.unusedSimpArgs false
namespace Go.Proofs.YtcjlegjchllgjaaGreat
open Go Go.Fw
set_option maxRecDepth 10000
theorem refsA_at {T : Tm} {L : List Cl} {k : Nat} {c : Cl} (hc : L[k]? = some c) (hm : may T c = false) : (refsA T 0 L)[(refsA T 0 (L.take k)).length]? = some (k : Int) := by
  have e : L = L.take k ++ L.drop k := (List.take_append_drop k L).symm
  have hk : k < L.length := (List.getElem?_eq_some_iff.1 hc).1
  have hd : L.drop k = c :: L.drop (k + 1) := drop_cons hc
  have e2 : refsA T 0 L = refsA T 0 (L.take k) ++ refsA T (0 + (L.take k).length) (L.drop k) := by
    conv => lhs; rw [e]
    exact refsA_app T _ _ _
  rw [e2, List.getElem?_append_right (Nat.le_refl _), Nat.sub_self, hd, List.length_take]
  show (refsA T (0 + min k L.length) (c :: L.drop (k + 1)))[0]? = _
  have e3 : refsA T (0 + min k L.length) (c :: L.drop (k + 1)) = (if may T c = true then [] else [((0 + min k L.length : Nat) : Int)]) ++ refsA T (0 + min k L.length + 1) (L.drop (k + 1)) := by
    have := refsA_app T [c] (L.drop (k + 1)) (0 + min k L.length)
    rw [List.singleton_append] at this
    rw [this]
    congr 1
  rw [e3, if_neg (by rw [hm]; decide)]
  show some (((0 + min k L.length : Nat) : Int)) = some (k : Int)
  congr 1
  omega
set_option maxHeartbeats 32000000 in
theorem sumsC (T : Tm) (p : Pt) (m : Int) (L : List Cl) (R : List Int) (al ar : Option Addr) (cl cr b3 : Nat) (H : List Row) (hok : tmOk T) (hT : TmOk H T p) (hm : 0 ≤ m ∧ m ≤ 60) (hd : T.dl ≤ m ∧ m ≤ T.dh) (hR : R = refsA T 0 L) (hl : SlE H al cCl 2 L) (hr : SlE H ar cI 1 R) (hb : L.length ≤ 20) (hin : ∀ c ∈ L, in9 c) :
    X Tryz.prog 146 (csnd (csnd (csnd (csnd (csnd (csnd (csnd (csnd (cof Tryz.f12))))))))) [(3, .pointer (some ⟨b3, 0, none⟩)), (7, .bool true), (8, .int .i64 m), (9, .slice al L.length cl), (11, .int .i64 (sumV T L)), (12, .slice ar R.length cr)] (⟨b3, 0, cTm T p, some 32, 11⟩ :: H) (retX Tryz.prog Tryz.f12 (fun v _ => v = .bool true)) := by
  repeat' (first | (refine XO.op rfl ?_; (first | ((first | refine Xo.ng rfl ?_); (first | (refine Xg.ev (EvF.move rfl rfl) rfl rfl ?_) | (refine Xg.ev (EvF.assign rfl rfl) rfl rfl ?_) | (refine Xg.ev (EvF.lenSlice rfl rfl (te rfl)) rfl rfl ?_))))) | (refine XO.done rfl ?_; refine hK _ _ ?_; clear hK K) | refine X.seq rfl ?_ | refine X.region rfl (fun K hK => ?_) | refine X.block rfl ?_)
  refine X.lp rfl (fun q F' H' => ∃ (k : Nat), q = L.length - k ∧ k ≤ L.length ∧ H' = ⟨b3, 0, cTm T p, some 32, 11⟩ :: H ∧ F' = [(3, .pointer (some ⟨b3, 0, none⟩)), (7, .bool true), (8, .int .i64 m), (9, .slice al L.length cl), (11, .int .i64 (sumV T L)), (12, .slice ar R.length cr), (78, .slice al L.length cl), (79, .int .i64 L.length), (14, .int .i64 (sumV T (L.take (k)))), (15, .int .i64 ((refsA T 0 (L.take (k))).length : Nat)), (80, .int .i64 (k : Nat))])
    L.length [(3, .pointer (some ⟨b3, 0, none⟩)), (7, .bool true), (8, .int .i64 m), (9, .slice al L.length cl), (11, .int .i64 (sumV T L)), (12, .slice ar R.length cr), (78, .slice al L.length cl), (79, .int .i64 L.length), (14, .int .i64 (sumV T (L.take (0)))), (15, .int .i64 ((refsA T 0 (L.take (0))).length : Nat)), (80, .int .i64 (0 : Nat))] _ (by (repeat (first | exact Sub.nil _ | refine Sub.cons rfl ?_)); done) (by (repeat (first | exact List.Sublist.refl _ | apply List.Sublist.cons_cons | apply List.Sublist.cons)); done) ⟨0, by omega, by omega, rfl, rfl⟩ ?_
  rintro _ _ _ ⟨k, rfl, hk, rfl, rfl⟩
  have hs := sumV_bd hok (L.take k)
  rw [List.length_take] at hs
  have hln := refsA_len T (L.take k) 0
  rw [List.length_take] at hln
  have hlR := refsA_len T L 0
  rw [← hR] at hlR
  by_cases hk9 : k < L.length
  · obtain ⟨lb, lo, c, rfl, he⟩ := hl.elem (i := k) hk9
    have hi := hin c (List.mem_of_getElem? he)
    have hI := inv2_spec T p c.g c.s hok hi.1 hi.2
    have hAl : ∀ H', TmOk H' T p → Fc Tryz.prog 17 [.agg (cTm T p).toArray, .agg (cCl c).toArray, .int .i64 m] H' (fun v H'' => v = .tuple #[.bool (may T c), .int .i64 0] ∧ H'' = H') := fun H' h => by
      have := kallows_spec T p c m H' h
      unfold allowsR at this
      rw [oA hok hi hm, if_pos rfl, show dueB T m = true from decide_eq_true hd, Bool.and_true] at this
      exact this
    have hsn := sumV_snoc (T := T) he
    have hrn := refsA_snoc (T := T) he
    have hv := val_bd hok c.g c.s
    have hat := fun h => refsA_at (T := T) he h
    rw [← hR] at hat
    unfold iN iE at hI
    cases hmc : may T c
    · rw [hmc] at hAl hsn hrn
      rw [if_neg (by decide), Int.add_zero] at hsn
      rw [if_neg (by decide)] at hrn
      have hat := hat hmc
      have hI : ∀ H', TmOk H' T p → Fc Tryz.prog 14 [.agg (cTm T p).toArray, .agg (cCl c).toArray] H' (fun v H'' => v = .tuple #[.int .i64 0, .int .i64 6] ∧ H'' = H') := fun H' h => by
        have := hI H' h
        rwa [if_neg (by rw [show may T ⟨c.g, c.s⟩ = false from hmc]; decide), if_neg (by rw [show may T ⟨c.g, c.s⟩ = false from hmc]; decide)] at this
      have hlt : (refsA T 0 (L.take k)).length < R.length := (List.getElem?_eq_some_iff.1 hat).1
      obtain ⟨rb, ro, _, rfl, _⟩ := hr.elem (i := (refsA T 0 (L.take k)).length) hlt
      have hl1 : (refsA T 0 (L.take (k + 1))).length = (refsA T 0 (L.take k)).length + 1 := by rw [hrn, List.length_append]; rfl
      obtain ⟨kr, hkr⟩ : ∃ q, (refsA T 0 (L.take k)).length = q := ⟨_, rfl⟩
      rw [hkr] at hl1 hat hlt hln
      simp only [hkr]
      repeat' (first | (refine XO.op rfl ?_; (first | ((first | refine Xo.ng rfl ?_ | (refine Xo.g rfl rfl ?_; with_reducible refine Xw.ff ?_)); (first | (refine Xg.call (EnF.st rfl (Args.cons rfl (Args.cons rfl Args.nil))) rfl rfl (hI _ (hT.sub (fun _ h => by repeat (first | exact h | apply List.Mem.tail)))) ?_; rintro _ H9 ⟨rfl, hH9⟩; subst H9) | (refine Xg.call (EnF.st rfl (Args.cons rfl (Args.cons rfl (Args.cons rfl Args.nil)))) rfl rfl (hAl _ (hT.sub (fun _ h => by repeat (first | exact h | apply List.Mem.tail)))) ?_; rintro _ H9 ⟨rfl, hH9⟩; subst H9) | (refine Xg.ev (EvF.loadV rfl rfl (LoadV.elA0 (hl.sub (fun _ h => by repeat (first | exact h | apply List.Mem.tail))) he (te rfl) rfl (fun _ hm => hm) rfl)) rfl rfl ?_) | (refine Xg.ev (EvF.loadV rfl rfl (LoadV.el0 (hr.sub (fun _ h => by repeat (first | exact h | apply List.Mem.tail))) hat (te rfl) rfl (fun _ hm => hm) rfl)) rfl rfl ?_) | (refine Xg.ev (EvF.cmpB (b := true) rfl rfl rfl Tryz.underlying4 rfl) rfl rfl ?_) | (refine Xg.ev (EvF.cmpB (b := false) rfl rfl rfl Tryz.underlying4 rfl) rfl rfl ?_) | (refine Xg.ev (EvF.cmp (b := true) rfl rfl rfl (congrArg some (decide_eq_true (by omega)))) rfl rfl ?_) | (refine Xg.ev (EvF.cmp (b := false) rfl rfl rfl (congrArg some (decide_eq_false (by omega)))) rfl rfl ?_) | (refine Xg.ev (EvF.add64 rfl rfl rfl (by omega) (by omega)) rfl rfl ?_) | (refine Xg.ev (EvF.move rfl rfl) rfl rfl ?_) | (refine Xg.ev (EvF.assign rfl rfl) rfl rfl ?_) | (refine Xg.ev (EvF.pickT rfl rfl rfl) rfl rfl ?_) | (refine Xg.ev (EvF.pickF rfl rfl rfl) rfl rfl ?_) | (refine Xg.ev (EvF.cmp rfl rfl rfl rfl) rfl rfl ?_) | (refine Xg.ev (EvF.not rfl rfl) rfl rfl ?_) | (refine Xg.ev (EvF.lenSlice rfl rfl (te rfl)) rfl rfl ?_) | (refine Xg.ev (EvF.indexSlice rfl rfl rfl (te rfl) (te rfl) (by omega) (by omega)) rfl rfl ?_) | (refine Xg.ev (EvF.loadV rfl rfl (LoadV.whole (te rfl) rfl (List.Mem.head _) rfl)) rfl rfl ?_) | (refine Xg.ev (EvF.loadV rfl rfl (LoadV.whole (te rfl) rfl (List.Mem.tail _ (List.Mem.head _)) rfl)) rfl rfl ?_) | (refine Xg.ev (EvF.extract rfl rfl rfl) rfl rfl ?_) | (refine Xg.st (StF.alloc rfl Tryz.zeroValue30 rfl) rfl rfl ?_; rintro _ _ ⟨bx, rfl, rfl⟩) | (refine Xg.st0 (StF.storeAll (i := 0) rfl rfl rfl (te rfl) rfl rfl rfl rfl) rfl ?_; rintro _ _ ⟨rfl, rfl⟩; dsimp only [List.set]))) | (refine Xo.g rfl rfl ?_; (first | (with_reducible refine Xw.tf rfl rfl ?_) | (with_reducible refine Xw.caseN (fun h => ?_) (fun h => ?_) <;> simp only [h, decide_true, decide_false, Bool.not_true, Bool.not_false, and_self, and_true, true_and, and_false, false_and]))))) | (refine XO.done rfl ?_; refine hK _ _ ?_; clear hK K) | refine X.seq rfl ?_ | refine X.region rfl (fun K hK => ?_) | refine X.block rfl ?_ | (refine X.brk rfl ?_; repeat (first | refine blockX_hit rfl ?_ | refine blockX_miss (by decide) ?_)) | refine X.skip rfl ?_ | refine X.ret rfl ?_ | (refine X.ite rfl rfl (fun hc => ?_); (first | (with_reducible refine Xb.t hc ?_) | (with_reducible refine Xb.f hc ?_) | (with_reducible refine Xb.caseN hc (fun h => ?_) (fun h => ?_)) | (with_reducible refine Xb.caseB hc (fun h => ?_) (fun h => ?_))) <;> clear hc))
      all_goals try (exfalso; first | contradiction | omega)
      refine ⟨_, [(3, .pointer (some ⟨b3, 0, none⟩)), (7, .bool true), (8, .int .i64 m), (9, .slice (some ⟨lb, lo, none⟩) L.length cl), (11, .int .i64 (sumV T L)), (12, .slice (some ⟨rb, ro, none⟩) R.length cr), (78, .slice (some ⟨lb, lo, none⟩) L.length cl), (79, .int .i64 L.length), (14, .int .i64 (sumV T (L.take (k + 1)))), (15, .int .i64 ((refsA T 0 (L.take (k + 1))).length : Nat)), (80, .int .i64 (k + 1 : Nat))], _, (by rw [hsn, hl1]; exact (by (repeat (first | exact Sub.nil _ | refine Sub.cons rfl ?_)); done)), (by (repeat (first | exact List.Sublist.refl _ | apply List.Sublist.cons_cons | apply List.Sublist.cons)); done), ⟨k + 1, rfl, by omega, rfl, rfl⟩, by omega⟩
    · rw [hmc] at hAl hsn hrn
      rw [if_pos rfl] at hsn
      rw [if_pos rfl, List.append_nil] at hrn
      have hI : ∀ H', TmOk H' T p → Fc Tryz.prog 14 [.agg (cTm T p).toArray, .agg (cCl c).toArray] H' (fun v H'' => v = .tuple #[.int .i64 (val T c.g c.s), .int .i64 0] ∧ H'' = H') := fun H' h => by
        have := hI H' h
        rwa [if_pos (show may T ⟨c.g, c.s⟩ = true from hmc), if_pos (show may T ⟨c.g, c.s⟩ = true from hmc)] at this
      have hmd := of_decide_eq_true hmc
      have hps := val_pos hok (g := c.g) (s := c.s) ⟨hi.1.1, hmd.1⟩ ⟨hmd.2, hi.2.2⟩
      repeat' (first | (refine XO.op rfl ?_; (first | ((first | refine Xo.ng rfl ?_ | (refine Xo.g rfl rfl ?_; with_reducible refine Xw.ff ?_)); (first | (refine Xg.call (EnF.st rfl (Args.cons rfl (Args.cons rfl Args.nil))) rfl rfl (hI _ (hT.sub (fun _ h => by repeat (first | exact h | apply List.Mem.tail)))) ?_; rintro _ H9 ⟨rfl, hH9⟩; subst H9) | (refine Xg.call (EnF.st rfl (Args.cons rfl (Args.cons rfl (Args.cons rfl Args.nil)))) rfl rfl (hAl _ (hT.sub (fun _ h => by repeat (first | exact h | apply List.Mem.tail)))) ?_; rintro _ H9 ⟨rfl, hH9⟩; subst H9) | (refine Xg.ev (EvF.loadV rfl rfl (LoadV.elA0 (hl.sub (fun _ h => by repeat (first | exact h | apply List.Mem.tail))) he (te rfl) rfl (fun _ hm => hm) rfl)) rfl rfl ?_) | (refine Xg.ev (EvF.cmpB (b := false) rfl rfl rfl Tryz.underlying4 rfl) rfl rfl ?_) | (refine Xg.ev (EvF.cmp (b := true) rfl rfl rfl (congrArg some (decide_eq_true (by omega)))) rfl rfl ?_) | (refine Xg.ev (EvF.cmp (b := false) rfl rfl rfl (congrArg some (decide_eq_false (by omega)))) rfl rfl ?_) | (refine Xg.ev (EvF.add64 rfl rfl rfl (by omega) (by omega)) rfl rfl ?_) | (refine Xg.ev (EvF.move rfl rfl) rfl rfl ?_) | (refine Xg.ev (EvF.assign rfl rfl) rfl rfl ?_) | (refine Xg.ev (EvF.pickT rfl rfl rfl) rfl rfl ?_) | (refine Xg.ev (EvF.pickF rfl rfl rfl) rfl rfl ?_) | (refine Xg.ev (EvF.cmp rfl rfl rfl rfl) rfl rfl ?_) | (refine Xg.ev (EvF.not rfl rfl) rfl rfl ?_) | (refine Xg.ev (EvF.lenSlice rfl rfl (te rfl)) rfl rfl ?_) | (refine Xg.ev (EvF.indexSlice rfl rfl rfl (te rfl) (te rfl) (by omega) (by omega)) rfl rfl ?_) | (refine Xg.ev (EvF.loadV rfl rfl (LoadV.whole (te rfl) rfl (List.Mem.head _) rfl)) rfl rfl ?_) | (refine Xg.ev (EvF.loadV rfl rfl (LoadV.whole (te rfl) rfl (List.Mem.tail _ (List.Mem.head _)) rfl)) rfl rfl ?_) | (refine Xg.ev (EvF.extract rfl rfl rfl) rfl rfl ?_) | (refine Xg.st (StF.alloc rfl Tryz.zeroValue30 rfl) rfl rfl ?_; rintro _ _ ⟨bx, rfl, rfl⟩) | (refine Xg.st0 (StF.storeAll (i := 0) rfl rfl rfl (te rfl) rfl rfl rfl rfl) rfl ?_; rintro _ _ ⟨rfl, rfl⟩; dsimp only [List.set]))) | (refine Xo.g rfl rfl ?_; (first | (with_reducible refine Xw.tf rfl rfl ?_) | (with_reducible refine Xw.case (fun h => ?_) (fun h => ?_) <;> simp only [h, decide_true, decide_false, Bool.not_true, Bool.not_false, and_self, and_true, true_and, and_false, false_and]) | (with_reducible refine Xw.caseN (fun h => ?_) (fun h => ?_) <;> simp only [h, decide_true, decide_false, Bool.not_true, Bool.not_false, and_self, and_true, true_and, and_false, false_and]))))) | (refine XO.done rfl ?_; refine hK _ _ ?_; clear hK K) | refine X.seq rfl ?_ | refine X.region rfl (fun K hK => ?_) | refine X.block rfl ?_ | refine X.skip rfl ?_ | refine X.ret rfl ?_ | (refine X.ite rfl rfl (fun hc => ?_); (first | (with_reducible refine Xb.t hc ?_) | (with_reducible refine Xb.f hc ?_) | (with_reducible refine Xb.caseB hc (fun h => ?_) (fun h => ?_))) <;> clear hc))
      all_goals try (exfalso; first | contradiction | omega)
      refine ⟨_, [(3, .pointer (some ⟨b3, 0, none⟩)), (7, .bool true), (8, .int .i64 m), (9, .slice (some ⟨lb, lo, none⟩) L.length cl), (11, .int .i64 (sumV T L)), (12, .slice ar R.length cr), (78, .slice (some ⟨lb, lo, none⟩) L.length cl), (79, .int .i64 L.length), (14, .int .i64 (sumV T (L.take (k + 1)))), (15, .int .i64 ((refsA T 0 (L.take (k + 1))).length : Nat)), (80, .int .i64 (k + 1 : Nat))], _, (by rw [hsn, hrn]; exact (by (repeat (first | exact Sub.nil _ | refine Sub.cons rfl ?_)); done)), (by (repeat (first | exact List.Sublist.refl _ | apply List.Sublist.cons_cons | apply List.Sublist.cons)); done), ⟨k + 1, rfl, by omega, rfl, rfl⟩, by omega⟩
  · obtain rfl : k = L.length := by omega
    have hfin : (refsA T 0 L).length = R.length := by rw [hR]
    rw [List.take_length] at hs hln ⊢
    repeat' (first | (refine XO.op rfl ?_; (first | ((first | refine Xo.ng rfl ?_ | (refine Xo.g rfl rfl ?_; with_reducible refine Xw.tt ?_)); (first | (refine Xg.ev (EvF.cmp (b := true) rfl rfl rfl (congrArg some (decide_eq_true (by omega)))) rfl rfl ?_) | (refine Xg.ev (EvF.cmp (b := false) rfl rfl rfl (congrArg some (decide_eq_false (by omega)))) rfl rfl ?_) | (refine Xg.ev (EvF.move rfl rfl) rfl rfl ?_) | (refine Xg.ev (EvF.assign rfl rfl) rfl rfl ?_) | (refine Xg.ev (EvF.pickT rfl rfl rfl) rfl rfl ?_) | (refine Xg.ev (EvF.lenSlice rfl rfl (te rfl)) rfl rfl ?_))))) | (refine XO.done rfl ?_; refine hK _ _ ?_; clear hK K) | refine X.seq rfl ?_ | refine X.region rfl (fun K hK => ?_) | (refine X.brk rfl ?_; repeat (first | refine blockX_hit rfl ?_ | refine blockX_miss (by decide) ?_)) | refine X.ret rfl ?_ | (refine X.ite rfl rfl (fun hc => ?_); (first | (with_reducible refine Xb.f hc ?_)) <;> clear hc))
    all_goals try (exfalso; first | contradiction | omega)
    exact ret_one (by first | exact .inr rfl | exact .inl rfl) Tryz.results12 rfl (H' := _) (List.Sublist.refl _) rfl
end Go.Proofs.YtcjlegjchllgjaaGreat
end
section
set_option linter.unusedVariables false
set_option linter.unusedSimpArgs false
namespace Go.Proofs.YtcjlegjchllgjaaGreat
open Go Go.Fw
set_option maxRecDepth 10000
def cU (n : Int) : List Value := [.int .u8 n]
def pr1 (l : List Int) (k : Nat) : Cl := ⟨1 + l.getD (2 * k) 0 % 9, 1 + l.getD (2 * k + 1) 0 % 9⟩
def prs (l : List Int) (k : Nat) : List Cl := (List.range k).map (pr1 l)
theorem prs_succ (l : List Int) (k : Nat) : prs l (k + 1) = prs l k ++ [pr1 l k] := by unfold prs; rw [List.range_succ, List.map_append]; rfl
theorem prs_len (l : List Int) (k : Nat) : (prs l k).length = k := by unfold prs; rw [List.length_map, List.length_range]
theorem prs_in9 (l : List Int) (k : Nat) : ∀ c ∈ prs l k, in9 c := fun c hc => by
  obtain ⟨j, _, rfl⟩ := List.mem_map.1 hc
  exact ⟨nines _, nines _⟩
theorem cErr_in9 : ∀ {l : List Cl}, (∀ c ∈ l, in9 c) → cErr l = 0
  | [], _ => rfl
  | c :: l, h => by
    have := cErr_app [c] l
    rw [List.singleton_append] at this
    have h1 := h c List.mem_cons_self
    have h0 : clsE c = 0 := by unfold clsE; rw [if_pos h1.1, if_pos h1.2]
    have h2 : cErr [c] = 0 := by unfold cErr; rw [h0]; rfl
    rw [this h2]
    exact cErr_in9 (fun c hc => h c (List.mem_cons_of_mem _ hc))
set_option maxHeartbeats 32000000 in
theorem sumsB (T : Tm) (p : Pt) (m : Int) (L : List Cl) (al : Option Addr) (cl b3 : Nat) (H : List Row) (hok : tmOk T) (hT : TmOk H T p) (hm : 0 ≤ m ∧ m ≤ 60) (hd : T.dl ≤ m ∧ m ≤ T.dh) (hl : SlE H al cCl 2 L) (hb : (L.length : Int) ≤ T.bales) (hin : ∀ c ∈ L, in9 c) :
    X Tryz.prog 146 (csnd (csnd (csnd (csnd (csnd (csnd (cof Tryz.f12))))))) [(3, .pointer (some ⟨b3, 0, none⟩)), (7, .bool true), (8, .int .i64 m), (9, .slice al L.length cl)] (⟨b3, 0, cTm T p, some 32, 11⟩ :: H) (retX Tryz.prog Tryz.f12 (fun v _ => v = .bool true)) := by
  have hnum := hok.num
  have hE : totE T m L = 0 := by unfold totE; rw [if_pos hok, if_pos hd, if_pos hb, cErr_in9 hin]
  have hTo : ∀ H', TmOk H' T p → SlE H' al cCl 2 L → Fc Tryz.prog 29 [.agg (cTm T p).toArray, .int .i64 m, .slice al L.length cl] H' (fun v H'' => ∃ w Z, v = .tuple #[.int .i64 (sumV T L), w, .int .i64 0] ∧ OutI (refsA T 0 L) w Z ∧ H'' = Z ++ H') := fun H' h1 h2 => by
    have := ktotal_spec T p m L al cl H' h1 h2 (by omega)
    unfold totS totI at this
    rwa [hE, if_pos rfl, if_pos rfl] at this
  obtain ⟨R, hR⟩ : ∃ R, refsA T 0 L = R := ⟨_, rfl⟩
  have hTl := fun ar cr H' (hT : TmOk H' T p) (hl : SlE H' al cCl 2 L) (hr : SlE H' ar cI 1 R) => sumsC T p m L R al ar cl cr b3 H' hok hT hm hd hR.symm hl hr (by omega) hin
  rw [hR] at hTo
  clear hR hE
  repeat' (first | (refine X.weak (F' := [(3, .pointer (some ⟨b3, 0, none⟩)), (7, .bool true), (8, .int .i64 m), (9, .slice al L.length cl), (11, .int .i64 (sumV T L)), (12, .slice none 0 0)]) (H' := ⟨b3, 0, cTm T p, some 32, 11⟩ :: H) ?_ ?_ (hTl none 0 H hT hl sleNil); exact (by (repeat (first | exact Sub.nil _ | refine Sub.cons rfl ?_)); done); exact (by (repeat (first | exact List.Sublist.refl _ | apply List.Sublist.cons_cons | apply List.Sublist.cons)); done)) | (refine X.permH (List.Perm.swap _ _ _) (X.weak (F' := [(3, .pointer (some ⟨b3, 0, none⟩)), (7, .bool true), (8, .int .i64 m), (9, .slice al L.length cl), (11, .int .i64 (sumV T L)), (12, .slice (some ⟨bo, 0, none⟩) R.length qo)]) (H' := ⟨b3, 0, cTm T p, some 32, 11⟩ :: ⟨bo, 0, R.flatMap cI, some 3, qo * 1⟩ :: H) ?_ ?_ (hTl (some ⟨bo, 0, none⟩) qo _ (hT.sub (fun _ h => List.Mem.tail _ h)) (hl.sub (fun _ h => List.Mem.tail _ h)) (SlE.ofRow (List.Mem.head _) (fun _ _ => rfl)))); exact (by (repeat (first | exact Sub.nil _ | refine Sub.cons rfl ?_)); done); exact (by (repeat (first | exact List.Sublist.refl _ | apply List.Sublist.cons_cons | apply List.Sublist.cons)); done)) | (refine XO.op rfl ?_; (first | ((first | refine Xo.ng rfl ?_); (first | (refine Xg.call (EnF.st rfl (Args.cons rfl (Args.cons rfl (Args.cons rfl Args.nil)))) rfl rfl (hTo _ (hT.sub (fun _ h => by repeat (first | exact h | apply List.Mem.tail))) (hl.sub (fun _ h => by repeat (first | exact h | apply List.Mem.tail)))) ?_; rintro _ _ ⟨w, Z, rfl, (⟨rfl, rfl, rfl⟩ | ⟨bo, qo, rfl, rfl⟩), rfl⟩ <;> dsimp only [List.nil_append, List.cons_append]) | (refine Xg.ev (EvF.cmp (b := false) rfl rfl rfl (congrArg some (nd_f (by omega)))) rfl rfl ?_) | (refine Xg.ev (EvF.move rfl rfl) rfl rfl ?_) | (refine Xg.ev (EvF.assign rfl rfl) rfl rfl ?_) | (refine Xg.ev (EvF.loadV rfl rfl (LoadV.whole (te rfl) rfl (List.Mem.head _) rfl)) rfl rfl ?_) | (refine Xg.ev (EvF.extract rfl rfl rfl) rfl rfl ?_))))) | (refine XO.done rfl ?_; refine hK _ _ ?_; clear hK K) | refine X.seq rfl ?_ | refine X.region rfl (fun K hK => ?_) | refine X.skip rfl ?_ | (refine X.ite rfl rfl (fun hc => ?_); (first | (with_reducible refine Xb.f hc ?_)) <;> clear hc))
  all_goals try (exfalso; contradiction)
end Go.Proofs.YtcjlegjchllgjaaGreat
end
section
set_option linter.unusedVariables false
set_option linter.unusedSimpArgs false
namespace Go.Proofs.YtcjlegjchllgjaaGreat
open Go Go.Fw
set_option maxRecDepth 10000
def tsUa : List TOp := [⟨some 49, [], [], []⟩, ⟨some 50, [], [], []⟩, ⟨some 51, [], [], []⟩, ⟨some 52, [1, 2], [1, 2], []⟩, ⟨some 53, [1, 2, 3], [3], []⟩, ⟨some 54, [1, 2, 3, 4], [4], []⟩, ⟨some 55, [1, 2, 3, 4, 5], [5], []⟩, ⟨some 56, [1, 2, 3, 4, 5, 6], [6], []⟩, ⟨some 57, [], [], []⟩, ⟨some 58, [], [], []⟩, ⟨some 59, [9], [9], []⟩, ⟨some 60, [8, 9, 10], [8, 10], []⟩, ⟨some 61, [8, 9, 10, 11], [11], []⟩, ⟨some 62, [8, 9, 10, 11, 12], [12], []⟩, ⟨some 63, [8, 9, 10, 11, 12, 13], [13], []⟩, ⟨some 64, [8, 9, 10, 11, 12, 13, 14], [14], []⟩, ⟨some 65, [1, 2, 3, 4, 5, 6, 7, 8, 9, 10, 11, 12, 13, 14, 15], [7, 15], []⟩, ⟨some 66, [1, 2, 3, 4, 5, 6, 7, 8, 9, 10, 11, 12, 13, 14, 15, 16], [16], []⟩, ⟨some 67, [0, 1, 2, 3, 4, 5, 6, 7, 8, 9, 10, 11, 12, 13, 14, 15, 16, 17], [0, 17], []⟩, ⟨some 9, [0, 1, 2, 3, 4, 5, 6, 7, 8, 9, 10, 11, 12, 13, 14, 15, 16, 17, 18], [18], []⟩]
def valUa (b3 lb lo n cb : Nat) (m ix x y : Int) (k : Nat) (env : Env) : Value :=
  match k with
  | 0 => .slice none 0 0
  | 1 => .slice (some ⟨lb, lo, none⟩) n cb
  | 2 => .int .i64 ix
  | 3 => .pointer (some ⟨lb, lo + ix.toNat * 1, none⟩)
  | 4 => .int .u8 x
  | 5 => .int .i64 x
  | 6 => .int .i64 (x % 9)
  | 7 => .int .i64 (1 + (x % 9))
  | 8 => .slice (some ⟨lb, lo, none⟩) n cb
  | 9 => .int .i64 ix
  | 10 => .int .i64 (ix + 1)
  | 11 => .pointer (some ⟨lb, lo + (ix + 1).toNat * 1, none⟩)
  | 12 => .int .u8 y
  | 13 => .int .i64 y
  | 14 => .int .i64 (y % 9)
  | 15 => .int .i64 (1 + (y % 9))
  | 16 => .agg (cCl ⟨1 + x % 9, 1 + y % 9⟩).toArray
  | 17 => .slice (some ⟨(env 17).1, 0, none⟩) 1 1
  | 18 => .slice (some ⟨(env 18).1, 0, none⟩) 1 (env 18).2
  | 19 => .slice (some ⟨(env 18).1, 0, none⟩) 1 (env 18).2
  | _ => undef
def rowsUa (b3 lb lo n cb : Nat) (m ix x y : Int) (k : Nat) (env : Env) : List Row :=
  match k with
  | 17 => [⟨(env 17).1, 0, cCl ⟨1 + x % 9, 1 + y % 9⟩, some 27, 1 * 2⟩]
  | 18 => [⟨(env 18).1, 0, cCl ⟨1 + x % 9, 1 + y % 9⟩, some 27, (env 18).2 * 2⟩]
  | _ => []
theorem locUa (b3 lb lo n cb : Nat) (m ix x y : Int) : ∀ k env i q9, i ≠ k → (tAt tsUa k).sup.contains i = false → valUa b3 lb lo n cb m ix x y k (upd env i q9) = valUa b3 lb lo n cb m ix x y k env ∧ rowsUa b3 lb lo n cb m ix x y k (upd env i q9) = rowsUa b3 lb lo n cb m ix x y k env := by
  intro k env i q hk hs
  have hu : ∀ j, j ≠ i → upd env i q j = env j := fun j hj => by unfold upd; rw [if_neg hj]
  match k, hk, hs with
  | 0, _, _ => exact ⟨rfl, rfl⟩
  | 1, _, _ => exact ⟨rfl, rfl⟩
  | 2, _, _ => exact ⟨rfl, rfl⟩
  | 3, _, _ => exact ⟨rfl, rfl⟩
  | 4, _, _ => exact ⟨rfl, rfl⟩
  | 5, _, _ => exact ⟨rfl, rfl⟩
  | 6, _, _ => exact ⟨rfl, rfl⟩
  | 7, _, _ => exact ⟨rfl, rfl⟩
  | 8, _, _ => exact ⟨rfl, rfl⟩
  | 9, _, _ => exact ⟨rfl, rfl⟩
  | 10, _, _ => exact ⟨rfl, rfl⟩
  | 11, _, _ => exact ⟨rfl, rfl⟩
  | 12, _, _ => exact ⟨rfl, rfl⟩
  | 13, _, _ => exact ⟨rfl, rfl⟩
  | 14, _, _ => exact ⟨rfl, rfl⟩
  | 15, _, _ => exact ⟨rfl, rfl⟩
  | 16, _, _ => exact ⟨rfl, rfl⟩
  | 17, hk, hs => exact ⟨by simp only [valUa, hu 17 (fun e => hk e.symm)], by simp only [rowsUa, hu 17 (fun e => hk e.symm)]⟩
  | 18, hk, hs => exact ⟨by simp only [valUa, hu 18 (fun e => hk e.symm)], by simp only [rowsUa, hu 18 (fun e => hk e.symm)]⟩
  | 19, hk, hs => exact ⟨by simp only [valUa, hu 18 (by rintro rfl; cases hs)], by simp only [rowsUa, hu 18 (by rintro rfl; cases hs)]⟩
  | _ + 20, _, _ => exact ⟨rfl, rfl⟩
def rdUa (k : Nat) : List Nat := match k with
  | 18 => [17]
  | _ => []
def tsUb : List TOp := [⟨some 49, [], [], []⟩, ⟨some 50, [], [], []⟩, ⟨some 51, [], [], []⟩, ⟨some 52, [1, 2], [1, 2], []⟩, ⟨some 53, [1, 2, 3], [3], []⟩, ⟨some 54, [1, 2, 3, 4], [4], []⟩, ⟨some 55, [1, 2, 3, 4, 5], [5], []⟩, ⟨some 56, [1, 2, 3, 4, 5, 6], [6], []⟩, ⟨some 57, [], [], []⟩, ⟨some 58, [], [], []⟩, ⟨some 59, [9], [9], []⟩, ⟨some 60, [8, 9, 10], [8, 10], []⟩, ⟨some 61, [8, 9, 10, 11], [11], []⟩, ⟨some 62, [8, 9, 10, 11, 12], [12], []⟩, ⟨some 63, [8, 9, 10, 11, 12, 13], [13], []⟩, ⟨some 64, [8, 9, 10, 11, 12, 13, 14], [14], []⟩, ⟨some 65, [1, 2, 3, 4, 5, 6, 7, 8, 9, 10, 11, 12, 13, 14, 15], [7, 15], []⟩, ⟨some 66, [1, 2, 3, 4, 5, 6, 7, 8, 9, 10, 11, 12, 13, 14, 15, 16], [16], []⟩, ⟨some 67, [0, 1, 2, 3, 4, 5, 6, 7, 8, 9, 10, 11, 12, 13, 14, 15, 16, 17], [0, 17], [20]⟩, ⟨some 9, [0, 1, 2, 3, 4, 5, 6, 7, 8, 9, 10, 11, 12, 13, 14, 15, 16, 17, 18], [18], []⟩, ⟨none, [], [], []⟩]
def valUb (b3 lb lo n cb bo qo kk : Nat) (ol : List Value) (m ix x y : Int) (k : Nat) (env : Env) : Value :=
  match k with
  | 0 => .slice (some ⟨bo, 0, none⟩) kk qo
  | 1 => .slice (some ⟨lb, lo, none⟩) n cb
  | 2 => .int .i64 ix
  | 3 => .pointer (some ⟨lb, lo + ix.toNat * 1, none⟩)
  | 4 => .int .u8 x
  | 5 => .int .i64 x
  | 6 => .int .i64 (x % 9)
  | 7 => .int .i64 (1 + (x % 9))
  | 8 => .slice (some ⟨lb, lo, none⟩) n cb
  | 9 => .int .i64 ix
  | 10 => .int .i64 (ix + 1)
  | 11 => .pointer (some ⟨lb, lo + (ix + 1).toNat * 1, none⟩)
  | 12 => .int .u8 y
  | 13 => .int .i64 y
  | 14 => .int .i64 (y % 9)
  | 15 => .int .i64 (1 + (y % 9))
  | 16 => .agg (cCl ⟨1 + x % 9, 1 + y % 9⟩).toArray
  | 17 => .slice (some ⟨(env 17).1, 0, none⟩) 1 1
  | 18 => .slice (some ⟨(env 18).1, 0, none⟩) (kk + 1) (env 18).2
  | 19 => .slice (some ⟨(env 18).1, 0, none⟩) (kk + 1) (env 18).2
  | _ => undef
def rowsUb (b3 lb lo n cb bo qo kk : Nat) (ol : List Value) (m ix x y : Int) (k : Nat) (env : Env) : List Row :=
  match k with
  | 17 => [⟨(env 17).1, 0, cCl ⟨1 + x % 9, 1 + y % 9⟩, some 27, 1 * 2⟩]
  | 18 => [⟨(env 18).1, 0, ol ++ cCl ⟨1 + x % 9, 1 + y % 9⟩, some 27, (env 18).2 * 2⟩]
  | 20 => [⟨bo, 0, ol, some 27, qo * 2⟩]
  | _ => []
theorem locUb (b3 lb lo n cb bo qo kk : Nat) (ol : List Value) (m ix x y : Int) : ∀ k env i q9, i ≠ k → (tAt tsUb k).sup.contains i = false → valUb b3 lb lo n cb bo qo kk ol m ix x y k (upd env i q9) = valUb b3 lb lo n cb bo qo kk ol m ix x y k env ∧ rowsUb b3 lb lo n cb bo qo kk ol m ix x y k (upd env i q9) = rowsUb b3 lb lo n cb bo qo kk ol m ix x y k env := by
  intro k env i q hk hs
  have hu : ∀ j, j ≠ i → upd env i q j = env j := fun j hj => by unfold upd; rw [if_neg hj]
  match k, hk, hs with
  | 0, _, _ => exact ⟨rfl, rfl⟩
  | 1, _, _ => exact ⟨rfl, rfl⟩
  | 2, _, _ => exact ⟨rfl, rfl⟩
  | 3, _, _ => exact ⟨rfl, rfl⟩
  | 4, _, _ => exact ⟨rfl, rfl⟩
  | 5, _, _ => exact ⟨rfl, rfl⟩
  | 6, _, _ => exact ⟨rfl, rfl⟩
  | 7, _, _ => exact ⟨rfl, rfl⟩
  | 8, _, _ => exact ⟨rfl, rfl⟩
  | 9, _, _ => exact ⟨rfl, rfl⟩
  | 10, _, _ => exact ⟨rfl, rfl⟩
  | 11, _, _ => exact ⟨rfl, rfl⟩
  | 12, _, _ => exact ⟨rfl, rfl⟩
  | 13, _, _ => exact ⟨rfl, rfl⟩
  | 14, _, _ => exact ⟨rfl, rfl⟩
  | 15, _, _ => exact ⟨rfl, rfl⟩
  | 16, _, _ => exact ⟨rfl, rfl⟩
  | 17, hk, hs => exact ⟨by simp only [valUb, hu 17 (fun e => hk e.symm)], by simp only [rowsUb, hu 17 (fun e => hk e.symm)]⟩
  | 18, hk, hs => exact ⟨by simp only [valUb, hu 18 (fun e => hk e.symm)], by simp only [rowsUb, hu 18 (fun e => hk e.symm)]⟩
  | 19, hk, hs => exact ⟨by simp only [valUb, hu 18 (by rintro rfl; cases hs)], by simp only [rowsUb, hu 18 (by rintro rfl; cases hs)]⟩
  | 20, _, _ => exact ⟨rfl, rfl⟩
  | _ + 21, _, _ => exact ⟨rfl, rfl⟩
def rdUb (k : Nat) : List Nat := match k with
  | 18 => [17]
  | _ => []

set_option maxHeartbeats 32000000 in
theorem termsSums_spec (T : Tm) (p : Pt) (mo : Int) (l : List Int) (ab : Option Addr) (cb : Nat) (hmo : u8 mo) (h8 : ∀ x ∈ l, u8 x) (H : List Row) (hg : SlE H p.a1 cI 1 T.G) (hs : SlE H p.a2 cI 1 T.S) (hl : SlE H ab cU 1 l) :
    Fc Tryz.prog 12 [.agg (cTm T p).toArray, .int .u8 mo, .slice ab l.length cb] H (fun v _ => v = .bool true) := by
  by_cases hr : rdy T
  · have hT : TmOk H T p := ⟨hg, hs, by have := hr.1; omega, by have := hr.1; omega⟩
    have hok := hr.2
    have hnum := hok.num
    have hR : ∀ H', TmOk H' T p → _ := fun H' h => readyT T p hr H' h
    have hpk := pkI_in (s := ⟨T.dl, T.dh⟩) (n := mo) hnum.2.1.1
    have hPi : ∀ H', Fc Tryz.prog 36 [.agg (cSp ⟨T.dl, T.dh⟩).toArray, .int .u8 mo] H' _ := fun H' => pick_spec ⟨T.dl, T.dh⟩ mo hmo (by dsimp only; omega) H'
    obtain ⟨m, hm⟩ : ∃ q, pkI ⟨T.dl, T.dh⟩ mo = q := ⟨_, rfl⟩
    rw [hm] at hpk hPi
    dsimp only at hpk
    clear hm
    refine Fc.mk (callable Tryz.call12) Tryz.func12 rfl Tryz.ntmps12 rfl ?_; dsimp only [fr]
    repeat' (first | (refine XO.op rfl ?_; (first | ((first | refine Xo.ng rfl ?_ | (refine Xo.g rfl rfl ?_; with_reducible refine Xw.ff ?_)); (first | (refine Xg.call (EnF.st rfl (by (repeat (first | exact Args.nil | refine Args.cons rfl ?_)); done)) rfl rfl (alive_spec _) ?_; rintro _ H9 ⟨rfl, hH9⟩; subst H9) | (refine Xg.call (EnF.st rfl (Args.cons rfl Args.nil)) rfl rfl (hR _ (hT.sub (fun _ h => by repeat (first | exact h | apply List.Mem.tail)))) ?_; rintro _ H9 ⟨rfl, hH9⟩; subst H9) | (refine Xg.call (EnF.st rfl (Args.cons rfl (Args.cons rfl Args.nil))) rfl rfl (hPi _) ?_; rintro _ H9 ⟨rfl, hH9⟩; subst H9) | (refine Xg.ev (EvF.loadV rfl rfl (LoadV.ownAgg (vs := cSp ⟨T.dl, T.dh⟩) (te rfl) rfl (List.Mem.head _) rfl rfl)) rfl rfl ?_) | (refine Xg.ev (notT rfl rfl) rfl rfl ?_) | (refine Xg.ev (EvF.move rfl rfl) rfl rfl ?_) | (refine Xg.ev (EvF.assign rfl rfl) rfl rfl ?_) | (refine Xg.ev (EvF.pickF rfl rfl rfl) rfl rfl ?_) | (refine Xg.ev (EvF.fieldAddr rfl rfl (te rfl) rfl (te rfl) (by decide)) rfl rfl ?_) | (refine Xg.ev (EvF.loadV rfl rfl (LoadV.whole (te rfl) rfl (List.Mem.head _) rfl)) rfl rfl ?_) | (refine Xg.st (StF.boxAgg rfl rfl) rfl rfl ?_; rintro _ _ ⟨bx, rfl, rfl⟩))))) | (refine XO.done rfl ?_; refine hK _ _ ?_; clear hK K) | refine X.seq rfl ?_ | refine X.region rfl (fun K hK => ?_) | refine X.block rfl ?_ | refine X.skip rfl ?_ | (refine X.ite rfl rfl (fun hc => ?_); (first | (with_reducible refine Xb.f hc ?_)) <;> clear hc))
    all_goals try (exfalso; contradiction)
    obtain ⟨b3, hb3⟩ : ∃ b, b = bx := ⟨_, rfl⟩
    rw [← hb3]
    clear hb3
    have tl := fun (L : List Cl) al cl H' (hin : ∀ c ∈ L, in9 c) hb (hT : TmOk H' T p) (hl : SlE H' al cCl 2 L) => sumsB T p m L al cl b3 H' hok hT (by omega) hpk hl hb hin
    refine X.lp rfl (fun q F' H' => ∃ (k : Nat) (out : Value) (Z : List Row), q = T.bales.toNat - k ∧ (k : Int) ≤ T.bales ∧ 2 * k ≤ l.length ∧ ((k = 0 ∧ out = .slice none 0 0 ∧ Z = []) ∨ ∃ b q, out = .slice (some ⟨b, 0, none⟩) k q ∧ Z = [⟨b, 0, (prs l k).flatMap cCl, some 27, q * 2⟩]) ∧ H' = Z ++ (⟨b3, 0, cTm T p, some 32, 11⟩ :: H) ∧ F' = [(2, .slice ab l.length cb), (3, .pointer (some ⟨b3, 0, none⟩)), (7, .bool true), (8, .int .i64 m), (9, out), (10, .int .i64 (2 * k : Nat))])
      T.bales.toNat [(2, .slice ab l.length cb), (3, .pointer (some ⟨b3, 0, none⟩)), (7, .bool true), (8, .int .i64 m), (9, .slice none 0 0), (10, .int .i64 (2 * 0 : Nat))] _ (by (repeat (first | exact Sub.nil _ | refine Sub.cons rfl ?_)); done) (by (repeat (first | exact List.Sublist.refl _ | apply List.Sublist.cons_cons | apply List.Sublist.cons)); done) ⟨0, _, [], by omega, by omega, by omega, .inl ⟨rfl, rfl, rfl⟩, rfl, rfl⟩ ?_
    rintro _ _ _ ⟨k, out, Z, rfl, hk, hk2, ⟨hk0, rfl, rfl⟩ | ⟨bo, qo, rfl, rfl⟩, rfl, rfl⟩
    · dsimp only [List.nil_append]
      by_cases hc : 2 * k + 1 < l.length ∧ (k : Int) < T.bales
      · have hc1 := hc.1
        have hc2 := hc.2
        obtain ⟨lb, lo, x, rfl, hx⟩ := hl.elem (i := 2 * k) (by omega)
        obtain ⟨y, hy⟩ : ∃ y, l[2 * k + 1]? = some y := ⟨_, List.getElem?_eq_getElem (by omega)⟩
        have u1 := h8 x (List.mem_of_getElem? hx)
        have u2 := h8 y (List.mem_of_getElem? hy)
        unfold u8 at u1 u2
        have hx' : l[((2 * k : Nat) : Int).toNat]? = some x := by rw [Int.toNat_natCast]; exact hx
        have hy' : l[(((2 * k : Nat) : Int) + 1).toNat]? = some y := by rw [show (((2 * k : Nat) : Int) + 1).toNat = 2 * k + 1 by omega]; exact hy
        have hpr : prs l (k + 1) = prs l k ++ [⟨1 + x % 9, 1 + y % 9⟩] := by
          rw [prs_succ]; unfold pr1
          rw [List.getD_eq_getElem?_getD, List.getD_eq_getElem?_getD, hx, hy]; rfl
        clear hx hy
        repeat' (first | (refine XO.op rfl ?_; (first | ((first | refine Xo.ng rfl ?_ | (refine Xo.g rfl rfl ?_; with_reducible refine Xw.tt ?_)); (first | (refine Xg.ev (EvF.cmp (b := true) rfl rfl rfl (congrArg some (decide_eq_true (by omega)))) rfl rfl ?_) | (refine Xg.ev (EvF.add64 rfl rfl rfl (by omega) (by omega)) rfl rfl ?_) | (refine Xg.ev (EvF.move rfl rfl) rfl rfl ?_) | (refine Xg.ev (EvF.pickT rfl rfl rfl) rfl rfl ?_) | (refine Xg.ev (EvF.fieldAddr rfl rfl (te rfl) rfl (te rfl) (by decide)) rfl rfl ?_) | (refine Xg.ev (EvF.lenSlice rfl rfl (te rfl)) rfl rfl ?_) | (refine Xg.ev (EvF.loadV rfl rfl (LoadV.own (te rfl) rfl (List.Mem.head _) rfl)) rfl rfl ?_))))) | (refine XO.done rfl ?_; refine hK _ _ ?_; clear hK K) | refine X.seq rfl ?_ | refine X.region rfl (fun K hK => ?_) | refine X.block rfl ?_ | refine X.skip rfl ?_ | (refine X.ite rfl rfl (fun hc => ?_); (first | (with_reducible refine Xb.t hc ?_)) <;> clear hc))
        all_goals try (exfalso; first | contradiction | omega)
        refine X.regionRs [] tsUa rdUa [2, 3, 7, 8, 10] [(2, .slice (some ⟨lb, lo, none⟩) l.length cb), (3, .pointer (some ⟨b3, 0, none⟩)), (7, .bool true), (8, .int .i64 m), (10, .int .i64 ((2 * k : Nat) : Int))] (valUa b3 lb lo l.length cb m ((2 * k : Nat) : Int) x y) (rowsUa b3 lb lo l.length cb m ((2 * k : Nat) : Int) x y) (fun _ => (0, 0)) (⟨b3, 0, cTm T p, some 32, 11⟩ :: H) rfl mixed (by (repeat (first | exact Sub.nil _ | refine Sub.cons rfl ?_)); done) rfl (by kernel_rfl) (by kernel_rfl) (locUa b3 lb lo l.length cb m ((2 * k : Nat) : Int) x y) (fun i d hi => by cases hi) (List.Sublist.refl _) [(19, 9, .slice none 0 0)] (by intro e he; simp only [List.mem_cons, List.not_mem_nil, or_false] at he; rcases he with rfl <;> exact ⟨rfl, Nat.le_of_ble_eq_true rfl⟩) (by intro e he; simp only [List.mem_cons, List.not_mem_nil, or_false] at he; rcases he with rfl <;> exact rfl) ?_ ?_
        · repeat' (first | exact AllF.done rfl | (refine AllF.step rfl ?_ ?_; · (first | fail | (refine Ob.toR ?_; ((first | refine Ob.ng rfl ?_); (first | exact ObK.pure (fun env R hR => by exact ⟨_, EvF.move rfl rfl, rfl⟩) rfl (fun _ => rfl) | exact ObK.pure (fun env R hR => by exact ⟨_, EvF.assign rfl rfl, rfl⟩) rfl (fun _ => rfl) | ((refine fun env S hS => (StF.ofEv (v := .pointer (some ⟨lb, lo + (((2 * k : Nat) : Int)).toNat * 1, none⟩)) ?_).op.mono (fun v H' ⟨hv, hH⟩ => ⟨(0, 0), fun _ => hv, by rw [hH]; exact List.Perm.refl _⟩); exact EvF.indexSlice (i := ((2 * k : Nat) : Int)) (off := lo) (b := lb) (T := 88) (e := 5) (len := l.length) (ti := ⟨.int .u8, 1, 1⟩) rfl rfl rfl (te rfl) (te rfl) (by omega) (by omega))) | ((refine fun env S hS => (StF.ofEv (v := .pointer (some ⟨lb, lo + (((2 * k : Nat) : Int) + 1).toNat * 1, none⟩)) ?_).op.mono (fun v H' ⟨hv, hH⟩ => ⟨(0, 0), fun _ => hv, by rw [hH]; exact List.Perm.refl _⟩); exact EvF.indexSlice (i := ((2 * k : Nat) : Int) + 1) (off := lo) (b := lb) (T := 88) (e := 5) (len := l.length) (ti := ⟨.int .u8, 1, 1⟩) rfl rfl rfl (te rfl) (te rfl) (by omega) (by omega))) | (exact ObK.pure (fun env S hS => ⟨.int .u8 x, EvF.loadV rfl rfl (LoadV.el0 (n := (((2 * k : Nat) : Int)).toNat) hl hx' (te rfl) rfl (fun _ h => hS _ (List.mem_append_right [_] h)) rfl), rfl⟩) rfl (fun _ => rfl)) | (exact ObK.pure (fun env S hS => ⟨.int .u8 y, EvF.loadV rfl rfl (LoadV.el0 (n := (((2 * k : Nat) : Int) + 1).toNat) hl hy' (te rfl) rfl (fun _ h => hS _ (List.mem_append_right [_] h)) rfl), rfl⟩) rfl (fun _ => rfl)) | (exact fun env S hS => OpF.callV (Z := []) (EnF.st rfl (Args.cons rfl (Args.cons rfl Args.nil))) (lclass_spec (1 + x % 9) (1 + y % 9) _) rfl rfl) | (exact ObK.pure (fun env S hS => ⟨_, EvF.conv rfl rfl int8_und int64_und (by omega) (by omega), rfl⟩) rfl (fun _ => rfl)) | (exact ObK.pure (fun env S hS => ⟨_, EvF.rem64 rfl rfl rfl (by omega) (by omega), rfl⟩) rfl (fun _ => rfl)) | (exact ObK.pure (fun env S hS => ⟨_, EvF.add64 rfl rfl rfl (by omega) (by omega), rfl⟩) rfl (fun _ => rfl))))) | (refine ObR.ng rfl ?_; (first | (exact fun env S hS hrd => (StF.buildOne rfl elCl rfl rfl rfl (by decide) (by decide)).op.mono (fun v H' ⟨b, hv, hH⟩ => ⟨(b, 0), fun _ => hv, by rw [hH]; exact List.Perm.refl _⟩)) | (exact fun env S hS hrd => (StF.appendNew rfl elCl rfl rfl (by decide) rfl (Rd.own (hrd 17 (List.Mem.head _) _ (List.Mem.head _))) (by decide)).op.mono (fun v H' ⟨b, c, hv, hH⟩ => ⟨(b, c), fun _ => hv, by rw [hH]; exact List.Perm.refl _⟩)))))))
        intro env t ha2 hv
        refine ⟨_, ha2.cons (hv 19 9 (Nat.le_of_ble_eq_true rfl) rfl), ?_⟩
        clear hv ha2
        refine X.weak (F' := [(2, .slice (some ⟨lb, lo, none⟩) l.length cb), (3, .pointer (some ⟨b3, 0, none⟩)), (7, .bool true), (8, .int .i64 m), (9, .slice (some ⟨(env 18).1, 0, none⟩) 1 (env 18).2), (10, .int .i64 (2 * k : Nat))]) (H' := ⟨(env 18).1, 0, cCl ⟨1 + x % 9, 1 + y % 9⟩, some 27, (env 18).2 * 2⟩ :: ⟨b3, 0, cTm T p, some 32, 11⟩ :: H) (by (repeat (first | exact Sub.nil _ | refine Sub.cons rfl ?_)); done) (by (repeat (first | exact List.Sublist.refl _ | apply List.Sublist.cons_cons | apply List.Sublist.cons)); done) ?_
        repeat' (first | (refine XO.op rfl ?_; (first | ((first | refine Xo.ng rfl ?_); (first | (refine Xg.ev (EvF.add64 rfl rfl rfl (by omega) (by omega)) rfl rfl ?_) | (refine Xg.ev (EvF.move rfl rfl) rfl rfl ?_) | (refine Xg.ev (EvF.assign rfl rfl) rfl rfl ?_))))) | (refine XO.done rfl ?_; refine hK _ _ ?_; clear hK K) | refine X.region rfl (fun K hK => ?_))
        refine ⟨_, [(2, .slice (some ⟨lb, lo, none⟩) l.length cb), (3, .pointer (some ⟨b3, 0, none⟩)), (7, .bool true), (8, .int .i64 m), (9, .slice (some ⟨(env 18).1, 0, none⟩) 1 (env 18).2), (10, .int .i64 (2 * (k + 1) : Nat))], _, (by rw [show ((2 * (k + 1) : Nat) : Int) = ((2 * k : Nat) : Int) + 2 by omega]; exact (by (repeat (first | exact Sub.nil _ | refine Sub.cons rfl ?_)); done)), (by (repeat (first | exact List.Sublist.refl _ | apply List.Sublist.cons_cons | apply List.Sublist.cons)); done), ⟨k + 1, _, [⟨(env 18).1, 0, cCl ⟨1 + x % 9, 1 + y % 9⟩, some 27, (env 18).2 * 2⟩], rfl, by omega, by omega, .inr ⟨(env 18).1, (env 18).2, (by rw [hk0]), ?_⟩, rfl, rfl⟩, by omega⟩
        rw [hpr, List.flatMap_append, hk0]; rfl
      · repeat' (first | (refine X.weak (F' := [(3, .pointer (some ⟨b3, 0, none⟩)), (7, .bool true), (8, .int .i64 m), (9, .slice none 0 0)]) (H' := ⟨b3, 0, cTm T p, some 32, 11⟩ :: H) ?_ ?_ (tl [] none 0 H (by simp) (by show (0 : Int) ≤ T.bales; omega) hT sleNil); exact (by (repeat (first | exact Sub.nil _ | refine Sub.cons rfl ?_)); done); exact (by (repeat (first | exact List.Sublist.refl _ | apply List.Sublist.cons_cons | apply List.Sublist.cons)); done)) | (refine XO.op rfl ?_; (first | ((first | refine Xo.ng rfl ?_); (first | (refine Xg.ev (EvF.cmp (b := false) rfl rfl rfl (congrArg some (decide_eq_false (by omega)))) rfl rfl ?_) | (refine Xg.ev (EvF.add64 rfl rfl rfl (by omega) (by omega)) rfl rfl ?_) | (refine Xg.ev (EvF.move rfl rfl) rfl rfl ?_) | (refine Xg.ev (EvF.pickF rfl rfl rfl) rfl rfl ?_) | (refine Xg.ev (EvF.lenSlice rfl rfl (te rfl)) rfl rfl ?_))) | (refine Xo.g rfl rfl ?_; (first | (with_reducible refine Xw.ft rfl rfl ?_))))) | (refine XO.done rfl ?_; refine hK _ _ ?_; clear hK K) | refine X.seq rfl ?_ | refine X.region rfl (fun K hK => ?_) | (refine X.brk rfl ?_; repeat (first | refine blockX_hit rfl ?_ | refine blockX_miss (by decide) ?_)) | (refine X.ite rfl rfl (fun hc => ?_); (first | (with_reducible refine Xb.f hc ?_)) <;> clear hc))
        all_goals try (exfalso; first | contradiction | omega)
    · dsimp only [List.cons_append, List.nil_append]
      by_cases hc : 2 * k + 1 < l.length ∧ (k : Int) < T.bales
      · have hc1 := hc.1
        have hc2 := hc.2
        obtain ⟨lb, lo, x, rfl, hx⟩ := hl.elem (i := 2 * k) (by omega)
        obtain ⟨y, hy⟩ : ∃ y, l[2 * k + 1]? = some y := ⟨_, List.getElem?_eq_getElem (by omega)⟩
        have u1 := h8 x (List.mem_of_getElem? hx)
        have u2 := h8 y (List.mem_of_getElem? hy)
        unfold u8 at u1 u2
        have hx' : l[((2 * k : Nat) : Int).toNat]? = some x := by rw [Int.toNat_natCast]; exact hx
        have hy' : l[(((2 * k : Nat) : Int) + 1).toNat]? = some y := by rw [show (((2 * k : Nat) : Int) + 1).toNat = 2 * k + 1 by omega]; exact hy
        have hpr : prs l (k + 1) = prs l k ++ [⟨1 + x % 9, 1 + y % 9⟩] := by
          rw [prs_succ]; unfold pr1
          rw [List.getD_eq_getElem?_getD, List.getD_eq_getElem?_getD, hx, hy]; rfl
        clear hx hy
        have hlen : ((prs l k).flatMap cCl).length = k * 2 := by
          have h : ((prs l k).flatMap cCl).length = (prs l k).length * 2 := flat_len (fun _ _ => rfl)
          rw [h, prs_len]
        obtain ⟨ol, hol⟩ : ∃ ol, (prs l k).flatMap cCl = ol := ⟨_, rfl⟩
        rw [hol] at hlen ⊢
        repeat' (first | (refine XO.op rfl ?_; (first | ((first | refine Xo.ng rfl ?_ | (refine Xo.g rfl rfl ?_; with_reducible refine Xw.tt ?_)); (first | (refine Xg.ev (EvF.cmp (b := true) rfl rfl rfl (congrArg some (decide_eq_true (by omega)))) rfl rfl ?_) | (refine Xg.ev (EvF.add64 rfl rfl rfl (by omega) (by omega)) rfl rfl ?_) | (refine Xg.ev (EvF.move rfl rfl) rfl rfl ?_) | (refine Xg.ev (EvF.pickT rfl rfl rfl) rfl rfl ?_) | (refine Xg.ev (EvF.fieldAddr rfl rfl (te rfl) rfl (te rfl) (by decide)) rfl rfl ?_) | (refine Xg.ev (EvF.lenSlice rfl rfl (te rfl)) rfl rfl ?_) | (refine Xg.ev (EvF.loadV rfl rfl (LoadV.own (te rfl) rfl (List.Mem.tail _ (List.Mem.head _)) rfl)) rfl rfl ?_))))) | (refine XO.done rfl ?_; refine hK _ _ ?_; clear hK K) | refine X.seq rfl ?_ | refine X.region rfl (fun K hK => ?_) | refine X.block rfl ?_ | refine X.skip rfl ?_ | (refine X.ite rfl rfl (fun hc => ?_); (first | (with_reducible refine Xb.t hc ?_)) <;> clear hc))
        all_goals try (exfalso; first | contradiction | omega)
        refine X.regionRs [] tsUb rdUb [2, 3, 7, 8, 10] [(2, .slice (some ⟨lb, lo, none⟩) l.length cb), (3, .pointer (some ⟨b3, 0, none⟩)), (7, .bool true), (8, .int .i64 m), (10, .int .i64 ((2 * k : Nat) : Int))] (valUb b3 lb lo l.length cb bo qo k ol m ((2 * k : Nat) : Int) x y) (rowsUb b3 lb lo l.length cb bo qo k ol m ((2 * k : Nat) : Int) x y) (fun _ => (0, 0)) (⟨b3, 0, cTm T p, some 32, 11⟩ :: H) rfl mixed (by (repeat (first | exact Sub.nil _ | refine Sub.cons rfl ?_)); done) rfl (by kernel_rfl) (by kernel_rfl) (locUb b3 lb lo l.length cb bo qo k ol m ((2 * k : Nat) : Int) x y) (fun i d hi => by cases hi) (List.Sublist.refl _) [(19, 9, .slice (some ⟨bo, 0, none⟩) k qo)] (by intro e he; simp only [List.mem_cons, List.not_mem_nil, or_false] at he; rcases he with rfl <;> exact ⟨rfl, Nat.le_of_ble_eq_true rfl⟩) (by intro e he; simp only [List.mem_cons, List.not_mem_nil, or_false] at he; rcases he with rfl <;> exact rfl) ?_ ?_
        · repeat' (first | exact AllF.done rfl | (refine AllF.step rfl ?_ ?_; · (first | fail | (refine Ob.toR ?_; ((first | refine Ob.ng rfl ?_); (first | exact ObK.pure (fun env R hR => by exact ⟨_, EvF.move rfl rfl, rfl⟩) rfl (fun _ => rfl) | exact ObK.pure (fun env R hR => by exact ⟨_, EvF.assign rfl rfl, rfl⟩) rfl (fun _ => rfl) | ((refine fun env S hS => (StF.ofEv (v := .pointer (some ⟨lb, lo + (((2 * k : Nat) : Int)).toNat * 1, none⟩)) ?_).op.mono (fun v H' ⟨hv, hH⟩ => ⟨(0, 0), fun _ => hv, by rw [hH]; exact List.Perm.refl _⟩); exact EvF.indexSlice (i := ((2 * k : Nat) : Int)) (off := lo) (b := lb) (T := 88) (e := 5) (len := l.length) (ti := ⟨.int .u8, 1, 1⟩) rfl rfl rfl (te rfl) (te rfl) (by omega) (by omega))) | ((refine fun env S hS => (StF.ofEv (v := .pointer (some ⟨lb, lo + (((2 * k : Nat) : Int) + 1).toNat * 1, none⟩)) ?_).op.mono (fun v H' ⟨hv, hH⟩ => ⟨(0, 0), fun _ => hv, by rw [hH]; exact List.Perm.refl _⟩); exact EvF.indexSlice (i := ((2 * k : Nat) : Int) + 1) (off := lo) (b := lb) (T := 88) (e := 5) (len := l.length) (ti := ⟨.int .u8, 1, 1⟩) rfl rfl rfl (te rfl) (te rfl) (by omega) (by omega))) | (exact ObK.pure (fun env S hS => ⟨.int .u8 x, EvF.loadV rfl rfl (LoadV.el0 (n := (((2 * k : Nat) : Int)).toNat) hl hx' (te rfl) rfl (fun _ h => hS _ (List.mem_append_right [_] h)) rfl), rfl⟩) rfl (fun _ => rfl)) | (exact ObK.pure (fun env S hS => ⟨.int .u8 y, EvF.loadV rfl rfl (LoadV.el0 (n := (((2 * k : Nat) : Int) + 1).toNat) hl hy' (te rfl) rfl (fun _ h => hS _ (List.mem_append_right [_] h)) rfl), rfl⟩) rfl (fun _ => rfl)) | (exact fun env S hS => OpF.callV (Z := []) (EnF.st rfl (Args.cons rfl (Args.cons rfl Args.nil))) (lclass_spec (1 + x % 9) (1 + y % 9) _) rfl rfl) | (exact ObK.pure (fun env S hS => ⟨_, EvF.conv rfl rfl int8_und int64_und (by omega) (by omega), rfl⟩) rfl (fun _ => rfl)) | (exact ObK.pure (fun env S hS => ⟨_, EvF.rem64 rfl rfl rfl (by omega) (by omega), rfl⟩) rfl (fun _ => rfl)) | (exact ObK.pure (fun env S hS => ⟨_, EvF.add64 rfl rfl rfl (by omega) (by omega), rfl⟩) rfl (fun _ => rfl))))) | (refine ObR.ng rfl ?_; (first | (exact fun env S hS hrd => (StF.buildOne rfl elCl rfl rfl rfl (by decide) (by decide)).op.mono (fun v H' ⟨b, hv, hH⟩ => ⟨(b, 0), fun _ => hv, by rw [hH]; exact List.Perm.refl _⟩)) | (exact fun env S hS hrd => (StF.appendOwn (i := 0) rfl elCl rfl rfl rfl hlen rfl (Rd.own (List.Mem.tail _ (hrd 17 (List.Mem.head _) _ (List.Mem.head _)))) rfl (by omega)).op.mono (fun v H' ⟨b, c, hv, hH⟩ => ⟨(b, c), fun _ => hv, by rw [hH]; exact List.Perm.refl _⟩)))))))
        intro env t ha2 hv
        refine ⟨_, ha2.cons (hv 19 9 (Nat.le_of_ble_eq_true rfl) rfl), ?_⟩
        clear hv ha2
        refine X.weak (F' := [(2, .slice (some ⟨lb, lo, none⟩) l.length cb), (3, .pointer (some ⟨b3, 0, none⟩)), (7, .bool true), (8, .int .i64 m), (9, .slice (some ⟨(env 18).1, 0, none⟩) (k + 1) (env 18).2), (10, .int .i64 (2 * k : Nat))]) (H' := ⟨(env 18).1, 0, ol ++ cCl ⟨1 + x % 9, 1 + y % 9⟩, some 27, (env 18).2 * 2⟩ :: ⟨b3, 0, cTm T p, some 32, 11⟩ :: H) (by (repeat (first | exact Sub.nil _ | refine Sub.cons rfl ?_)); done) (by (repeat (first | exact List.Sublist.refl _ | apply List.Sublist.cons_cons | apply List.Sublist.cons)); done) ?_
        repeat' (first | (refine XO.op rfl ?_; (first | ((first | refine Xo.ng rfl ?_); (first | (refine Xg.ev (EvF.add64 rfl rfl rfl (by omega) (by omega)) rfl rfl ?_) | (refine Xg.ev (EvF.move rfl rfl) rfl rfl ?_) | (refine Xg.ev (EvF.assign rfl rfl) rfl rfl ?_))))) | (refine XO.done rfl ?_; refine hK _ _ ?_; clear hK K) | refine X.region rfl (fun K hK => ?_))
        refine ⟨_, [(2, .slice (some ⟨lb, lo, none⟩) l.length cb), (3, .pointer (some ⟨b3, 0, none⟩)), (7, .bool true), (8, .int .i64 m), (9, .slice (some ⟨(env 18).1, 0, none⟩) (k + 1) (env 18).2), (10, .int .i64 (2 * (k + 1) : Nat))], _, (by rw [show ((2 * (k + 1) : Nat) : Int) = ((2 * k : Nat) : Int) + 2 by omega]; exact (by (repeat (first | exact Sub.nil _ | refine Sub.cons rfl ?_)); done)), (by (repeat (first | exact List.Sublist.refl _ | apply List.Sublist.cons_cons | apply List.Sublist.cons)); done), ⟨k + 1, _, [⟨(env 18).1, 0, ol ++ cCl ⟨1 + x % 9, 1 + y % 9⟩, some 27, (env 18).2 * 2⟩], rfl, by omega, by omega, .inr ⟨(env 18).1, (env 18).2, rfl, ?_⟩, rfl, rfl⟩, by omega⟩
        rw [hpr, List.flatMap_append, hol]; rfl
      · repeat' (first | (refine X.permH (List.Perm.swap _ _ _) (X.weak (F' := [(3, .pointer (some ⟨b3, 0, none⟩)), (7, .bool true), (8, .int .i64 m), (9, .slice (some ⟨bo, 0, none⟩) (prs l k).length qo)]) (H' := ⟨b3, 0, cTm T p, some 32, 11⟩ :: ⟨bo, 0, (prs l k).flatMap cCl, some 27, qo * 2⟩ :: H) ?_ ?_ (tl (prs l k) (some ⟨bo, 0, none⟩) qo _ (prs_in9 l k) (by rw [prs_len]; omega) (hT.sub (fun _ h => List.Mem.tail _ h)) (SlE.ofRow (List.Mem.head _) (fun _ _ => rfl)))); (rw [prs_len]; exact (by (repeat (first | exact Sub.nil _ | refine Sub.cons rfl ?_)); done)); exact (by (repeat (first | exact List.Sublist.refl _ | apply List.Sublist.cons_cons | apply List.Sublist.cons)); done)) | (refine XO.op rfl ?_; (first | ((first | refine Xo.ng rfl ?_ | (refine Xo.g rfl rfl ?_; with_reducible refine Xw.tt ?_)); (first | (refine Xg.ev (EvF.cmp (b := false) rfl rfl rfl (congrArg some (decide_eq_false (by omega)))) rfl rfl ?_) | (refine Xg.ev (EvF.add64 rfl rfl rfl (by omega) (by omega)) rfl rfl ?_) | (refine Xg.ev (EvF.move rfl rfl) rfl rfl ?_) | (refine Xg.ev (EvF.pickT rfl rfl rfl) rfl rfl ?_) | (refine Xg.ev (EvF.pickF rfl rfl rfl) rfl rfl ?_) | (refine Xg.ev (EvF.cmp rfl rfl rfl rfl) rfl rfl ?_) | (refine Xg.ev (EvF.fieldAddr rfl rfl (te rfl) rfl (te rfl) (by decide)) rfl rfl ?_) | (refine Xg.ev (EvF.lenSlice rfl rfl (te rfl)) rfl rfl ?_) | (refine Xg.ev (EvF.loadV rfl rfl (LoadV.own (te rfl) rfl (List.Mem.tail _ (List.Mem.head _)) rfl)) rfl rfl ?_))) | (refine Xo.g rfl rfl ?_; (first | (with_reducible refine Xw.ft rfl rfl ?_) | (with_reducible refine Xw.case (fun h => ?_) (fun h => ?_) <;> simp only [h, decide_true, decide_false, Bool.not_true, Bool.not_false, and_self, and_true, true_and, and_false, false_and]))))) | (refine XO.done rfl ?_; refine hK _ _ ?_; clear hK K) | refine X.seq rfl ?_ | refine X.region rfl (fun K hK => ?_) | (refine X.brk rfl ?_; repeat (first | refine blockX_hit rfl ?_ | refine blockX_miss (by decide) ?_)) | (refine X.ite rfl rfl (fun hc => ?_); (first | (with_reducible refine Xb.f hc ?_)) <;> clear hc))
        all_goals try (exfalso; first | contradiction | omega)
  · have hR : ∀ Z : List Row, _ := fun Z => readyF T p hr (Z ++ H) (hg.sub (fun _ h => List.mem_append_right _ h)) (hs.sub (fun _ h => List.mem_append_right _ h))
    refine Fc.mk (callable Tryz.call12) Tryz.func12 rfl Tryz.ntmps12 rfl ?_; dsimp only [fr]
    repeat' (first | (refine XO.op rfl ?_; (first | ((first | refine Xo.ng rfl ?_); (first | (refine Xg.call (EnF.st rfl (by (repeat (first | exact Args.nil | refine Args.cons rfl ?_)); done)) rfl rfl (alive_spec _) ?_; rintro _ H9 ⟨rfl, hH9⟩; subst H9) | (refine Xg.call (EnF.st rfl (Args.cons rfl Args.nil)) rfl rfl (hR [_]) ?_; rintro _ H9 ⟨rfl, hH9⟩; subst H9) | (refine Xg.ev (notF rfl rfl) rfl rfl ?_) | (refine Xg.ev (EvF.move rfl rfl) rfl rfl ?_) | (refine Xg.ev (EvF.assign rfl rfl) rfl rfl ?_) | (refine Xg.ev (EvF.pickT rfl rfl rfl) rfl rfl ?_) | (refine Xg.ev (EvF.loadV rfl rfl (LoadV.whole (te rfl) rfl (List.Mem.head _) rfl)) rfl rfl ?_) | (refine Xg.st (StF.boxAgg rfl rfl) rfl rfl ?_; rintro _ _ ⟨bx, rfl, rfl⟩))) | (refine Xo.g rfl rfl ?_; (first | (with_reducible refine Xw.tf rfl rfl ?_))))) | (refine XO.done rfl ?_; refine hK _ _ ?_; clear hK K) | refine X.seq rfl ?_ | refine X.region rfl (fun K hK => ?_) | refine X.ret rfl ?_ | (refine X.ite rfl rfl (fun hc => ?_); (first | (with_reducible refine Xb.t hc ?_)) <;> clear hc))
    all_goals try (exfalso; contradiction)
    exact ret_one (by first | exact .inr rfl | exact .inl rfl) Tryz.results12 rfl (H' := _) (List.Sublist.refl _) rfl
end Go.Proofs.YtcjlegjchllgjaaGreat
end
section
set_option linter.unusedVariables false
namespace Go.Proofs.YtcjlegjchllgjaaGreat
open Go Go.Fw Go.ChangeShapes Go.WideShapes Go.ChangeAt Go.RowKit
set_option linter.unusedVariables false
set_option maxRecDepth 10000
section
variable {H : Type} {enc : TypeId × Value → H} {w : World} {base : Nat} {spare : Nat → Bool} {held : Bool} {v : Value} {d : DataW H} {p : List MemPlace} {r : Reach} {b0 fuel : Nat} {cs : List Value} {x : DataW H × List MemPlace}
theorem open_cU (h : DataW.trod enc Tryz.prog w base spare held fuel 5 cs = some x) : ∃ q : Int, cs = cU q ∧ u8 q := by
  obtain ⟨n, h1, h2⟩ := trod_i (te rfl) h
  exact ⟨n, h1, u8_wf h2⟩
theorem open_u8s (hv : Value.okWide Tryz.prog w r b0 88 v) (h : DataW.Trod enc Tryz.prog w base spare held 88 v d p) : ∃ (l : List Int) (a : Option Addr) (c : Nat), v = .slice a l.length c ∧ InSl w a cU 1 l ∧ ∀ x ∈ l, u8 x := by
  obtain ⟨a, len, cap, rfl⟩ := okWide_slice Tryz.underlying88 hv
  obtain ⟨fuel, hf⟩ := h
  obtain ⟨l, a, c, e, hi, ho, _⟩ := open_sl (te rfl) (te rfl) rfl (by decide) (fun _ _ _ => open_cU) (fun _ => rfl) hf
  exact ⟨l, a, c, e, hi, ho⟩
end
end Go.Proofs.YtcjlegjchllgjaaGreat
end
section
set_option linter.unusedVariables false
namespace Go.Proofs.YtcjlegjchllgjaaGreat
open Go Go.Fw Go.ChangeShapes Go.WideShapes Go.ChangeAt Go.RowKit
set_option linter.unusedVariables false
set_option maxRecDepth 100000
theorem termsSums_run (T : Tm) (pT : Pt) (mo : Int) (l : List Int) (al : Option Addr) (cl : Nat) (w : World) (hmo : u8 mo) (h8l : ∀ x ∈ l, u8 x) (hT : InTm w T pT) (hl : InSl w al cU 1 l) :
    Calls Tryz.prog 12 #[.agg (cTm T pT).toArray, .int .u8 mo, .slice al l.length cl] w fun e w' => e = .returned (.bool true) ∧ Below w.heap.size w w' :=
  Fc.calls (H := rowsTm T pT ++ (rowsOf al cU l)) (termsSums_spec T pT mo l al cl hmo h8l _ (hT.g (fun _ h => (List.mem_append_left _ h))) (hT.s (fun _ h => (List.mem_append_left _ h))) (hl.sl (fun _ h => (List.mem_append_right _ h)))) (fun r hr => by
    rcases List.mem_append.1 hr with hr | hr
    · exact hT.ok r hr
    exact hl.ok r hr
  )
theorem termsSums_lifted (os : Os) (started : os.Started) (H : Type) (enc : TypeId × Value → H) :
    ReturnsInHanded {} Tryz.checked os 12 .any (Rows.termsSumsSpec.pre6 enc Tryz.prog Tryz.f12 Rows.termsSumsRow.domain false) (Rows.termsSumsSpec.post enc Tryz.prog Tryz.f12 false true false false) := by
  refine returnsInHanded_of_change (C := Tryz.checked) ownK started (by kernel_rfl) Tryz.func12
    (ChangeSpec.witness6 (enc := enc) (C := Tryz.checked) false ⟨#[], #[.agg (cTm Tz pz).toArray, .int .u8 0, .slice none 0 0], []⟩ 8 (by kernel_rfl) (by kernel_rfl) (by kernel_rfl) (by kernel_rfl)) ?_
  intro W base args ds gs before hval0 hW hcnd _
  have hval : ∀ (j : Nat) t v, Tryz.f12.params[j]? = some t → args[j]? = some v → Value.okWide Tryz.prog W .any base t v := hval0
  have hW' := hW
  obtain ⟨p, q, hA0, hV, rfl, hfz, hnd⟩ := hW
  have hA : DataW.TrodAll enc Tryz.prog W 0 (fun _ => true) true Tryz.f12.params.toList args.toList ds p := hA0
  rw [Tryz.params12] at hA hval
  obtain ⟨v0, vs0, d0, ds0, p0, q0, hargs, rfl, rfl, h0, r0⟩ := trodAll_cons hA
  obtain ⟨v1, vs1, d1, ds1, p1, q1, rfl, rfl, rfl, h1, r1⟩ := trodAll_cons r0
  obtain ⟨v2, vs2, d2, ds2, p2, q2, rfl, rfl, rfl, h2, r2⟩ := trodAll_cons r1
  obtain ⟨rfl, rfl, rfl⟩ := trodAll_nil r2
  obtain rfl : args = #[v0, v1, v2] := by cases args; simp_all
  obtain ⟨rfl, rfl⟩ := trodVars_none hV
  have lt : ∀ {t v d ps}, DataW.Trod enc Tryz.prog W 0 (fun _ => true) true t v d ps → ∀ x ∈ ps, x.block < W.heap.size := fun h => by obtain ⟨m, hm⟩ := h; exact DataW.trod_lt m _ _ _ hm
  obtain ⟨T, pT, rfl, hT⟩ := open_terms (hval 0 _ v0 rfl rfl) h0
  obtain ⟨mo, rfl, hmo⟩ := open_u8 (hval 1 _ v1 rfl rfl) h1
  obtain ⟨l, al, cl, rfl, hl, h8l⟩ := open_u8s (hval 2 _ v2 rfl rfl) h2
  clear hA0 hval0
  refine (termsSums_run T pT mo l al cl W hmo h8l hT hl).mono fun e W' ⟨he, bel⟩ => ?_
  subst he
  exact ⟨_, rfl, _, _, _, [], _, [], hW', trodAll_mk1 (shut_bool Tryz.underlying4 _), (trodAll_cons_mk (Below.trod laidO (by kernel_rfl) (of_decide_eq_true (by kernel_rfl)) h0 bel (lt h0)) (trodAll_cons_mk (Below.trod laidO (by kernel_rfl) (of_decide_eq_true (by kernel_rfl)) h1 bel (lt h1)) (trodAll_cons_mk (Below.trod laidO (by kernel_rfl) (of_decide_eq_true (by kernel_rfl)) h2 bel (lt h2)) trodAll_mk0))), rfl, bel.frame _, fun h => by cases h⟩
theorem termsSums_over : Rows.termsSumsRow.holds Tryz.pinned (OpenSpec.ofChange Rows.termsSumsSpec) :=
  OpenClaim.holds_of_wide 12 Tryz.f12 rfl rfl rfl rfl rfl rfl rfl ⟨rfl, rfl, rfl, rfl, rfl⟩ rfl rfl rfl rfl rfl (by kernel_rfl) Tryz.func12 (by kernel_rfl)
    (of_decide_eq_true (by kernel_rfl)) (by unfold Func.isWrapper; first | (rw [if_pos (by decide +kernel)]; kernel_rfl) | (rw [if_neg (by decide +kernel)]; exact ⟨rfl, rfl⟩))
    (fun os started H enc _ => termsSums_lifted os started H enc)
theorem termsSums_proved : Rows.TermsSumsSaid := termsSums_over
#print axioms termsSums_proved
end Go.Proofs.YtcjlegjchllgjaaGreat
end
