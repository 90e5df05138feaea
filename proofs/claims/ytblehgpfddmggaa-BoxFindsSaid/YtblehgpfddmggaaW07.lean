/- Own work: contracts of functions, from rows of what is known of the memory; contracts of functions, from rows of what is known of the memory; contracts of functions, from rows of what is known of the memory; contracts of functions, from rows of what is known of the memory; contracts of functions, from rows of what is known of the memory; contracts of functions, from rows of what is known of the memory; The law BoxTells returns true from whatever memory.; contracts of functions, from rows of what is known of the memory; Rooms, matches, boxes and lists that came in, opened. -/
import Derived.Test.YtblehgpfddmggaaW06
import Derived.OpenShut
import Derived.ProofKit
section
set_option linter.unusedVariables false
set_option linter.unusedSimpArgs false
namespace Go.Proofs.Ytblehgpfddmggaa
open Go Go.Fw
set_option maxRecDepth 10000
theorem EvF.castV {P : Program} {n : Nat} {H : List Row} {F : FS} {o : Oper} {v v' : Value} (h : v = v') (e : EvF P n H F o v) : EvF P n H F o v' := h ▸ e
theorem XO.permQ {P : Program} {n : Nat} {ops : Array Oper} {i : Nat} {F : FS} {H H' : List Row} {N : FS → List Row → Prop} (hp : H'.Perm H) (k : XO P n ops i F H' N) : XO P n ops i F H N := by
  unfold XO WO at *
  intro t ha ρ ds B w0 w hS
  exact k t ha ρ ds B w0 w (hS.perm hp)
theorem due1_spec (s : Sp) (n : Int) (b : Nat) (ow : Option Kd) (cap : Nat) (H : List Row) (hm : ⟨b, 0, [.int .i64 n], ow, cap⟩ ∈ H) : Fc Try.prog 75 ([.agg (cSp s).toArray] ++ [.pointer (some ⟨b, 0, none⟩)]) H (fun v H' => v = .bool (dueP n s) ∧ H' = H) := by
  show Fc Try.prog 75 [.agg (cSp s).toArray, .pointer (some ⟨b, 0, none⟩)] H _
  refine Fc.mk (callable Try.call75) Try.func75 rfl Try.ntmps75 rfl ?_; dsimp only [fr]
  repeat' (first | (refine XO.op rfl ?_; (first | ((first | refine Xo.ng rfl ?_); (first | (refine Xg.ev (EvF.loadV rfl rfl (LoadV.own (te rfl) rfl (List.Mem.tail _ hm) rfl)) rfl rfl ?_) | (refine Xg.ev (EvF.assign rfl rfl) rfl rfl ?_) | (refine Xg.ev (EvF.cmp rfl rfl rfl rfl) rfl rfl ?_) | (refine Xg.ev (EvF.fieldAddr rfl rfl (te rfl) rfl (te rfl) (by decide)) rfl rfl ?_) | (refine Xg.ev (EvF.loadV rfl rfl (LoadV.own (te rfl) rfl (List.Mem.head _) rfl)) rfl rfl ?_) | (refine Xg.st (StF.boxAgg rfl rfl) rfl rfl ?_; rintro _ _ ⟨bx, rfl, rfl⟩))))) | (refine XO.done rfl ?_; refine hK _ _ ?_; clear hK K) | refine X.seq rfl ?_ | refine X.region rfl (fun K hK => ?_) | refine X.ret rfl ?_)
  exact ret_one (v := .bool (dueP n s)) (by first | exact .inr rfl | exact .inl rfl) Try.results75 rfl (H' := H) (by (repeat (first | exact List.Sublist.refl _ | apply List.Sublist.cons_cons | apply List.Sublist.cons)); done) ⟨rfl, rfl⟩
/-- a month, a list and an error -/
def DueR (x : Int × List Int × Int) (H : List Row) (v : Value) (H' : List Row) : Prop := ∃ a c Z, v = .tuple #[.int .i64 x.1, .slice a x.2.1.length c, .int .i64 x.2.2] ∧ SlE (Z ++ H) a cI 1 x.2.1 ∧ H' = Z ++ H
set_option maxHeartbeats 16000000 in
theorem kDue_spec (R : Rm) (p : Pl) (n : Int) (H : List Row) (hR : RmOk H R p) (h2 : R.boxes.length ≤ 1000000) : Fc Try.prog 33 [.agg (cRm R p).toArray, .int .i64 n] H (DueR (dueF R n) H) := by
  obtain ⟨e0, he0⟩ : ∃ e, openE R [] [] = e := ⟨_, rfl⟩
  have hbt : ∀ (H' : List Row), BtOk H' ⟨[], none, 0, [], none, 0⟩ := fun H' => ⟨sleNil, sleNil, Nat.le_of_ble_eq_true rfl, Nat.le_of_ble_eq_true rfl⟩
  by_cases h0 : e0 = 0
  · subst h0
    obtain ⟨hok, _, _, hT⟩ := openE_ok he0
    have hr := hok.ok
    have hb4 := hr.b4
    have hm12 := hr.m12
    have hm1 := hr.m1
    have hF : dueF R n = dueS (lateL R n R.boxes) 0 R.months.toNat := by unfold dueF; rw [if_pos he0]; exact (late_due hr n _ 0 (by omega) (fun i hi => absurd hi (Nat.not_lt_zero _))).symm
    rw [hF]
    refine Fc.mk (callable Try.call33) Try.func33 rfl Try.ntmps33 rfl ?_; dsimp only [fr]
    repeat' (first | (refine XO.op rfl ?_; (first | ((first | refine Xo.ng rfl ?_); (first | (refine Xg.ev (EvF.cmp (b := false) rfl rfl rfl (congrArg some (nd_f (by omega)))) rfl rfl ?_) | (refine Xg.ev (EvF.build (cs := cBt ⟨[], none, 0, [], none, 0⟩) rfl ArgsP.nil (te rfl) (Places.cons (te rfl) (Places.cons (te rfl) Places.nil)) Try.zeroValue101 rfl) rfl rfl ?_) | (refine Xg.call (EnF.st rfl (by (repeat (first | exact Args.nil | refine Args.cons rfl ?_)); done)) rfl rfl (openY (hR.sub (fun _ h => by repeat (first | exact h | apply List.Mem.tail))) (hbt _) h2 he0) ?_; rintro _ _ ⟨b, k, hbk, rfl, rfl⟩) | (refine Xg.st (StF.alloc rfl Try.zeroValue96 rfl) rfl rfl ?_; rintro _ _ ⟨b7, rfl, rfl⟩) | (refine Xg.st0 (StF.storeAll (i := 0) (vs := cCt R p (some ⟨b, 0, none⟩) k) rfl rfl rfl (te rfl) rfl rfl rfl rfl) rfl ?_; rintro _ _ ⟨rfl, rfl⟩; dsimp only [List.set]) | (refine Xg.st (StF.makeMap .i64 rfl) rfl rfl ?_; rintro _ _ ⟨bm, rfl, rfl⟩) | (refine Xg.ev (EvF.move rfl rfl) rfl rfl ?_) | (refine Xg.ev (EvF.assign rfl rfl) rfl rfl ?_) | (refine Xg.ev (EvF.fieldAddr rfl rfl (te rfl) rfl (te rfl) (by decide)) rfl rfl ?_) | (refine Xg.ev (EvF.lenSlice rfl rfl (te rfl)) rfl rfl ?_) | (refine Xg.ev (EvF.loadV rfl rfl (LoadV.own (te rfl) rfl (List.Mem.tail _ (List.Mem.head _)) rfl)) rfl rfl ?_) | (refine Xg.ev (EvF.loadV rfl rfl (LoadV.whole (te rfl) rfl (List.Mem.tail _ (List.Mem.head _)) rfl)) rfl rfl ?_) | (refine Xg.ev (EvF.extract rfl rfl rfl) rfl rfl ?_) | (refine Xg.st (StF.boxAgg rfl rfl) rfl rfl ?_; rintro _ _ ⟨bx, rfl, rfl⟩) | (refine Xg.st (StF.boxOne rfl rfl rfl) rfl rfl ?_; rintro _ _ ⟨bx, rfl, rfl⟩))))) | (refine XO.done rfl ?_; refine hK _ _ ?_; clear hK K) | refine X.seq rfl ?_ | refine X.region rfl (fun K hK => ?_) | refine X.block rfl ?_ | refine X.skip rfl ?_ | (refine X.ite rfl rfl (fun hc => ?_); (first | (with_reducible refine Xb.f hc ?_)) <;> clear hc))
    all_goals try (exfalso; contradiction)
    rename_i b3
    generalize bx = b3
    have hfi := fun (e : Bx) (he : e ∈ R.boxes) S hC (hs : (⟨b3, 0, [.int .i64 n], some 3, 1⟩ : Row) ∈ S) => kfirst_spec R p (some ⟨b, 0, none⟩) k e.id 75 [.pointer (some ⟨b3, 0, none⟩)] (dueP n) S hr hok.mats hC hok.lens.ages hok.lens.mats hbk hT ⟨e, he, rfl⟩ (fun s S' hs' => due1_spec s n b3 (some 3) 1 S' (hs' _ hs))
    have hlt9 : ∀ S, RmOk S R p → ∀ (bb off : Nat), p.a2 = some ⟨bb, off, none⟩ → SlE S (some ⟨bb, off, none⟩) cBx 2 R.boxes := fun S hS bb off hq => by rw [← hq]; exact hS.boxes
    refine X.lp rfl (fun q F' H' => ∃ (i : Nat) (l : List Ent) (clk : Nat) (Z : List Row), q = R.boxes.length - i ∧ i ≤ R.boxes.length ∧ LtOk (lateL R n (R.boxes.take i)) l Z ∧ H' = mRow bm .i64 l clk :: (Z ++ ⟨b7, 0, cCt R p (some ⟨b, 0, none⟩) k, some 96, 6⟩ :: ⟨b, 0, (plcs R).flatMap cPk, some 104, k * 2⟩ :: ⟨b3, 0, [.int .i64 n], some 3, 1⟩ :: H) ∧ F' = [(3, .pointer (some ⟨b3, 0, none⟩)), (7, .pointer (some ⟨b7, 0, none⟩)), (8, .map (some bm)), (27, .slice p.a2 R.boxes.length p.c2), (28, .int .i64 R.boxes.length), (29, .int .i64 i)])
      R.boxes.length [(3, .pointer (some ⟨b3, 0, none⟩)), (7, .pointer (some ⟨b7, 0, none⟩)), (8, .map (some bm)), (27, .slice p.a2 R.boxes.length p.c2), (28, .int .i64 R.boxes.length), (29, .int .i64 (0 : Nat))] (mRow bm .i64 [] 0 :: ([] ++ ⟨b7, 0, cCt R p (some ⟨b, 0, none⟩) k, some 96, 6⟩ :: ⟨b, 0, (plcs R).flatMap cPk, some 104, k * 2⟩ :: ⟨b3, 0, [.int .i64 n], some 3, 1⟩ :: H)) (by (repeat (first | exact Sub.nil _ | refine Sub.cons rfl ?_)); done) (by rw [List.nil_append]; exact (by (repeat (first | exact List.Sublist.refl _ | apply List.Sublist.cons_cons | apply List.Sublist.cons)); done)) ⟨0, [], 0, [], by omega, by omega, LtOk.zero _ (fun k => rfl), rfl, rfl⟩ ?_
    · rintro _ _ _ ⟨i, l, clk, Z, rfl, hi, hLt, rfl, rfl⟩
      by_cases hlt : i < R.boxes.length
      · obtain ⟨bb, off, e, hq2, he⟩ := hR.boxes.elem (i := i) hlt
        have hbs := fun S hS => hlt9 S hS bb off hq2
        have hfi := fun S hC hs => hfi e (List.mem_of_getElem? he) S hC hs
        have hsn := lateL_snoc (R := R) (n := n) he
        have hll := lateL_len R n (R.boxes.take i)
        have htk := List.length_take (i := i) (l := R.boxes)
        obtain ⟨r, hr9⟩ : ∃ r, r = fstM (sinP R e.id (dueP n)) 0 R.months.toNat := ⟨_, rfl⟩
        rw [← hr9] at hfi hsn
        clear hr9
        rw [hq2]
        cases r with
        | none =>
          have hL' : lateL R n (R.boxes.take (i + 1)) = lateL R n (R.boxes.take i) := funext fun k => by rw [hsn k, if_neg (fun q => by cases q), List.append_nil]
          obtain ⟨G, hG⟩ : ∃ G, G = Z ++ ⟨b7, 0, cCt R p (some ⟨b, 0, none⟩) k, some 96, 6⟩ :: ⟨b, 0, (plcs R).flatMap cPk, some 104, k * 2⟩ :: ⟨b3, 0, [.int .i64 n], some 3, 1⟩ :: H := ⟨_, rfl⟩
          have hg7 : (⟨b7, 0, cCt R p (some ⟨b, 0, none⟩) k, some 96, 6⟩ : Row) ∈ G := by rw [hG]; exact List.mem_append_right _ (List.Mem.head _)
          have hgb : (⟨b, 0, (plcs R).flatMap cPk, some 104, k * 2⟩ : Row) ∈ G := by rw [hG]; exact List.mem_append_right _ (List.Mem.tail _ (List.Mem.head _))
          have hg3 : (⟨b3, 0, [.int .i64 n], some 3, 1⟩ : Row) ∈ G := by rw [hG]; exact List.mem_append_right _ (List.Mem.tail _ (List.Mem.tail _ (List.Mem.head _)))
          have hGR : RmOk G R p := hR.sub (fun r h => by rw [hG]; exact List.mem_append_right _ (List.Mem.tail _ (List.Mem.tail _ (List.Mem.tail _ h))))
          rw [← hG]
          repeat' (first | (refine XO.op rfl ?_; (first | ((first | refine Xo.ng rfl ?_); (first | (refine Xg.ev (EvF.cmp (b := true) rfl rfl rfl (congrArg some (decide_eq_true (by omega)))) rfl rfl ?_) | (refine Xg.ev (EvF.loadV rfl rfl (LoadV.whole (T := 96) (cs := cCt R p (some ⟨b, 0, none⟩) k) (te rfl) rfl (by repeat (first | exact hg7 | apply List.Mem.tail)) rfl)) rfl rfl ?_) | (refine Xg.ev (EvF.loadV rfl rfl (LoadV.elA0 (hbs _ (hGR.sub (fun _ h => by repeat (first | exact h | apply List.Mem.tail)))) he (te rfl) rfl (fun _ hm => hm) rfl)) rfl rfl ?_) | (refine Xg.ev (EvF.makeFunc (fl := []) rfl Args.nil (Args.cons rfl Args.nil)) rfl rfl ?_) | (refine Xg.call (EnF.st rfl (Args.cons rfl (Args.cons rfl (Args.cons rfl Args.nil)))) rfl rfl (hfi _ ⟨hGR.sub (fun _ h => by repeat (first | exact h | apply List.Mem.tail)), SlE.ofRow (by repeat (first | exact hgb | apply List.Mem.tail)) (fun _ _ => rfl)⟩ (by repeat (first | exact hg3 | apply List.Mem.tail))) ?_; rintro _ H9 ⟨rfl, hH9⟩; subst H9) | (refine Xg.ev (EvF.extract rfl rfl rfl) rfl rfl ?_) | (refine Xg.ev (EvF.move rfl rfl) rfl rfl ?_) | (refine Xg.ev (EvF.assign rfl rfl) rfl rfl ?_) | (refine Xg.ev (EvF.add64 rfl rfl rfl (by omega) (by omega)) rfl rfl ?_) | (refine Xg.ev (EvF.fieldAddr rfl rfl (te rfl) rfl (te rfl) (by decide)) rfl rfl ?_) | (refine Xg.ev (EvF.indexSlice rfl rfl rfl (te rfl) (te rfl) (by omega) (by omega)) rfl rfl ?_) | (refine Xg.ev (EvF.loadV rfl rfl (LoadV.own (te rfl) rfl (List.Mem.head _) rfl)) rfl rfl ?_) | (refine Xg.st (StF.alloc rfl Try.zeroValue35 rfl) rfl rfl ?_; rintro _ _ ⟨bx, rfl, rfl⟩) | (refine Xg.st0 (StF.storeAll (i := 0) rfl rfl rfl (te rfl) rfl rfl rfl rfl) rfl ?_; rintro _ _ ⟨rfl, rfl⟩; dsimp only [List.set]))))) | (refine XO.done rfl ?_; refine hK _ _ ?_; clear hK K) | refine X.seq rfl ?_ | refine X.region rfl (fun K hK => ?_) | refine X.block rfl ?_ | refine X.skip rfl ?_ | (refine X.ite rfl rfl (fun hc => ?_); (first | (with_reducible refine Xb.t hc ?_) | (with_reducible refine Xb.caseB hc (fun h => ?_) (fun h => ?_))) <;> clear hc))
          all_goals try (exfalso; contradiction)
          exact ⟨_, _, mRow bm .i64 l clk :: G, (by (repeat (first | exact Sub.nil _ | refine Sub.cons rfl ?_)); done), (by (repeat (first | exact List.Sublist.refl _ | apply List.Sublist.cons_cons | apply List.Sublist.cons)); done), ⟨i + 1, l, clk, Z, rfl, by omega, by rw [hL']; exact hLt, by rw [hG], rfl⟩, by omega⟩
        | some k0 =>
          have hv0 : firV (some k0) = (k0 : Int) := rfl
          rw [hv0] at hfi
          rcases hLt.look k0 with ⟨hk0, hat⟩ | ⟨j, b0, q0, hk0, hany, hjZ, ⟨en, hen, henk⟩, hat, hZj⟩
          · have hL' : ∀ k, lateL R n (R.boxes.take (i + 1)) k = if k = k0 then [e.id] else lateL R n (R.boxes.take i) k := fun k => by
              rw [hsn k]
              by_cases q : k = k0
              · rw [if_pos (congrArg some q.symm), if_pos q, q, hk0, List.nil_append]
              · rw [if_neg (fun h => q (Option.some.inj h).symm), if_neg q, List.append_nil]
            obtain ⟨G, hG⟩ : ∃ G, G = Z ++ ⟨b7, 0, cCt R p (some ⟨b, 0, none⟩) k, some 96, 6⟩ :: ⟨b, 0, (plcs R).flatMap cPk, some 104, k * 2⟩ :: ⟨b3, 0, [.int .i64 n], some 3, 1⟩ :: H := ⟨_, rfl⟩
            have hg7 : (⟨b7, 0, cCt R p (some ⟨b, 0, none⟩) k, some 96, 6⟩ : Row) ∈ G := by rw [hG]; exact List.mem_append_right _ (List.Mem.head _)
            have hgb : (⟨b, 0, (plcs R).flatMap cPk, some 104, k * 2⟩ : Row) ∈ G := by rw [hG]; exact List.mem_append_right _ (List.Mem.tail _ (List.Mem.head _))
            have hg3 : (⟨b3, 0, [.int .i64 n], some 3, 1⟩ : Row) ∈ G := by rw [hG]; exact List.mem_append_right _ (List.Mem.tail _ (List.Mem.tail _ (List.Mem.head _)))
            have hGR : RmOk G R p := hR.sub (fun r h => by rw [hG]; exact List.mem_append_right _ (List.Mem.tail _ (List.Mem.tail _ (List.Mem.tail _ h))))
            rw [← hG]
            repeat' (first | (refine XO.op rfl ?_; (first | ((first | refine Xo.ng rfl ?_); (first | (refine Xg.ev (EvF.cmp (b := true) rfl rfl rfl (congrArg some (decide_eq_true (by omega)))) rfl rfl ?_) | (refine Xg.ev (EvF.loadV rfl rfl (LoadV.whole (T := 96) (cs := cCt R p (some ⟨b, 0, none⟩) k) (te rfl) rfl (by repeat (first | exact hg7 | apply List.Mem.tail)) rfl)) rfl rfl ?_) | (refine Xg.ev (EvF.loadV rfl rfl (LoadV.elA0 (hbs _ (hGR.sub (fun _ h => by repeat (first | exact h | apply List.Mem.tail)))) he (te rfl) rfl (fun _ hm => hm) rfl)) rfl rfl ?_) | (refine Xg.ev (EvF.makeFunc (fl := []) rfl Args.nil (Args.cons rfl Args.nil)) rfl rfl ?_) | (refine Xg.call (EnF.st rfl (Args.cons rfl (Args.cons rfl (Args.cons rfl Args.nil)))) rfl rfl (hfi _ ⟨hGR.sub (fun _ h => by repeat (first | exact h | apply List.Mem.tail)), SlE.ofRow (by repeat (first | exact hgb | apply List.Mem.tail)) (fun _ _ => rfl)⟩ (by repeat (first | exact hg3 | apply List.Mem.tail))) ?_; rintro _ H9 ⟨rfl, hH9⟩; subst H9) | (refine Xg.ev (EvF.extract rfl rfl rfl) rfl rfl ?_) | (refine Xg.ev (EvF.castV (v' := .slice none 0 0) (by rw [hat]; rfl) (EvF.lookup (kd := .i64) (l := l) (clock := clk) (k := (k0 : Int)) (z := .slice none 0 0) rfl Try.underlying120 Try.underlying3 rfl rfl (by repeat (first | exact List.Mem.head _ | apply List.Mem.tail)) Try.zeroValue55)) rfl rfl ?_) | (refine Xg.st (StF.buildOne (v0 := .int .i64 e.id) rfl el55 rfl rfl rfl (by decide) (by decide)) rfl rfl ?_; rintro _ _ ⟨bs, rfl, rfl⟩) | (refine Xg.st (StF.appendNew rfl el55 rfl rfl (by decide) rfl (Rd.own (List.Mem.head _)) (by decide)) rfl rfl ?_; rintro _ _ ⟨bn, kn, rfl, rfl⟩) | (refine Xg.ev (EvF.move rfl rfl) rfl rfl ?_) | (refine Xg.ev (EvF.assign rfl rfl) rfl rfl ?_) | (refine Xg.ev (EvF.add64 rfl rfl rfl (by omega) (by omega)) rfl rfl ?_) | (refine Xg.ev (EvF.fieldAddr rfl rfl (te rfl) rfl (te rfl) (by decide)) rfl rfl ?_) | (refine Xg.ev (EvF.indexSlice rfl rfl rfl (te rfl) (te rfl) (by omega) (by omega)) rfl rfl ?_) | (refine Xg.ev (EvF.loadV rfl rfl (LoadV.own (te rfl) rfl (List.Mem.head _) rfl)) rfl rfl ?_) | (refine Xg.st (StF.alloc rfl Try.zeroValue35 rfl) rfl rfl ?_; rintro _ _ ⟨bx, rfl, rfl⟩) | (refine Xg.st0 (StF.storeAll (i := 0) rfl rfl rfl (te rfl) rfl rfl rfl rfl) rfl ?_; rintro _ _ ⟨rfl, rfl⟩; dsimp only [List.set]))))) | (refine XO.done rfl ?_; refine hK _ _ ?_; clear hK K) | refine X.seq rfl ?_ | refine X.region rfl (fun K hK => ?_) | refine X.block rfl ?_ | refine X.skip rfl ?_ | (refine X.ite rfl rfl (fun hc => ?_); (first | (with_reducible refine Xb.t hc ?_) | (with_reducible refine Xb.caseB hc (fun h => ?_) (fun h => ?_))) <;> clear hc))
            all_goals try (exfalso; contradiction)
            have hLt' := hLt.new (x := e.id) hk0 hL' clk bn kn
            refine XO.permQ (H' := ⟨bs, 0, [.int .i64 e.id], some 3, 1 * 1⟩ :: ⟨bx, 0, cBx e, some 81, 2⟩ :: mRow bm .i64 l clk :: ((Z ++ [⟨bn, 0, cI e.id, some 3, kn * 1⟩]) ++ ⟨b7, 0, cCt R p (some ⟨b, 0, none⟩) k, some 96, 6⟩ :: ⟨b, 0, (plcs R).flatMap cPk, some 104, k * 2⟩ :: ⟨b3, 0, [.int .i64 n], some 3, 1⟩ :: H)) ?_ ?_
            · refine List.Perm.trans ?_ (List.perm_middle (l₁ := [_, _, _]))
              refine ((List.Perm.cons _ (List.Perm.cons _ (List.Perm.cons _ ?_))))
              rw [List.append_assoc, hG]
              exact List.perm_middle
            repeat' (first | (refine XO.op rfl ?_; (first | ((first | refine Xo.ng rfl ?_); (first | (refine Xg.st0 (StF.mapUpdate (i := 2) (l := l) (clock := clk) (k := (k0 : Int)) rfl Try.underlying120 Try.underlying3 rfl rfl rfl rfl hLt.keys) rfl ?_; rintro _ _ ⟨rfl, rfl⟩; dsimp only [List.set]) | (refine Xg.ev (EvF.move rfl rfl) rfl rfl ?_) | (refine Xg.ev (EvF.add64 rfl rfl rfl (by omega) (by omega)) rfl rfl ?_))))) | (refine XO.done rfl ?_; refine hK _ _ ?_; clear hK K) | refine X.region rfl (fun K hK => ?_))
            all_goals try (exfalso; contradiction)
            exact ⟨_, _, mRow bm .i64 (insM l clk k0 (.slice (some ⟨bn, 0, none⟩) 1 kn)) (clkM l clk k0) :: ((Z ++ [⟨bn, 0, cI e.id, some 3, kn * 1⟩]) ++ ⟨b7, 0, cCt R p (some ⟨b, 0, none⟩) k, some 96, 6⟩ :: ⟨b, 0, (plcs R).flatMap cPk, some 104, k * 2⟩ :: ⟨b3, 0, [.int .i64 n], some 3, 1⟩ :: H), (by (repeat (first | exact Sub.nil _ | refine Sub.cons rfl ?_)); done), (by (repeat (first | exact List.Sublist.refl _ | apply List.Sublist.cons_cons | apply List.Sublist.cons)); done), ⟨i + 1, _, _, _, rfl, by omega, hLt', rfl, rfl⟩, by omega⟩
          · have hL' : ∀ k, lateL R n (R.boxes.take (i + 1)) k = if k = k0 then lateL R n (R.boxes.take i) k0 ++ [e.id] else lateL R n (R.boxes.take i) k := fun k => by
              rw [hsn k]
              by_cases q : k = k0
              · rw [if_pos (congrArg some q.symm), if_pos q, q]
              · rw [if_neg (fun h => q (Option.some.inj h).symm), if_neg q, List.append_nil]
            have hll0 := hll k0
            have hlen9 : ((lateL R n (R.boxes.take i) k0).flatMap cI).length = (lateL R n (R.boxes.take i) k0).length * 1 := lenI _
            refine X.permH (H' := ⟨b0, 0, (lateL R n (R.boxes.take i) k0).flatMap cI, some 3, q0 * 1⟩ :: mRow bm .i64 l clk :: (Z.eraseIdx j ++ ⟨b7, 0, cCt R p (some ⟨b, 0, none⟩) k, some 96, 6⟩ :: ⟨b, 0, (plcs R).flatMap cPk, some 104, k * 2⟩ :: ⟨b3, 0, [.int .i64 n], some 3, 1⟩ :: H)) ((List.Perm.swap _ _ _).trans (List.Perm.cons _ ((get_perm Z j _ hZj).append_right _).symm)) ?_
            obtain ⟨G, hG⟩ : ∃ G, G = Z.eraseIdx j ++ ⟨b7, 0, cCt R p (some ⟨b, 0, none⟩) k, some 96, 6⟩ :: ⟨b, 0, (plcs R).flatMap cPk, some 104, k * 2⟩ :: ⟨b3, 0, [.int .i64 n], some 3, 1⟩ :: H := ⟨_, rfl⟩
            have hg7 : (⟨b7, 0, cCt R p (some ⟨b, 0, none⟩) k, some 96, 6⟩ : Row) ∈ G := by rw [hG]; exact List.mem_append_right _ (List.Mem.head _)
            have hgb : (⟨b, 0, (plcs R).flatMap cPk, some 104, k * 2⟩ : Row) ∈ G := by rw [hG]; exact List.mem_append_right _ (List.Mem.tail _ (List.Mem.head _))
            have hg3 : (⟨b3, 0, [.int .i64 n], some 3, 1⟩ : Row) ∈ G := by rw [hG]; exact List.mem_append_right _ (List.Mem.tail _ (List.Mem.tail _ (List.Mem.head _)))
            have hGR : RmOk G R p := hR.sub (fun r h => by rw [hG]; exact List.mem_append_right _ (List.Mem.tail _ (List.Mem.tail _ (List.Mem.tail _ h))))
            rw [← hG]
            repeat' (first | (refine XO.op rfl ?_; (first | ((first | refine Xo.ng rfl ?_); (first | (refine Xg.ev (EvF.cmp (b := true) rfl rfl rfl (congrArg some (decide_eq_true (by omega)))) rfl rfl ?_) | (refine Xg.ev (EvF.loadV rfl rfl (LoadV.whole (T := 96) (cs := cCt R p (some ⟨b, 0, none⟩) k) (te rfl) rfl (by repeat (first | exact hg7 | apply List.Mem.tail)) rfl)) rfl rfl ?_) | (refine Xg.ev (EvF.loadV rfl rfl (LoadV.elA0 (hbs _ (hGR.sub (fun _ h => by repeat (first | exact h | apply List.Mem.tail)))) he (te rfl) rfl (fun _ hm => hm) rfl)) rfl rfl ?_) | (refine Xg.ev (EvF.makeFunc (fl := []) rfl Args.nil (Args.cons rfl Args.nil)) rfl rfl ?_) | (refine Xg.call (EnF.st rfl (Args.cons rfl (Args.cons rfl (Args.cons rfl Args.nil)))) rfl rfl (hfi _ ⟨hGR.sub (fun _ h => by repeat (first | exact h | apply List.Mem.tail)), SlE.ofRow (by repeat (first | exact hgb | apply List.Mem.tail)) (fun _ _ => rfl)⟩ (by repeat (first | exact hg3 | apply List.Mem.tail))) ?_; rintro _ H9 ⟨rfl, hH9⟩; subst H9) | (refine Xg.ev (EvF.extract rfl rfl rfl) rfl rfl ?_) | (refine Xg.ev (EvF.castV (v' := .slice (some ⟨b0, 0, none⟩) (lateL R n (R.boxes.take i) k0).length q0) (by rw [hat]; rfl) (EvF.lookup (kd := .i64) (l := l) (clock := clk) (k := (k0 : Int)) (z := .slice none 0 0) rfl Try.underlying120 Try.underlying3 rfl rfl (by repeat (first | exact List.Mem.head _ | apply List.Mem.tail)) Try.zeroValue55)) rfl rfl ?_) | (refine Xg.st (StF.buildOne (v0 := .int .i64 e.id) rfl el55 rfl rfl rfl (by decide) (by decide)) rfl rfl ?_; rintro _ _ ⟨bs, rfl, rfl⟩) | (refine Xg.st (StF.appendOwn (i := 2) rfl el55 rfl rfl rfl hlen9 rfl (Rd.own (List.Mem.head _)) rfl (by omega)) rfl rfl ?_; rintro _ _ ⟨bn, kn, rfl, rfl⟩; dsimp only [List.eraseIdx]) | (refine Xg.ev (EvF.move rfl rfl) rfl rfl ?_) | (refine Xg.ev (EvF.assign rfl rfl) rfl rfl ?_) | (refine Xg.ev (EvF.add64 rfl rfl rfl (by omega) (by omega)) rfl rfl ?_) | (refine Xg.ev (EvF.fieldAddr rfl rfl (te rfl) rfl (te rfl) (by decide)) rfl rfl ?_) | (refine Xg.ev (EvF.indexSlice rfl rfl rfl (te rfl) (te rfl) (by omega) (by omega)) rfl rfl ?_) | (refine Xg.ev (EvF.loadV rfl rfl (LoadV.own (te rfl) rfl (List.Mem.head _) rfl)) rfl rfl ?_) | (refine Xg.st (StF.alloc rfl Try.zeroValue35 rfl) rfl rfl ?_; rintro _ _ ⟨bx, rfl, rfl⟩) | (refine Xg.st0 (StF.storeAll (i := 0) rfl rfl rfl (te rfl) rfl rfl rfl rfl) rfl ?_; rintro _ _ ⟨rfl, rfl⟩; dsimp only [List.set]))))) | (refine XO.done rfl ?_; refine hK _ _ ?_; clear hK K) | refine X.seq rfl ?_ | refine X.region rfl (fun K hK => ?_) | refine X.block rfl ?_ | refine X.skip rfl ?_ | (refine X.ite rfl rfl (fun hc => ?_); (first | (with_reducible refine Xb.t hc ?_) | (with_reducible refine Xb.caseB hc (fun h => ?_) (fun h => ?_))) <;> clear hc))
            all_goals try (exfalso; contradiction)
            have hLt' := hLt.set (x := e.id) hen henk hany hL' clk bn kn
            refine XO.permQ (H' := ⟨bs, 0, [.int .i64 e.id], some 3, 1 * 1⟩ :: ⟨bx, 0, cBx e, some 81, 2⟩ :: mRow bm .i64 l clk :: ((Z.set j ⟨bn, 0, (lateL R n (R.boxes.take i) k0 ++ [e.id]).flatMap cI, some 3, kn * 1⟩) ++ ⟨b7, 0, cCt R p (some ⟨b, 0, none⟩) k, some 96, 6⟩ :: ⟨b, 0, (plcs R).flatMap cPk, some 104, k * 2⟩ :: ⟨b3, 0, [.int .i64 n], some 3, 1⟩ :: H)) ?_ ?_
            · rw [List.flatMap_append]
              refine List.Perm.trans ?_ (List.perm_middle (l₁ := [_, _, _]))
              refine ((List.Perm.cons _ (List.Perm.cons _ (List.Perm.cons _ ?_))))
              rw [hG]
              exact (set_perm Z j _ hjZ).append_right _
            repeat' (first | (refine XO.op rfl ?_; (first | ((first | refine Xo.ng rfl ?_); (first | (refine Xg.st0 (StF.mapUpdate (i := 2) (l := l) (clock := clk) (k := (k0 : Int)) rfl Try.underlying120 Try.underlying3 rfl rfl rfl rfl hLt.keys) rfl ?_; rintro _ _ ⟨rfl, rfl⟩; dsimp only [List.set]) | (refine Xg.ev (EvF.move rfl rfl) rfl rfl ?_) | (refine Xg.ev (EvF.add64 rfl rfl rfl (by omega) (by omega)) rfl rfl ?_))))) | (refine XO.done rfl ?_; refine hK _ _ ?_; clear hK K) | refine X.region rfl (fun K hK => ?_))
            all_goals try (exfalso; contradiction)
            exact ⟨_, _, mRow bm .i64 (insM l clk k0 (.slice (some ⟨bn, 0, none⟩) ((lateL R n (R.boxes.take i) k0).length + 1) kn)) (clkM l clk k0) :: ((Z.set j ⟨bn, 0, (lateL R n (R.boxes.take i) k0 ++ [e.id]).flatMap cI, some 3, kn * 1⟩) ++ ⟨b7, 0, cCt R p (some ⟨b, 0, none⟩) k, some 96, 6⟩ :: ⟨b, 0, (plcs R).flatMap cPk, some 104, k * 2⟩ :: ⟨b3, 0, [.int .i64 n], some 3, 1⟩ :: H), (by (repeat (first | exact Sub.nil _ | refine Sub.cons rfl ?_)); done), (by (repeat (first | exact List.Sublist.refl _ | apply List.Sublist.cons_cons | apply List.Sublist.cons)); done), ⟨i + 1, _, _, _, rfl, by omega, hLt', rfl, rfl⟩, by omega⟩
      · obtain rfl : i = R.boxes.length := by omega
        rw [List.take_length] at hLt
        obtain ⟨D, hD⟩ : ∃ D, D = dueS (lateL R n R.boxes) 0 R.months.toNat := ⟨_, rfl⟩
        rw [← hD]
        have hg7 : (⟨b7, 0, cCt R p (some ⟨b, 0, none⟩) k, some 96, 6⟩ : Row) ∈ mRow bm .i64 l clk :: (Z ++ ⟨b7, 0, cCt R p (some ⟨b, 0, none⟩) k, some 96, 6⟩ :: ⟨b, 0, (plcs R).flatMap cPk, some 104, k * 2⟩ :: ⟨b3, 0, [.int .i64 n], some 3, 1⟩ :: H) := List.Mem.tail _ (List.mem_append_right _ (List.Mem.head _))
        repeat' (first | (refine XO.op rfl ?_; (first | ((first | refine Xo.ng rfl ?_); (first | (refine Xg.ev (EvF.cmp (b := false) rfl rfl rfl (congrArg some (decide_eq_false (by omega)))) rfl rfl ?_) | (refine Xg.ev (EvF.loadV rfl rfl (LoadV.own (cs := cCt R p (some ⟨b, 0, none⟩) k) (te rfl) rfl hg7 rfl)) rfl rfl ?_) | (refine Xg.ev (EvF.move rfl rfl) rfl rfl ?_) | (refine Xg.ev (EvF.fieldAddr rfl rfl (te rfl) rfl (te rfl) (by decide)) rfl rfl ?_))))) | (refine XO.done rfl ?_; refine hK _ _ ?_; clear hK K) | refine X.seq rfl ?_ | refine X.region rfl (fun K hK => ?_) | refine X.block rfl ?_ | (refine X.brk rfl ?_; repeat (first | refine blockX_hit rfl ?_ | refine blockX_miss (by decide) ?_)) | (refine X.ite rfl rfl (fun hc => ?_); (first | (with_reducible refine Xb.f hc ?_)) <;> clear hc))
        all_goals try (exfalso; contradiction)
        refine X.lp rfl (fun q F' H' => ∃ (m : Nat), q = R.months.toNat - m ∧ (m : Int) ≤ R.months ∧ dueS (lateL R n R.boxes) m (R.months.toNat - m) = D ∧ H' = mRow bm .i64 l clk :: (Z ++ ⟨b7, 0, cCt R p (some ⟨b, 0, none⟩) k, some 96, 6⟩ :: ⟨b, 0, (plcs R).flatMap cPk, some 104, k * 2⟩ :: ⟨b3, 0, [.int .i64 n], some 3, 1⟩ :: H) ∧ F' = [(8, .map (some bm)), (54, .int .i64 R.months), (55, .int .i64 m)])
          R.months.toNat [(8, .map (some bm)), (54, .int .i64 R.months), (55, .int .i64 (0 : Nat))] (mRow bm .i64 l clk :: (Z ++ ⟨b7, 0, cCt R p (some ⟨b, 0, none⟩) k, some 96, 6⟩ :: ⟨b, 0, (plcs R).flatMap cPk, some 104, k * 2⟩ :: ⟨b3, 0, [.int .i64 n], some 3, 1⟩ :: H)) (by (repeat (first | exact Sub.nil _ | refine Sub.cons rfl ?_)); done) (List.Sublist.refl _) ⟨0, rfl, by omega, hD.symm, rfl, rfl⟩ ?_
        rintro _ _ _ ⟨m, rfl, hm2, hDm, rfl, rfl⟩
        by_cases hlm : (m : Int) < R.months
        · obtain ⟨q9, hq9⟩ : ∃ q9, R.months.toNat - m = q9 + 1 := ⟨R.months.toNat - m - 1, by omega⟩
          rw [hq9] at hDm
          unfold dueS at hDm
          rcases hLt.look m with ⟨hk0, hat⟩ | ⟨j, b0, q0, hk0, hany, hjZ, _, hat, hZj⟩
          · rw [if_pos (by rw [hk0]; rfl)] at hDm
            repeat' (first | (refine XO.op rfl ?_; (first | ((first | refine Xo.ng rfl ?_); (first | (refine Xg.ev (EvF.cmp (b := true) rfl rfl rfl (congrArg some (decide_eq_true (by omega)))) rfl rfl ?_) | (refine Xg.ev (EvF.cmp (b := false) rfl rfl rfl (congrArg some (decide_eq_false (by omega)))) rfl rfl ?_) | (refine Xg.ev (EvF.castV (v' := .slice none 0 0) (by rw [hat]; rfl) (EvF.lookup (kd := .i64) (l := l) (clock := clk) (k := (m : Int)) (z := .slice none 0 0) rfl Try.underlying120 Try.underlying3 rfl rfl (by repeat (first | exact List.Mem.head _ | apply List.Mem.tail)) Try.zeroValue55)) rfl rfl ?_) | (refine Xg.ev (EvF.move rfl rfl) rfl rfl ?_) | (refine Xg.ev (EvF.assign rfl rfl) rfl rfl ?_) | (refine Xg.ev (EvF.add64 rfl rfl rfl (by omega) (by omega)) rfl rfl ?_) | (refine Xg.ev (EvF.lenSlice rfl rfl (te rfl)) rfl rfl ?_))))) | (refine XO.done rfl ?_; refine hK _ _ ?_; clear hK K) | refine X.seq rfl ?_ | refine X.region rfl (fun K hK => ?_) | refine X.block rfl ?_ | refine X.skip rfl ?_ | (refine X.ite rfl rfl (fun hc => ?_); (first | (with_reducible refine Xb.t hc ?_) | (with_reducible refine Xb.f hc ?_)) <;> clear hc))
            all_goals try (exfalso; contradiction)
            exact ⟨_, _, mRow bm .i64 l clk :: (Z ++ ⟨b7, 0, cCt R p (some ⟨b, 0, none⟩) k, some 96, 6⟩ :: ⟨b, 0, (plcs R).flatMap cPk, some 104, k * 2⟩ :: ⟨b3, 0, [.int .i64 n], some 3, 1⟩ :: H), (by (repeat (first | exact Sub.nil _ | refine Sub.cons rfl ?_)); done), (by (repeat (first | exact List.Sublist.refl _ | apply List.Sublist.cons_cons | apply List.Sublist.cons)); done), ⟨m + 1, rfl, by omega, by rw [show R.months.toNat - (m + 1) = q9 by omega]; exact hDm, rfl, rfl⟩, by omega⟩
          · have hpos : 0 < (lateL R n R.boxes m).length := List.length_pos_iff.2 hk0
            rw [if_neg (by omega)] at hDm
            repeat' (first | (refine XO.op rfl ?_; (first | ((first | refine Xo.ng rfl ?_); (first | (refine Xg.ev (EvF.cmp (b := true) rfl rfl rfl (congrArg some (decide_eq_true (by omega)))) rfl rfl ?_) | (refine Xg.ev (EvF.castV (v' := .slice (some ⟨b0, 0, none⟩) (lateL R n R.boxes m).length q0) (by rw [hat]; rfl) (EvF.lookup (kd := .i64) (l := l) (clock := clk) (k := (m : Int)) (z := .slice none 0 0) rfl Try.underlying120 Try.underlying3 rfl rfl (by repeat (first | exact List.Mem.head _ | apply List.Mem.tail)) Try.zeroValue55)) rfl rfl ?_) | (refine Xg.ev (EvF.move rfl rfl) rfl rfl ?_) | (refine Xg.ev (EvF.assign rfl rfl) rfl rfl ?_) | (refine Xg.ev (EvF.lenSlice rfl rfl (te rfl)) rfl rfl ?_))))) | (refine XO.done rfl ?_; refine hK _ _ ?_; clear hK K) | refine X.seq rfl ?_ | refine X.region rfl (fun K hK => ?_) | refine X.block rfl ?_ | refine X.skip rfl ?_ | refine X.ret rfl ?_ | (refine X.ite rfl rfl (fun hc => ?_); (first | (with_reducible refine Xb.t hc ?_)) <;> clear hc))
            all_goals try (exfalso; contradiction)
            refine ret_three (by first | exact .inr rfl | exact .inl rfl) Try.results33 rfl rfl rfl (H' := ⟨b0, 0, (lateL R n R.boxes m).flatMap cI, some 3, q0 * 1⟩ :: H) (List.Sublist.cons _ (List.Sublist.append (l₁ := [_]) (List.singleton_sublist.2 (List.mem_of_getElem? hZj)) (List.Sublist.cons _ (List.Sublist.cons _ (List.Sublist.cons _ (List.Sublist.refl _)))))) ?_
            rw [← hDm]
            exact ⟨some ⟨b0, 0, none⟩, q0, [_], rfl, SlE.ofRow (List.Mem.head _) (fun _ _ => rfl), rfl⟩
        · rw [show R.months.toNat - m = 0 by omega] at hDm
          repeat' (first | (refine XO.op rfl ?_; (first | ((first | refine Xo.ng rfl ?_); (first | (refine Xg.ev (EvF.cmp (b := false) rfl rfl rfl (congrArg some (decide_eq_false (by omega)))) rfl rfl ?_) | (refine Xg.ev (EvF.assign rfl rfl) rfl rfl ?_))))) | (refine XO.done rfl ?_; refine hK _ _ ?_; clear hK K) | refine X.seq rfl ?_ | refine X.region rfl (fun K hK => ?_) | (refine X.brk rfl ?_; repeat (first | refine blockX_hit rfl ?_ | refine blockX_miss (by decide) ?_)) | refine X.ret rfl ?_ | (refine X.ite rfl rfl (fun hc => ?_); (first | (with_reducible refine Xb.f hc ?_)) <;> clear hc))
          all_goals try (exfalso; contradiction)
          refine ret_three (by first | exact .inr rfl | exact .inl rfl) Try.results33 rfl rfl rfl (H' := H) (List.Sublist.cons _ ((List.Sublist.cons _ (List.Sublist.cons _ (List.Sublist.cons _ (List.Sublist.refl _)))).trans (List.sublist_append_right _ _))) ?_
          rw [← hDm]
          exact ⟨none, 0, [], rfl, sleNil, rfl⟩
  · have hF : dueF R n = (0, [], e0) := by unfold dueF; rw [if_neg (by rw [he0]; exact h0), he0]
    rw [hF]
    refine Fc.mk (callable Try.call33) Try.func33 rfl Try.ntmps33 rfl ?_; dsimp only [fr]
    repeat' (first | (refine XO.op rfl ?_; (first | ((first | refine Xo.ng rfl ?_); (first | (refine Xg.ev (EvF.cmp (b := true) rfl rfl rfl (congrArg some (nd_t (by omega)))) rfl rfl ?_) | (refine Xg.ev (EvF.build (cs := cBt ⟨[], none, 0, [], none, 0⟩) rfl ArgsP.nil (te rfl) (Places.cons (te rfl) (Places.cons (te rfl) Places.nil)) Try.zeroValue101 rfl) rfl rfl ?_) | (refine Xg.call (EnF.st rfl (Args.cons rfl (Args.cons rfl Args.nil))) rfl rfl (openN (hR.sub (fun _ h => by repeat (first | exact h | apply List.Mem.tail))) (hbt _) h2 he0 h0) ?_; rintro _ H9 ⟨rfl, hH9⟩; subst H9) | (refine Xg.st (StF.alloc rfl Try.zeroValue96 rfl) rfl rfl ?_; rintro _ _ ⟨b7, rfl, rfl⟩) | (refine Xg.st0 (StF.storeAll (i := 0) (vs := zCt) rfl rfl rfl (te rfl) rfl rfl rfl rfl) rfl ?_; rintro _ _ ⟨rfl, rfl⟩; dsimp only [List.set]) | (refine Xg.ev (EvF.move rfl rfl) rfl rfl ?_) | (refine Xg.ev (EvF.assign rfl rfl) rfl rfl ?_) | (refine Xg.ev (EvF.loadV rfl rfl (LoadV.whole (te rfl) rfl (List.Mem.tail _ (List.Mem.head _)) rfl)) rfl rfl ?_) | (refine Xg.ev (EvF.extract rfl rfl rfl) rfl rfl ?_) | (refine Xg.st (StF.boxAgg rfl rfl) rfl rfl ?_; rintro _ _ ⟨bx, rfl, rfl⟩) | (refine Xg.st (StF.boxOne rfl rfl rfl) rfl rfl ?_; rintro _ _ ⟨bx, rfl, rfl⟩))))) | (refine XO.done rfl ?_; refine hK _ _ ?_; clear hK K) | refine X.seq rfl ?_ | refine X.region rfl (fun K hK => ?_) | refine X.ret rfl ?_ | (refine X.ite rfl rfl (fun hc => ?_); (first | (with_reducible refine Xb.t hc ?_)) <;> clear hc))
    all_goals try (exfalso; contradiction)
    exact ret_three (by first | exact .inr rfl | exact .inl rfl) Try.results33 rfl rfl rfl (H' := H) (by (repeat (first | exact List.Sublist.refl _ | apply List.Sublist.cons)); done) ⟨none, 0, [], rfl, sleNil, rfl⟩
end Go.Proofs.Ytblehgpfddmggaa
end
section
set_option linter.unusedVariables false
set_option linter.unusedSimpArgs false
namespace Go.Proofs.Ytblehgpfddmggaa
open Go Go.Fw
set_option maxRecDepth 10000
def frE (m : Int) (x : Bx) (l : List Bx) : List Mt := (l.filter (fun y => decide (y.made ≤ m) && decide (y.id ≠ x.id))).map (fun y => ⟨0, m, y.id, x.id, 0, 60⟩)
theorem frE_snoc {m : Int} {x : Bx} {l : List Bx} {k : Nat} {e : Bx} (he : l[k]? = some e) : frE m x (l.take (k + 1)) = frE m x (l.take k) ++ (if e.made ≤ m ∧ e.id ≠ x.id then [⟨0, m, e.id, x.id, 0, 60⟩] else []) := by
  unfold frE
  rw [take_snoc he, List.filter_append, List.map_append]
  by_cases h : e.made ≤ m ∧ e.id ≠ x.id
  · rw [if_pos h, List.filter_cons_of_pos (by simpa using h)]; rfl
  · rw [if_neg h, List.filter_cons_of_neg (by simpa using h)]; rfl
theorem frE_len (m : Int) (x : Bx) (l : List Bx) : (frE m x l).length ≤ l.length := by
  unfold frE
  rw [List.length_map]
  exact List.length_filter_le _ _
theorem mem_frE {R : Rm} {m : Int} {x : Bx} (h : m ≤ R.months - 1) (e : Mt) : e ∈ frE m x R.boxes ↔ ∃ y, there R y m ∧ y.id ≠ x.id ∧ e = ⟨0, m, y.id, x.id, 0, 60⟩ := by
  unfold frE
  constructor
  · intro q
    obtain ⟨y, hy, rfl⟩ := List.mem_map.1 q
    have h1 := List.mem_filter.1 hy
    have h2 : y.made ≤ m ∧ y.id ≠ x.id := by simpa using h1.2
    exact ⟨y, ⟨h1.1, h2.1, h⟩, h2.2, rfl⟩
  · rintro ⟨y, hy, hn, rfl⟩
    exact List.mem_map.2 ⟨y, List.mem_filter.2 ⟨hy.1, by simpa using ⟨hy.2.1, hn⟩⟩, rfl⟩
noncomputable def frT (R : Rm) (m : Int) (l : List Bx) : List Int := (l.filter (fun b => decide (b.made ≤ m) && !stale R m b.id)).map (·.id)
theorem frT_snoc {R : Rm} {m : Int} {l : List Bx} {k : Nat} {e : Bx} (he : l[k]? = some e) : frT R m (l.take (k + 1)) = frT R m (l.take k) ++ (if e.made ≤ m ∧ stale R m e.id = false then [e.id] else []) := by
  unfold frT
  rw [take_snoc he, List.filter_append, List.map_append]
  by_cases h : e.made ≤ m ∧ stale R m e.id = false
  · rw [if_pos h, List.filter_cons_of_pos (by simpa using h)]; rfl
  · rw [if_neg h, List.filter_cons_of_neg (by simpa using h)]; rfl
theorem frT_len (R : Rm) (m : Int) (l : List Bx) : (frT R m l).length ≤ l.length := by
  unfold frT
  rw [List.length_map]
  exact List.length_filter_le _ _
theorem fresh_mats {R : Rm} {m : Int} {x : Bx} (hm : matsThere R R.mats) (hx : there R x m) : matsThere R (R.mats ++ frE m x R.boxes) := by
  intro e he
  rcases List.mem_append.1 he with he | he
  · exact hm e he
  · obtain ⟨y, hy, _, rfl⟩ := (mem_frE hx.2.2 e).1 he
    exact ⟨⟨y, hy, rfl⟩, ⟨x, hx, rfl⟩, by show (-60 : Int) ≤ 0; omega, by show (0 : Int) ≤ 60; omega, by show (60 : Int) ≤ 60; omega⟩
theorem fclosed_spec (R : Rm) (p : Pl) (m : Int) (x : Bx) (c : List Sp) (bl kl : Nat) (S : List Row) (hr : okRm R) (hm : matsThere R R.mats) (hlm : R.mats.length ≤ 90) (hA : As R 0 c) (hx : there R x m) (hS : RmOk S R p) (ml : ⟨bl, 0, (R.mats ++ frE m x R.boxes).flatMap cMt, some 114, kl * 6⟩ ∈ S) :
    Fc Try.prog 84 [.agg (cRm R p).toArray, .slice (some ⟨bl, 0, none⟩) (R.mats ++ frE m x R.boxes).length kl, .agg (c.flatMap cSp).toArray] S (fun v H' => ∃ l : List Sp, l.length = 48 ∧ v = .tuple #[.agg (l.flatMap cSp).toArray, .bool (!stale R m x.id)] ∧ H' = S) := by
  have hl := frE_len m x R.boxes
  have hb4 := hr.b4
  have hm2 := fresh_mats hm hx
  have hst : (stale R m x.id = false) ↔ hasT R (R.mats ++ frE m x R.boxes) := (stale_iff hx.2.2 x.id).trans (fresh_iff hr hm hA.hT hx (mem_frE hx.2.2)).symm
  refine (closed_spec R p (R.mats ++ frE m x R.boxes) (some ⟨bl, 0, none⟩) kl c S hr hS (SlE.ofRow ml (fun _ _ => rfl)) (by rw [List.length_append]; omega) hm2 hA.good.len hA.good.ok).mono fun v H' ⟨l, hH, h⟩ => ?_
  rcases h with ⟨h1, hv⟩ | ⟨h1, h2, hv⟩
  · have : stale R m x.id = false := hst.2 ⟨_, h1.fix.zlo hr hm2 (h1.ages hA.good.ages)⟩
    exact ⟨l, h1.len, by rw [hv, this]; rfl, hH⟩
  · have : stale R m x.id = true := by
      cases q : stale R m x.id with
      | true => rfl
      | false =>
        obtain ⟨z, hz⟩ := hst.1 q
        exact absurd (hA.good.inn z (hz.mono (fun e he => List.mem_append_left _ he))) (h2 z hz)
    exact ⟨l, h1, by rw [hv, this]; rfl, hH⟩
theorem rThereI (R : Rm) (p : Pl) (m : Int) (i : Nat) (e : Bx) (H : List Row) (hR : RmOk H R p) (hr : okRm R) (hm : 0 ≤ m ∧ m ≤ R.months - 1) (he : R.boxes[i]? = some e) : Fc Try.prog 77 [.agg (cRm R p).toArray, .int .i64 i, .int .i64 m] H (fun v H' => v = .bool (decide (e.made ≤ m)) ∧ H' = H) := by
  have hi := index_box hr.bx he
  have h0 : 0 ≤ index R.boxes e.id := by omega
  have := rThere_spec R p e.id m H hR ⟨hr.m1, hr.m12⟩ h0
  have hb : bxAt R.boxes e.id = e := by
    have h1 := index_get h0
    rw [hi] at h1
    have h2 : R.boxes[((i : Nat) : Int).toNat]? = some e := he
    rw [h2] at h1
    exact (Option.some.inj h1).symm
  rw [hi, hb] at this
  refine this.mono fun v H' ⟨h1, h2⟩ => ⟨by rw [h1]; congr 1; exact decide_eq_decide.2 ⟨fun q => q.2, fun q => ⟨hm, q⟩⟩, h2⟩
end Go.Proofs.Ytblehgpfddmggaa
end
section
set_option linter.unusedVariables false
set_option linter.unusedSimpArgs false
namespace Go.Proofs.Ytblehgpfddmggaa
open Go Go.Fw
set_option maxRecDepth 10000
noncomputable def dueT (R : Rm) (n : Int) (m : Nat) (l : List Bx) : List Int := (l.filter (fun b => decide (b.made ≤ (m : Int)) && decide (n < (rng R R.mats ⟨b.id, m⟩ zp).hi))).map (·.id)
theorem dueT_snoc {R : Rm} {n : Int} {m : Nat} {l : List Bx} {k : Nat} {e : Bx} (he : l[k]? = some e) : dueT R n m (l.take (k + 1)) = dueT R n m (l.take k) ++ (if e.made ≤ (m : Int) ∧ n < (rng R R.mats ⟨e.id, m⟩ zp).hi then [e.id] else []) := by
  unfold dueT
  rw [take_snoc he, List.filter_append, List.map_append]
  by_cases h : e.made ≤ (m : Int) ∧ n < (rng R R.mats ⟨e.id, m⟩ zp).hi
  · rw [if_pos h, List.filter_cons_of_pos (by simpa using h)]; rfl
  · rw [if_neg h, List.filter_cons_of_neg (by simpa using h)]; rfl
theorem openE00 (R : Rm) : openE R [] [] = if roomOk R then (if hasT R R.mats then 0 else 8) else 10 := by
  unfold openE
  have h1 : inTime R [] [] := fun m hm => absurd hm List.not_mem_nil
  have h2 : allThere R [] := fun m hm => absurd hm List.not_mem_nil
  rw [if_pos h1, if_pos h2]
set_option maxHeartbeats 16000000 in
theorem rDue_spec (R : Rm) (p : Pl) (n : Int) (H : List Row) (hR : RmOk H R p) : Fc Try.prog 34 [.agg (cRm R p).toArray, .int .i64 n] H (DueR (dueF R n) H) := by
  have hE := openE00 R
  by_cases hok : roomOk R
  · rw [if_pos hok] at hE
    have hr := hok.ok
    have hm12 := hr.m12
    have hm1 := hr.m1
    have hb4 := hr.b4
    have hlm : R.mats.length ≤ 100 := by have := hok.1.2.2.2.2.2.2; omega
    have hrs : ∀ r1, Fc Try.prog 47 [.agg (cRm R p).toArray] (r1 :: H) (fun v H' => v = .bool true ∧ H' = r1 :: H) := fun r1 => by
      have := room_spec R p (r1 :: H) (hR.sub (fun _ h => List.Mem.tail _ h))
      rwa [decide_eq_true hok] at this
    refine Fc.mk (callable Try.call34) Try.func34 rfl Try.ntmps34 rfl ?_; dsimp only [fr]
    repeat' (first | (refine XO.op rfl ?_; (first | ((first | refine Xo.ng rfl ?_); (first | (refine Xg.ev (EvF.loadV rfl rfl (LoadV.whole (T := 26) (cs := cRm R p) (te rfl) rfl (by repeat (first | exact List.Mem.head _ | apply List.Mem.tail)) rfl)) rfl rfl ?_) | (refine Xg.call (EnF.st rfl (Args.cons rfl Args.nil)) rfl rfl (hrs _) ?_; rintro _ H9 ⟨rfl, hH9⟩; subst H9) | (refine Xg.call (EnF.st rfl (by (repeat (first | exact Args.nil | refine Args.cons rfl ?_)); done)) rfl rfl (found_spec R _ _ hr hok.mats hlm (hR.sub (fun _ h => by repeat (first | exact h | apply List.Mem.tail)))) ?_; rintro _ _ ⟨x, hx, rfl, rfl⟩) | (refine Xg.ev (EvF.extract rfl rfl rfl) rfl rfl ?_) | (refine Xg.st (StF.alloc rfl Try.zeroValue107 rfl) rfl rfl ?_; rintro _ _ ⟨b7, rfl, rfl⟩) | (refine Xg.st0 (StF.storeAll (i := 0) (vs := x.1.flatMap cSp) (cs := zRc.flatMap cSp) rfl rfl rfl (te rfl) rfl hx.len96 (sp_one _) (by rw [hx.len96, sp_len]; rfl)) rfl ?_; rintro _ _ ⟨rfl, rfl⟩; dsimp only [List.set]) | (refine Xg.ev (EvF.move rfl rfl) rfl rfl ?_) | (refine Xg.ev (EvF.assign rfl rfl) rfl rfl ?_) | (refine Xg.ev (EvF.not rfl rfl) rfl rfl ?_) | (refine Xg.st (StF.boxAgg rfl rfl) rfl rfl ?_; rintro _ _ ⟨bx, rfl, rfl⟩))))) | (refine XO.done rfl ?_; refine hK _ _ ?_; clear hK K) | refine X.seq rfl ?_ | refine X.region rfl (fun K hK => ?_) | refine X.block rfl ?_ | refine X.skip rfl ?_ | refine X.ret rfl ?_ | (refine X.ite rfl rfl (fun hc => ?_); (first | (with_reducible refine Xb.caseB hc (fun h => ?_) (fun h => ?_))) <;> clear hc))
    · exact absurd (by assumption : (!true) = true) (by decide)
    · have hn : ¬ hasT R R.mats := hx.no (by simpa using (by assumption : (!x.2) = true))
      rw [if_neg hn] at hE
      have hF : dueF R n = (0, [], 8) := by unfold dueF; rw [if_neg (by rw [hE]; decide), hE]
      rw [hF]
      exact ret_three (by first | exact .inr rfl | exact .inl rfl) Try.results34 rfl rfl rfl (H' := H) (by (repeat (first | exact List.Sublist.refl _ | apply List.Sublist.cons_cons | apply List.Sublist.cons)); done) ⟨none, 0, [], rfl, sleNil, rfl⟩
    · obtain ⟨y1, y2, y3⟩ := hx.yes (by simpa using (by assumption : (!x.2) = false))
      rw [if_pos y1] at hE
      obtain ⟨D, hD⟩ : ∃ D, D = dueS (dueL R n) 0 R.months.toNat := ⟨_, rfl⟩
      have hF : dueF R n = D := by unfold dueF; rw [if_pos hE, hD]
      rw [hF]
      generalize bx = b2
      refine X.lp rfl (fun q F' H' => ∃ (m : Nat), q = R.months.toNat - m ∧ (m : Int) ≤ R.months ∧ dueS (dueL R n) m (R.months.toNat - m) = D ∧ H' = ⟨b7, 0, x.1.flatMap cSp, some 107, 96⟩ :: ⟨b2, 0, cRm R p, some 26, 5⟩ :: H ∧ F' = [(1, .int .i64 n), (2, .pointer (some ⟨b2, 0, none⟩)), (7, .pointer (some ⟨b7, 0, none⟩)), (9, .int .i64 m)])
        R.months.toNat [(1, .int .i64 n), (2, .pointer (some ⟨b2, 0, none⟩)), (7, .pointer (some ⟨b7, 0, none⟩)), (9, .int .i64 (0 : Nat))] (⟨b7, 0, x.1.flatMap cSp, some 107, 96⟩ :: ⟨b2, 0, cRm R p, some 26, 5⟩ :: H) (by (repeat (first | exact Sub.nil _ | refine Sub.cons rfl ?_)); done) (List.Sublist.refl _) ⟨0, rfl, by omega, hD.symm, rfl, rfl⟩ ?_
      rintro _ _ _ ⟨m, rfl, hm2, hDm, rfl, rfl⟩
      have hxl := hx.len
      by_cases hlt2 : (m : Int) < R.months
      · obtain ⟨q9, hq9⟩ : ∃ q9, R.months.toNat - m = q9 + 1 := ⟨R.months.toNat - m - 1, by omega⟩
        rw [hq9] at hDm
        unfold dueS at hDm
        have hmm : 0 ≤ (m : Int) ∧ (m : Int) ≤ R.months - 1 := by omega
        have hg2 : (⟨b2, 0, cRm R p, some 26, 5⟩ : Row) ∈ ⟨b7, 0, x.1.flatMap cSp, some 107, 96⟩ :: ⟨b2, 0, cRm R p, some 26, 5⟩ :: H := List.Mem.tail _ (List.Mem.head _)
        repeat' (first | (refine XO.op rfl ?_; (first | ((first | refine Xo.ng rfl ?_); (first | (refine Xg.ev (EvF.cmp (b := true) rfl rfl rfl (congrArg some (decide_eq_true (by omega)))) rfl rfl ?_) | (refine Xg.ev (EvF.loadV rfl rfl (LoadV.own (cs := cRm R p) (te rfl) rfl (by repeat (first | exact hg2 | apply List.Mem.tail)) rfl)) rfl rfl ?_) | (refine Xg.ev (EvF.move rfl rfl) rfl rfl ?_) | (refine Xg.ev (EvF.assign rfl rfl) rfl rfl ?_) | (refine Xg.ev (EvF.fieldAddr rfl rfl (te rfl) rfl (te rfl) (by decide)) rfl rfl ?_) | (refine Xg.ev (EvF.lenSlice rfl rfl (te rfl)) rfl rfl ?_))))) | (refine XO.done rfl ?_; refine hK _ _ ?_; clear hK K) | refine X.seq rfl ?_ | refine X.region rfl (fun K hK => ?_) | refine X.block rfl ?_ | refine X.skip rfl ?_ | (refine X.ite rfl rfl (fun hc => ?_); (first | (with_reducible refine Xb.t hc ?_)) <;> clear hc))
        all_goals try (exfalso; contradiction)
        clear hg2
        refine X.lp rfl (fun q F' H' => ∃ (i : Nat) (out : Value) (Z : List Row), q = R.boxes.length - i ∧ i ≤ R.boxes.length ∧ TrvI (dueT R n m (R.boxes.take i)) out Z ∧ H' = Z ++ ⟨b7, 0, x.1.flatMap cSp, some 107, 96⟩ :: ⟨b2, 0, cRm R p, some 26, 5⟩ :: H ∧ F' = [(1, .int .i64 n), (2, .pointer (some ⟨b2, 0, none⟩)), (7, .pointer (some ⟨b7, 0, none⟩)), (9, .int .i64 m), (10, out), (30, .slice p.a2 R.boxes.length p.c2), (31, .int .i64 R.boxes.length), (32, .int .i64 i)])
          R.boxes.length [(1, .int .i64 n), (2, .pointer (some ⟨b2, 0, none⟩)), (7, .pointer (some ⟨b7, 0, none⟩)), (9, .int .i64 m), (10, .slice none 0 0), (30, .slice p.a2 R.boxes.length p.c2), (31, .int .i64 R.boxes.length), (32, .int .i64 (0 : Nat))] (⟨b7, 0, x.1.flatMap cSp, some 107, 96⟩ :: ⟨b2, 0, cRm R p, some 26, 5⟩ :: H) (by (repeat (first | exact Sub.nil _ | refine Sub.cons rfl ?_)); done) (List.Sublist.refl _) ⟨0, _, [], by omega, by omega, .inl ⟨rfl, rfl, rfl⟩, rfl, rfl⟩ ?_
        rintro _ _ _ ⟨i, out, Z, rfl, hi, hTz, rfl, rfl⟩
        by_cases hlt : i < R.boxes.length
        · obtain ⟨bb, off, e, hq2, he⟩ := hR.boxes.elem (i := i) hlt
          have hsn := dueT_snoc (R := R) (n := n) (m := m) he
          have hbs : ∀ S, RmOk S R p → SlE S (some ⟨bb, off, none⟩) cBx 2 R.boxes := fun S hS => by rw [← hq2]; exact hS.boxes
          have hthT := fun (hyd : e.made ≤ (m : Int)) S hS => by
            have := rThereI R p m i e S hS hr hmm he
            rwa [decide_eq_true hyd] at this
          have hthF := fun (hyd : ¬ e.made ≤ (m : Int)) S hS => by
            have := rThereI R p m i e S hS hr hmm he
            rwa [decide_eq_false hyd] at this
          rw [hq2]
          by_cases hmd : e.made ≤ (m : Int)
          · have hxt : there R e m := ⟨List.mem_of_getElem? he, hmd, hmm.2⟩
            have hrg : rng R R.mats ⟨e.id, m⟩ zp = sat x.1 (i * 12 + m) := by
              have h1 := y3 e m hxt
              rw [cel_box hr.bx he, show (m : Int).toNat = m from rfl] at h1
              exact rng_eq h1
            obtain ⟨_, _, hshi⟩ := sp_cells x.1 (i * 12 + m) (by omega)
            rw [hrg] at hsn
            obtain ⟨s, hs⟩ : ∃ s, s = sat x.1 (i * 12 + m) := ⟨_, rfl⟩
            rw [← hs] at hsn hshi
            rw [show (i * 12 + m) * 2 = 0 + i * 24 + m * 2 by omega] at hshi
            by_cases hgt : n < s.hi
            · rw [if_pos ⟨hmd, hgt⟩] at hsn
              rcases hTz with ⟨h9, rfl, rfl⟩ | ⟨b0, q0, rfl, rfl⟩
              · rw [h9, List.nil_append] at hsn
                simp only [List.nil_append]
                have hg7 : (⟨b7, 0, x.1.flatMap cSp, some 107, 96⟩ : Row) ∈ ⟨b7, 0, x.1.flatMap cSp, some 107, 96⟩ :: ⟨b2, 0, cRm R p, some 26, 5⟩ :: H := List.Mem.head _
                have hg2 : (⟨b2, 0, cRm R p, some 26, 5⟩ : Row) ∈ ⟨b7, 0, x.1.flatMap cSp, some 107, 96⟩ :: ⟨b2, 0, cRm R p, some 26, 5⟩ :: H := List.Mem.tail _ (List.Mem.head _)
                have hGR : RmOk (⟨b7, 0, x.1.flatMap cSp, some 107, 96⟩ :: ⟨b2, 0, cRm R p, some 26, 5⟩ :: H) R p := hR.sub (fun _ h => by repeat (first | exact h | apply List.Mem.tail))
                repeat' (first | (refine XO.op rfl ?_; (first | ((first | refine Xo.ng rfl ?_ | (refine Xo.g rfl rfl ?_; with_reducible refine Xw.tt ?_)); (first | (refine Xg.ev (EvF.cmp (b := true) rfl rfl rfl (congrArg some (decide_eq_true (by omega)))) rfl rfl ?_) | (refine Xg.ev (EvF.loadV rfl rfl (LoadV.whole (T := 26) (cs := cRm R p) (te rfl) rfl (by repeat (first | exact hg2 | apply List.Mem.tail)) rfl)) rfl rfl ?_) | (refine Xg.ev (EvF.loadV rfl rfl (LoadV.elA0 (hbs _ (hGR.sub (fun _ h => by repeat (first | exact h | apply List.Mem.tail)))) he (te rfl) rfl (fun _ hm => hm) rfl)) rfl rfl ?_) | (refine Xg.call (EnF.st rfl (Args.cons rfl (Args.cons rfl (Args.cons rfl Args.nil)))) rfl rfl (hthT hmd _ (hGR.sub (fun _ h => by repeat (first | exact h | apply List.Mem.tail)))) ?_; rintro _ H9 ⟨rfl, hH9⟩; subst H9) | (refine Xg.ev (EvF.indexArray (i := (i : Int)) (off := 0) (T := 107) (e := 105) (len := 4) rfl rfl rfl (te rfl) (te rfl) (by omega) (by omega)) rfl rfl ?_) | (refine Xg.ev (EvF.indexArray (i := (m : Int)) (off := 0 + i * 24) (T := 105) (e := 35) (len := 12) rfl rfl rfl (te rfl) (te rfl) (by omega) (by omega)) rfl rfl ?_) | (refine Xg.ev (EvF.loadV rfl rfl (LoadV.own (te rfl) rfl (by repeat (first | exact hg7 | apply List.Mem.tail)) hshi)) rfl rfl ?_) | (refine Xg.st (StF.buildOne (v0 := .int .i64 e.id) rfl el55 rfl rfl rfl (by decide) (by decide)) rfl rfl ?_; rintro _ _ ⟨bs, rfl, rfl⟩) | (refine Xg.st (StF.appendNew rfl el55 rfl rfl (by decide) rfl (Rd.own (List.Mem.head _)) (by decide)) rfl rfl ?_; rintro _ _ ⟨bn, kn, rfl, rfl⟩) | (refine Xg.ev (EvF.move rfl rfl) rfl rfl ?_) | (refine Xg.ev (EvF.assign rfl rfl) rfl rfl ?_) | (refine Xg.ev (EvF.pickT rfl rfl rfl) rfl rfl ?_) | (refine Xg.ev (EvF.add64 rfl rfl rfl (by omega) (by omega)) rfl rfl ?_) | (refine Xg.ev (EvF.fieldAddr rfl rfl (te rfl) rfl (te rfl) (by decide)) rfl rfl ?_) | (refine Xg.ev (EvF.indexSlice rfl rfl rfl (te rfl) (te rfl) (by omega) (by omega)) rfl rfl ?_) | (refine Xg.ev (EvF.loadV rfl rfl (LoadV.own (te rfl) rfl (List.Mem.head _) rfl)) rfl rfl ?_) | (refine Xg.st (StF.alloc rfl Try.zeroValue35 rfl) rfl rfl ?_; rintro _ _ ⟨bx, rfl, rfl⟩) | (refine Xg.st0 (StF.storeAll (i := 0) rfl rfl rfl (te rfl) rfl rfl rfl rfl) rfl ?_; rintro _ _ ⟨rfl, rfl⟩; dsimp only [List.set]))))) | (refine XO.done rfl ?_; refine hK _ _ ?_; clear hK K) | refine X.seq rfl ?_ | refine X.region rfl (fun K hK => ?_) | refine X.block rfl ?_ | refine X.skip rfl ?_ | (refine X.ite rfl rfl (fun hc => ?_); (first | (with_reducible refine Xb.t hc ?_)) <;> clear hc))
                all_goals try (exfalso; contradiction)
                refine ⟨_, _, ⟨bn, 0, (dueT R n m (R.boxes.take (i + 1))).flatMap cI, some 3, kn * 1⟩ :: ⟨b7, 0, x.1.flatMap cSp, some 107, 96⟩ :: ⟨b2, 0, cRm R p, some 26, 5⟩ :: H, (by (repeat (first | exact Sub.nil _ | refine Sub.cons rfl ?_)); done), ?_, ⟨i + 1, _, [_], rfl, by omega, .inr ⟨bn, kn, by rw [hsn]; rfl, rfl⟩, rfl, rfl⟩, by omega⟩
                rw [hsn]
                exact (by (repeat (first | exact List.Sublist.refl _ | apply List.Sublist.cons_cons | apply List.Sublist.cons)); done)
              · have hlen9 : ((dueT R n m (R.boxes.take i)).flatMap cI).length = (dueT R n m (R.boxes.take i)).length * 1 := lenI _
                have hll : (dueT R n m (R.boxes.take i)).length ≤ 4 := by
                  have h1 := List.length_filter_le (fun b : Bx => decide (b.made ≤ (m : Int)) && decide (n < (rng R R.mats ⟨b.id, m⟩ zp).hi)) (R.boxes.take i)
                  have h2 := List.length_take (i := i) (l := R.boxes)
                  unfold dueT
                  rw [List.length_map]
                  omega
                simp only [List.cons_append, List.nil_append]
                have hg7 : (⟨b7, 0, x.1.flatMap cSp, some 107, 96⟩ : Row) ∈ ⟨b0, 0, (dueT R n m (R.boxes.take i)).flatMap cI, some 3, q0 * 1⟩ :: ⟨b7, 0, x.1.flatMap cSp, some 107, 96⟩ :: ⟨b2, 0, cRm R p, some 26, 5⟩ :: H := List.Mem.tail _ (List.Mem.head _)
                have hg2 : (⟨b2, 0, cRm R p, some 26, 5⟩ : Row) ∈ ⟨b0, 0, (dueT R n m (R.boxes.take i)).flatMap cI, some 3, q0 * 1⟩ :: ⟨b7, 0, x.1.flatMap cSp, some 107, 96⟩ :: ⟨b2, 0, cRm R p, some 26, 5⟩ :: H := List.Mem.tail _ (List.Mem.tail _ (List.Mem.head _))
                have hGR : RmOk (⟨b0, 0, (dueT R n m (R.boxes.take i)).flatMap cI, some 3, q0 * 1⟩ :: ⟨b7, 0, x.1.flatMap cSp, some 107, 96⟩ :: ⟨b2, 0, cRm R p, some 26, 5⟩ :: H) R p := hR.sub (fun _ h => by repeat (first | exact h | apply List.Mem.tail))
                repeat' (first | (refine XO.op rfl ?_; (first | ((first | refine Xo.ng rfl ?_ | (refine Xo.g rfl rfl ?_; with_reducible refine Xw.tt ?_)); (first | (refine Xg.ev (EvF.cmp (b := true) rfl rfl rfl (congrArg some (decide_eq_true (by omega)))) rfl rfl ?_) | (refine Xg.ev (EvF.loadV rfl rfl (LoadV.whole (T := 26) (cs := cRm R p) (te rfl) rfl (by repeat (first | exact hg2 | apply List.Mem.tail)) rfl)) rfl rfl ?_) | (refine Xg.ev (EvF.loadV rfl rfl (LoadV.elA0 (hbs _ (hGR.sub (fun _ h => by repeat (first | exact h | apply List.Mem.tail)))) he (te rfl) rfl (fun _ hm => hm) rfl)) rfl rfl ?_) | (refine Xg.call (EnF.st rfl (Args.cons rfl (Args.cons rfl (Args.cons rfl Args.nil)))) rfl rfl (hthT hmd _ (hGR.sub (fun _ h => by repeat (first | exact h | apply List.Mem.tail)))) ?_; rintro _ H9 ⟨rfl, hH9⟩; subst H9) | (refine Xg.ev (EvF.indexArray (i := (i : Int)) (off := 0) (T := 107) (e := 105) (len := 4) rfl rfl rfl (te rfl) (te rfl) (by omega) (by omega)) rfl rfl ?_) | (refine Xg.ev (EvF.indexArray (i := (m : Int)) (off := 0 + i * 24) (T := 105) (e := 35) (len := 12) rfl rfl rfl (te rfl) (te rfl) (by omega) (by omega)) rfl rfl ?_) | (refine Xg.ev (EvF.loadV rfl rfl (LoadV.own (te rfl) rfl (by repeat (first | exact hg7 | apply List.Mem.tail)) hshi)) rfl rfl ?_) | (refine Xg.st (StF.buildOne (v0 := .int .i64 e.id) rfl el55 rfl rfl rfl (by decide) (by decide)) rfl rfl ?_; rintro _ _ ⟨bs, rfl, rfl⟩) | (refine Xg.st (StF.appendOwn (i := 2) rfl el55 rfl rfl rfl hlen9 rfl (Rd.own (List.Mem.head _)) rfl (by omega)) rfl rfl ?_; rintro _ _ ⟨bn, kn, rfl, rfl⟩; dsimp only [List.eraseIdx]) | (refine Xg.ev (EvF.move rfl rfl) rfl rfl ?_) | (refine Xg.ev (EvF.assign rfl rfl) rfl rfl ?_) | (refine Xg.ev (EvF.pickT rfl rfl rfl) rfl rfl ?_) | (refine Xg.ev (EvF.add64 rfl rfl rfl (by omega) (by omega)) rfl rfl ?_) | (refine Xg.ev (EvF.fieldAddr rfl rfl (te rfl) rfl (te rfl) (by decide)) rfl rfl ?_) | (refine Xg.ev (EvF.indexSlice rfl rfl rfl (te rfl) (te rfl) (by omega) (by omega)) rfl rfl ?_) | (refine Xg.ev (EvF.loadV rfl rfl (LoadV.own (te rfl) rfl (List.Mem.head _) rfl)) rfl rfl ?_) | (refine Xg.st (StF.alloc rfl Try.zeroValue35 rfl) rfl rfl ?_; rintro _ _ ⟨bx, rfl, rfl⟩) | (refine Xg.st0 (StF.storeAll (i := 0) rfl rfl rfl (te rfl) rfl rfl rfl rfl) rfl ?_; rintro _ _ ⟨rfl, rfl⟩; dsimp only [List.set]))))) | (refine XO.done rfl ?_; refine hK _ _ ?_; clear hK K) | refine X.seq rfl ?_ | refine X.region rfl (fun K hK => ?_) | refine X.block rfl ?_ | refine X.skip rfl ?_ | (refine X.ite rfl rfl (fun hc => ?_); (first | (with_reducible refine Xb.t hc ?_)) <;> clear hc))
                all_goals try (exfalso; contradiction)
                refine ⟨_, _, ⟨bn, 0, (dueT R n m (R.boxes.take (i + 1))).flatMap cI, some 3, kn * 1⟩ :: ⟨b7, 0, x.1.flatMap cSp, some 107, 96⟩ :: ⟨b2, 0, cRm R p, some 26, 5⟩ :: H, (by (repeat (first | exact Sub.nil _ | refine Sub.cons rfl ?_)); done), ?_, ⟨i + 1, _, [_], rfl, by omega, .inr ⟨bn, kn, by rw [hsn, List.length_append]; rfl, rfl⟩, rfl, rfl⟩, by omega⟩
                rw [hsn, List.flatMap_append]
                exact (by (repeat (first | exact List.Sublist.refl _ | apply List.Sublist.cons_cons | apply List.Sublist.cons)); done)
            · rw [if_neg (fun q => hgt q.2), List.append_nil] at hsn
              obtain ⟨G, hG⟩ : ∃ G, G = Z ++ ⟨b7, 0, x.1.flatMap cSp, some 107, 96⟩ :: ⟨b2, 0, cRm R p, some 26, 5⟩ :: H := ⟨_, rfl⟩
              have hg7 : (⟨b7, 0, x.1.flatMap cSp, some 107, 96⟩ : Row) ∈ G := by rw [hG]; exact List.mem_append_right _ (List.Mem.head _)
              have hg2 : (⟨b2, 0, cRm R p, some 26, 5⟩ : Row) ∈ G := by rw [hG]; exact List.mem_append_right _ (List.Mem.tail _ (List.Mem.head _))
              have hGR : RmOk G R p := hR.sub (fun r h => by rw [hG]; exact List.mem_append_right _ (List.Mem.tail _ (List.Mem.tail _ h)))
              rw [← hG]
              repeat' (first | (refine XO.op rfl ?_; (first | ((first | refine Xo.ng rfl ?_ | (refine Xo.g rfl rfl ?_; with_reducible refine Xw.tt ?_)); (first | (refine Xg.ev (EvF.cmp (b := true) rfl rfl rfl (congrArg some (decide_eq_true (by omega)))) rfl rfl ?_) | (refine Xg.ev (EvF.cmp (b := false) rfl rfl rfl (congrArg some (decide_eq_false (by omega)))) rfl rfl ?_) | (refine Xg.ev (EvF.loadV rfl rfl (LoadV.whole (T := 26) (cs := cRm R p) (te rfl) rfl (by repeat (first | exact hg2 | apply List.Mem.tail)) rfl)) rfl rfl ?_) | (refine Xg.ev (EvF.loadV rfl rfl (LoadV.elA0 (hbs _ (hGR.sub (fun _ h => by repeat (first | exact h | apply List.Mem.tail)))) he (te rfl) rfl (fun _ hm => hm) rfl)) rfl rfl ?_) | (refine Xg.call (EnF.st rfl (Args.cons rfl (Args.cons rfl (Args.cons rfl Args.nil)))) rfl rfl (hthT hmd _ (hGR.sub (fun _ h => by repeat (first | exact h | apply List.Mem.tail)))) ?_; rintro _ H9 ⟨rfl, hH9⟩; subst H9) | (refine Xg.ev (EvF.indexArray (i := (i : Int)) (off := 0) (T := 107) (e := 105) (len := 4) rfl rfl rfl (te rfl) (te rfl) (by omega) (by omega)) rfl rfl ?_) | (refine Xg.ev (EvF.indexArray (i := (m : Int)) (off := 0 + i * 24) (T := 105) (e := 35) (len := 12) rfl rfl rfl (te rfl) (te rfl) (by omega) (by omega)) rfl rfl ?_) | (refine Xg.ev (EvF.loadV rfl rfl (LoadV.own (te rfl) rfl (by repeat (first | exact hg7 | apply List.Mem.tail)) hshi)) rfl rfl ?_) | (refine Xg.ev (EvF.move rfl rfl) rfl rfl ?_) | (refine Xg.ev (EvF.assign rfl rfl) rfl rfl ?_) | (refine Xg.ev (EvF.pickT rfl rfl rfl) rfl rfl ?_) | (refine Xg.ev (EvF.add64 rfl rfl rfl (by omega) (by omega)) rfl rfl ?_) | (refine Xg.ev (EvF.fieldAddr rfl rfl (te rfl) rfl (te rfl) (by decide)) rfl rfl ?_) | (refine Xg.ev (EvF.indexSlice rfl rfl rfl (te rfl) (te rfl) (by omega) (by omega)) rfl rfl ?_) | (refine Xg.st (StF.alloc rfl Try.zeroValue35 rfl) rfl rfl ?_; rintro _ _ ⟨bx, rfl, rfl⟩) | (refine Xg.st0 (StF.storeAll (i := 0) rfl rfl rfl (te rfl) rfl rfl rfl rfl) rfl ?_; rintro _ _ ⟨rfl, rfl⟩; dsimp only [List.set]))))) | (refine XO.done rfl ?_; refine hK _ _ ?_; clear hK K) | refine X.seq rfl ?_ | refine X.region rfl (fun K hK => ?_) | refine X.block rfl ?_ | refine X.skip rfl ?_ | (refine X.ite rfl rfl (fun hc => ?_); (first | (with_reducible refine Xb.t hc ?_) | (with_reducible refine Xb.f hc ?_)) <;> clear hc))
              all_goals try (exfalso; contradiction)
              exact ⟨_, _, G, (by (repeat (first | exact Sub.nil _ | refine Sub.cons rfl ?_)); done), (by (repeat (first | exact List.Sublist.refl _ | apply List.Sublist.cons_cons | apply List.Sublist.cons)); done), ⟨i + 1, out, Z, rfl, by omega, by rw [hsn]; exact hTz, hG, rfl⟩, by omega⟩
          · rw [if_neg (fun q => hmd q.1), List.append_nil] at hsn
            obtain ⟨G, hG⟩ : ∃ G, G = Z ++ ⟨b7, 0, x.1.flatMap cSp, some 107, 96⟩ :: ⟨b2, 0, cRm R p, some 26, 5⟩ :: H := ⟨_, rfl⟩
            have hg7 : (⟨b7, 0, x.1.flatMap cSp, some 107, 96⟩ : Row) ∈ G := by rw [hG]; exact List.mem_append_right _ (List.Mem.head _)
            have hg2 : (⟨b2, 0, cRm R p, some 26, 5⟩ : Row) ∈ G := by rw [hG]; exact List.mem_append_right _ (List.Mem.tail _ (List.Mem.head _))
            have hGR : RmOk G R p := hR.sub (fun r h => by rw [hG]; exact List.mem_append_right _ (List.Mem.tail _ (List.Mem.tail _ h)))
            rw [← hG]
            repeat' (first | (refine XO.op rfl ?_; (first | ((first | refine Xo.ng rfl ?_); (first | (refine Xg.ev (EvF.cmp (b := true) rfl rfl rfl (congrArg some (decide_eq_true (by omega)))) rfl rfl ?_) | (refine Xg.ev (EvF.loadV rfl rfl (LoadV.whole (T := 26) (cs := cRm R p) (te rfl) rfl (by repeat (first | exact hg2 | apply List.Mem.tail)) rfl)) rfl rfl ?_) | (refine Xg.ev (EvF.loadV rfl rfl (LoadV.elA0 (hbs _ (hGR.sub (fun _ h => by repeat (first | exact h | apply List.Mem.tail)))) he (te rfl) rfl (fun _ hm => hm) rfl)) rfl rfl ?_) | (refine Xg.call (EnF.st rfl (Args.cons rfl (Args.cons rfl (Args.cons rfl Args.nil)))) rfl rfl (hthF hmd _ (hGR.sub (fun _ h => by repeat (first | exact h | apply List.Mem.tail)))) ?_; rintro _ H9 ⟨rfl, hH9⟩; subst H9) | (refine Xg.ev (EvF.move rfl rfl) rfl rfl ?_) | (refine Xg.ev (EvF.assign rfl rfl) rfl rfl ?_) | (refine Xg.ev (EvF.pickF rfl rfl rfl) rfl rfl ?_) | (refine Xg.ev (EvF.add64 rfl rfl rfl (by omega) (by omega)) rfl rfl ?_) | (refine Xg.ev (EvF.indexSlice rfl rfl rfl (te rfl) (te rfl) (by omega) (by omega)) rfl rfl ?_) | (refine Xg.st (StF.alloc rfl Try.zeroValue35 rfl) rfl rfl ?_; rintro _ _ ⟨bx, rfl, rfl⟩) | (refine Xg.st0 (StF.storeAll (i := 0) rfl rfl rfl (te rfl) rfl rfl rfl rfl) rfl ?_; rintro _ _ ⟨rfl, rfl⟩; dsimp only [List.set]))) | (refine Xo.g rfl rfl ?_; (first | (with_reducible refine Xw.ft rfl rfl ?_))))) | (refine XO.done rfl ?_; refine hK _ _ ?_; clear hK K) | refine X.seq rfl ?_ | refine X.region rfl (fun K hK => ?_) | refine X.block rfl ?_ | refine X.skip rfl ?_ | (refine X.ite rfl rfl (fun hc => ?_); (first | (with_reducible refine Xb.t hc ?_) | (with_reducible refine Xb.f hc ?_)) <;> clear hc))
            all_goals try (exfalso; contradiction)
            exact ⟨_, _, G, (by (repeat (first | exact Sub.nil _ | refine Sub.cons rfl ?_)); done), (by (repeat (first | exact List.Sublist.refl _ | apply List.Sublist.cons_cons | apply List.Sublist.cons)); done), ⟨i + 1, out, Z, rfl, by omega, by rw [hsn]; exact hTz, hG, rfl⟩, by omega⟩
        · obtain rfl : i = R.boxes.length := by omega
          rw [List.take_length] at hTz
          have hdl : dueT R n m R.boxes = dueL R n m := rfl
          rw [hdl] at hTz
          obtain ⟨a', c', rfl, hs⟩ := hTz.sl (H := H)
          by_cases hz : (dueL R n m).length = 0
          · rw [if_pos hz] at hDm
            repeat' (first | (refine XO.op rfl ?_; (first | ((first | refine Xo.ng rfl ?_); (first | (refine Xg.ev (EvF.cmp (b := false) rfl rfl rfl (congrArg some (decide_eq_false (by omega)))) rfl rfl ?_) | (refine Xg.ev (EvF.move rfl rfl) rfl rfl ?_) | (refine Xg.ev (EvF.assign rfl rfl) rfl rfl ?_) | (refine Xg.ev (EvF.add64 rfl rfl rfl (by omega) (by omega)) rfl rfl ?_) | (refine Xg.ev (EvF.lenSlice rfl rfl (te rfl)) rfl rfl ?_))))) | (refine XO.done rfl ?_; refine hK _ _ ?_; clear hK K) | refine X.seq rfl ?_ | refine X.region rfl (fun K hK => ?_) | (refine X.brk rfl ?_; repeat (first | refine blockX_hit rfl ?_ | refine blockX_miss (by decide) ?_)) | refine X.skip rfl ?_ | (refine X.ite rfl rfl (fun hc => ?_); (first | (with_reducible refine Xb.f hc ?_)) <;> clear hc))
            all_goals try (exfalso; contradiction)
            exact ⟨_, _, ⟨b7, 0, x.1.flatMap cSp, some 107, 96⟩ :: ⟨b2, 0, cRm R p, some 26, 5⟩ :: H, (by (repeat (first | exact Sub.nil _ | refine Sub.cons rfl ?_)); done), List.sublist_append_right _ _, ⟨m + 1, rfl, by omega, by rw [show R.months.toNat - (m + 1) = q9 by omega]; exact hDm, rfl, rfl⟩, by omega⟩
          · rw [if_neg hz] at hDm
            repeat' (first | (refine XO.op rfl ?_; (first | ((first | refine Xo.ng rfl ?_); (first | (refine Xg.ev (EvF.cmp (b := true) rfl rfl rfl (congrArg some (decide_eq_true (by omega)))) rfl rfl ?_) | (refine Xg.ev (EvF.cmp (b := false) rfl rfl rfl (congrArg some (decide_eq_false (by omega)))) rfl rfl ?_) | (refine Xg.ev (EvF.move rfl rfl) rfl rfl ?_) | (refine Xg.ev (EvF.assign rfl rfl) rfl rfl ?_) | (refine Xg.ev (EvF.lenSlice rfl rfl (te rfl)) rfl rfl ?_))))) | (refine XO.done rfl ?_; refine hK _ _ ?_; clear hK K) | refine X.seq rfl ?_ | refine X.region rfl (fun K hK => ?_) | (refine X.brk rfl ?_; repeat (first | refine blockX_hit rfl ?_ | refine blockX_miss (by decide) ?_)) | refine X.ret rfl ?_ | (refine X.ite rfl rfl (fun hc => ?_); (first | (with_reducible refine Xb.t hc ?_) | (with_reducible refine Xb.f hc ?_)) <;> clear hc))
            all_goals try (exfalso; contradiction)
            refine ret_three (by first | exact .inr rfl | exact .inl rfl) Try.results34 rfl rfl rfl (H' := Z ++ H) (List.Sublist.append (List.Sublist.refl _) (List.Sublist.cons _ (List.Sublist.cons _ (List.Sublist.refl _)))) ?_
            rw [← hDm]
            exact ⟨a', c', Z, rfl, hs, rfl⟩
      · have e0 : R.months.toNat - m = 0 := by omega
        rw [e0] at hDm
        have hg2 : (⟨b2, 0, cRm R p, some 26, 5⟩ : Row) ∈ ⟨b7, 0, x.1.flatMap cSp, some 107, 96⟩ :: ⟨b2, 0, cRm R p, some 26, 5⟩ :: H := List.Mem.tail _ (List.Mem.head _)
        repeat' (first | (refine XO.op rfl ?_; (first | ((first | refine Xo.ng rfl ?_); (first | (refine Xg.ev (EvF.cmp (b := false) rfl rfl rfl (congrArg some (decide_eq_false (by omega)))) rfl rfl ?_) | (refine Xg.ev (EvF.loadV rfl rfl (LoadV.own (cs := cRm R p) (te rfl) rfl (by repeat (first | exact hg2 | apply List.Mem.tail)) rfl)) rfl rfl ?_) | (refine Xg.ev (EvF.move rfl rfl) rfl rfl ?_) | (refine Xg.ev (EvF.assign rfl rfl) rfl rfl ?_) | (refine Xg.ev (EvF.fieldAddr rfl rfl (te rfl) rfl (te rfl) (by decide)) rfl rfl ?_))))) | (refine XO.done rfl ?_; refine hK _ _ ?_; clear hK K) | refine X.seq rfl ?_ | refine X.region rfl (fun K hK => ?_) | (refine X.brk rfl ?_; repeat (first | refine blockX_hit rfl ?_ | refine blockX_miss (by decide) ?_)) | refine X.ret rfl ?_ | (refine X.ite rfl rfl (fun hc => ?_); (first | (with_reducible refine Xb.f hc ?_)) <;> clear hc))
        all_goals try (exfalso; contradiction)
        refine ret_three (by first | exact .inr rfl | exact .inl rfl) Try.results34 rfl rfl rfl (H' := H) (by (repeat (first | exact List.Sublist.refl _ | apply List.Sublist.cons_cons | apply List.Sublist.cons)); done) ?_
        rw [← hDm]
        exact ⟨none, 0, [], rfl, sleNil, rfl⟩
  · rw [if_neg hok] at hE
    have hrs : ∀ r1, Fc Try.prog 47 [.agg (cRm R p).toArray] (r1 :: H) (fun v H' => v = .bool false ∧ H' = r1 :: H) := fun r1 => by
      have := room_spec R p (r1 :: H) (hR.sub (fun _ h => List.Mem.tail _ h))
      rwa [decide_eq_false hok] at this
    have hF : dueF R n = (0, [], 10) := by unfold dueF; rw [if_neg (by rw [hE]; decide), hE]
    rw [hF]
    refine Fc.mk (callable Try.call34) Try.func34 rfl Try.ntmps34 rfl ?_; dsimp only [fr]
    repeat' (first | (refine XO.op rfl ?_; (first | ((first | refine Xo.ng rfl ?_); (first | (refine Xg.ev (EvF.loadV rfl rfl (LoadV.whole (T := 26) (cs := cRm R p) (te rfl) rfl (by repeat (first | exact List.Mem.head _ | apply List.Mem.tail)) rfl)) rfl rfl ?_) | (refine Xg.call (EnF.st rfl (Args.cons rfl Args.nil)) rfl rfl (hrs _) ?_; rintro _ H9 ⟨rfl, hH9⟩; subst H9) | (refine Xg.ev (EvF.assign rfl rfl) rfl rfl ?_) | (refine Xg.ev (EvF.not rfl rfl) rfl rfl ?_) | (refine Xg.st (StF.boxAgg rfl rfl) rfl rfl ?_; rintro _ _ ⟨bx, rfl, rfl⟩))))) | (refine XO.done rfl ?_; refine hK _ _ ?_; clear hK K) | refine X.seq rfl ?_ | refine X.region rfl (fun K hK => ?_) | refine X.skip rfl ?_ | refine X.ret rfl ?_ | (refine X.ite rfl rfl (fun hc => ?_); (first | (with_reducible refine Xb.caseB hc (fun h => ?_) (fun h => ?_))) <;> clear hc))
    all_goals try (exfalso; contradiction)
    exact ret_three (by first | exact .inr rfl | exact .inl rfl) Try.results34 rfl rfl rfl (H' := H) (by (repeat (first | exact List.Sublist.refl _ | apply List.Sublist.cons_cons | apply List.Sublist.cons)); done) ⟨none, 0, [], rfl, sleNil, rfl⟩
end Go.Proofs.Ytblehgpfddmggaa
end
section
set_option linter.unusedVariables false
set_option linter.unusedSimpArgs false
namespace Go.Proofs.Ytblehgpfddmggaa
open Go Go.Fw
set_option maxRecDepth 10000
theorem rng_bd {R : Rm} (hr : okRm R) (hm : matsThere R R.mats) (hT : hasT R R.mats) {a b : Pk} (ha : a ∈ plcs R) (hb : b ∈ plcs R) : -60 ≤ (rng R R.mats a b).lo ∧ (rng R R.mats a b).lo ≤ (rng R R.mats a b).hi ∧ (rng R R.mats a b).hi ≤ 60 := by
  have h := ex_mem hr hm hT ha hb
  obtain ⟨z1, t1, e1⟩ := h.lo
  obtain ⟨z2, t2, e2⟩ := h.hi
  have h1 := h.all z1 t1
  have a1 := t1.in60 hr ha
  have a2 := t1.in60 hr hb
  have b1 := t2.in60 hr ha
  have b2 := t2.in60 hr hb
  omega
def tsAq : List TOp := [⟨some 63, [], [], []⟩, ⟨some 64, [], [], []⟩, ⟨some 65, [], [], []⟩, ⟨some 66, [2], [2], []⟩, ⟨some 67, [], [], []⟩, ⟨some 68, [4], [4], []⟩, ⟨some 69, [2, 3, 4, 5], [3, 5], []⟩, ⟨some 4, [0], [0], []⟩, ⟨some 5, [0, 1, 7], [1], []⟩, ⟨some 6, [0, 1, 2, 3, 4, 5, 6, 7, 8], [6], []⟩]
def valAq (b14 : Nat) (x y : Int) (s : Sp) (v1 v8 v9 v10 v32 v33 v34 v42 v43 v44 : Value) (k : Nat) (env : Env) : Value :=
  match k with
  | 0 => .int .i64 x
  | 1 => .int .i64 y
  | 2 => .pointer (some ⟨b14, 1, none⟩)
  | 3 => .int .i64 s.hi
  | 4 => .pointer (some ⟨b14, 0, none⟩)
  | 5 => .int .i64 s.lo
  | 6 => .int .i64 (s.hi - s.lo)
  | 7 => .int .i64 x
  | 8 => .int .i64 y
  | 9 => .int .i64 (s.hi - s.lo)
  | _ => undef
def rowsAq (b14 : Nat) (x y : Int) (s : Sp) (v1 v8 v9 v10 v32 v33 v34 v42 v43 v44 : Value) (k : Nat) (env : Env) : List Row :=
  match k with
  | _ => []
theorem locAq (b14 : Nat) (x y : Int) (s : Sp) (v1 v8 v9 v10 v32 v33 v34 v42 v43 v44 : Value) : ∀ k env i q9, i ≠ k → (tAt tsAq k).sup.contains i = false → valAq b14 x y s v1 v8 v9 v10 v32 v33 v34 v42 v43 v44 k (upd env i q9) = valAq b14 x y s v1 v8 v9 v10 v32 v33 v34 v42 v43 v44 k env ∧ rowsAq b14 x y s v1 v8 v9 v10 v32 v33 v34 v42 v43 v44 k (upd env i q9) = rowsAq b14 x y s v1 v8 v9 v10 v32 v33 v34 v42 v43 v44 k env := by
  intro k env i q hk hs
  have hu : ∀ j, j ≠ i → upd env i q j = env j := fun j hj => by unfold upd; rw [if_neg hj]
  match k, hk, hs with
  | 0, _, _ => exact ⟨rfl, rfl⟩
  | 1, _, _ => exact ⟨rfl, rfl⟩
  | 2, _, _ => exact ⟨rfl, rfl⟩
  | 3, _, _ => exact ⟨rfl, rfl⟩
  | 4, _, _ => exact ⟨rfl, rfl⟩
  | 5, _, _ => exact ⟨rfl, rfl⟩
  | 6, _, _ => exact ⟨rfl, rfl⟩
  | 7, _, _ => exact ⟨rfl, rfl⟩
  | 8, _, _ => exact ⟨rfl, rfl⟩
  | 9, _, _ => exact ⟨rfl, rfl⟩
  | _ + 10, _, _ => exact ⟨rfl, rfl⟩
set_option maxHeartbeats 16000000 in
theorem kAsk_spec (R : Rm) (p : Pl) (m : Int) (H : List Row) (hR : RmOk H R p) (h2 : R.boxes.length ≤ 1000000) : Fc Try.prog 37 [.agg (cRm R p).toArray, .int .i64 m] H (fun v H' => v = .tuple #[.int .i64 (askF R m).1.1, .int .i64 (askF R m).1.2.1, .int .i64 (askF R m).1.2.2, .int .i64 (askF R m).2] ∧ H' = H) := by
  obtain ⟨e, he⟩ : ∃ e, openE R [] [m] = e := ⟨_, rfl⟩
  have hbt : ∀ (H' : List Row) (b1 : Nat), ⟨b1, 0, [.int .i64 m], some 3, 1 * 1⟩ ∈ H' → BtOk H' ⟨[], none, 0, [m], some ⟨b1, 0, none⟩, 1⟩ := fun H' b1 q1 => ⟨sleNil, SlE.ofRow (l := [m]) q1 (fun _ _ => rfl), Nat.le_of_ble_eq_true rfl, Nat.le_of_ble_eq_true rfl⟩
  by_cases h0 : e = 0
  · subst h0
    obtain ⟨hok, _, hin, hT⟩ := openE_ok he
    have hr := hok.ok
    have hmm : m ≤ R.months - 1 := (hin m (List.mem_singleton.2 rfl)).1.2
    have htl := thI_len hr m
    have hth := fun H' b k hC hk => thereI_spec R p b k m H' hr hmm hC hk
    have hLp : ∀ x ∈ thI R m, (⟨x, m⟩ : Pk) ∈ plcs R := fun y hy => by
      obtain ⟨b, hb, rfl⟩ := (mem_thI hmm).1 hy
      exact plcs_mem hb
    have hF : askF R m = if (thI R m).length < 2 then ((0, 0, 0), 6) else (askO (wid2 R m) (thI R m) (0, 0, -1), 0) := by unfold askF; rw [if_pos he]
    rw [hF]
    clear hF
    obtain ⟨L, hL⟩ : ∃ L, L = thI R m := ⟨_, rfl⟩
    rw [← hL] at hth hLp htl ⊢
    by_cases hl2 : L.length < 2
    · rw [if_pos hl2]
      refine Fc.mk (callable Try.call37) Try.func37 rfl Try.ntmps37 rfl ?_; dsimp only [fr]
      repeat' (first | (refine XO.op rfl ?_; (first | ((first | refine Xo.ng rfl ?_); (first | (refine Xg.ev (EvF.cmp (b := true) rfl rfl rfl (congrArg some (decide_eq_true (by omega)))) rfl rfl ?_) | (refine Xg.ev (EvF.cmp (b := false) rfl rfl rfl (congrArg some (nd_f (by omega)))) rfl rfl ?_) | (refine Xg.st (StF.buildOne (v0 := .int .i64 m) rfl el55 rfl rfl rfl (by decide) (by decide)) rfl rfl ?_; rintro _ _ ⟨b1, rfl, rfl⟩) | (refine Xg.ev (EvF.build (cs := cBt ⟨[], none, 0, [m], some ⟨b1, 0, none⟩, 1⟩) rfl (ArgsP.cons rfl ArgsP.nil) (te rfl) (Places.cons (te rfl) (Places.cons (te rfl) Places.nil)) Try.zeroValue101 rfl) rfl rfl ?_) | (refine Xg.call (EnF.st rfl (by (repeat (first | exact Args.nil | refine Args.cons rfl ?_)); done)) rfl rfl (openY (hR.sub (fun _ h => by repeat (first | exact h | apply List.Mem.tail))) (hbt _ b1 (List.Mem.head _)) h2 he) ?_; rintro _ _ ⟨b, k, hbk, rfl, rfl⟩) | (refine Xg.st (StF.alloc rfl Try.zeroValue96 rfl) rfl rfl ?_; rintro _ _ ⟨b8, rfl, rfl⟩) | (refine Xg.st0 (StF.storeAll (i := 0) (vs := cCt R p (some ⟨b, 0, none⟩) k) rfl rfl rfl (te rfl) rfl rfl rfl rfl) rfl ?_; rintro _ _ ⟨rfl, rfl⟩; dsimp only [List.set]) | (refine Xg.ev (EvF.loadV rfl rfl (LoadV.whole (T := 96) (cs := cCt R p (some ⟨b, 0, none⟩) k) (te rfl) rfl (by repeat (first | exact List.Mem.head _ | apply List.Mem.tail)) rfl)) rfl rfl ?_) | (refine Xg.call (EnF.st rfl (by (repeat (first | exact Args.nil | refine Args.cons rfl ?_)); done)) rfl rfl (hth _ b k ⟨hR.sub (fun _ h => by repeat (first | exact h | apply List.Mem.tail)), SlE.ofRow (List.Mem.tail _ (List.Mem.head _)) (fun _ _ => rfl)⟩ hbk) ?_; rintro _ _ (⟨ht, rfl, rfl⟩ | ⟨bt, kt, rfl, rfl⟩)) | (refine Xg.ev (EvF.move rfl rfl) rfl rfl ?_) | (refine Xg.ev (EvF.assign rfl rfl) rfl rfl ?_) | (refine Xg.ev (EvF.lenSlice rfl rfl (te rfl)) rfl rfl ?_) | (refine Xg.ev (EvF.loadV rfl rfl (LoadV.whole (te rfl) rfl (List.Mem.head _) rfl)) rfl rfl ?_) | (refine Xg.ev (EvF.extract rfl rfl rfl) rfl rfl ?_) | (refine Xg.st (StF.boxAgg rfl rfl) rfl rfl ?_; rintro _ _ ⟨bx, rfl, rfl⟩))))) | (refine XO.done rfl ?_; refine hK _ _ ?_; clear hK K) | refine X.seq rfl ?_ | refine X.region rfl (fun K hK => ?_) | refine X.skip rfl ?_ | refine X.ret rfl ?_ | (refine X.ite rfl rfl (fun hc => ?_); (first | (with_reducible refine Xb.t hc ?_) | (with_reducible refine Xb.f hc ?_)) <;> clear hc))
      all_goals try (exfalso; contradiction)
      all_goals exact ret_four (by first | exact .inr rfl | exact .inl rfl) Try.results37 rfl rfl rfl rfl (H' := H) (by (repeat (first | exact List.Sublist.refl _ | apply List.Sublist.cons)); done) ⟨rfl, rfl⟩
    · rw [if_neg hl2]
      refine Fc.mk (callable Try.call37) Try.func37 rfl Try.ntmps37 rfl ?_; dsimp only [fr]
      repeat' (first | (exfalso; have := congrArg List.length ht; simp only [List.length_nil] at this; omega) | (refine XO.op rfl ?_; (first | ((first | refine Xo.ng rfl ?_); (first | (refine Xg.ev (EvF.cmp (b := false) rfl rfl rfl (congrArg some (decide_eq_false (by omega)))) rfl rfl ?_) | (refine Xg.ev (EvF.cmp (b := false) rfl rfl rfl (congrArg some (nd_f (by omega)))) rfl rfl ?_) | (refine Xg.st (StF.buildOne (v0 := .int .i64 m) rfl el55 rfl rfl rfl (by decide) (by decide)) rfl rfl ?_; rintro _ _ ⟨b1, rfl, rfl⟩) | (refine Xg.ev (EvF.build (cs := cBt ⟨[], none, 0, [m], some ⟨b1, 0, none⟩, 1⟩) rfl (ArgsP.cons rfl ArgsP.nil) (te rfl) (Places.cons (te rfl) (Places.cons (te rfl) Places.nil)) Try.zeroValue101 rfl) rfl rfl ?_) | (refine Xg.call (EnF.st rfl (by (repeat (first | exact Args.nil | refine Args.cons rfl ?_)); done)) rfl rfl (openY (hR.sub (fun _ h => by repeat (first | exact h | apply List.Mem.tail))) (hbt _ b1 (List.Mem.head _)) h2 he) ?_; rintro _ _ ⟨b, k, hbk, rfl, rfl⟩) | (refine Xg.st (StF.alloc rfl Try.zeroValue96 rfl) rfl rfl ?_; rintro _ _ ⟨b8, rfl, rfl⟩) | (refine Xg.st0 (StF.storeAll (i := 0) (vs := cCt R p (some ⟨b, 0, none⟩) k) rfl rfl rfl (te rfl) rfl rfl rfl rfl) rfl ?_; rintro _ _ ⟨rfl, rfl⟩; dsimp only [List.set]) | (refine Xg.ev (EvF.loadV rfl rfl (LoadV.whole (T := 96) (cs := cCt R p (some ⟨b, 0, none⟩) k) (te rfl) rfl (by repeat (first | exact List.Mem.head _ | apply List.Mem.tail)) rfl)) rfl rfl ?_) | (refine Xg.call (EnF.st rfl (by (repeat (first | exact Args.nil | refine Args.cons rfl ?_)); done)) rfl rfl (hth _ b k ⟨hR.sub (fun _ h => by repeat (first | exact h | apply List.Mem.tail)), SlE.ofRow (List.Mem.tail _ (List.Mem.head _)) (fun _ _ => rfl)⟩ hbk) ?_; rintro _ _ (⟨ht, rfl, rfl⟩ | ⟨bt, kt, rfl, rfl⟩)) | (refine Xg.ev (EvF.move rfl rfl) rfl rfl ?_) | (refine Xg.ev (EvF.assign rfl rfl) rfl rfl ?_) | (refine Xg.ev (EvF.lenSlice rfl rfl (te rfl)) rfl rfl ?_) | (refine Xg.ev (EvF.loadV rfl rfl (LoadV.whole (te rfl) rfl (List.Mem.head _) rfl)) rfl rfl ?_) | (refine Xg.ev (EvF.extract rfl rfl rfl) rfl rfl ?_) | (refine Xg.st (StF.boxAgg rfl rfl) rfl rfl ?_; rintro _ _ ⟨bx, rfl, rfl⟩))))) | (refine XO.done rfl ?_; refine hK _ _ ?_; clear hK K) | refine X.seq rfl ?_ | refine X.region rfl (fun K hK => ?_) | refine X.block rfl ?_ | refine X.skip rfl ?_ | (refine X.ite rfl rfl (fun hc => ?_); (first | (with_reducible refine Xb.f hc ?_)) <;> clear hc))
      all_goals try (exfalso; contradiction)
      refine X.capLe (q := 0) rfl (fun hcap => ?_)
      rw [lenI] at hcap
      have hcap : L.length ≤ kt := by omega
      obtain ⟨Fin, hFin⟩ : ∃ Fin, Fin = askO (wid2 R m) L (0, 0, -1) := ⟨_, rfl⟩
      rw [← hFin]
      have hC : ∀ S, (∀ r ∈ H, r ∈ S) → (⟨b, 0, (plcs R).flatMap cPk, some 104, k * 2⟩ : Row) ∈ S → CtOk S R p (some ⟨b, 0, none⟩) := fun S h1 h3 => ⟨hR.sub h1, SlE.ofRow h3 (fun _ _ => rfl)⟩
      have hsl : ∀ S, (⟨bt, 0, L.flatMap cI, some 3, kt * 1⟩ : Row) ∈ S → SlE S (some ⟨bt, 0, none⟩) cI 1 L := fun S h => SlE.ofRow h (fun _ _ => rfl)
      refine X.lp rfl (fun q F' H' => ∃ (i : Nat) (a0 b0 w0 : Int), q = L.length - i ∧ i ≤ L.length ∧ askO (wid2 R m) (L.drop i) (a0, b0, w0) = Fin ∧ -1 ≤ w0 ∧ w0 ≤ 120 ∧ H' = ⟨bt, 0, L.flatMap cI, some 3, kt * 1⟩ :: ⟨b8, 0, cCt R p (some ⟨b, 0, none⟩) k, some 96, 6⟩ :: ⟨b, 0, (plcs R).flatMap cPk, some 104, k * 2⟩ :: H ∧ F' = [(1, .int .i64 m), (4, .int .i64 a0), (5, .int .i64 b0), (6, .int .i64 w0), (8, .pointer (some ⟨b8, 0, none⟩)), (9, .slice (some ⟨bt, 0, none⟩) L.length kt), (32, .slice (some ⟨bt, 0, none⟩) L.length kt), (33, .int .i64 L.length), (34, .int .i64 i)])
        L.length [(1, .int .i64 m), (4, .int .i64 0), (5, .int .i64 0), (6, .int .i64 (-1)), (8, .pointer (some ⟨b8, 0, none⟩)), (9, .slice (some ⟨bt, 0, none⟩) L.length kt), (32, .slice (some ⟨bt, 0, none⟩) L.length kt), (33, .int .i64 L.length), (34, .int .i64 (0 : Nat))] (⟨bt, 0, L.flatMap cI, some 3, kt * 1⟩ :: ⟨b8, 0, cCt R p (some ⟨b, 0, none⟩) k, some 96, 6⟩ :: ⟨b, 0, (plcs R).flatMap cPk, some 104, k * 2⟩ :: H) (by (repeat (first | exact Sub.nil _ | refine Sub.cons rfl ?_)); done) (by (repeat (first | exact List.Sublist.refl _ | apply List.Sublist.cons_cons | apply List.Sublist.cons)); done) ⟨0, 0, 0, -1, by omega, by omega, hFin.symm, by omega, by omega, rfl, rfl⟩ ?_
      rintro _ _ _ ⟨i, a0, b0, w0, rfl, hi, hI, hw1, hw2, rfl, rfl⟩
      by_cases hlt : i < L.length
      · obtain ⟨x, hx⟩ : ∃ x, L[i]? = some x := ⟨_, List.getElem?_eq_getElem hlt⟩
        have hxp := hLp x (List.mem_of_getElem? hx)
        obtain ⟨T, hTd⟩ : ∃ T, T = L.drop (i + 1) := ⟨_, rfl⟩
        have hTl : T.length = L.length - (i + 1) := by rw [hTd, List.length_drop]
        obtain ⟨a9, ha9⟩ : ∃ a9, a9 = sfrom (some ⟨bt, 0, none⟩) kt (i + 1) 1 := ⟨_, rfl⟩
        have hS1 : ∀ S, (⟨bt, 0, L.flatMap cI, some 3, kt * 1⟩ : Row) ∈ S → SlE S a9 cI 1 T := fun S h => by rw [ha9, hTd]; exact sleFrom (hsl S h) hcap (i + 1)
        have hTm : ∀ y ∈ T, y ∈ L := fun y hy => by rw [hTd] at hy; exact List.mem_of_mem_drop hy
        rw [drop_cons hx, ← hTd] at hI
        change askO (wid2 R m) T (askI (wid2 R m) x T (a0, b0, w0)) = Fin at hI
        repeat' (first | (refine XO.op rfl ?_; (first | ((first | refine Xo.ng rfl ?_); (first | (refine Xg.ev (EvF.cmp (b := true) rfl rfl rfl (congrArg some (decide_eq_true (by omega)))) rfl rfl ?_) | (refine Xg.ev (EvF.loadV rfl rfl (LoadV.el0 (hsl _ (by repeat (first | exact List.Mem.head _ | apply List.Mem.tail))) hx (te rfl) rfl (fun _ hm => hm) rfl)) rfl rfl ?_) | (refine Xg.ev (EvF.sliceFrom (lo := i + 1) rfl rfl (te rfl) (te rfl) rfl (by omega) hcap) rfl rfl ?_) | (refine Xg.ev (EvF.move rfl rfl) rfl rfl ?_) | (refine Xg.ev (EvF.assign rfl rfl) rfl rfl ?_) | (refine Xg.ev (EvF.add64 rfl rfl rfl (by omega) (by omega)) rfl rfl ?_) | (refine Xg.ev (EvF.lenSlice rfl rfl (te rfl)) rfl rfl ?_) | (refine Xg.ev (EvF.indexSlice rfl rfl rfl (te rfl) (te rfl) (by omega) (by omega)) rfl rfl ?_))))) | (refine XO.done rfl ?_; refine hK _ _ ?_; clear hK K) | refine X.seq rfl ?_ | refine X.region rfl (fun K hK => ?_) | refine X.block rfl ?_ | refine X.skip rfl ?_ | (refine X.ite rfl rfl (fun hc => ?_); (first | (with_reducible refine Xb.t hc ?_)) <;> clear hc))
        all_goals try (exfalso; contradiction)
        rw [← ha9, ← hTl]
        refine X.lp rfl (fun q F' H' => ∃ (j : Nat) (a0 b0 w0 : Int), q = T.length - j ∧ j ≤ T.length ∧ askO (wid2 R m) T (askI (wid2 R m) x (T.drop j) (a0, b0, w0)) = Fin ∧ -1 ≤ w0 ∧ w0 ≤ 120 ∧ H' = ⟨bt, 0, L.flatMap cI, some 3, kt * 1⟩ :: ⟨b8, 0, cCt R p (some ⟨b, 0, none⟩) k, some 96, 6⟩ :: ⟨b, 0, (plcs R).flatMap cPk, some 104, k * 2⟩ :: H ∧ F' = [(1, .int .i64 m), (4, .int .i64 a0), (5, .int .i64 b0), (6, .int .i64 w0), (8, .pointer (some ⟨b8, 0, none⟩)), (9, .slice (some ⟨bt, 0, none⟩) L.length kt), (10, .int .i64 i), (11, .int .i64 x), (32, .slice (some ⟨bt, 0, none⟩) L.length kt), (33, .int .i64 L.length), (34, .int .i64 i), (42, .slice a9 T.length (kt - (i + 1))), (43, .int .i64 T.length), (44, .int .i64 j)])
          T.length [(1, .int .i64 m), (4, .int .i64 a0), (5, .int .i64 b0), (6, .int .i64 w0), (8, .pointer (some ⟨b8, 0, none⟩)), (9, .slice (some ⟨bt, 0, none⟩) L.length kt), (10, .int .i64 i), (11, .int .i64 x), (32, .slice (some ⟨bt, 0, none⟩) L.length kt), (33, .int .i64 L.length), (34, .int .i64 i), (42, .slice a9 T.length (kt - (i + 1))), (43, .int .i64 T.length), (44, .int .i64 (0 : Nat))] (⟨bt, 0, L.flatMap cI, some 3, kt * 1⟩ :: ⟨b8, 0, cCt R p (some ⟨b, 0, none⟩) k, some 96, 6⟩ :: ⟨b, 0, (plcs R).flatMap cPk, some 104, k * 2⟩ :: H) (by (repeat (first | exact Sub.nil _ | refine Sub.cons rfl ?_)); done) (by (repeat (first | exact List.Sublist.refl _ | apply List.Sublist.cons_cons | apply List.Sublist.cons)); done) ⟨0, a0, b0, w0, by omega, by omega, hI, hw1, hw2, rfl, rfl⟩ ?_
        clear hI hw1 hw2 a0 b0 w0
        rintro _ _ _ ⟨j, a0, b0, w0, rfl, hj, hI, hw1, hw2, rfl, rfl⟩
        by_cases hlj : j < T.length
        · obtain ⟨b9, o9, y, hq9, hy⟩ := (hS1 (⟨bt, 0, L.flatMap cI, some 3, kt * 1⟩ :: ⟨b8, 0, cCt R p (some ⟨b, 0, none⟩) k, some 96, 6⟩ :: ⟨b, 0, (plcs R).flatMap cPk, some 104, k * 2⟩ :: H) (List.Mem.head _)).elem (i := j) hlj
          subst hq9
          have hyp := hLp y (hTm y (List.mem_of_getElem? hy))
          have hdf := fun S hS => differ_spec R p (some ⟨b, 0, none⟩) k ⟨x, m⟩ ⟨y, m⟩ S hr hok.mats hS hok.lens.ages hok.lens.mats hbk hxp hyp hT
          have hbd := rng_bd hr hok.mats hT hxp hyp
          have hwd : wid2 R m x y = (rng R R.mats ⟨x, m⟩ ⟨y, m⟩).hi - (rng R R.mats ⟨x, m⟩ ⟨y, m⟩).lo := rfl
          obtain ⟨s, hs⟩ : ∃ s, s = rng R R.mats ⟨x, m⟩ ⟨y, m⟩ := ⟨_, rfl⟩
          rw [← hs] at hdf hbd hwd
          have hstep : askI (wid2 R m) x (y :: T.drop (j + 1)) (a0, b0, w0) = askI (wid2 R m) x (T.drop (j + 1)) (if w0 < wid2 R m x y then (x, y, wid2 R m x y) else (a0, b0, w0)) := rfl
          rw [drop_cons hy, hstep, hwd] at hI
          by_cases hgt : w0 < s.hi - s.lo
          · rw [if_pos hgt] at hI
            repeat' (first | (refine XO.op rfl ?_; (first | ((first | refine Xo.ng rfl ?_); (first | (refine Xg.ev (EvF.cmp (b := true) rfl rfl rfl (congrArg some (decide_eq_true (by omega)))) rfl rfl ?_) | (refine Xg.ev (EvF.loadV rfl rfl (LoadV.el0 (hS1 _ (by repeat (first | exact List.Mem.head _ | apply List.Mem.tail))) hy (te rfl) rfl (fun _ hm => hm) rfl)) rfl rfl ?_) | (refine Xg.ev (EvF.loadV rfl rfl (LoadV.whole (T := 96) (cs := cCt R p (some ⟨b, 0, none⟩) k) (te rfl) rfl (by repeat (first | exact List.Mem.head _ | apply List.Mem.tail)) rfl)) rfl rfl ?_) | (refine Xg.ev (EvF.build (cs := cPk ⟨x, m⟩) rfl (ArgsP.cons rfl (ArgsP.cons rfl ArgsP.nil)) (te rfl) (Places.cons (te rfl) (Places.cons (te rfl) Places.nil)) Try.zeroValue104 rfl) rfl rfl ?_) | (refine Xg.ev (EvF.build (cs := cPk ⟨y, m⟩) rfl (ArgsP.cons rfl (ArgsP.cons rfl ArgsP.nil)) (te rfl) (Places.cons (te rfl) (Places.cons (te rfl) Places.nil)) Try.zeroValue104 rfl) rfl rfl ?_) | (refine Xg.call (EnF.st rfl (Args.cons rfl (Args.cons rfl (Args.cons rfl Args.nil)))) rfl rfl (hdf _ (hC _ (fun _ h => by repeat (first | exact h | apply List.Mem.tail)) (by repeat (first | exact List.Mem.head _ | apply List.Mem.tail)))) ?_; rintro _ H9 ⟨rfl, hH9⟩; subst H9) | (refine Xg.ev (EvF.move rfl rfl) rfl rfl ?_) | (refine Xg.ev (EvF.assign rfl rfl) rfl rfl ?_) | (refine Xg.ev (EvF.sub64 rfl rfl rfl (by omega) (by omega)) rfl rfl ?_) | (refine Xg.ev (EvF.fieldAddr rfl rfl (te rfl) rfl (te rfl) (by decide)) rfl rfl ?_) | (refine Xg.ev (EvF.indexSlice rfl rfl rfl (te rfl) (te rfl) (by omega) (by omega)) rfl rfl ?_) | (refine Xg.ev (EvF.loadV rfl rfl (LoadV.own (te rfl) rfl (List.Mem.head _) rfl)) rfl rfl ?_) | (refine Xg.st (StF.alloc rfl Try.zeroValue35 rfl) rfl rfl ?_; rintro _ _ ⟨bx, rfl, rfl⟩) | (refine Xg.st0 (StF.storeAll (i := 0) rfl rfl rfl (te rfl) rfl rfl rfl rfl) rfl ?_; rintro _ _ ⟨rfl, rfl⟩; dsimp only [List.set]))))) | (refine XO.done rfl ?_; refine hK _ _ ?_; clear hK K) | refine X.seq rfl ?_ | refine X.region rfl (fun K hK => ?_) | refine X.block rfl ?_ | refine X.skip rfl ?_ | (refine X.ite rfl rfl (fun hc => ?_); (first | (with_reducible refine Xb.t hc ?_)) <;> clear hc))
            all_goals try (exfalso; contradiction)
            generalize bx = b14
            refine X.regionOb tsAq [1, 8, 9, 10, 11, 13, 14, 32, 33, 34, 42, 43, 44] [(1, (.int .i64 m)), (8, (.pointer (some ⟨b8, 0, none⟩))), (9, (.slice (some ⟨bt, 0, none⟩) L.length kt)), (10, (.int .i64 i)), (11, .int .i64 x), (13, .int .i64 y), (14, .pointer (some ⟨b14, 0, none⟩)), (32, (.slice (some ⟨bt, 0, none⟩) L.length kt)), (33, (.int .i64 L.length)), (34, (.int .i64 i)), (42, (.slice (some ⟨b9, o9, none⟩) T.length (kt - (i + 1)))), (43, (.int .i64 T.length)), (44, (.int .i64 j))] (valAq b14 x y s (.int .i64 m) (.pointer (some ⟨b8, 0, none⟩)) (.slice (some ⟨bt, 0, none⟩) L.length kt) (.int .i64 i) (.slice (some ⟨bt, 0, none⟩) L.length kt) (.int .i64 L.length) (.int .i64 i) (.slice (some ⟨b9, o9, none⟩) T.length (kt - (i + 1))) (.int .i64 T.length) (.int .i64 j)) (rowsAq b14 x y s (.int .i64 m) (.pointer (some ⟨b8, 0, none⟩)) (.slice (some ⟨bt, 0, none⟩) L.length kt) (.int .i64 i) (.slice (some ⟨bt, 0, none⟩) L.length kt) (.int .i64 L.length) (.int .i64 i) (.slice (some ⟨b9, o9, none⟩) T.length (kt - (i + 1))) (.int .i64 T.length) (.int .i64 j)) (fun _ => (0, 0)) (⟨b14, 0, cSp s, some 35, 2⟩ :: ⟨bt, 0, L.flatMap cI, some 3, kt * 1⟩ :: ⟨b8, 0, cCt R p (some ⟨b, 0, none⟩) k, some 96, 6⟩ :: ⟨b, 0, (plcs R).flatMap cPk, some 104, k * 2⟩ :: H) rfl mixed (by (repeat (first | exact Sub.nil _ | refine Sub.cons rfl ?_)); done) rfl (by kernel_rfl) (locAq b14 x y s (.int .i64 m) (.pointer (some ⟨b8, 0, none⟩)) (.slice (some ⟨bt, 0, none⟩) L.length kt) (.int .i64 i) (.slice (some ⟨bt, 0, none⟩) L.length kt) (.int .i64 L.length) (.int .i64 i) (.slice (some ⟨b9, o9, none⟩) T.length (kt - (i + 1))) (.int .i64 T.length) (.int .i64 j)) (List.Sublist.refl _) ?_ ?_
            · repeat' (first | exact AllF.done rfl | (refine AllF.step rfl ?_ ?_; · (first | fail | ((first | refine Ob.ng rfl ?_); (first | exact ObK.pure (fun env R hR => by exact ⟨_, EvF.move rfl rfl, rfl⟩) rfl (fun _ => rfl) | exact ObK.pure (fun env R hR => by exact ⟨_, EvF.assign rfl rfl, rfl⟩) rfl (fun _ => rfl) | exact ObK.pure (fun env R hR => by exact ⟨_, EvF.fieldAddr rfl rfl (te rfl) rfl (te rfl) (by decide), rfl⟩) rfl (fun _ => rfl) | exact ObK.pure (fun env R hR => by exact ⟨_, EvF.loadV rfl rfl (LoadV.own (te rfl) rfl (hR _ (List.Mem.head _)) rfl), rfl⟩) rfl (fun _ => rfl) | (exact ObK.pure (fun env S hS => ⟨_, EvF.sub64 rfl rfl rfl (by omega) (by omega), rfl⟩) rfl (fun _ => rfl)))))))
            intro env t ha2 hv; refine ⟨_, ((ha2.cons (hv 7 4 (Nat.le_of_ble_eq_true rfl) rfl)).cons (hv 8 5 (Nat.le_of_ble_eq_true rfl) rfl)).cons (hv 9 6 (Nat.le_of_ble_eq_true rfl) rfl), ?_⟩; clear hv ha2

            repeat' (first | (refine XO.op rfl ?_; (first | ((first | refine Xo.ng rfl ?_); (first | (refine Xg.ev (EvF.move rfl rfl) rfl rfl ?_) | (refine Xg.ev (EvF.add64 rfl rfl rfl (by omega) (by omega)) rfl rfl ?_))))) | (refine XO.done rfl ?_; refine hK _ _ ?_; clear hK K) | refine X.region rfl (fun K hK => ?_))
            exact ⟨_, _, ⟨bt, 0, L.flatMap cI, some 3, kt * 1⟩ :: ⟨b8, 0, cCt R p (some ⟨b, 0, none⟩) k, some 96, 6⟩ :: ⟨b, 0, (plcs R).flatMap cPk, some 104, k * 2⟩ :: H, (by (repeat (first | exact Sub.nil _ | refine Sub.cons rfl ?_)); done), (by (repeat (first | exact List.Sublist.refl _ | apply List.Sublist.cons_cons | apply List.Sublist.cons)); done), ⟨j + 1, x, y, s.hi - s.lo, rfl, by omega, hI, by omega, by omega, rfl, rfl⟩, by omega⟩
          · rw [if_neg hgt] at hI
            repeat' (first | (refine XO.op rfl ?_; (first | ((first | refine Xo.ng rfl ?_); (first | (refine Xg.ev (EvF.cmp (b := true) rfl rfl rfl (congrArg some (decide_eq_true (by omega)))) rfl rfl ?_) | (refine Xg.ev (EvF.cmp (b := false) rfl rfl rfl (congrArg some (decide_eq_false (by omega)))) rfl rfl ?_) | (refine Xg.ev (EvF.loadV rfl rfl (LoadV.el0 (hS1 _ (by repeat (first | exact List.Mem.head _ | apply List.Mem.tail))) hy (te rfl) rfl (fun _ hm => hm) rfl)) rfl rfl ?_) | (refine Xg.ev (EvF.loadV rfl rfl (LoadV.whole (T := 96) (cs := cCt R p (some ⟨b, 0, none⟩) k) (te rfl) rfl (by repeat (first | exact List.Mem.head _ | apply List.Mem.tail)) rfl)) rfl rfl ?_) | (refine Xg.ev (EvF.build (cs := cPk ⟨x, m⟩) rfl (ArgsP.cons rfl (ArgsP.cons rfl ArgsP.nil)) (te rfl) (Places.cons (te rfl) (Places.cons (te rfl) Places.nil)) Try.zeroValue104 rfl) rfl rfl ?_) | (refine Xg.ev (EvF.build (cs := cPk ⟨y, m⟩) rfl (ArgsP.cons rfl (ArgsP.cons rfl ArgsP.nil)) (te rfl) (Places.cons (te rfl) (Places.cons (te rfl) Places.nil)) Try.zeroValue104 rfl) rfl rfl ?_) | (refine Xg.call (EnF.st rfl (Args.cons rfl (Args.cons rfl (Args.cons rfl Args.nil)))) rfl rfl (hdf _ (hC _ (fun _ h => by repeat (first | exact h | apply List.Mem.tail)) (by repeat (first | exact List.Mem.head _ | apply List.Mem.tail)))) ?_; rintro _ H9 ⟨rfl, hH9⟩; subst H9) | (refine Xg.ev (EvF.move rfl rfl) rfl rfl ?_) | (refine Xg.ev (EvF.assign rfl rfl) rfl rfl ?_) | (refine Xg.ev (EvF.add64 rfl rfl rfl (by omega) (by omega)) rfl rfl ?_) | (refine Xg.ev (EvF.sub64 rfl rfl rfl (by omega) (by omega)) rfl rfl ?_) | (refine Xg.ev (EvF.fieldAddr rfl rfl (te rfl) rfl (te rfl) (by decide)) rfl rfl ?_) | (refine Xg.ev (EvF.indexSlice rfl rfl rfl (te rfl) (te rfl) (by omega) (by omega)) rfl rfl ?_) | (refine Xg.ev (EvF.loadV rfl rfl (LoadV.own (te rfl) rfl (List.Mem.head _) rfl)) rfl rfl ?_) | (refine Xg.st (StF.alloc rfl Try.zeroValue35 rfl) rfl rfl ?_; rintro _ _ ⟨bx, rfl, rfl⟩) | (refine Xg.st0 (StF.storeAll (i := 0) rfl rfl rfl (te rfl) rfl rfl rfl rfl) rfl ?_; rintro _ _ ⟨rfl, rfl⟩; dsimp only [List.set]))))) | (refine XO.done rfl ?_; refine hK _ _ ?_; clear hK K) | refine X.seq rfl ?_ | refine X.region rfl (fun K hK => ?_) | refine X.block rfl ?_ | refine X.skip rfl ?_ | (refine X.ite rfl rfl (fun hc => ?_); (first | (with_reducible refine Xb.t hc ?_) | (with_reducible refine Xb.f hc ?_)) <;> clear hc))
            all_goals try (exfalso; contradiction)
            exact ⟨_, _, ⟨bt, 0, L.flatMap cI, some 3, kt * 1⟩ :: ⟨b8, 0, cCt R p (some ⟨b, 0, none⟩) k, some 96, 6⟩ :: ⟨b, 0, (plcs R).flatMap cPk, some 104, k * 2⟩ :: H, (by (repeat (first | exact Sub.nil _ | refine Sub.cons rfl ?_)); done), (by (repeat (first | exact List.Sublist.refl _ | apply List.Sublist.cons_cons | apply List.Sublist.cons)); done), ⟨j + 1, a0, b0, w0, rfl, by omega, hI, by omega, by omega, rfl, rfl⟩, by omega⟩
        · obtain rfl : j = T.length := by omega
          rw [List.drop_length] at hI
          have hI : askO (wid2 R m) T (a0, b0, w0) = Fin := hI
          rw [hTd] at hI
          repeat' (first | (refine XO.op rfl ?_; (first | ((first | refine Xo.ng rfl ?_); (first | (refine Xg.ev (EvF.cmp (b := false) rfl rfl rfl (congrArg some (decide_eq_false (by omega)))) rfl rfl ?_) | (refine Xg.ev (EvF.move rfl rfl) rfl rfl ?_) | (refine Xg.ev (EvF.add64 rfl rfl rfl (by omega) (by omega)) rfl rfl ?_))))) | (refine XO.done rfl ?_; refine hK _ _ ?_; clear hK K) | refine X.seq rfl ?_ | refine X.region rfl (fun K hK => ?_) | (refine X.brk rfl ?_; repeat (first | refine blockX_hit rfl ?_ | refine blockX_miss (by decide) ?_)) | (refine X.ite rfl rfl (fun hc => ?_); (first | (with_reducible refine Xb.f hc ?_)) <;> clear hc))
          all_goals try (exfalso; contradiction)
          exact ⟨_, _, ⟨bt, 0, L.flatMap cI, some 3, kt * 1⟩ :: ⟨b8, 0, cCt R p (some ⟨b, 0, none⟩) k, some 96, 6⟩ :: ⟨b, 0, (plcs R).flatMap cPk, some 104, k * 2⟩ :: H, (by (repeat (first | exact Sub.nil _ | refine Sub.cons rfl ?_)); done), (by (repeat (first | exact List.Sublist.refl _ | apply List.Sublist.cons_cons | apply List.Sublist.cons)); done), ⟨i + 1, a0, b0, w0, rfl, by omega, hI, by omega, by omega, rfl, rfl⟩, by omega⟩
      · obtain rfl : i = L.length := by omega
        rw [List.drop_length] at hI
        have hI : (a0, b0, w0) = Fin := hI
        repeat' (first | (refine XO.op rfl ?_; (first | ((first | refine Xo.ng rfl ?_); (first | (refine Xg.ev (EvF.cmp (b := false) rfl rfl rfl (congrArg some (decide_eq_false (by omega)))) rfl rfl ?_) | (refine Xg.ev (EvF.move rfl rfl) rfl rfl ?_) | (refine Xg.ev (EvF.assign rfl rfl) rfl rfl ?_))))) | (refine XO.done rfl ?_; refine hK _ _ ?_; clear hK K) | refine X.seq rfl ?_ | refine X.region rfl (fun K hK => ?_) | (refine X.brk rfl ?_; repeat (first | refine blockX_hit rfl ?_ | refine blockX_miss (by decide) ?_)) | refine X.ret rfl ?_ | (refine X.ite rfl rfl (fun hc => ?_); (first | (with_reducible refine Xb.f hc ?_)) <;> clear hc))
        all_goals try (exfalso; contradiction)
        exact ret_four (by first | exact .inr rfl | exact .inl rfl) Try.results37 rfl rfl rfl rfl (H' := H) (by (repeat (first | exact List.Sublist.refl _ | apply List.Sublist.cons)); done) ⟨by rw [← hI], rfl⟩
  · have hF : askF R m = ((0, 0, 0), e) := by unfold askF; rw [if_neg (by rw [he]; exact h0), he]
    rw [hF]
    refine Fc.mk (callable Try.call37) Try.func37 rfl Try.ntmps37 rfl ?_; dsimp only [fr]
    repeat' (first | (refine XO.op rfl ?_; (first | ((first | refine Xo.ng rfl ?_); (first | (refine Xg.ev (EvF.cmp (b := true) rfl rfl rfl (congrArg some (nd_t (by omega)))) rfl rfl ?_) | (refine Xg.st (StF.buildOne (v0 := .int .i64 m) rfl el55 rfl rfl rfl (by decide) (by decide)) rfl rfl ?_; rintro _ _ ⟨b1, rfl, rfl⟩) | (refine Xg.ev (EvF.build (cs := cBt ⟨[], none, 0, [m], some ⟨b1, 0, none⟩, 1⟩) rfl (ArgsP.cons rfl ArgsP.nil) (te rfl) (Places.cons (te rfl) (Places.cons (te rfl) Places.nil)) Try.zeroValue101 rfl) rfl rfl ?_) | (refine Xg.call (EnF.st rfl (Args.cons rfl (Args.cons rfl Args.nil))) rfl rfl (openN (hR.sub (fun _ h => by repeat (first | exact h | apply List.Mem.tail))) (hbt _ b1 (List.Mem.head _)) h2 he h0) ?_; rintro _ H9 ⟨rfl, hH9⟩; subst H9) | (refine Xg.st (StF.alloc rfl Try.zeroValue96 rfl) rfl rfl ?_; rintro _ _ ⟨b8, rfl, rfl⟩) | (refine Xg.st0 (StF.storeAll (i := 0) (vs := zCt) rfl rfl rfl (te rfl) rfl rfl rfl rfl) rfl ?_; rintro _ _ ⟨rfl, rfl⟩; dsimp only [List.set]) | (refine Xg.ev (EvF.move rfl rfl) rfl rfl ?_) | (refine Xg.ev (EvF.assign rfl rfl) rfl rfl ?_) | (refine Xg.ev (EvF.loadV rfl rfl (LoadV.whole (te rfl) rfl (List.Mem.head _) rfl)) rfl rfl ?_) | (refine Xg.ev (EvF.extract rfl rfl rfl) rfl rfl ?_) | (refine Xg.st (StF.boxAgg rfl rfl) rfl rfl ?_; rintro _ _ ⟨bx, rfl, rfl⟩))))) | (refine XO.done rfl ?_; refine hK _ _ ?_; clear hK K) | refine X.seq rfl ?_ | refine X.region rfl (fun K hK => ?_) | refine X.ret rfl ?_ | (refine X.ite rfl rfl (fun hc => ?_); (first | (with_reducible refine Xb.t hc ?_)) <;> clear hc))
    all_goals try (exfalso; contradiction)
    exact ret_four (by first | exact .inr rfl | exact .inl rfl) Try.results37 rfl rfl rfl rfl (H' := H) (by (repeat (first | exact List.Sublist.refl _ | apply List.Sublist.cons)); done) ⟨rfl, rfl⟩
end Go.Proofs.Ytblehgpfddmggaa
end
section
set_option linter.unusedVariables false
set_option linter.unusedSimpArgs false
namespace Go.Proofs.Ytblehgpfddmggaa
open Go Go.Fw
set_option maxRecDepth 10000
def thL (m : Int) (l : List Bx) : List Int := (l.filter (fun b => decide (b.made ≤ m))).map (·.id)
theorem thL_cons (m : Int) (b : Bx) (l : List Bx) : thL m (b :: l) = if b.made ≤ m then b.id :: thL m l else thL m l := by
  unfold thL
  by_cases h : b.made ≤ m
  · rw [if_pos h, List.filter_cons_of_pos (by simpa using h)]; rfl
  · rw [if_neg h, List.filter_cons_of_neg (by simpa using h)]
theorem rng_le (R : Rm) (M : List Mt) (a b : Pk) : (rng R M a b).lo ≤ (rng R M a b).hi := by
  unfold rng
  split
  · rename_i h
    have h1 := h.choose_spec
    obtain ⟨z, t, e⟩ := h1.lo
    have h2 := h1.all z t
    omega
  · exact Int.le_refl _
theorem ask_none (w : Int → Int → Int) (hw : ∀ x y, 0 ≤ w x y) (l : List Int) : (askO w l (0, 0, -1)).2.2 < 0 ↔ l.length < 2 := by
  match l with
  | [] => exact ⟨fun _ => by simp, fun _ => by show (-1 : Int) < 0; omega⟩
  | [x] => exact ⟨fun _ => by simp, fun _ => by simp [askO, askI]⟩
  | x :: y :: t =>
    have h1 := askO_two w x y t (0, 0, -1)
    have h2 := hw x y
    constructor
    · intro h; omega
    · intro h; simp only [List.length_cons] at h; omega
def tsAr : List TOp := [⟨some 66, [], [], []⟩, ⟨some 67, [0], [0], []⟩, ⟨some 68, [], [], []⟩, ⟨some 69, [0, 1, 2], [1, 2], []⟩, ⟨some 70, [0, 1, 2, 3], [3], []⟩, ⟨some 71, [0, 1, 2, 3, 4], [4], []⟩, ⟨some 72, [], [], []⟩, ⟨some 73, [6], [6], []⟩, ⟨some 74, [], [], []⟩, ⟨some 75, [6, 7, 8], [7, 8], []⟩, ⟨some 76, [6, 7, 8, 9], [9], []⟩, ⟨some 77, [6, 7, 8, 9, 10], [10], []⟩, ⟨some 78, [], [], []⟩, ⟨some 79, [12], [12], []⟩, ⟨some 80, [], [], []⟩, ⟨some 81, [14], [14], []⟩, ⟨some 82, [12, 13, 14, 15], [13, 15], []⟩, ⟨some 10, [0, 1, 2, 3, 4, 5], [5], []⟩, ⟨some 11, [0, 1, 2, 3, 4, 5, 6, 7, 8, 9, 10, 11, 17], [11], []⟩, ⟨some 12, [0, 1, 2, 3, 4, 5, 6, 7, 8, 9, 10, 11, 12, 13, 14, 15, 16, 17, 18], [16], []⟩]
def valAr (b2 b15 bb off n c2 ii kk : Nat) (R : Rm) (p : Pl) (x y : Int) (s : Sp) (v1 v8 v10 v11 v12 : Value) (k : Nat) (env : Env) : Value :=
  match k with
  | 0 => .pointer (some ⟨b2, 3, none⟩)
  | 1 => .slice (some ⟨bb, off, none⟩) n c2
  | 2 => .int .i64 (ii : Nat)
  | 3 => .pointer (some ⟨bb, off + ii * 2, none⟩)
  | 4 => .pointer (some ⟨bb, off + ii * 2 + 0, none⟩)
  | 5 => .int .i64 x
  | 6 => .pointer (some ⟨b2, 3, none⟩)
  | 7 => .slice (some ⟨bb, off, none⟩) n c2
  | 8 => .int .i64 (kk : Nat)
  | 9 => .pointer (some ⟨bb, off + kk * 2, none⟩)
  | 10 => .pointer (some ⟨bb, off + kk * 2 + 0, none⟩)
  | 11 => .int .i64 y
  | 12 => .pointer (some ⟨b15, 1, none⟩)
  | 13 => .int .i64 s.hi
  | 14 => .pointer (some ⟨b15, 0, none⟩)
  | 15 => .int .i64 s.lo
  | 16 => .int .i64 (s.hi - s.lo)
  | 17 => .int .i64 x
  | 18 => .int .i64 y
  | 19 => .int .i64 (s.hi - s.lo)
  | _ => undef
def rowsAr (b2 b15 bb off n c2 ii kk : Nat) (R : Rm) (p : Pl) (x y : Int) (s : Sp) (v1 v8 v10 v11 v12 : Value) (k : Nat) (env : Env) : List Row :=
  match k with
  | _ => []
theorem locAr (b2 b15 bb off n c2 ii kk : Nat) (R : Rm) (p : Pl) (x y : Int) (s : Sp) (v1 v8 v10 v11 v12 : Value) : ∀ k env i q9, i ≠ k → (tAt tsAr k).sup.contains i = false → valAr b2 b15 bb off n c2 ii kk R p x y s v1 v8 v10 v11 v12 k (upd env i q9) = valAr b2 b15 bb off n c2 ii kk R p x y s v1 v8 v10 v11 v12 k env ∧ rowsAr b2 b15 bb off n c2 ii kk R p x y s v1 v8 v10 v11 v12 k (upd env i q9) = rowsAr b2 b15 bb off n c2 ii kk R p x y s v1 v8 v10 v11 v12 k env := by
  intro k env i q hk hs
  have hu : ∀ j, j ≠ i → upd env i q j = env j := fun j hj => by unfold upd; rw [if_neg hj]
  match k, hk, hs with
  | 0, _, _ => exact ⟨rfl, rfl⟩
  | 1, _, _ => exact ⟨rfl, rfl⟩
  | 2, _, _ => exact ⟨rfl, rfl⟩
  | 3, _, _ => exact ⟨rfl, rfl⟩
  | 4, _, _ => exact ⟨rfl, rfl⟩
  | 5, _, _ => exact ⟨rfl, rfl⟩
  | 6, _, _ => exact ⟨rfl, rfl⟩
  | 7, _, _ => exact ⟨rfl, rfl⟩
  | 8, _, _ => exact ⟨rfl, rfl⟩
  | 9, _, _ => exact ⟨rfl, rfl⟩
  | 10, _, _ => exact ⟨rfl, rfl⟩
  | 11, _, _ => exact ⟨rfl, rfl⟩
  | 12, _, _ => exact ⟨rfl, rfl⟩
  | 13, _, _ => exact ⟨rfl, rfl⟩
  | 14, _, _ => exact ⟨rfl, rfl⟩
  | 15, _, _ => exact ⟨rfl, rfl⟩
  | 16, _, _ => exact ⟨rfl, rfl⟩
  | 17, _, _ => exact ⟨rfl, rfl⟩
  | 18, _, _ => exact ⟨rfl, rfl⟩
  | 19, _, _ => exact ⟨rfl, rfl⟩
  | _ + 20, _, _ => exact ⟨rfl, rfl⟩
set_option maxHeartbeats 16000000 in
theorem rAsk_spec (R : Rm) (p : Pl) (m : Int) (H : List Row) (hR : RmOk H R p) : Fc Try.prog 38 [.agg (cRm R p).toArray, .int .i64 m] H (fun v H' => v = .tuple #[.int .i64 (askF R m).1.1, .int .i64 (askF R m).1.2.1, .int .i64 (askF R m).1.2.2, .int .i64 (askF R m).2] ∧ H' = H) := by
  obtain ⟨e0, he0⟩ : ∃ e, openE R [] [m] = e := ⟨_, rfl⟩
  have has : ∀ (H' : List Row), RmOk H' R p → Fc Try.prog 61 [.agg (cRm R p).toArray, .slice none 0 0, .int .i64 m] H' (fun v H'' => ∃ c : List Sp, c.length = 48 ∧ (e0 = 0 → As R 0 c) ∧ v = .tuple #[.agg (c.flatMap cSp).toArray, .int .i64 e0] ∧ H'' = H') := fun H' q1 => by
    have := rAsked_spec R p [] none 0 m H' q1 sleNil (Nat.zero_le _)
    rw [he0] at this
    exact this
  by_cases h0 : e0 = 0
  · subst h0
    obtain ⟨hok, _, hin, hT⟩ := openE_ok he0
    have hr := hok.ok
    have hb4 := hr.b4
    have hmm : 0 ≤ m ∧ m ≤ R.months - 1 := (hin m (List.mem_singleton.2 rfl)).1
    have hlm : R.mats.length ≤ 100 := by have := hok.1.2.2.2.2.2.2; omega
    obtain ⟨Fin, hFin⟩ : ∃ Fin, Fin = askO (wid2 R m) (thL m R.boxes) (0, 0, -1) := ⟨_, rfl⟩
    have hw0 : Fin.2.2 < 0 ↔ (thI R m).length < 2 := by
      rw [hFin]
      exact ask_none _ (fun x y => by unfold wid2; have := rng_le R R.mats ⟨x, m⟩ ⟨y, m⟩; omega) _
    have hF : askF R m = if Fin.2.2 < 0 then ((0, 0, 0), 6) else (Fin, 0) := by
      unfold askF
      rw [if_pos he0]
      by_cases q : (thI R m).length < 2
      · rw [if_pos q, if_pos (hw0.2 q)]
      · rw [if_neg q, if_neg (fun h => q (hw0.1 h)), hFin]; rfl
    rw [hF]
    clear hF hw0
    refine Fc.mk (callable Try.call38) Try.func38 rfl Try.ntmps38 rfl ?_; dsimp only [fr]
    repeat' (first | (refine XO.op rfl ?_; (first | ((first | refine Xo.ng rfl ?_); (first | (refine Xg.ev (EvF.loadV rfl rfl (LoadV.whole (T := 26) (cs := cRm R p) (te rfl) rfl (by repeat (first | exact List.Mem.head _ | apply List.Mem.tail)) rfl)) rfl rfl ?_) | (refine Xg.call (EnF.st rfl (by (repeat (first | exact Args.nil | refine Args.cons rfl ?_)); done)) rfl rfl (has _ (hR.sub (fun _ h => by repeat (first | exact h | apply List.Mem.tail)))) ?_; rintro _ _ ⟨c, hc, hA, rfl, rfl⟩) | (refine Xg.ev (EvF.extract rfl rfl rfl) rfl rfl ?_) | (refine Xg.st (StF.alloc rfl Try.zeroValue107 rfl) rfl rfl ?_; rintro _ _ ⟨b8, rfl, rfl⟩) | (refine Xg.st0 (StF.storeAll (i := 0) (vs := c.flatMap cSp) (cs := zRc.flatMap cSp) rfl rfl rfl (te rfl) rfl (sp_len96 hc) (sp_one _) (by rw [sp_len96 hc, sp_len]; rfl)) rfl ?_; rintro _ _ ⟨rfl, rfl⟩; dsimp only [List.set]) | (refine Xg.ev (EvF.cmp (b := false) rfl rfl rfl (congrArg some (nd_f (by omega)))) rfl rfl ?_) | (refine Xg.ev (EvF.move rfl rfl) rfl rfl ?_) | (refine Xg.ev (EvF.assign rfl rfl) rfl rfl ?_) | (refine Xg.st (StF.boxAgg rfl rfl) rfl rfl ?_; rintro _ _ ⟨bx, rfl, rfl⟩))))) | (refine XO.done rfl ?_; refine hK _ _ ?_; clear hK K) | refine X.seq rfl ?_ | refine X.region rfl (fun K hK => ?_) | refine X.block rfl ?_ | refine X.skip rfl ?_ | (refine X.ite rfl rfl (fun hc => ?_); (first | (with_reducible refine Xb.f hc ?_)) <;> clear hc))
    all_goals try (exfalso; contradiction)
    generalize bx = b2
    have hA := hA rfl
    have hcl : (c.flatMap cSp).length = 96 := sp_len96 hc
    have hthT := fun (k : Nat) (y : Bx) (hy : R.boxes[k]? = some y) (hyd : y.made ≤ m) S hS => by
      have := rThereI R p m k y S hS hr hmm hy
      rwa [decide_eq_true hyd] at this
    have hthF := fun (k : Nat) (y : Bx) (hy : R.boxes[k]? = some y) (hyd : ¬ y.made ≤ m) S hS => by
      have := rThereI R p m k y S hS hr hmm hy
      rwa [decide_eq_false hyd] at this
    refine X.lp rfl (fun q F' H' => ∃ (i : Nat) (a0 b0 w0 : Int), q = R.boxes.length - i ∧ i ≤ R.boxes.length ∧ askO (wid2 R m) (thL m (R.boxes.drop i)) (a0, b0, w0) = Fin ∧ -1 ≤ w0 ∧ w0 ≤ 120 ∧ H' = ⟨b8, 0, c.flatMap cSp, some 107, 96⟩ :: ⟨b2, 0, cRm R p, some 26, 5⟩ :: H ∧ F' = [(1, .int .i64 m), (2, .pointer (some ⟨b2, 0, none⟩)), (8, .pointer (some ⟨b8, 0, none⟩)), (10, .int .i64 a0), (11, .int .i64 b0), (12, .int .i64 w0), (13, .int .i64 i)])
      R.boxes.length [(1, .int .i64 m), (2, .pointer (some ⟨b2, 0, none⟩)), (8, .pointer (some ⟨b8, 0, none⟩)), (10, .int .i64 0), (11, .int .i64 0), (12, .int .i64 (-1)), (13, .int .i64 (0 : Nat))] (⟨b8, 0, c.flatMap cSp, some 107, 96⟩ :: ⟨b2, 0, cRm R p, some 26, 5⟩ :: H) (by (repeat (first | exact Sub.nil _ | refine Sub.cons rfl ?_)); done) (List.Sublist.refl _) ⟨0, 0, 0, -1, by omega, by omega, hFin.symm, by omega, by omega, rfl, rfl⟩ ?_
    rintro _ _ _ ⟨i, a0, b0, w0, rfl, hi, hI, hw1, hw2, rfl, rfl⟩
    by_cases hlt : i < R.boxes.length
    · obtain ⟨e, he⟩ : ∃ e, R.boxes[i]? = some e := ⟨_, List.getElem?_eq_getElem hlt⟩
      obtain ⟨T, hTd⟩ : ∃ T, T = R.boxes.drop (i + 1) := ⟨_, rfl⟩
      have hTl : T.length = R.boxes.length - (i + 1) := by rw [hTd, List.length_drop]
      rw [drop_cons he, ← hTd, thL_cons] at hI
      repeat' (first | (refine XO.op rfl ?_; (first | ((first | refine Xo.ng rfl ?_); (first | (refine Xg.ev (EvF.cmp (b := true) rfl rfl rfl (congrArg some (decide_eq_true (by omega)))) rfl rfl ?_) | (refine Xg.ev (EvF.loadV rfl rfl (LoadV.own (cs := cRm R p) (te rfl) rfl (by repeat (first | exact List.Mem.head _ | apply List.Mem.tail)) rfl)) rfl rfl ?_) | (refine Xg.ev (EvF.move rfl rfl) rfl rfl ?_) | (refine Xg.ev (EvF.assign rfl rfl) rfl rfl ?_) | (refine Xg.ev (EvF.add64 rfl rfl rfl (by omega) (by omega)) rfl rfl ?_) | (refine Xg.ev (EvF.fieldAddr rfl rfl (te rfl) rfl (te rfl) (by decide)) rfl rfl ?_) | (refine Xg.ev (EvF.lenSlice rfl rfl (te rfl)) rfl rfl ?_))))) | (refine XO.done rfl ?_; refine hK _ _ ?_; clear hK K) | refine X.seq rfl ?_ | refine X.region rfl (fun K hK => ?_) | refine X.block rfl ?_ | refine X.skip rfl ?_ | (refine X.ite rfl rfl (fun hc => ?_); (first | (with_reducible refine Xb.t hc ?_)) <;> clear hc))
      all_goals try (exfalso; contradiction)
      by_cases hmd : e.made ≤ m
      · rw [if_pos hmd] at hI
        change askO (wid2 R m) (thL m T) (askI (wid2 R m) e.id (thL m T) (a0, b0, w0)) = Fin at hI
        have hxe : there R e m := ⟨List.mem_of_getElem? he, hmd, hmm.2⟩
        refine X.lp rfl (fun q F' H' => ∃ (j : Nat) (a0 b0 w0 : Int), q = T.length - j ∧ j ≤ T.length ∧ askO (wid2 R m) (thL m T) (askI (wid2 R m) e.id (thL m (T.drop j)) (a0, b0, w0)) = Fin ∧ -1 ≤ w0 ∧ w0 ≤ 120 ∧ H' = ⟨b8, 0, c.flatMap cSp, some 107, 96⟩ :: ⟨b2, 0, cRm R p, some 26, 5⟩ :: H ∧ F' = [(1, .int .i64 m), (2, .pointer (some ⟨b2, 0, none⟩)), (8, .pointer (some ⟨b8, 0, none⟩)), (10, .int .i64 a0), (11, .int .i64 b0), (12, .int .i64 w0), (13, .int .i64 i), (14, .int .i64 (i + 1 + j : Nat))])
          T.length [(1, .int .i64 m), (2, .pointer (some ⟨b2, 0, none⟩)), (8, .pointer (some ⟨b8, 0, none⟩)), (10, .int .i64 a0), (11, .int .i64 b0), (12, .int .i64 w0), (13, .int .i64 i), (14, .int .i64 (i + 1 + 0 : Nat))] (⟨b8, 0, c.flatMap cSp, some 107, 96⟩ :: ⟨b2, 0, cRm R p, some 26, 5⟩ :: H) (by (repeat (first | exact Sub.nil _ | refine Sub.cons rfl ?_)); done) (List.Sublist.refl _) ⟨0, a0, b0, w0, by omega, by omega, hI, hw1, hw2, rfl, rfl⟩ ?_
        clear hI hw1 hw2 a0 b0 w0
        rintro _ _ _ ⟨j, a0, b0, w0, rfl, hj, hI, hw1, hw2, rfl, rfl⟩
        by_cases hlj : j < T.length
        · obtain ⟨y, hyT⟩ : ∃ y, T[j]? = some y := ⟨_, List.getElem?_eq_getElem hlj⟩
          have hy : R.boxes[i + 1 + j]? = some y := by rw [hTd, List.getElem?_drop] at hyT; exact hyT
          rw [drop_cons hyT, thL_cons] at hI
          by_cases hyd : y.made ≤ m
          · rw [if_pos hyd] at hI
            have hxy : there R y m := ⟨List.mem_of_getElem? hy, hyd, hmm.2⟩
            have hdf := fun S hS => rdiffer_spec R p c e y i (i + 1 + j) m S hr hS hok.mats hlm hc hA hxe hxy he hy
            have hbd := rng_bd hr hok.mats hT (plcs_mem hxe) (plcs_mem hxy)
            have hwd : wid2 R m e.id y.id = (rng R R.mats ⟨e.id, m⟩ ⟨y.id, m⟩).hi - (rng R R.mats ⟨e.id, m⟩ ⟨y.id, m⟩).lo := rfl
            obtain ⟨s, hs⟩ : ∃ s, s = rng R R.mats ⟨e.id, m⟩ ⟨y.id, m⟩ := ⟨_, rfl⟩
            rw [← hs] at hdf hbd hwd
            have hstep : askI (wid2 R m) e.id (y.id :: thL m (T.drop (j + 1))) (a0, b0, w0) = askI (wid2 R m) e.id (thL m (T.drop (j + 1))) (if w0 < wid2 R m e.id y.id then (e.id, y.id, wid2 R m e.id y.id) else (a0, b0, w0)) := rfl
            rw [hstep, hwd] at hI
            by_cases hgt : w0 < s.hi - s.lo
            · rw [if_pos hgt] at hI
              repeat' (first | (refine XO.op rfl ?_; (first | ((first | refine Xo.ng rfl ?_ | (refine Xo.g rfl rfl ?_; with_reducible refine Xw.ff ?_)); (first | (refine Xg.ev (EvF.cmp (b := true) rfl rfl rfl (congrArg some (decide_eq_true (by omega)))) rfl rfl ?_) | (refine Xg.ev (EvF.loadV rfl rfl (LoadV.own (cs := cRm R p) (te rfl) rfl (by repeat (first | exact List.Mem.head _ | apply List.Mem.tail)) rfl)) rfl rfl ?_) | (refine Xg.ev (EvF.loadV rfl rfl (LoadV.whole (T := 26) (cs := cRm R p) (te rfl) rfl (by repeat (first | exact List.Mem.head _ | apply List.Mem.tail)) rfl)) rfl rfl ?_) | (refine Xg.ev (EvF.loadV rfl rfl (LoadV.whole (T := 107) (cs := c.flatMap cSp) (te rfl) rfl (by repeat (first | exact List.Mem.head _ | apply List.Mem.tail)) hcl)) rfl rfl ?_) | (refine Xg.call (EnF.st rfl (Args.cons rfl (Args.cons rfl (Args.cons rfl Args.nil)))) rfl rfl (hthT i e he hmd _ (hR.sub (fun _ h => by repeat (first | exact h | apply List.Mem.tail)))) ?_; rintro _ H9 ⟨rfl, hH9⟩; subst H9) | (refine Xg.call (EnF.st rfl (Args.cons rfl (Args.cons rfl (Args.cons rfl Args.nil)))) rfl rfl (hthT (i + 1 + j) y hy hyd _ (hR.sub (fun _ h => by repeat (first | exact h | apply List.Mem.tail)))) ?_; rintro _ H9 ⟨rfl, hH9⟩; subst H9) | (refine Xg.call (EnF.st rfl (by (repeat (first | exact Args.nil | refine Args.cons rfl ?_)); done)) rfl rfl (hdf _ (hR.sub (fun _ h => by repeat (first | exact h | apply List.Mem.tail)))) ?_; rintro _ H9 ⟨rfl, hH9⟩; subst H9) | (refine Xg.ev (EvF.move rfl rfl) rfl rfl ?_) | (refine Xg.ev (EvF.assign rfl rfl) rfl rfl ?_) | (refine Xg.ev (EvF.pickT rfl rfl rfl) rfl rfl ?_) | (refine Xg.ev (EvF.pickF rfl rfl rfl) rfl rfl ?_) | (refine Xg.ev (EvF.add64 rfl rfl rfl (by omega) (by omega)) rfl rfl ?_) | (refine Xg.ev (EvF.sub64 rfl rfl rfl (by omega) (by omega)) rfl rfl ?_) | (refine Xg.ev (EvF.not rfl rfl) rfl rfl ?_) | (refine Xg.ev (EvF.fieldAddr rfl rfl (te rfl) rfl (te rfl) (by decide)) rfl rfl ?_) | (refine Xg.ev (EvF.lenSlice rfl rfl (te rfl)) rfl rfl ?_) | (refine Xg.ev (EvF.loadV rfl rfl (LoadV.own (te rfl) rfl (List.Mem.head _) rfl)) rfl rfl ?_) | (refine Xg.st (StF.alloc rfl Try.zeroValue35 rfl) rfl rfl ?_; rintro _ _ ⟨bx, rfl, rfl⟩) | (refine Xg.st0 (StF.storeAll (i := 0) rfl rfl rfl (te rfl) rfl rfl rfl rfl) rfl ?_; rintro _ _ ⟨rfl, rfl⟩; dsimp only [List.set]))) | (refine Xo.g rfl rfl ?_; (first | (with_reducible refine Xw.tf rfl rfl ?_) | (with_reducible refine Xw.caseB (fun h => ?_) (fun h => ?_) <;> simp only [h, decide_true, decide_false, Bool.not_true, Bool.not_false, and_self, and_true, true_and, and_false, false_and]))))) | (refine XO.done rfl ?_; refine hK _ _ ?_; clear hK K) | refine X.seq rfl ?_ | refine X.region rfl (fun K hK => ?_) | refine X.block rfl ?_ | (refine X.brk rfl ?_; repeat (first | refine blockX_hit rfl ?_ | refine blockX_miss (by decide) ?_)) | refine X.skip rfl ?_ | (refine X.ite rfl rfl (fun hc => ?_); (first | (with_reducible refine Xb.t hc ?_) | (with_reducible refine Xb.caseB hc (fun h => ?_) (fun h => ?_))) <;> clear hc))
              all_goals try (exfalso; contradiction)
              generalize bx = b15
              obtain ⟨bb, off, _, hq2, _⟩ := hR.boxes.elem (i := i) hlt
              have hbs : SlE H (some ⟨bb, off, none⟩) cBx 2 R.boxes := by rw [← hq2]; exact hR.boxes
              refine X.regionOb tsAr [1, 2, 8, 13, 14, 15] [(1, (.int .i64 m)), (2, .pointer (some ⟨b2, 0, none⟩)), (8, (.pointer (some ⟨b8, 0, none⟩))), (13, .int .i64 (i : Nat)), (14, .int .i64 ((i + 1 + j) : Nat)), (15, .pointer (some ⟨b15, 0, none⟩))] (valAr b2 b15 bb off R.boxes.length p.c2 i (i + 1 + j) R p e.id y.id s (.int .i64 m) (.pointer (some ⟨b8, 0, none⟩)) (.int .i64 a0) (.int .i64 b0) (.int .i64 w0)) (rowsAr b2 b15 bb off R.boxes.length p.c2 i (i + 1 + j) R p e.id y.id s (.int .i64 m) (.pointer (some ⟨b8, 0, none⟩)) (.int .i64 a0) (.int .i64 b0) (.int .i64 w0)) (fun _ => (0, 0)) (⟨b15, 0, cSp s, some 35, 2⟩ :: ⟨b8, 0, c.flatMap cSp, some 107, 96⟩ :: ⟨b2, 0, cRm R p, some 26, 5⟩ :: H) rfl mixed (by (repeat (first | exact Sub.nil _ | refine Sub.cons rfl ?_)); done) rfl (by kernel_rfl) (locAr b2 b15 bb off R.boxes.length p.c2 i (i + 1 + j) R p e.id y.id s (.int .i64 m) (.pointer (some ⟨b8, 0, none⟩)) (.int .i64 a0) (.int .i64 b0) (.int .i64 w0)) (List.Sublist.refl _) ?_ ?_
              · repeat' (first | exact AllF.done rfl | (refine AllF.step rfl ?_ ?_; · (first | fail | ((first | refine Ob.ng rfl ?_); (first | exact ObK.pure (fun env R hR => by exact ⟨_, EvF.move rfl rfl, rfl⟩) rfl (fun _ => rfl) | exact ObK.pure (fun env R hR => by exact ⟨_, EvF.assign rfl rfl, rfl⟩) rfl (fun _ => rfl) | exact ObK.pure (fun env R hR => by exact ⟨_, EvF.fieldAddr rfl rfl (te rfl) rfl (te rfl) (by decide), rfl⟩) rfl (fun _ => rfl) | exact ObK.pure (fun env R hR => by exact ⟨_, EvF.loadV rfl rfl (LoadV.own (te rfl) rfl (hR _ (List.Mem.head _)) rfl), rfl⟩) rfl (fun _ => rfl) | (exact ObK.pure (fun env S hS => ⟨_, EvF.sub64 rfl rfl rfl (by omega) (by omega), rfl⟩) rfl (fun _ => rfl)) | ((refine ObK.pure (fun env S hS => ⟨.slice (some ⟨bb, off, none⟩) R.boxes.length p.c2, ?_, rfl⟩) rfl (fun _ => rfl); rw [← hq2]; exact EvF.loadV rfl rfl (LoadV.own (cs := cRm R p) (te rfl) rfl (hS _ (List.Mem.tail _ (List.Mem.tail _ (List.Mem.head _)))) rfl))) | ((refine ObK.pure (fun env S hS => ⟨.pointer (some ⟨bb, off + i * 2, none⟩), ?_, rfl⟩) rfl (fun _ => rfl); exact EvF.indexSlice (i := (i : Int)) (off := off) (b := bb) (T := 23) (e := 81) (len := R.boxes.length) (ti := ⟨.st [(0, 3), (1, 3)], 2, 16⟩) rfl rfl rfl (te rfl) (te rfl) (by omega) (by omega))) | ((refine ObK.pure (fun env S hS => ⟨.pointer (some ⟨bb, off + (i + 1 + j) * 2, none⟩), ?_, rfl⟩) rfl (fun _ => rfl); exact EvF.indexSlice (i := ((i + 1 + j : Nat) : Int)) (off := off) (b := bb) (T := 23) (e := 81) (len := R.boxes.length) (ti := ⟨.st [(0, 3), (1, 3)], 2, 16⟩) rfl rfl rfl (te rfl) (te rfl) (by omega) (by omega))) | (exact ObK.pure (fun env S hS => ⟨.int .i64 e.id, EvF.loadV rfl rfl (LoadV.el1 (n := i) (j := 0) hbs he (te rfl) rfl (fun _ h => hS _ (List.Mem.tail _ (List.Mem.tail _ (List.Mem.tail _ h)))) rfl), rfl⟩) rfl (fun _ => rfl)) | (exact ObK.pure (fun env S hS => ⟨.int .i64 y.id, EvF.loadV rfl rfl (LoadV.el1 (n := i + 1 + j) (j := 0) hbs hy (te rfl) rfl (fun _ h => hS _ (List.Mem.tail _ (List.Mem.tail _ (List.Mem.tail _ h)))) rfl), rfl⟩) rfl (fun _ => rfl)))))))
              intro env t ha2 hv; refine ⟨_, ((ha2.cons (hv 17 10 (Nat.le_of_ble_eq_true rfl) rfl)).cons (hv 18 11 (Nat.le_of_ble_eq_true rfl) rfl)).cons (hv 19 12 (Nat.le_of_ble_eq_true rfl) rfl), ?_⟩; clear hv ha2
              repeat' (first | (refine XO.op rfl ?_; (first | ((first | refine Xo.ng rfl ?_); (first | (refine Xg.ev (EvF.move rfl rfl) rfl rfl ?_) | (refine Xg.ev (EvF.assign rfl rfl) rfl rfl ?_) | (refine Xg.ev (EvF.add64 rfl rfl rfl (by omega) (by omega)) rfl rfl ?_))))) | (refine XO.done rfl ?_; refine hK _ _ ?_; clear hK K) | refine X.region rfl (fun K hK => ?_))
              exact ⟨_, _, ⟨b8, 0, c.flatMap cSp, some 107, 96⟩ :: ⟨b2, 0, cRm R p, some 26, 5⟩ :: H, (by (repeat (first | exact Sub.nil _ | refine Sub.cons rfl ?_)); done), (by (repeat (first | exact List.Sublist.refl _ | apply List.Sublist.cons_cons | apply List.Sublist.cons)); done), ⟨j + 1, e.id, y.id, s.hi - s.lo, rfl, by omega, hI, by omega, by omega, rfl, rfl⟩, by omega⟩
            · rw [if_neg hgt] at hI
              repeat' (first | (refine XO.op rfl ?_; (first | ((first | refine Xo.ng rfl ?_ | (refine Xo.g rfl rfl ?_; with_reducible refine Xw.ff ?_)); (first | (refine Xg.ev (EvF.cmp (b := true) rfl rfl rfl (congrArg some (decide_eq_true (by omega)))) rfl rfl ?_) | (refine Xg.ev (EvF.cmp (b := false) rfl rfl rfl (congrArg some (decide_eq_false (by omega)))) rfl rfl ?_) | (refine Xg.ev (EvF.loadV rfl rfl (LoadV.own (cs := cRm R p) (te rfl) rfl (by repeat (first | exact List.Mem.head _ | apply List.Mem.tail)) rfl)) rfl rfl ?_) | (refine Xg.ev (EvF.loadV rfl rfl (LoadV.whole (T := 26) (cs := cRm R p) (te rfl) rfl (by repeat (first | exact List.Mem.head _ | apply List.Mem.tail)) rfl)) rfl rfl ?_) | (refine Xg.ev (EvF.loadV rfl rfl (LoadV.whole (T := 107) (cs := c.flatMap cSp) (te rfl) rfl (by repeat (first | exact List.Mem.head _ | apply List.Mem.tail)) hcl)) rfl rfl ?_) | (refine Xg.call (EnF.st rfl (Args.cons rfl (Args.cons rfl (Args.cons rfl Args.nil)))) rfl rfl (hthT i e he hmd _ (hR.sub (fun _ h => by repeat (first | exact h | apply List.Mem.tail)))) ?_; rintro _ H9 ⟨rfl, hH9⟩; subst H9) | (refine Xg.call (EnF.st rfl (Args.cons rfl (Args.cons rfl (Args.cons rfl Args.nil)))) rfl rfl (hthT (i + 1 + j) y hy hyd _ (hR.sub (fun _ h => by repeat (first | exact h | apply List.Mem.tail)))) ?_; rintro _ H9 ⟨rfl, hH9⟩; subst H9) | (refine Xg.call (EnF.st rfl (by (repeat (first | exact Args.nil | refine Args.cons rfl ?_)); done)) rfl rfl (hdf _ (hR.sub (fun _ h => by repeat (first | exact h | apply List.Mem.tail)))) ?_; rintro _ H9 ⟨rfl, hH9⟩; subst H9) | (refine Xg.ev (EvF.move rfl rfl) rfl rfl ?_) | (refine Xg.ev (EvF.assign rfl rfl) rfl rfl ?_) | (refine Xg.ev (EvF.pickT rfl rfl rfl) rfl rfl ?_) | (refine Xg.ev (EvF.pickF rfl rfl rfl) rfl rfl ?_) | (refine Xg.ev (EvF.add64 rfl rfl rfl (by omega) (by omega)) rfl rfl ?_) | (refine Xg.ev (EvF.sub64 rfl rfl rfl (by omega) (by omega)) rfl rfl ?_) | (refine Xg.ev (EvF.not rfl rfl) rfl rfl ?_) | (refine Xg.ev (EvF.fieldAddr rfl rfl (te rfl) rfl (te rfl) (by decide)) rfl rfl ?_) | (refine Xg.ev (EvF.lenSlice rfl rfl (te rfl)) rfl rfl ?_) | (refine Xg.ev (EvF.loadV rfl rfl (LoadV.own (te rfl) rfl (List.Mem.head _) rfl)) rfl rfl ?_) | (refine Xg.st (StF.alloc rfl Try.zeroValue35 rfl) rfl rfl ?_; rintro _ _ ⟨bx, rfl, rfl⟩) | (refine Xg.st0 (StF.storeAll (i := 0) rfl rfl rfl (te rfl) rfl rfl rfl rfl) rfl ?_; rintro _ _ ⟨rfl, rfl⟩; dsimp only [List.set]))) | (refine Xo.g rfl rfl ?_; (first | (with_reducible refine Xw.tf rfl rfl ?_) | (with_reducible refine Xw.caseB (fun h => ?_) (fun h => ?_) <;> simp only [h, decide_true, decide_false, Bool.not_true, Bool.not_false, and_self, and_true, true_and, and_false, false_and]))))) | (refine XO.done rfl ?_; refine hK _ _ ?_; clear hK K) | refine X.seq rfl ?_ | refine X.region rfl (fun K hK => ?_) | refine X.block rfl ?_ | (refine X.brk rfl ?_; repeat (first | refine blockX_hit rfl ?_ | refine blockX_miss (by decide) ?_)) | refine X.skip rfl ?_ | (refine X.ite rfl rfl (fun hc => ?_); (first | (with_reducible refine Xb.t hc ?_) | (with_reducible refine Xb.f hc ?_) | (with_reducible refine Xb.caseB hc (fun h => ?_) (fun h => ?_))) <;> clear hc))
              all_goals try (exfalso; contradiction)
              exact ⟨_, _, ⟨b8, 0, c.flatMap cSp, some 107, 96⟩ :: ⟨b2, 0, cRm R p, some 26, 5⟩ :: H, (by (repeat (first | exact Sub.nil _ | refine Sub.cons rfl ?_)); done), (by (repeat (first | exact List.Sublist.refl _ | apply List.Sublist.cons_cons | apply List.Sublist.cons)); done), ⟨j + 1, a0, b0, w0, rfl, by omega, hI, by omega, by omega, rfl, rfl⟩, by omega⟩
          · rw [if_neg hyd] at hI
            repeat' (first | (refine XO.op rfl ?_; (first | ((first | refine Xo.ng rfl ?_ | (refine Xo.g rfl rfl ?_; with_reducible refine Xw.ff ?_)); (first | (refine Xg.ev (EvF.cmp (b := true) rfl rfl rfl (congrArg some (decide_eq_true (by omega)))) rfl rfl ?_) | (refine Xg.ev (EvF.loadV rfl rfl (LoadV.own (cs := cRm R p) (te rfl) rfl (by repeat (first | exact List.Mem.head _ | apply List.Mem.tail)) rfl)) rfl rfl ?_) | (refine Xg.ev (EvF.loadV rfl rfl (LoadV.whole (T := 26) (cs := cRm R p) (te rfl) rfl (by repeat (first | exact List.Mem.head _ | apply List.Mem.tail)) rfl)) rfl rfl ?_) | (refine Xg.call (EnF.st rfl (Args.cons rfl (Args.cons rfl (Args.cons rfl Args.nil)))) rfl rfl (hthT i e he hmd _ (hR.sub (fun _ h => by repeat (first | exact h | apply List.Mem.tail)))) ?_; rintro _ H9 ⟨rfl, hH9⟩; subst H9) | (refine Xg.call (EnF.st rfl (Args.cons rfl (Args.cons rfl (Args.cons rfl Args.nil)))) rfl rfl (hthF (i + 1 + j) y hy hyd _ (hR.sub (fun _ h => by repeat (first | exact h | apply List.Mem.tail)))) ?_; rintro _ H9 ⟨rfl, hH9⟩; subst H9) | (refine Xg.ev (EvF.move rfl rfl) rfl rfl ?_) | (refine Xg.ev (EvF.assign rfl rfl) rfl rfl ?_) | (refine Xg.ev (EvF.pickT rfl rfl rfl) rfl rfl ?_) | (refine Xg.ev (EvF.pickF rfl rfl rfl) rfl rfl ?_) | (refine Xg.ev (EvF.add64 rfl rfl rfl (by omega) (by omega)) rfl rfl ?_) | (refine Xg.ev (EvF.not rfl rfl) rfl rfl ?_) | (refine Xg.ev (EvF.fieldAddr rfl rfl (te rfl) rfl (te rfl) (by decide)) rfl rfl ?_) | (refine Xg.ev (EvF.lenSlice rfl rfl (te rfl)) rfl rfl ?_))) | (refine Xo.g rfl rfl ?_; (first | (with_reducible refine Xw.tf rfl rfl ?_) | (with_reducible refine Xw.caseB (fun h => ?_) (fun h => ?_) <;> simp only [h, decide_true, decide_false, Bool.not_true, Bool.not_false, and_self, and_true, true_and, and_false, false_and]))))) | (refine XO.done rfl ?_; refine hK _ _ ?_; clear hK K) | refine X.seq rfl ?_ | refine X.region rfl (fun K hK => ?_) | refine X.block rfl ?_ | (refine X.brk rfl ?_; repeat (first | refine blockX_hit rfl ?_ | refine blockX_miss (by decide) ?_)) | refine X.skip rfl ?_ | (refine X.ite rfl rfl (fun hc => ?_); (first | (with_reducible refine Xb.t hc ?_) | (with_reducible refine Xb.caseB hc (fun h => ?_) (fun h => ?_))) <;> clear hc))
            all_goals try (exfalso; contradiction)
            exact ⟨_, _, ⟨b8, 0, c.flatMap cSp, some 107, 96⟩ :: ⟨b2, 0, cRm R p, some 26, 5⟩ :: H, (by (repeat (first | exact Sub.nil _ | refine Sub.cons rfl ?_)); done), (by (repeat (first | exact List.Sublist.refl _ | apply List.Sublist.cons_cons | apply List.Sublist.cons)); done), ⟨j + 1, a0, b0, w0, rfl, by omega, hI, by omega, by omega, rfl, rfl⟩, by omega⟩
        · obtain rfl : j = T.length := by omega
          rw [List.drop_length] at hI
          change askO (wid2 R m) (thL m T) (a0, b0, w0) = Fin at hI
          rw [hTd] at hI
          repeat' (first | (refine XO.op rfl ?_; (first | ((first | refine Xo.ng rfl ?_); (first | (refine Xg.ev (EvF.cmp (b := false) rfl rfl rfl (congrArg some (decide_eq_false (by omega)))) rfl rfl ?_) | (refine Xg.ev (EvF.loadV rfl rfl (LoadV.own (cs := cRm R p) (te rfl) rfl (by repeat (first | exact List.Mem.head _ | apply List.Mem.tail)) rfl)) rfl rfl ?_) | (refine Xg.ev (EvF.move rfl rfl) rfl rfl ?_) | (refine Xg.ev (EvF.assign rfl rfl) rfl rfl ?_) | (refine Xg.ev (EvF.add64 rfl rfl rfl (by omega) (by omega)) rfl rfl ?_) | (refine Xg.ev (EvF.fieldAddr rfl rfl (te rfl) rfl (te rfl) (by decide)) rfl rfl ?_) | (refine Xg.ev (EvF.lenSlice rfl rfl (te rfl)) rfl rfl ?_))))) | (refine XO.done rfl ?_; refine hK _ _ ?_; clear hK K) | refine X.seq rfl ?_ | refine X.region rfl (fun K hK => ?_) | (refine X.brk rfl ?_; repeat (first | refine blockX_hit rfl ?_ | refine blockX_miss (by decide) ?_)) | (refine X.ite rfl rfl (fun hc => ?_); (first | (with_reducible refine Xb.f hc ?_)) <;> clear hc))
          all_goals try (exfalso; contradiction)
          exact ⟨_, _, ⟨b8, 0, c.flatMap cSp, some 107, 96⟩ :: ⟨b2, 0, cRm R p, some 26, 5⟩ :: H, (by (repeat (first | exact Sub.nil _ | refine Sub.cons rfl ?_)); done), (by (repeat (first | exact List.Sublist.refl _ | apply List.Sublist.cons_cons | apply List.Sublist.cons)); done), ⟨i + 1, a0, b0, w0, rfl, by omega, hI, by omega, by omega, rfl, rfl⟩, by omega⟩
      · rw [if_neg hmd] at hI
        refine X.lp rfl (fun q F' H' => ∃ (j : Nat), q = T.length - j ∧ j ≤ T.length ∧ H' = ⟨b8, 0, c.flatMap cSp, some 107, 96⟩ :: ⟨b2, 0, cRm R p, some 26, 5⟩ :: H ∧ F' = [(1, .int .i64 m), (2, .pointer (some ⟨b2, 0, none⟩)), (8, .pointer (some ⟨b8, 0, none⟩)), (10, .int .i64 a0), (11, .int .i64 b0), (12, .int .i64 w0), (13, .int .i64 i), (14, .int .i64 (i + 1 + j : Nat))])
          T.length [(1, .int .i64 m), (2, .pointer (some ⟨b2, 0, none⟩)), (8, .pointer (some ⟨b8, 0, none⟩)), (10, .int .i64 a0), (11, .int .i64 b0), (12, .int .i64 w0), (13, .int .i64 i), (14, .int .i64 (i + 1 + 0 : Nat))] (⟨b8, 0, c.flatMap cSp, some 107, 96⟩ :: ⟨b2, 0, cRm R p, some 26, 5⟩ :: H) (by (repeat (first | exact Sub.nil _ | refine Sub.cons rfl ?_)); done) (List.Sublist.refl _) ⟨0, by omega, by omega, rfl, rfl⟩ ?_
        rintro _ _ _ ⟨j, rfl, hj, rfl, rfl⟩
        by_cases hlj : j < T.length
        · repeat' (first | (refine XO.op rfl ?_; (first | ((first | refine Xo.ng rfl ?_ | (refine Xo.g rfl rfl ?_; with_reducible refine Xw.ff ?_)); (first | (refine Xg.ev (EvF.cmp (b := true) rfl rfl rfl (congrArg some (decide_eq_true (by omega)))) rfl rfl ?_) | (refine Xg.ev (EvF.loadV rfl rfl (LoadV.own (cs := cRm R p) (te rfl) rfl (by repeat (first | exact List.Mem.head _ | apply List.Mem.tail)) rfl)) rfl rfl ?_) | (refine Xg.ev (EvF.loadV rfl rfl (LoadV.whole (T := 26) (cs := cRm R p) (te rfl) rfl (by repeat (first | exact List.Mem.head _ | apply List.Mem.tail)) rfl)) rfl rfl ?_) | (refine Xg.call (EnF.st rfl (Args.cons rfl (Args.cons rfl (Args.cons rfl Args.nil)))) rfl rfl (hthF i e he hmd _ (hR.sub (fun _ h => by repeat (first | exact h | apply List.Mem.tail)))) ?_; rintro _ H9 ⟨rfl, hH9⟩; subst H9) | (refine Xg.ev (EvF.move rfl rfl) rfl rfl ?_) | (refine Xg.ev (EvF.assign rfl rfl) rfl rfl ?_) | (refine Xg.ev (EvF.pickT rfl rfl rfl) rfl rfl ?_) | (refine Xg.ev (EvF.add64 rfl rfl rfl (by omega) (by omega)) rfl rfl ?_) | (refine Xg.ev (EvF.not rfl rfl) rfl rfl ?_) | (refine Xg.ev (EvF.fieldAddr rfl rfl (te rfl) rfl (te rfl) (by decide)) rfl rfl ?_) | (refine Xg.ev (EvF.lenSlice rfl rfl (te rfl)) rfl rfl ?_))) | (refine Xo.g rfl rfl ?_; (first | (with_reducible refine Xw.tf rfl rfl ?_) | (with_reducible refine Xw.caseB (fun h => ?_) (fun h => ?_) <;> simp only [h, decide_true, decide_false, Bool.not_true, Bool.not_false, and_self, and_true, true_and, and_false, false_and]))))) | (refine XO.done rfl ?_; refine hK _ _ ?_; clear hK K) | refine X.seq rfl ?_ | refine X.region rfl (fun K hK => ?_) | refine X.block rfl ?_ | (refine X.brk rfl ?_; repeat (first | refine blockX_hit rfl ?_ | refine blockX_miss (by decide) ?_)) | refine X.skip rfl ?_ | (refine X.ite rfl rfl (fun hc => ?_); (first | (with_reducible refine Xb.t hc ?_)) <;> clear hc))
          all_goals try (exfalso; contradiction)
          exact ⟨_, _, ⟨b8, 0, c.flatMap cSp, some 107, 96⟩ :: ⟨b2, 0, cRm R p, some 26, 5⟩ :: H, (by (repeat (first | exact Sub.nil _ | refine Sub.cons rfl ?_)); done), (by (repeat (first | exact List.Sublist.refl _ | apply List.Sublist.cons_cons | apply List.Sublist.cons)); done), ⟨j + 1, rfl, by omega, rfl, rfl⟩, by omega⟩
        · repeat' (first | (refine XO.op rfl ?_; (first | ((first | refine Xo.ng rfl ?_); (first | (refine Xg.ev (EvF.cmp (b := false) rfl rfl rfl (congrArg some (decide_eq_false (by omega)))) rfl rfl ?_) | (refine Xg.ev (EvF.loadV rfl rfl (LoadV.own (cs := cRm R p) (te rfl) rfl (by repeat (first | exact List.Mem.head _ | apply List.Mem.tail)) rfl)) rfl rfl ?_) | (refine Xg.ev (EvF.move rfl rfl) rfl rfl ?_) | (refine Xg.ev (EvF.assign rfl rfl) rfl rfl ?_) | (refine Xg.ev (EvF.add64 rfl rfl rfl (by omega) (by omega)) rfl rfl ?_) | (refine Xg.ev (EvF.fieldAddr rfl rfl (te rfl) rfl (te rfl) (by decide)) rfl rfl ?_) | (refine Xg.ev (EvF.lenSlice rfl rfl (te rfl)) rfl rfl ?_))))) | (refine XO.done rfl ?_; refine hK _ _ ?_; clear hK K) | refine X.seq rfl ?_ | refine X.region rfl (fun K hK => ?_) | (refine X.brk rfl ?_; repeat (first | refine blockX_hit rfl ?_ | refine blockX_miss (by decide) ?_)) | (refine X.ite rfl rfl (fun hc => ?_); (first | (with_reducible refine Xb.f hc ?_)) <;> clear hc))
          all_goals try (exfalso; contradiction)
          rw [hTd] at hI
          exact ⟨_, _, ⟨b8, 0, c.flatMap cSp, some 107, 96⟩ :: ⟨b2, 0, cRm R p, some 26, 5⟩ :: H, (by (repeat (first | exact Sub.nil _ | refine Sub.cons rfl ?_)); done), (by (repeat (first | exact List.Sublist.refl _ | apply List.Sublist.cons_cons | apply List.Sublist.cons)); done), ⟨i + 1, a0, b0, w0, rfl, by omega, hI, by omega, by omega, rfl, rfl⟩, by omega⟩
    · obtain rfl : i = R.boxes.length := by omega
      rw [List.drop_length] at hI
      have hI : (a0, b0, w0) = Fin := hI
      rw [← hI]
      by_cases hw : w0 < 0
      · repeat' (first | (refine XO.op rfl ?_; (first | ((first | refine Xo.ng rfl ?_); (first | (refine Xg.ev (EvF.cmp (b := true) rfl rfl rfl (congrArg some (decide_eq_true (by omega)))) rfl rfl ?_) | (refine Xg.ev (EvF.cmp (b := false) rfl rfl rfl (congrArg some (decide_eq_false (by omega)))) rfl rfl ?_) | (refine Xg.ev (EvF.loadV rfl rfl (LoadV.own (cs := cRm R p) (te rfl) rfl (by repeat (first | exact List.Mem.head _ | apply List.Mem.tail)) rfl)) rfl rfl ?_) | (refine Xg.ev (EvF.move rfl rfl) rfl rfl ?_) | (refine Xg.ev (EvF.assign rfl rfl) rfl rfl ?_) | (refine Xg.ev (EvF.fieldAddr rfl rfl (te rfl) rfl (te rfl) (by decide)) rfl rfl ?_) | (refine Xg.ev (EvF.lenSlice rfl rfl (te rfl)) rfl rfl ?_))))) | (refine XO.done rfl ?_; refine hK _ _ ?_; clear hK K) | refine X.seq rfl ?_ | refine X.region rfl (fun K hK => ?_) | (refine X.brk rfl ?_; repeat (first | refine blockX_hit rfl ?_ | refine blockX_miss (by decide) ?_)) | refine X.ret rfl ?_ | (refine X.ite rfl rfl (fun hc => ?_); (first | (with_reducible refine Xb.t hc ?_) | (with_reducible refine Xb.f hc ?_)) <;> clear hc))
        all_goals try (exfalso; contradiction)
        exact ret_four (by first | exact .inr rfl | exact .inl rfl) Try.results38 rfl rfl rfl rfl (H' := H) (by (repeat (first | exact List.Sublist.refl _ | apply List.Sublist.cons_cons | apply List.Sublist.cons)); done) ⟨by rw [if_pos hw], rfl⟩
      · repeat' (first | (refine XO.op rfl ?_; (first | ((first | refine Xo.ng rfl ?_); (first | (refine Xg.ev (EvF.cmp (b := false) rfl rfl rfl (congrArg some (decide_eq_false (by omega)))) rfl rfl ?_) | (refine Xg.ev (EvF.loadV rfl rfl (LoadV.own (cs := cRm R p) (te rfl) rfl (by repeat (first | exact List.Mem.head _ | apply List.Mem.tail)) rfl)) rfl rfl ?_) | (refine Xg.ev (EvF.move rfl rfl) rfl rfl ?_) | (refine Xg.ev (EvF.assign rfl rfl) rfl rfl ?_) | (refine Xg.ev (EvF.fieldAddr rfl rfl (te rfl) rfl (te rfl) (by decide)) rfl rfl ?_) | (refine Xg.ev (EvF.lenSlice rfl rfl (te rfl)) rfl rfl ?_))))) | (refine XO.done rfl ?_; refine hK _ _ ?_; clear hK K) | refine X.seq rfl ?_ | refine X.region rfl (fun K hK => ?_) | (refine X.brk rfl ?_; repeat (first | refine blockX_hit rfl ?_ | refine blockX_miss (by decide) ?_)) | refine X.skip rfl ?_ | refine X.ret rfl ?_ | (refine X.ite rfl rfl (fun hc => ?_); (first | (with_reducible refine Xb.f hc ?_)) <;> clear hc))
        all_goals try (exfalso; contradiction)
        exact ret_four (by first | exact .inr rfl | exact .inl rfl) Try.results38 rfl rfl rfl rfl (H' := H) (by (repeat (first | exact List.Sublist.refl _ | apply List.Sublist.cons_cons | apply List.Sublist.cons)); done) ⟨by rw [if_neg hw], rfl⟩
  · have hF : askF R m = ((0, 0, 0), e0) := by unfold askF; rw [if_neg (by rw [he0]; exact h0), he0]
    rw [hF]
    refine Fc.mk (callable Try.call38) Try.func38 rfl Try.ntmps38 rfl ?_; dsimp only [fr]
    repeat' (first | (refine XO.op rfl ?_; (first | ((first | refine Xo.ng rfl ?_); (first | (refine Xg.ev (EvF.loadV rfl rfl (LoadV.whole (T := 26) (cs := cRm R p) (te rfl) rfl (by repeat (first | exact List.Mem.head _ | apply List.Mem.tail)) rfl)) rfl rfl ?_) | (refine Xg.call (EnF.st rfl (by (repeat (first | exact Args.nil | refine Args.cons rfl ?_)); done)) rfl rfl (has _ (hR.sub (fun _ h => by repeat (first | exact h | apply List.Mem.tail)))) ?_; rintro _ _ ⟨c, hc, hA, rfl, rfl⟩) | (refine Xg.ev (EvF.extract rfl rfl rfl) rfl rfl ?_) | (refine Xg.st (StF.alloc rfl Try.zeroValue107 rfl) rfl rfl ?_; rintro _ _ ⟨b8, rfl, rfl⟩) | (refine Xg.st0 (StF.storeAll (i := 0) (vs := c.flatMap cSp) (cs := zRc.flatMap cSp) rfl rfl rfl (te rfl) rfl (sp_len96 hc) (sp_one _) (by rw [sp_len96 hc, sp_len]; rfl)) rfl ?_; rintro _ _ ⟨rfl, rfl⟩; dsimp only [List.set]) | (refine Xg.ev (EvF.cmp (b := true) rfl rfl rfl (congrArg some (nd_t (by omega)))) rfl rfl ?_) | (refine Xg.ev (EvF.move rfl rfl) rfl rfl ?_) | (refine Xg.ev (EvF.assign rfl rfl) rfl rfl ?_) | (refine Xg.st (StF.boxAgg rfl rfl) rfl rfl ?_; rintro _ _ ⟨bx, rfl, rfl⟩))))) | (refine XO.done rfl ?_; refine hK _ _ ?_; clear hK K) | refine X.seq rfl ?_ | refine X.region rfl (fun K hK => ?_) | refine X.ret rfl ?_ | (refine X.ite rfl rfl (fun hc => ?_); (first | (with_reducible refine Xb.t hc ?_)) <;> clear hc))
    all_goals try (exfalso; contradiction)
    exact ret_four (by first | exact .inr rfl | exact .inl rfl) Try.results38 rfl rfl rfl rfl (H' := H) (by (repeat (first | exact List.Sublist.refl _ | apply List.Sublist.cons_cons | apply List.Sublist.cons)); done) ⟨rfl, rfl⟩
end Go.Proofs.Ytblehgpfddmggaa
end
section
set_option linter.unusedVariables false
set_option linter.unusedSimpArgs false
namespace Go.Proofs.Ytblehgpfddmggaa
open Go Go.Fw
set_option maxRecDepth 10000
set_option maxHeartbeats 16000000 in
theorem rFresh_spec (R : Rm) (p : Pl) (m : Int) (H : List Row) (hR : RmOk H R p) : Fc Try.prog 36 [.agg (cRm R p).toArray, .int .i64 m] H (LstR (freF R m).1 (freF R m).2 H) := by
  obtain ⟨e0, he0⟩ : ∃ e, openE R [] [m] = e := ⟨_, rfl⟩
  have has : ∀ (H' : List Row), RmOk H' R p → Fc Try.prog 61 [.agg (cRm R p).toArray, .slice none 0 0, .int .i64 m] H' (fun v H'' => ∃ c : List Sp, c.length = 48 ∧ (e0 = 0 → As R 0 c) ∧ v = .tuple #[.agg (c.flatMap cSp).toArray, .int .i64 e0] ∧ H'' = H') := fun H' q1 => by
    have := rAsked_spec R p [] none 0 m H' q1 sleNil (Nat.zero_le _)
    rw [he0] at this
    exact this
  by_cases h0 : e0 = 0
  · subst h0
    obtain ⟨hok, _, hin, hT⟩ := openE_ok he0
    have hr := hok.ok
    have hb4 := hr.b4
    have hmm : 0 ≤ m ∧ m ≤ R.months - 1 := (hin m (List.mem_singleton.2 rfl)).1
    have hlm : R.mats.length ≤ 90 := by have := hok.1.2.2.2.2.2.2; omega
    have hF : freF R m = (freL R m, 0) := by unfold freF; rw [if_pos he0]
    rw [hF, freL_boxes]
    have hfin : (R.boxes.filter (fun b => decide (b.made ≤ m) && !stale R m b.id)).map (·.id) = frT R m R.boxes := rfl
    rw [hfin]
    clear hfin
    refine Fc.mk (callable Try.call36) Try.func36 rfl Try.ntmps36 rfl ?_; dsimp only [fr]
    repeat' (first | (refine XO.op rfl ?_; (first | ((first | refine Xo.ng rfl ?_); (first | (refine Xg.ev (EvF.loadV rfl rfl (LoadV.whole (T := 26) (cs := cRm R p) (te rfl) rfl (by repeat (first | exact List.Mem.head _ | apply List.Mem.tail)) rfl)) rfl rfl ?_) | (refine Xg.call (EnF.st rfl (by (repeat (first | exact Args.nil | refine Args.cons rfl ?_)); done)) rfl rfl (has _ (hR.sub (fun _ h => by repeat (first | exact h | apply List.Mem.tail)))) ?_; rintro _ _ ⟨c, hc, hA, rfl, rfl⟩) | (refine Xg.ev (EvF.extract rfl rfl rfl) rfl rfl ?_) | (refine Xg.st (StF.alloc rfl Try.zeroValue107 rfl) rfl rfl ?_; rintro _ _ ⟨b6, rfl, rfl⟩) | (refine Xg.st0 (StF.storeAll (i := 0) (vs := c.flatMap cSp) (cs := zRc.flatMap cSp) rfl rfl rfl (te rfl) rfl (sp_len96 hc) (sp_one _) (by rw [sp_len96 hc, sp_len]; rfl)) rfl ?_; rintro _ _ ⟨rfl, rfl⟩; dsimp only [List.set]) | (refine Xg.ev (EvF.cmp (b := false) rfl rfl rfl (congrArg some (nd_f (by omega)))) rfl rfl ?_) | (refine Xg.ev (EvF.move rfl rfl) rfl rfl ?_) | (refine Xg.ev (EvF.assign rfl rfl) rfl rfl ?_) | (refine Xg.ev (EvF.fieldAddr rfl rfl (te rfl) rfl (te rfl) (by decide)) rfl rfl ?_) | (refine Xg.ev (EvF.lenSlice rfl rfl (te rfl)) rfl rfl ?_) | (refine Xg.ev (EvF.loadV rfl rfl (LoadV.own (te rfl) rfl (List.Mem.tail _ (List.Mem.head _)) rfl)) rfl rfl ?_) | (refine Xg.st (StF.boxAgg rfl rfl) rfl rfl ?_; rintro _ _ ⟨bx, rfl, rfl⟩))))) | (refine XO.done rfl ?_; refine hK _ _ ?_; clear hK K) | refine X.seq rfl ?_ | refine X.region rfl (fun K hK => ?_) | refine X.block rfl ?_ | refine X.skip rfl ?_ | (refine X.ite rfl rfl (fun hc => ?_); (first | (with_reducible refine Xb.f hc ?_)) <;> clear hc))
    all_goals try (exfalso; contradiction)
    generalize bx = b2
    have hA := hA rfl
    have hcl : (c.flatMap cSp).length = 96 := sp_len96 hc
    obtain ⟨p1, pc1, p2, pc2, p3, pc3⟩ := p
    obtain ⟨p, hp⟩ : ∃ p : Pl, p = ⟨p1, pc1, p2, pc2, p3, pc3⟩ := ⟨_, rfl⟩
    rw [← hp] at hR ⊢
    have e2 : p2 = p.a2 := by rw [hp]
    have e3 : pc2 = p.c2 := by rw [hp]
    clear hp has
    subst e2 e3
    refine X.lp rfl (fun q F' H' => ∃ (i : Nat) (out : Value) (Z : List Row), q = R.boxes.length - i ∧ i ≤ R.boxes.length ∧ TrvI (frT R m (R.boxes.take i)) out Z ∧ H' = Z ++ ⟨b6, 0, c.flatMap cSp, some 107, 96⟩ :: ⟨b2, 0, cRm R p, some 26, 5⟩ :: H ∧ F' = [(1, .int .i64 m), (2, .pointer (some ⟨b2, 0, none⟩)), (6, .pointer (some ⟨b6, 0, none⟩)), (8, out), (26, .slice p.a2 R.boxes.length p.c2), (27, .int .i64 R.boxes.length), (28, .int .i64 i)])
      R.boxes.length [(1, .int .i64 m), (2, .pointer (some ⟨b2, 0, none⟩)), (6, .pointer (some ⟨b6, 0, none⟩)), (8, .slice none 0 0), (26, .slice p.a2 R.boxes.length p.c2), (27, .int .i64 R.boxes.length), (28, .int .i64 (0 : Nat))] (⟨b6, 0, c.flatMap cSp, some 107, 96⟩ :: ⟨b2, 0, cRm R p, some 26, 5⟩ :: H) (by (repeat (first | exact Sub.nil _ | refine Sub.cons rfl ?_)); done) (List.Sublist.refl _) ⟨0, _, [], by omega, by omega, .inl ⟨rfl, rfl, rfl⟩, rfl, rfl⟩ ?_
    rintro _ _ _ ⟨i, out, Z, rfl, hi, hTz, rfl, rfl⟩
    by_cases hlt : i < R.boxes.length
    · obtain ⟨bb, off, e, hq2, he⟩ := hR.boxes.elem (i := i) hlt
      have hsn := frT_snoc (R := R) (m := m) he
      have hix := index_box hr.bx he
      have hbs : ∀ S, RmOk S R p → SlE S (some ⟨bb, off, none⟩) cBx 2 R.boxes := fun S hS => by rw [← hq2]; exact hS.boxes
      obtain ⟨G, hG⟩ : ∃ G, G = Z ++ ⟨b6, 0, c.flatMap cSp, some 107, 96⟩ :: ⟨b2, 0, cRm R p, some 26, 5⟩ :: H := ⟨_, rfl⟩
      have hg1 : (⟨b6, 0, c.flatMap cSp, some 107, 96⟩ : Row) ∈ G := by rw [hG]; exact List.mem_append_right _ (List.Mem.head _)
      have hg2 : (⟨b2, 0, cRm R p, some 26, 5⟩ : Row) ∈ G := by rw [hG]; exact List.mem_append_right _ (List.Mem.tail _ (List.Mem.head _))
      have hGR : RmOk G R p := hR.sub (fun r h => by rw [hG]; exact List.mem_append_right _ (List.Mem.tail _ (List.Mem.tail _ h)))
      have hthT := fun (k : Nat) (y : Bx) (hy : R.boxes[k]? = some y) (hyd : y.made ≤ m) S hS => by
        have := rThereI R p m k y S hS hr hmm hy
        rwa [decide_eq_true hyd] at this
      have hthF := fun (k : Nat) (y : Bx) (hy : R.boxes[k]? = some y) (hyd : ¬ y.made ≤ m) S hS => by
        have := rThereI R p m k y S hS hr hmm hy
        rwa [decide_eq_false hyd] at this
      rw [← hG, hq2]
      by_cases hmd : e.made ≤ m
      · have hx : there R e m := ⟨List.mem_of_getElem? he, hmd, hmm.2⟩
        repeat' (first | (refine XO.op rfl ?_; (first | ((first | refine Xo.ng rfl ?_); (first | (refine Xg.ev (EvF.cmp (b := true) rfl rfl rfl (congrArg some (decide_eq_true (by omega)))) rfl rfl ?_) | (refine Xg.ev (EvF.loadV rfl rfl (LoadV.own (cs := cRm R p) (te rfl) rfl (by repeat (first | exact hg2 | apply List.Mem.tail)) rfl)) rfl rfl ?_) | (refine Xg.ev (EvF.loadV rfl rfl (LoadV.whole (T := 26) (cs := cRm R p) (te rfl) rfl (by repeat (first | exact hg2 | apply List.Mem.tail)) rfl)) rfl rfl ?_) | (refine Xg.ev (EvF.loadV rfl rfl (LoadV.elA0 (hbs _ (hGR.sub (fun _ h => by repeat (first | exact h | apply List.Mem.tail)))) he (te rfl) rfl (fun _ hm => hm) rfl)) rfl rfl ?_) | (refine Xg.call (EnF.st rfl (Args.cons rfl (Args.cons rfl (Args.cons rfl Args.nil)))) rfl rfl (hthT i e he hmd _ (hGR.sub (fun _ h => by repeat (first | exact h | apply List.Mem.tail)))) ?_; rintro _ H9 ⟨rfl, hH9⟩; subst H9) | (refine Xg.st (StF.buildNil rfl el24) rfl rfl ?_; rintro _ _ ⟨bz, rfl, rfl⟩) | (refine Xg.st (StF.appendSl (i := 0) (l := R.mats) rfl el24 rfl rfl rfl (hGR.mats.sub (fun _ h => by repeat (first | exact h | apply List.Mem.tail))) (fun e _ => one_mt e) rfl (by decide) (by omega)) rfl rfl ?_; rintro _ _ ⟨bl, kl, rfl, rfl⟩; dsimp only [List.eraseIdx]; simp only [Nat.zero_add, List.nil_append]) | (refine Xg.ev (EvF.move rfl rfl) rfl rfl ?_) | (refine Xg.ev (EvF.assign rfl rfl) rfl rfl ?_) | (refine Xg.ev (EvF.add64 rfl rfl rfl (by omega) (by omega)) rfl rfl ?_) | (refine Xg.ev (EvF.not rfl rfl) rfl rfl ?_) | (refine Xg.ev (EvF.fieldAddr rfl rfl (te rfl) rfl (te rfl) (by decide)) rfl rfl ?_) | (refine Xg.ev (EvF.lenSlice rfl rfl (te rfl)) rfl rfl ?_) | (refine Xg.ev (EvF.indexSlice rfl rfl rfl (te rfl) (te rfl) (by omega) (by omega)) rfl rfl ?_) | (refine Xg.st (StF.alloc rfl Try.zeroValue35 rfl) rfl rfl ?_; rintro _ _ ⟨bx, rfl, rfl⟩) | (refine Xg.st0 (StF.storeAll (i := 0) rfl rfl rfl (te rfl) rfl rfl rfl rfl) rfl ?_; rintro _ _ ⟨rfl, rfl⟩; dsimp only [List.set]))))) | (refine XO.done rfl ?_; refine hK _ _ ?_; clear hK K) | refine X.seq rfl ?_ | refine X.region rfl (fun K hK => ?_) | refine X.block rfl ?_ | (refine X.brk rfl ?_; repeat (first | refine blockX_hit rfl ?_ | refine blockX_miss (by decide) ?_)) | refine X.skip rfl ?_ | (refine X.ite rfl rfl (fun hc => ?_); (first | (with_reducible refine Xb.t hc ?_) | (with_reducible refine Xb.caseB hc (fun h => ?_) (fun h => ?_))) <;> clear hc))
        all_goals try (exfalso; contradiction)
        generalize bx = b10
        rw [hq2]
        refine X.lp rfl (fun q F' H' => ∃ (k bl n kl : Nat), q = R.boxes.length - k ∧ k ≤ R.boxes.length ∧ n = (R.mats ++ frE m e (R.boxes.take k)).length ∧ H' = ⟨bl, 0, (R.mats ++ frE m e (R.boxes.take k)).flatMap cMt, some 114, kl * 6⟩ :: ⟨b10, 0, cBx e, some 81, 2⟩ :: G ∧ F' = [(1, .int .i64 m), (2, .pointer (some ⟨b2, 0, none⟩)), (6, .pointer (some ⟨b6, 0, none⟩)), (8, out), (9, .int .i64 i), (10, .pointer (some ⟨b10, 0, none⟩)), (11, .slice (some ⟨bl, 0, none⟩) n kl), (26, .slice (some ⟨bb, off, none⟩) R.boxes.length p.c2), (27, .int .i64 R.boxes.length), (28, .int .i64 i), (43, .slice (some ⟨bb, off, none⟩) R.boxes.length p.c2), (44, .int .i64 R.boxes.length), (45, .int .i64 k)])
          R.boxes.length [(1, .int .i64 m), (2, .pointer (some ⟨b2, 0, none⟩)), (6, .pointer (some ⟨b6, 0, none⟩)), (8, out), (9, .int .i64 i), (10, .pointer (some ⟨b10, 0, none⟩)), (11, .slice (some ⟨bl, 0, none⟩) R.mats.length kl), (26, .slice (some ⟨bb, off, none⟩) R.boxes.length p.c2), (27, .int .i64 R.boxes.length), (28, .int .i64 i), (43, .slice (some ⟨bb, off, none⟩) R.boxes.length p.c2), (44, .int .i64 R.boxes.length), (45, .int .i64 (0 : Nat))] (⟨bl, 0, (R.mats ++ frE m e (R.boxes.take 0)).flatMap cMt, some 114, kl * 6⟩ :: ⟨b10, 0, cBx e, some 81, 2⟩ :: G) (by (repeat (first | exact Sub.nil _ | refine Sub.cons rfl ?_)); done) (by rw [show R.mats ++ frE m e (R.boxes.take 0) = R.mats by rw [List.take_zero]; exact List.append_nil _]; exact (by (repeat (first | exact List.Sublist.refl _ | apply List.Sublist.cons_cons | apply List.Sublist.cons)); done)) ⟨0, bl, _, kl, by omega, by omega, by rw [show R.mats ++ frE m e (R.boxes.take 0) = R.mats by rw [List.take_zero]; exact List.append_nil _], rfl, rfl⟩ ?_
        clear bl kl
        rintro _ _ _ ⟨k, bl, n, kl, rfl, hk, hn, rfl, rfl⟩
        by_cases hkl : k < R.boxes.length
        · obtain ⟨y, hy⟩ : ∃ y, R.boxes[k]? = some y := ⟨_, List.getElem?_eq_getElem hkl⟩
          have hsE := frE_snoc (m := m) (x := e) hy
          have hlE := frE_len m e (R.boxes.take k)
          have hlT := List.length_take (i := k) (l := R.boxes)
          have hnl : n ≤ 100 := by rw [hn, List.length_append]; omega
          have hlen : ((R.mats ++ frE m e (R.boxes.take k)).flatMap cMt).length = n * 6 := by rw [lenMt, hn]
          by_cases hki : k = i
          · subst hki
            rw [he] at hy
            cases hy
            rw [if_neg (fun q => q.2 rfl), List.append_nil] at hsE
            repeat' (first | (refine XO.op rfl ?_; (first | ((first | refine Xo.ng rfl ?_); (first | (refine Xg.ev (EvF.cmp (b := true) rfl rfl rfl (congrArg some (decide_eq_true (by omega)))) rfl rfl ?_) | (refine Xg.ev (EvF.cmp (b := false) rfl rfl rfl (congrArg some (nd_f (by omega)))) rfl rfl ?_) | (refine Xg.ev (EvF.loadV rfl rfl (LoadV.elA0 (hbs _ (hGR.sub (fun _ h => by repeat (first | exact h | apply List.Mem.tail)))) he (te rfl) rfl (fun _ hm => hm) rfl)) rfl rfl ?_) | (refine Xg.ev (EvF.move rfl rfl) rfl rfl ?_) | (refine Xg.ev (EvF.assign rfl rfl) rfl rfl ?_) | (refine Xg.ev (EvF.pickF rfl rfl rfl) rfl rfl ?_) | (refine Xg.ev (EvF.add64 rfl rfl rfl (by omega) (by omega)) rfl rfl ?_) | (refine Xg.ev (EvF.indexSlice rfl rfl rfl (te rfl) (te rfl) (by omega) (by omega)) rfl rfl ?_) | (refine Xg.st (StF.alloc rfl Try.zeroValue35 rfl) rfl rfl ?_; rintro _ _ ⟨bx, rfl, rfl⟩) | (refine Xg.st0 (StF.storeAll (i := 0) rfl rfl rfl (te rfl) rfl rfl rfl rfl) rfl ?_; rintro _ _ ⟨rfl, rfl⟩; dsimp only [List.set]))) | (refine Xo.g rfl rfl ?_; (first | (with_reducible refine Xw.ft rfl rfl ?_))))) | (refine XO.done rfl ?_; refine hK _ _ ?_; clear hK K) | refine X.seq rfl ?_ | refine X.region rfl (fun K hK => ?_) | refine X.block rfl ?_ | refine X.skip rfl ?_ | (refine X.ite rfl rfl (fun hc => ?_); (first | (with_reducible refine Xb.t hc ?_) | (with_reducible refine Xb.f hc ?_)) <;> clear hc))
            all_goals try (exfalso; contradiction)
            exact ⟨_, _, ⟨bl, 0, (R.mats ++ frE m e (R.boxes.take k)).flatMap cMt, some 114, kl * 6⟩ :: ⟨b10, 0, cBx e, some 81, 2⟩ :: G, (by (repeat (first | exact Sub.nil _ | refine Sub.cons rfl ?_)); done), (by (repeat (first | exact List.Sublist.refl _ | apply List.Sublist.cons_cons | apply List.Sublist.cons)); done), ⟨k + 1, bl, n, kl, rfl, by omega, by rw [hsE]; exact hn, by rw [hsE], rfl⟩, by omega⟩
          · have hne : y.id ≠ e.id := fun q => by
              have h1 := index_box hr.bx hy
              rw [q, hix] at h1
              omega
            by_cases hyd : y.made ≤ m
            · rw [if_pos ⟨hyd, hne⟩] at hsE
              repeat' (first | (refine XO.op rfl ?_; (first | ((first | refine Xo.ng rfl ?_ | (refine Xo.g rfl rfl ?_; with_reducible refine Xw.tt ?_)); (first | (refine Xg.ev (EvF.cmp (b := true) rfl rfl rfl (congrArg some (decide_eq_true (by omega)))) rfl rfl ?_) | (refine Xg.ev (EvF.cmp (b := true) rfl rfl rfl (congrArg some (nd_t (by omega)))) rfl rfl ?_) | (refine Xg.ev (EvF.loadV rfl rfl (LoadV.whole (T := 26) (cs := cRm R p) (te rfl) rfl (by repeat (first | exact hg2 | apply List.Mem.tail)) rfl)) rfl rfl ?_) | (refine Xg.ev (EvF.loadV rfl rfl (LoadV.elA0 (hbs _ (hGR.sub (fun _ h => by repeat (first | exact h | apply List.Mem.tail)))) hy (te rfl) rfl (fun _ hm => hm) rfl)) rfl rfl ?_) | (refine Xg.call (EnF.st rfl (Args.cons rfl (Args.cons rfl (Args.cons rfl Args.nil)))) rfl rfl (hthT k y hy hyd _ (hGR.sub (fun _ h => by repeat (first | exact h | apply List.Mem.tail)))) ?_; rintro _ H9 ⟨rfl, hH9⟩; subst H9) | (refine Xg.ev (EvF.build (cs := cSp ⟨0, 60⟩) rfl (ArgsP.cons rfl (ArgsP.cons rfl ArgsP.nil)) (te rfl) (Places.cons (te rfl) (Places.cons (te rfl) Places.nil)) Try.zeroValue35 rfl) rfl rfl ?_) | (refine Xg.ev (EvF.build (cs := cMt ⟨0, m, y.id, e.id, 0, 60⟩) rfl (ArgsP.cons rfl (ArgsP.cons rfl (ArgsP.cons rfl (ArgsP.cons rfl ArgsP.nil)))) (te rfl) (Places.cons (te rfl) (Places.cons (te rfl) (Places.cons (te rfl) (Places.cons (te rfl) (Places.cons (te rfl) Places.nil))))) Try.zeroValue114 rfl) rfl rfl ?_) | (refine Xg.st (StF.buildOne rfl el24 rfl rfl rfl (by decide) (by decide)) rfl rfl ?_; rintro _ _ ⟨bs, rfl, rfl⟩) | (refine Xg.st (StF.appendOwn (i := 2) rfl el24 rfl rfl rfl hlen rfl (Rd.own (List.Mem.head _)) rfl (by omega)) rfl rfl ?_; rintro _ _ ⟨bn, kn, rfl, rfl⟩; dsimp only [List.eraseIdx]) | (refine Xg.ev (EvF.move rfl rfl) rfl rfl ?_) | (refine Xg.ev (EvF.assign rfl rfl) rfl rfl ?_) | (refine Xg.ev (EvF.pickT rfl rfl rfl) rfl rfl ?_) | (refine Xg.ev (EvF.add64 rfl rfl rfl (by omega) (by omega)) rfl rfl ?_) | (refine Xg.ev (EvF.fieldAddr rfl rfl (te rfl) rfl (te rfl) (by decide)) rfl rfl ?_) | (refine Xg.ev (EvF.indexSlice rfl rfl rfl (te rfl) (te rfl) (by omega) (by omega)) rfl rfl ?_) | (refine Xg.ev (EvF.loadV rfl rfl (LoadV.own (te rfl) rfl (List.Mem.head _) rfl)) rfl rfl ?_) | (refine Xg.ev (EvF.loadV rfl rfl (LoadV.own (te rfl) rfl (List.Mem.tail _ (List.Mem.tail _ (List.Mem.head _))) rfl)) rfl rfl ?_) | (refine Xg.st (StF.alloc rfl Try.zeroValue35 rfl) rfl rfl ?_; rintro _ _ ⟨bx, rfl, rfl⟩) | (refine Xg.st0 (StF.storeAll (i := 0) rfl rfl rfl (te rfl) rfl rfl rfl rfl) rfl ?_; rintro _ _ ⟨rfl, rfl⟩; dsimp only [List.set]))))) | (refine XO.done rfl ?_; refine hK _ _ ?_; clear hK K) | refine X.seq rfl ?_ | refine X.region rfl (fun K hK => ?_) | refine X.block rfl ?_ | refine X.skip rfl ?_ | (refine X.ite rfl rfl (fun hc => ?_); (first | (with_reducible refine Xb.t hc ?_)) <;> clear hc))
              all_goals try (exfalso; contradiction)
              refine ⟨_, _, ⟨bn, 0, (R.mats ++ frE m e (R.boxes.take (k + 1))).flatMap cMt, some 114, kn * 6⟩ :: ⟨b10, 0, cBx e, some 81, 2⟩ :: G, (by (repeat (first | exact Sub.nil _ | refine Sub.cons rfl ?_)); done), ?_, ⟨k + 1, bn, n + 1, kn, rfl, by omega, by rw [hsE, ← List.append_assoc, List.length_append, ← hn]; rfl, rfl, rfl⟩, by omega⟩
              rw [hsE, ← List.append_assoc, List.flatMap_append]
              exact (by (repeat (first | exact List.Sublist.refl _ | apply List.Sublist.cons_cons | apply List.Sublist.cons)); done)
            · rw [if_neg (fun q => hyd q.1), List.append_nil] at hsE
              repeat' (first | (refine XO.op rfl ?_; (first | ((first | refine Xo.ng rfl ?_ | (refine Xo.g rfl rfl ?_; with_reducible refine Xw.tt ?_)); (first | (refine Xg.ev (EvF.cmp (b := true) rfl rfl rfl (congrArg some (decide_eq_true (by omega)))) rfl rfl ?_) | (refine Xg.ev (EvF.cmp (b := true) rfl rfl rfl (congrArg some (nd_t (by omega)))) rfl rfl ?_) | (refine Xg.ev (EvF.loadV rfl rfl (LoadV.whole (T := 26) (cs := cRm R p) (te rfl) rfl (by repeat (first | exact hg2 | apply List.Mem.tail)) rfl)) rfl rfl ?_) | (refine Xg.ev (EvF.loadV rfl rfl (LoadV.elA0 (hbs _ (hGR.sub (fun _ h => by repeat (first | exact h | apply List.Mem.tail)))) hy (te rfl) rfl (fun _ hm => hm) rfl)) rfl rfl ?_) | (refine Xg.call (EnF.st rfl (Args.cons rfl (Args.cons rfl (Args.cons rfl Args.nil)))) rfl rfl (hthF k y hy hyd _ (hGR.sub (fun _ h => by repeat (first | exact h | apply List.Mem.tail)))) ?_; rintro _ H9 ⟨rfl, hH9⟩; subst H9) | (refine Xg.ev (EvF.move rfl rfl) rfl rfl ?_) | (refine Xg.ev (EvF.assign rfl rfl) rfl rfl ?_) | (refine Xg.ev (EvF.pickT rfl rfl rfl) rfl rfl ?_) | (refine Xg.ev (EvF.add64 rfl rfl rfl (by omega) (by omega)) rfl rfl ?_) | (refine Xg.ev (EvF.indexSlice rfl rfl rfl (te rfl) (te rfl) (by omega) (by omega)) rfl rfl ?_) | (refine Xg.st (StF.alloc rfl Try.zeroValue35 rfl) rfl rfl ?_; rintro _ _ ⟨bx, rfl, rfl⟩) | (refine Xg.st0 (StF.storeAll (i := 0) rfl rfl rfl (te rfl) rfl rfl rfl rfl) rfl ?_; rintro _ _ ⟨rfl, rfl⟩; dsimp only [List.set]))))) | (refine XO.done rfl ?_; refine hK _ _ ?_; clear hK K) | refine X.seq rfl ?_ | refine X.region rfl (fun K hK => ?_) | refine X.block rfl ?_ | refine X.skip rfl ?_ | (refine X.ite rfl rfl (fun hc => ?_); (first | (with_reducible refine Xb.t hc ?_) | (with_reducible refine Xb.f hc ?_)) <;> clear hc))
              all_goals try (exfalso; contradiction)
              exact ⟨_, _, ⟨bl, 0, (R.mats ++ frE m e (R.boxes.take k)).flatMap cMt, some 114, kl * 6⟩ :: ⟨b10, 0, cBx e, some 81, 2⟩ :: G, (by (repeat (first | exact Sub.nil _ | refine Sub.cons rfl ?_)); done), (by (repeat (first | exact List.Sublist.refl _ | apply List.Sublist.cons_cons | apply List.Sublist.cons)); done), ⟨k + 1, bl, n, kl, rfl, by omega, by rw [hsE]; exact hn, by rw [hsE], rfl⟩, by omega⟩
        · obtain rfl : k = R.boxes.length := by omega
          rw [List.take_length] at hn ⊢
          subst hn
          have hfc := fun bl kl S h1 h2 => fclosed_spec R p m e c bl kl S hr hok.mats hlm hA hx h1 h2
          obtain ⟨w, hw⟩ : ∃ w, w = stale R m e.id := ⟨_, rfl⟩
          rw [← hw] at hfc hsn
          have hzl := frT_len R m (R.boxes.take i)
          have hlT := List.length_take (i := i) (l := R.boxes)
          cases w with
          | true =>
            rw [if_neg (fun q => by cases q.2), List.append_nil] at hsn
            repeat' (first | (refine XO.op rfl ?_; (first | ((first | refine Xo.ng rfl ?_); (first | (refine Xg.ev (EvF.cmp (b := false) rfl rfl rfl (congrArg some (decide_eq_false (by omega)))) rfl rfl ?_) | (refine Xg.ev (EvF.loadV rfl rfl (LoadV.whole (T := 26) (cs := cRm R p) (te rfl) rfl (by repeat (first | exact hg2 | apply List.Mem.tail)) rfl)) rfl rfl ?_) | (refine Xg.ev (EvF.loadV rfl rfl (LoadV.whole (T := 107) (cs := c.flatMap cSp) (te rfl) rfl (by repeat (first | exact hg1 | apply List.Mem.tail)) hcl)) rfl rfl ?_) | (refine Xg.call (EnF.st rfl (by (repeat (first | exact Args.nil | refine Args.cons rfl ?_)); done)) rfl rfl (hfc bl kl _ (hGR.sub (fun _ h => by repeat (first | exact h | apply List.Mem.tail))) (List.Mem.head _)) ?_; rintro _ _ ⟨l, hl, rfl, rfl⟩) | (refine Xg.ev (EvF.extract rfl rfl rfl) rfl rfl ?_) | (refine Xg.st (StF.alloc rfl Try.zeroValue107 rfl) rfl rfl ?_; rintro _ _ ⟨b14, rfl, rfl⟩) | (refine Xg.st0 (StF.storeAll (i := 0) (vs := l.flatMap cSp) (cs := zRc.flatMap cSp) rfl rfl rfl (te rfl) rfl (sp_len96 hl) (sp_one _) (by rw [sp_len96 hl, sp_len]; rfl)) rfl ?_; rintro _ _ ⟨rfl, rfl⟩; dsimp only [List.set]) | (refine Xg.ev (EvF.move rfl rfl) rfl rfl ?_) | (refine Xg.ev (EvF.assign rfl rfl) rfl rfl ?_) | (refine Xg.ev (EvF.add64 rfl rfl rfl (by omega) (by omega)) rfl rfl ?_) | (refine Xg.ev (EvF.fieldAddr rfl rfl (te rfl) rfl (te rfl) (by decide)) rfl rfl ?_) | (refine Xg.ev (EvF.loadV rfl rfl (LoadV.own (te rfl) rfl (List.Mem.tail _ (List.Mem.tail _ (List.Mem.head _))) rfl)) rfl rfl ?_))))) | (refine XO.done rfl ?_; refine hK _ _ ?_; clear hK K) | refine X.seq rfl ?_ | refine X.region rfl (fun K hK => ?_) | (refine X.brk rfl ?_; repeat (first | refine blockX_hit rfl ?_ | refine blockX_miss (by decide) ?_)) | refine X.skip rfl ?_ | (refine X.ite rfl rfl (fun hc => ?_); (first | (with_reducible refine Xb.f hc ?_) | (with_reducible refine Xb.caseB hc (fun h => ?_) (fun h => ?_))) <;> clear hc))
            all_goals try (exfalso; contradiction)
            exact ⟨_, _, G, (by (repeat (first | exact Sub.nil _ | refine Sub.cons rfl ?_)); done), (by (repeat (first | exact List.Sublist.refl _ | apply List.Sublist.cons_cons | apply List.Sublist.cons)); done), ⟨i + 1, out, Z, rfl, by omega, by rw [hsn]; exact hTz, hG, rfl⟩, by omega⟩
          | false =>
            rw [if_pos ⟨hmd, rfl⟩] at hsn
            rcases hTz with ⟨h9, rfl, rfl⟩ | ⟨b0, q0, rfl, rfl⟩
            · rw [h9, List.nil_append] at hsn
              rw [List.nil_append] at hG
              subst hG
              repeat' (first | (refine XO.op rfl ?_; (first | ((first | refine Xo.ng rfl ?_); (first | (refine Xg.ev (EvF.cmp (b := false) rfl rfl rfl (congrArg some (decide_eq_false (by omega)))) rfl rfl ?_) | (refine Xg.ev (EvF.loadV rfl rfl (LoadV.whole (T := 26) (cs := cRm R p) (te rfl) rfl (by repeat (first | exact hg2 | apply List.Mem.tail)) rfl)) rfl rfl ?_) | (refine Xg.ev (EvF.loadV rfl rfl (LoadV.whole (T := 107) (cs := c.flatMap cSp) (te rfl) rfl (by repeat (first | exact hg1 | apply List.Mem.tail)) hcl)) rfl rfl ?_) | (refine Xg.call (EnF.st rfl (by (repeat (first | exact Args.nil | refine Args.cons rfl ?_)); done)) rfl rfl (hfc bl kl _ (hGR.sub (fun _ h => by repeat (first | exact h | apply List.Mem.tail))) (List.Mem.head _)) ?_; rintro _ _ ⟨l, hl, rfl, rfl⟩) | (refine Xg.ev (EvF.extract rfl rfl rfl) rfl rfl ?_) | (refine Xg.st (StF.alloc rfl Try.zeroValue107 rfl) rfl rfl ?_; rintro _ _ ⟨b14, rfl, rfl⟩) | (refine Xg.st0 (StF.storeAll (i := 0) (vs := l.flatMap cSp) (cs := zRc.flatMap cSp) rfl rfl rfl (te rfl) rfl (sp_len96 hl) (sp_one _) (by rw [sp_len96 hl, sp_len]; rfl)) rfl ?_; rintro _ _ ⟨rfl, rfl⟩; dsimp only [List.set]) | (refine Xg.st (StF.buildOne (v0 := .int .i64 e.id) rfl el55 rfl rfl rfl (by decide) (by decide)) rfl rfl ?_; rintro _ _ ⟨bs, rfl, rfl⟩) | (refine Xg.st (StF.appendNew rfl el55 rfl rfl (by decide) rfl (Rd.own (List.Mem.head _)) (by decide)) rfl rfl ?_; rintro _ _ ⟨bn, kn, rfl, rfl⟩) | (refine Xg.ev (EvF.move rfl rfl) rfl rfl ?_) | (refine Xg.ev (EvF.assign rfl rfl) rfl rfl ?_) | (refine Xg.ev (EvF.add64 rfl rfl rfl (by omega) (by omega)) rfl rfl ?_) | (refine Xg.ev (EvF.fieldAddr rfl rfl (te rfl) rfl (te rfl) (by decide)) rfl rfl ?_) | (refine Xg.ev (EvF.loadV rfl rfl (LoadV.own (te rfl) rfl (List.Mem.tail _ (List.Mem.tail _ (List.Mem.head _))) rfl)) rfl rfl ?_))))) | (refine XO.done rfl ?_; refine hK _ _ ?_; clear hK K) | refine X.seq rfl ?_ | refine X.region rfl (fun K hK => ?_) | (refine X.brk rfl ?_; repeat (first | refine blockX_hit rfl ?_ | refine blockX_miss (by decide) ?_)) | refine X.skip rfl ?_ | (refine X.ite rfl rfl (fun hc => ?_); (first | (with_reducible refine Xb.f hc ?_) | (with_reducible refine Xb.caseB hc (fun h => ?_) (fun h => ?_))) <;> clear hc))
              all_goals try (exfalso; contradiction)
              refine ⟨_, _, ⟨bn, 0, (frT R m (R.boxes.take (i + 1))).flatMap cI, some 3, kn * 1⟩ :: ⟨b6, 0, c.flatMap cSp, some 107, 96⟩ :: ⟨b2, 0, cRm R p, some 26, 5⟩ :: H, (by (repeat (first | exact Sub.nil _ | refine Sub.cons rfl ?_)); done), ?_, ⟨i + 1, _, [_], rfl, by omega, .inr ⟨bn, kn, by rw [hsn]; rfl, rfl⟩, rfl, rfl⟩, by omega⟩
              rw [hsn]
              exact (by (repeat (first | exact List.Sublist.refl _ | apply List.Sublist.cons_cons | apply List.Sublist.cons)); done)
            · simp only [List.cons_append, List.nil_append] at hG
              subst hG
              have hlen9 : ((frT R m (R.boxes.take i)).flatMap cI).length = (frT R m (R.boxes.take i)).length * 1 := lenI _
              repeat' (first | (refine XO.op rfl ?_; (first | ((first | refine Xo.ng rfl ?_); (first | (refine Xg.ev (EvF.cmp (b := false) rfl rfl rfl (congrArg some (decide_eq_false (by omega)))) rfl rfl ?_) | (refine Xg.ev (EvF.loadV rfl rfl (LoadV.whole (T := 26) (cs := cRm R p) (te rfl) rfl (by repeat (first | exact hg2 | apply List.Mem.tail)) rfl)) rfl rfl ?_) | (refine Xg.ev (EvF.loadV rfl rfl (LoadV.whole (T := 107) (cs := c.flatMap cSp) (te rfl) rfl (by repeat (first | exact hg1 | apply List.Mem.tail)) hcl)) rfl rfl ?_) | (refine Xg.call (EnF.st rfl (by (repeat (first | exact Args.nil | refine Args.cons rfl ?_)); done)) rfl rfl (hfc bl kl _ (hGR.sub (fun _ h => by repeat (first | exact h | apply List.Mem.tail))) (List.Mem.head _)) ?_; rintro _ _ ⟨l, hl, rfl, rfl⟩) | (refine Xg.ev (EvF.extract rfl rfl rfl) rfl rfl ?_) | (refine Xg.st (StF.alloc rfl Try.zeroValue107 rfl) rfl rfl ?_; rintro _ _ ⟨b14, rfl, rfl⟩) | (refine Xg.st0 (StF.storeAll (i := 0) (vs := l.flatMap cSp) (cs := zRc.flatMap cSp) rfl rfl rfl (te rfl) rfl (sp_len96 hl) (sp_one _) (by rw [sp_len96 hl, sp_len]; rfl)) rfl ?_; rintro _ _ ⟨rfl, rfl⟩; dsimp only [List.set]) | (refine Xg.st (StF.buildOne (v0 := .int .i64 e.id) rfl el55 rfl rfl rfl (by decide) (by decide)) rfl rfl ?_; rintro _ _ ⟨bs, rfl, rfl⟩) | (refine Xg.st (StF.appendOwn (i := 4) rfl el55 rfl rfl rfl hlen9 rfl (Rd.own (List.Mem.head _)) rfl (by omega)) rfl rfl ?_; rintro _ _ ⟨bn, kn, rfl, rfl⟩; dsimp only [List.eraseIdx]) | (refine Xg.ev (EvF.move rfl rfl) rfl rfl ?_) | (refine Xg.ev (EvF.assign rfl rfl) rfl rfl ?_) | (refine Xg.ev (EvF.add64 rfl rfl rfl (by omega) (by omega)) rfl rfl ?_) | (refine Xg.ev (EvF.fieldAddr rfl rfl (te rfl) rfl (te rfl) (by decide)) rfl rfl ?_) | (refine Xg.ev (EvF.loadV rfl rfl (LoadV.own (te rfl) rfl (List.Mem.tail _ (List.Mem.tail _ (List.Mem.head _))) rfl)) rfl rfl ?_))))) | (refine XO.done rfl ?_; refine hK _ _ ?_; clear hK K) | refine X.seq rfl ?_ | refine X.region rfl (fun K hK => ?_) | (refine X.brk rfl ?_; repeat (first | refine blockX_hit rfl ?_ | refine blockX_miss (by decide) ?_)) | refine X.skip rfl ?_ | (refine X.ite rfl rfl (fun hc => ?_); (first | (with_reducible refine Xb.f hc ?_) | (with_reducible refine Xb.caseB hc (fun h => ?_) (fun h => ?_))) <;> clear hc))
              all_goals try (exfalso; contradiction)
              refine ⟨_, _, ⟨bn, 0, (frT R m (R.boxes.take (i + 1))).flatMap cI, some 3, kn * 1⟩ :: ⟨b6, 0, c.flatMap cSp, some 107, 96⟩ :: ⟨b2, 0, cRm R p, some 26, 5⟩ :: H, (by (repeat (first | exact Sub.nil _ | refine Sub.cons rfl ?_)); done), ?_, ⟨i + 1, _, [_], rfl, by omega, .inr ⟨bn, kn, by rw [hsn, List.length_append]; rfl, rfl⟩, rfl, rfl⟩, by omega⟩
              rw [hsn, List.flatMap_append]
              exact (by (repeat (first | exact List.Sublist.refl _ | apply List.Sublist.cons_cons | apply List.Sublist.cons)); done)
      · rw [if_neg (fun q => hmd q.1), List.append_nil] at hsn
        repeat' (first | (refine XO.op rfl ?_; (first | ((first | refine Xo.ng rfl ?_); (first | (refine Xg.ev (EvF.cmp (b := true) rfl rfl rfl (congrArg some (decide_eq_true (by omega)))) rfl rfl ?_) | (refine Xg.ev (EvF.loadV rfl rfl (LoadV.whole (T := 26) (cs := cRm R p) (te rfl) rfl (by repeat (first | exact hg2 | apply List.Mem.tail)) rfl)) rfl rfl ?_) | (refine Xg.ev (EvF.loadV rfl rfl (LoadV.elA0 (hbs _ (hGR.sub (fun _ h => by repeat (first | exact h | apply List.Mem.tail)))) he (te rfl) rfl (fun _ hm => hm) rfl)) rfl rfl ?_) | (refine Xg.call (EnF.st rfl (Args.cons rfl (Args.cons rfl (Args.cons rfl Args.nil)))) rfl rfl (hthF i e he hmd _ (hGR.sub (fun _ h => by repeat (first | exact h | apply List.Mem.tail)))) ?_; rintro _ H9 ⟨rfl, hH9⟩; subst H9) | (refine Xg.ev (EvF.move rfl rfl) rfl rfl ?_) | (refine Xg.ev (EvF.assign rfl rfl) rfl rfl ?_) | (refine Xg.ev (EvF.add64 rfl rfl rfl (by omega) (by omega)) rfl rfl ?_) | (refine Xg.ev (EvF.not rfl rfl) rfl rfl ?_) | (refine Xg.ev (EvF.indexSlice rfl rfl rfl (te rfl) (te rfl) (by omega) (by omega)) rfl rfl ?_) | (refine Xg.st (StF.alloc rfl Try.zeroValue35 rfl) rfl rfl ?_; rintro _ _ ⟨bx, rfl, rfl⟩) | (refine Xg.st0 (StF.storeAll (i := 0) rfl rfl rfl (te rfl) rfl rfl rfl rfl) rfl ?_; rintro _ _ ⟨rfl, rfl⟩; dsimp only [List.set]))))) | (refine XO.done rfl ?_; refine hK _ _ ?_; clear hK K) | refine X.seq rfl ?_ | refine X.region rfl (fun K hK => ?_) | refine X.block rfl ?_ | (refine X.brk rfl ?_; repeat (first | refine blockX_hit rfl ?_ | refine blockX_miss (by decide) ?_)) | refine X.skip rfl ?_ | (refine X.ite rfl rfl (fun hc => ?_); (first | (with_reducible refine Xb.t hc ?_) | (with_reducible refine Xb.caseB hc (fun h => ?_) (fun h => ?_))) <;> clear hc))
        all_goals try (exfalso; contradiction)
        exact ⟨_, _, G, (by (repeat (first | exact Sub.nil _ | refine Sub.cons rfl ?_)); done), (by (repeat (first | exact List.Sublist.refl _ | apply List.Sublist.cons_cons | apply List.Sublist.cons)); done), ⟨i + 1, out, Z, rfl, by omega, by rw [hsn]; exact hTz, hG, rfl⟩, by omega⟩
    · obtain rfl : i = R.boxes.length := by omega
      rw [List.take_length] at hTz
      repeat' (first | (refine XO.op rfl ?_; (first | ((first | refine Xo.ng rfl ?_); (first | (refine Xg.ev (EvF.cmp (b := false) rfl rfl rfl (congrArg some (decide_eq_false (by omega)))) rfl rfl ?_) | (refine Xg.ev (EvF.move rfl rfl) rfl rfl ?_) | (refine Xg.ev (EvF.assign rfl rfl) rfl rfl ?_))))) | (refine XO.done rfl ?_; refine hK _ _ ?_; clear hK K) | refine X.seq rfl ?_ | refine X.region rfl (fun K hK => ?_) | (refine X.brk rfl ?_; repeat (first | refine blockX_hit rfl ?_ | refine blockX_miss (by decide) ?_)) | refine X.ret rfl ?_ | (refine X.ite rfl rfl (fun hc => ?_); (first | (with_reducible refine Xb.f hc ?_)) <;> clear hc))
      all_goals try (exfalso; contradiction)
      obtain ⟨a', c', rfl, hs⟩ := hTz.sl (H := H)
      exact ret_two (by first | exact .inr rfl | exact .inl rfl) Try.results36 rfl rfl (H' := Z ++ H) (List.Sublist.append (List.Sublist.refl _) (List.Sublist.cons _ (List.Sublist.cons _ (List.Sublist.refl _)))) ⟨a', c', Z, rfl, hs, rfl⟩
  · have hF : freF R m = ([], e0) := by unfold freF; rw [if_neg (by rw [he0]; exact h0), he0]
    rw [hF]
    refine Fc.mk (callable Try.call36) Try.func36 rfl Try.ntmps36 rfl ?_; dsimp only [fr]
    repeat' (first | (refine XO.op rfl ?_; (first | ((first | refine Xo.ng rfl ?_); (first | (refine Xg.ev (EvF.loadV rfl rfl (LoadV.whole (T := 26) (cs := cRm R p) (te rfl) rfl (by repeat (first | exact List.Mem.head _ | apply List.Mem.tail)) rfl)) rfl rfl ?_) | (refine Xg.call (EnF.st rfl (by (repeat (first | exact Args.nil | refine Args.cons rfl ?_)); done)) rfl rfl (has _ (hR.sub (fun _ h => by repeat (first | exact h | apply List.Mem.tail)))) ?_; rintro _ _ ⟨c, hc, hA, rfl, rfl⟩) | (refine Xg.ev (EvF.extract rfl rfl rfl) rfl rfl ?_) | (refine Xg.st (StF.alloc rfl Try.zeroValue107 rfl) rfl rfl ?_; rintro _ _ ⟨b6, rfl, rfl⟩) | (refine Xg.st0 (StF.storeAll (i := 0) (vs := c.flatMap cSp) (cs := zRc.flatMap cSp) rfl rfl rfl (te rfl) rfl (sp_len96 hc) (sp_one _) (by rw [sp_len96 hc, sp_len]; rfl)) rfl ?_; rintro _ _ ⟨rfl, rfl⟩; dsimp only [List.set]) | (refine Xg.ev (EvF.cmp (b := true) rfl rfl rfl (congrArg some (nd_t (by omega)))) rfl rfl ?_) | (refine Xg.ev (EvF.move rfl rfl) rfl rfl ?_) | (refine Xg.ev (EvF.assign rfl rfl) rfl rfl ?_) | (refine Xg.st (StF.boxAgg rfl rfl) rfl rfl ?_; rintro _ _ ⟨bx, rfl, rfl⟩))))) | (refine XO.done rfl ?_; refine hK _ _ ?_; clear hK K) | refine X.seq rfl ?_ | refine X.region rfl (fun K hK => ?_) | refine X.ret rfl ?_ | (refine X.ite rfl rfl (fun hc => ?_); (first | (with_reducible refine Xb.t hc ?_)) <;> clear hc))
    all_goals try (exfalso; contradiction)
    exact ret_two (by first | exact .inr rfl | exact .inl rfl) Try.results36 rfl rfl (H' := H) (by (repeat (first | exact List.Sublist.refl _ | apply List.Sublist.cons_cons | apply List.Sublist.cons)); done) ⟨none, 0, [], rfl, sleNil, rfl⟩
end Go.Proofs.Ytblehgpfddmggaa
end
section
set_option linter.unusedVariables false
set_option linter.unusedSimpArgs false
namespace Go.Fw
open Go
theorem EvF.eqSf {P : Program} {n : Nat} {H : List Row} {F : FS} {o : Oper} {T T' : TypeId} {x y : Operand} {k : IntKind} {p : Int} (h : o.op = .binOp .eql T x y T') (hx : evF F x = some (.int k p)) (hy : evF F y = some (.int k p)) : EvF P n H F o (.bool true) := by
  have := EvF.cmp (P := P) (n := n) (H := H) h hx hy rfl
  rwa [decide_eq_true rfl] at this
theorem EvF.eqSfB {P : Program} {n : Nat} {H : List Row} {F : FS} {o : Oper} {T T' : TypeId} {x y : Operand} {p : Bool} (h : o.op = .binOp .eql T x y T') (hx : evF F x = some (.bool p)) (hy : evF F y = some (.bool p)) (hu : P.underlying T = some .bool) : EvF P n H F o (.bool true) := by
  have := EvF.cmpB (P := P) (n := n) (H := H) h hx hy hu rfl
  rwa [beq_self_eq_true] at this
end Go.Fw
namespace Go.Proofs.Ytblehgpfddmggaa
open Go Go.Fw
set_option maxRecDepth 10000
theorem sameR_self (R : Rm) (p q : Pl) (H : List Row) (hR : RmOk H R p) (hS : RmOk H R q) : Fc Try.prog 24 [.agg (cRm R p).toArray, .agg (cRm R q).toArray] H (fun v H' => v = .bool true ∧ H' = H) :=
  (same_spec R R p q H hR hS).mono (fun v H' ⟨h1, h2⟩ => ⟨by rw [h1, decide_eq_true rfl], h2⟩)
theorem eqSp_sf (e : Sp) (w : World) : (Op.equalIn 10000 35 (.agg (cSp e).toArray) (.agg (cSp e).toArray)).run Try.prog w = .ok true w := by
  rw [eqSp 9998, decide_eq_true rfl]
noncomputable def chkF (R : Rm) : Int := if roomOk R then 0 else 10
theorem kCheck2_spec (R : Rm) (p : Pl) (H : List Row) (hR : RmOk H R p) : Fc Try.prog 22 [.agg (cRm R p).toArray] H (fun v H' => v = .int .i64 (chkF R) ∧ H' = H) := by
  refine (check_spec R p H hR).mono fun v H' ⟨h, h2⟩ => ⟨?_, h2⟩
  unfold chkF
  rcases h with ⟨h, e⟩ | ⟨h, e⟩
  · rw [if_pos h]; exact e
  · rw [if_neg h]; exact e
theorem rCheck_spec (R : Rm) (p : Pl) (H : List Row) (hR : RmOk H R p) : Fc Try.prog 23 [.agg (cRm R p).toArray] H (fun v H' => v = .int .i64 (chkF R) ∧ H' = H) := by
  have hR2 : ∀ r1, RmOk (r1 :: H) R p := fun r1 => hR.sub (fun _ h => List.Mem.tail _ h)
  unfold chkF
  by_cases hok : roomOk R
  · rw [if_pos hok]
    have hrs : ∀ r1, Fc Try.prog 47 [.agg (cRm R p).toArray] (r1 :: H) (fun v H' => v = .bool true ∧ H' = r1 :: H) := fun r1 => by
      have := room_spec R p (r1 :: H) (hR2 r1)
      rwa [decide_eq_true hok] at this
    refine Fc.mk (callable Try.call23) Try.func23 rfl Try.ntmps23 rfl ?_; dsimp only [fr]
    repeat' (first | (refine XO.op rfl ?_; (first | ((first | refine Xo.ng rfl ?_); (first | (refine Xg.ev (EvF.loadV rfl rfl (LoadV.whole (te rfl) rfl (List.Mem.head _) rfl)) rfl rfl ?_) | (refine Xg.call (EnF.st rfl (Args.cons rfl Args.nil)) rfl rfl (hrs _) ?_; rintro _ H9 ⟨rfl, hH9⟩; subst H9) | (refine Xg.ev (EvF.assign rfl rfl) rfl rfl ?_) | (refine Xg.ev (EvF.not rfl rfl) rfl rfl ?_) | (refine Xg.st (StF.boxAgg rfl rfl) rfl rfl ?_; rintro _ _ ⟨bx, rfl, rfl⟩))))) | (refine XO.done rfl ?_; refine hK _ _ ?_; clear hK K) | refine X.seq rfl ?_ | refine X.region rfl (fun K hK => ?_) | refine X.skip rfl ?_ | refine X.ret rfl ?_ | (refine X.ite rfl rfl (fun hc => ?_); (first | (with_reducible refine Xb.caseB hc (fun h => ?_) (fun h => ?_))) <;> clear hc))
    all_goals try (exfalso; contradiction)
    exact ret_one (v := .int .i64 0) (by first | exact .inr rfl | exact .inl rfl) Try.results23 rfl (H' := H) (by (repeat (first | exact List.Sublist.refl _ | apply List.Sublist.cons_cons | apply List.Sublist.cons)); done) ⟨rfl, rfl⟩
  · rw [if_neg hok]
    have hrs : ∀ r1, Fc Try.prog 47 [.agg (cRm R p).toArray] (r1 :: H) (fun v H' => v = .bool false ∧ H' = r1 :: H) := fun r1 => by
      have := room_spec R p (r1 :: H) (hR2 r1)
      rwa [decide_eq_false hok] at this
    refine Fc.mk (callable Try.call23) Try.func23 rfl Try.ntmps23 rfl ?_; dsimp only [fr]
    repeat' (first | (refine XO.op rfl ?_; (first | ((first | refine Xo.ng rfl ?_); (first | (refine Xg.ev (EvF.loadV rfl rfl (LoadV.whole (te rfl) rfl (List.Mem.head _) rfl)) rfl rfl ?_) | (refine Xg.call (EnF.st rfl (Args.cons rfl Args.nil)) rfl rfl (hrs _) ?_; rintro _ H9 ⟨rfl, hH9⟩; subst H9) | (refine Xg.ev (EvF.assign rfl rfl) rfl rfl ?_) | (refine Xg.ev (EvF.not rfl rfl) rfl rfl ?_) | (refine Xg.st (StF.boxAgg rfl rfl) rfl rfl ?_; rintro _ _ ⟨bx, rfl, rfl⟩))))) | (refine XO.done rfl ?_; refine hK _ _ ?_; clear hK K) | refine X.seq rfl ?_ | refine X.region rfl (fun K hK => ?_) | refine X.skip rfl ?_ | refine X.ret rfl ?_ | (refine X.ite rfl rfl (fun hc => ?_); (first | (with_reducible refine Xb.caseB hc (fun h => ?_) (fun h => ?_))) <;> clear hc))
    all_goals try (exfalso; contradiction)
    exact ret_one (v := .int .i64 10) (by first | exact .inr rfl | exact .inl rfl) Try.results23 rfl (H' := H) (by (repeat (first | exact List.Sublist.refl _ | apply List.Sublist.cons_cons | apply List.Sublist.cons)); done) ⟨rfl, rfl⟩
theorem canF_tup (R : Rm) : ∃ (b : Bool) (e : Int), canF R = .tuple #[.bool b, .int .i64 e] := by
  unfold canF
  split
  · exact ⟨_, _, rfl⟩
  · exact ⟨_, _, rfl⟩
set_option maxHeartbeats 8000000 in
theorem boxTells_spec (R : Rm) (p : Pl) (a b m : Int) (H : List Row) (hR : RmOk H R p) :
    Fc Try.prog 3 [.agg (cRm R p).toArray, .int .i64 a, .int .i64 b, .int .i64 m] H (fun v _ => v = .bool true) := by
  by_cases hg : great R
  · have hgr := great_spec R p
    simp only [decide_eq_true hg] at hgr
    refine Fc.mk (callable Try.call3) Try.func3 rfl Try.ntmps3 rfl ?_; dsimp only [fr]
    repeat' (first | (refine XO.op rfl ?_; (first | ((first | refine Xo.ng rfl ?_); (first | (refine Xg.call (EnF.st rfl (Args.cons rfl Args.nil)) rfl rfl (hgr _) ?_; rintro _ H9 ⟨rfl, hH9⟩; subst H9) | (refine Xg.ev (EvF.assign rfl rfl) rfl rfl ?_) | (refine Xg.ev (EvF.loadV rfl rfl (LoadV.whole (te rfl) rfl (List.Mem.head _) rfl)) rfl rfl ?_) | (refine Xg.st (StF.boxAgg rfl rfl) rfl rfl ?_; rintro _ _ ⟨bx, rfl, rfl⟩))))) | (refine XO.done rfl ?_; refine hK _ _ ?_; clear hK K) | refine X.seq rfl ?_ | refine X.region rfl (fun K hK => ?_) | refine X.ret rfl ?_ | (refine X.ite rfl rfl (fun hc => ?_); (first | (with_reducible refine Xb.t hc ?_)) <;> clear hc))
    all_goals try (exfalso; contradiction)
    exact ret_one (by first | exact .inr rfl | exact .inl rfl) Try.results3 rfl (H' := _) (List.Sublist.refl _) rfl
  · have hgr := great_spec R p
    simp only [decide_eq_false hg] at hgr
    have h1 : R.ages.length ≤ 1000000 := by unfold great at hg; omega
    have h2 : R.boxes.length ≤ 1000000 := by unfold great at hg; omega
    have h3 : R.mats.length ≤ 1000000 := by unfold great at hg; omega
    obtain ⟨cb, ce, hcan⟩ := canF_tup R
    obtain ⟨⟨ys, ye⟩, hy⟩ : ∃ y, y = yelF R a m := ⟨_, rfl⟩
    obtain ⟨⟨ds, de⟩, hd⟩ : ∃ y, y = difF R a b m := ⟨_, rfl⟩
    have kcan := fun p' H' (h : RmOk H' R p') => kCan_spec R p' H' h
    have rcan := fun p' H' (h : RmOk H' R p') => rCan_spec R p' H' h
    have kyel := fun p' H' (h : RmOk H' R p') => kYellow_spec R p' a m H' h h2
    have ryel := fun p' H' (h : RmOk H' R p') => rYellow_spec R p' a m H' h
    have kdif := fun p' H' (h : RmOk H' R p') => kDiffer_spec R p' a b m H' h h2
    have rdif := fun p' H' (h : RmOk H' R p') => rDiffer_spec R p' a b m H' h
    rw [hcan] at kcan rcan
    rw [← hy] at kyel ryel
    rw [← hd] at kdif rdif
    clear hcan hy hd
    refine Fc.mk (callable Try.call3) Try.func3 rfl Try.ntmps3 rfl ?_; dsimp only [fr]
    repeat' (first | (refine XO.op rfl ?_; (first | ((first | refine Xo.ng rfl ?_); (first | (refine Xg.call (EnF.st rfl (Args.cons rfl Args.nil)) rfl rfl (hgr _) ?_; rintro _ H9 ⟨rfl, hH9⟩; subst H9) | (refine Xg.call (EnF.st rfl (by (repeat (first | exact Args.nil | refine Args.cons rfl ?_)); done)) rfl rfl (twin_spec R p _ (hR.sub (fun _ h => by repeat (first | exact h | apply List.Mem.tail))) h1 h2 h3) ?_; rintro _ _ ⟨t1, k1, t2, k2, t3, k3, rfl, rfl⟩) | (refine Xg.ev (EvF.assign rfl rfl) rfl rfl ?_) | (refine Xg.ev (EvF.loadV rfl rfl (LoadV.whole (te rfl) rfl (List.Mem.head _) rfl)) rfl rfl ?_) | (refine Xg.st (StF.boxAgg rfl rfl) rfl rfl ?_; rintro _ _ ⟨bx, rfl, rfl⟩) | (refine Xg.st (StF.alloc rfl Try.zeroValue26 rfl) rfl rfl ?_; rintro _ _ ⟨bx, rfl, rfl⟩) | (refine Xg.st0 (StF.storeAll (i := 0) rfl rfl rfl (te rfl) rfl rfl rfl rfl) rfl ?_; rintro _ _ ⟨rfl, rfl⟩; dsimp only [List.set]))))) | (refine XO.done rfl ?_; refine hK _ _ ?_; clear hK K) | refine X.seq rfl ?_ | refine X.region rfl (fun K hK => ?_) | refine X.skip rfl ?_ | (refine X.ite rfl rfl (fun hc => ?_); (first | (with_reducible refine Xb.f hc ?_)) <;> clear hc))
    all_goals try (exfalso; contradiction)
    have hT : ∀ H', (⟨t1, 0, R.ages.flatMap cSp, some 35, k1 * 2⟩ : Row) ∈ H' → (⟨t2, 0, R.boxes.flatMap cBx, some 81, k2 * 2⟩ : Row) ∈ H' → (⟨t3, 0, R.mats.flatMap cMt, some 114, k3 * 6⟩ : Row) ∈ H' → RmOk H' R ⟨some ⟨t1, 0, none⟩, k1, some ⟨t2, 0, none⟩, k2, some ⟨t3, 0, none⟩, k3⟩ :=
      fun H' m1 m2 m3 => ⟨SlE.ofRow m1 (fun _ _ => rfl), SlE.ofRow m2 (fun _ _ => rfl), SlE.ofRow m3 (fun _ _ => rfl), by omega, by omega, by omega⟩
    obtain ⟨po, hpo⟩ : ∃ po, po = (⟨some ⟨t1, 0, none⟩, k1, some ⟨t2, 0, none⟩, k2, some ⟨t3, 0, none⟩, k3⟩ : Pl) := ⟨_, rfl⟩
    rw [← hpo] at hT ⊢
    clear hpo
    repeat' (first | (refine XO.op rfl ?_; (first | ((first | refine Xo.ng rfl ?_); (first | (refine Xg.ev (EvF.extract rfl rfl rfl) rfl rfl ?_) | (refine Xg.ev (EvF.loadV rfl rfl (LoadV.whole (T := 26) (cs := cRm R po) (te rfl) rfl (by repeat (first | exact List.Mem.head _ | apply List.Mem.tail)) rfl)) rfl rfl ?_) | (refine Xg.ev (EvF.loadV rfl rfl (LoadV.whole (T := 26) (cs := cRm R p) (te rfl) rfl (by repeat (first | exact List.Mem.head _ | apply List.Mem.tail)) rfl)) rfl rfl ?_) | (refine Xg.call (EnF.st rfl (by (repeat (first | exact Args.nil | refine Args.cons rfl ?_)); done)) rfl rfl (kcan _ _ (hT _ (by repeat (first | exact List.Mem.head _ | apply List.Mem.tail)) (by repeat (first | exact List.Mem.head _ | apply List.Mem.tail)) (by repeat (first | exact List.Mem.head _ | apply List.Mem.tail)))) ?_; rintro _ H9 ⟨rfl, hH9⟩; subst H9) | (refine Xg.call (EnF.st rfl (by (repeat (first | exact Args.nil | refine Args.cons rfl ?_)); done)) rfl rfl (rcan p _ (hR.sub (fun _ h => by repeat (first | exact h | apply List.Mem.tail)))) ?_; rintro _ H9 ⟨rfl, hH9⟩; subst H9) | (refine Xg.call (EnF.st rfl (by (repeat (first | exact Args.nil | refine Args.cons rfl ?_)); done)) rfl rfl (kyel _ _ (hT _ (by repeat (first | exact List.Mem.head _ | apply List.Mem.tail)) (by repeat (first | exact List.Mem.head _ | apply List.Mem.tail)) (by repeat (first | exact List.Mem.head _ | apply List.Mem.tail)))) ?_; rintro _ H9 ⟨rfl, hH9⟩; subst H9) | (refine Xg.call (EnF.st rfl (by (repeat (first | exact Args.nil | refine Args.cons rfl ?_)); done)) rfl rfl (ryel p _ (hR.sub (fun _ h => by repeat (first | exact h | apply List.Mem.tail)))) ?_; rintro _ H9 ⟨rfl, hH9⟩; subst H9) | (refine Xg.call (EnF.st rfl (by (repeat (first | exact Args.nil | refine Args.cons rfl ?_)); done)) rfl rfl (kdif _ _ (hT _ (by repeat (first | exact List.Mem.head _ | apply List.Mem.tail)) (by repeat (first | exact List.Mem.head _ | apply List.Mem.tail)) (by repeat (first | exact List.Mem.head _ | apply List.Mem.tail)))) ?_; rintro _ H9 ⟨rfl, hH9⟩; subst H9) | (refine Xg.call (EnF.st rfl (by (repeat (first | exact Args.nil | refine Args.cons rfl ?_)); done)) rfl rfl (rdif p _ (hR.sub (fun _ h => by repeat (first | exact h | apply List.Mem.tail)))) ?_; rintro _ H9 ⟨rfl, hH9⟩; subst H9) | (refine Xg.ev (EvF.move rfl rfl) rfl rfl ?_) | (refine Xg.ev (EvF.assign rfl rfl) rfl rfl ?_) | (refine Xg.st (StF.alloc rfl Try.zeroValue35 rfl) rfl rfl ?_; rintro _ _ ⟨bx, rfl, rfl⟩) | (refine Xg.st0 (StF.storeAll (i := 0) rfl rfl rfl (te rfl) rfl rfl rfl rfl) rfl ?_; rintro _ _ ⟨rfl, rfl⟩; dsimp only [List.set]))))) | (refine XO.done rfl ?_; refine hK _ _ ?_; clear hK K) | (refine XQ.op rfl ?_; (first | ((first | refine Yo.ng rfl ?_ | (refine Yo.g rfl rfl ?_; with_reducible refine Yw.tt ?_)); (first | (refine Yg.ev (EvF.eqSf rfl rfl rfl) rfl rfl ?_) | (refine Yg.ev (EvF.eqSfB rfl rfl rfl (by kernel_rfl)) rfl rfl ?_) | (refine Yg.ev (EvF.eqSt (r := true) (b := true) rfl rfl rfl (by kernel_rfl) (fun w => eqSp_sf _ w) rfl) rfl rfl ?_) | (refine Yg.ev (EvF.loadV rfl rfl (LoadV.whole (T := 26) (cs := cRm R po) (te rfl) rfl (by repeat (first | exact List.Mem.head _ | apply List.Mem.tail)) rfl)) rfl rfl ?_) | (refine Yg.ev (EvF.loadV rfl rfl (LoadV.whole (T := 26) (cs := cRm R p) (te rfl) rfl (by repeat (first | exact List.Mem.head _ | apply List.Mem.tail)) rfl)) rfl rfl ?_) | (refine Yg.ev (EvF.loadV rfl rfl (LoadV.whole (T := 35) (cs := cSp ys) (te rfl) rfl (by repeat (first | exact List.Mem.head _ | apply List.Mem.tail)) rfl)) rfl rfl ?_) | (refine Yg.ev (EvF.loadV rfl rfl (LoadV.whole (T := 35) (cs := cSp ds) (te rfl) rfl (by repeat (first | exact List.Mem.head _ | apply List.Mem.tail)) rfl)) rfl rfl ?_) | (refine Yg.call (EnF.st rfl (by (repeat (first | exact Args.nil | refine Args.cons rfl ?_)); done)) rfl rfl (kCheck2_spec R po _ (hT _ (by repeat (first | exact List.Mem.head _ | apply List.Mem.tail)) (by repeat (first | exact List.Mem.head _ | apply List.Mem.tail)) (by repeat (first | exact List.Mem.head _ | apply List.Mem.tail)))) ?_) | (refine Yg.call (EnF.st rfl (by (repeat (first | exact Args.nil | refine Args.cons rfl ?_)); done)) rfl rfl (rCheck_spec R p _ (hR.sub (fun _ h => by repeat (first | exact h | apply List.Mem.tail)))) ?_) | (refine Yg.call (EnF.st rfl (by (repeat (first | exact Args.nil | refine Args.cons rfl ?_)); done)) rfl rfl (sameR_self R po p _ (hT _ (by repeat (first | exact List.Mem.head _ | apply List.Mem.tail)) (by repeat (first | exact List.Mem.head _ | apply List.Mem.tail)) (by repeat (first | exact List.Mem.head _ | apply List.Mem.tail))) (hR.sub (fun _ h => by repeat (first | exact h | apply List.Mem.tail)))) ?_) | (refine Yg.ev (EvF.move rfl rfl) rfl rfl ?_) | (refine Yg.ev (EvF.assign rfl rfl) rfl rfl ?_) | (refine Yg.ev (EvF.pickT rfl rfl rfl) rfl rfl ?_))))) | (refine XQ.done rfl ?_; refine hK _ ?_; clear hK K) | refine X.seq rfl ?_ | refine X.region rfl (fun K hK => ?_) | refine X.regionD rfl mixed (by kernel_rfl) (fun K hK => ?_) | refine X.ret rfl ?_)
    exact ret_one (by first | exact .inr rfl | exact .inl rfl) Try.results3 rfl (H' := _) (List.Sublist.refl _) rfl
end Go.Proofs.Ytblehgpfddmggaa
end
section
set_option linter.unusedVariables false
set_option linter.unusedSimpArgs false
namespace Go.Proofs.Ytblehgpfddmggaa
open Go Go.Fw
set_option maxRecDepth 10000
theorem XO.weakQ {P : Program} {n : Nat} {ops : Array Oper} {i : Nat} {F : FS} {H H' : List Row} {N : FS → List Row → Prop} (hp : H'.Sublist H) (k : XO P n ops i F H' N) : XO P n ops i F H N := by
  unfold XO WO at *
  intro t ha ρ ds B w0 w hS
  exact k t ha ρ ds B w0 w (hS.sub hp)
theorem sameI_self (l : List Int) (a a' : Option Addr) (c c' : Nat) (H : List Row) (hl : SlE H a cI 1 l) (hm : SlE H a' cI 1 l) (hb : l.length ≤ 9223372036854775807) : Fc Try.prog 39 [.slice a l.length c, .slice a' l.length c'] H (fun v H' => v = .bool true ∧ H' = H) :=
  (sameInts_spec l l a a' c c' H hl hm hb).mono (fun v H' ⟨h1, h2⟩ => ⟨by rw [h1, decide_eq_true rfl], h2⟩)
theorem dueS_len {L : Nat → List Int} {N : Nat} (h : ∀ k, (L k).length ≤ N) : ∀ (q k : Nat), (dueS L k q).2.1.length ≤ N
  | 0, _ => Nat.zero_le _
  | q + 1, k => by
    unfold dueS
    split
    · exact dueS_len h q (k + 1)
    · exact h k
theorem dueF_len (R : Rm) (n : Int) : (dueF R n).2.1.length ≤ R.boxes.length := by
  unfold dueF
  split
  · exact dueS_len (fun k => by unfold dueL; rw [List.length_map]; exact List.length_filter_le _ _) _ _
  · exact Nat.zero_le _
theorem freF_len (R : Rm) (m : Int) : (freF R m).1.length ≤ R.boxes.length := by
  unfold freF
  split
  · show (freL R m).length ≤ _
    rw [freL_boxes, List.length_map]
    exact List.length_filter_le _ _
  · exact Nat.zero_le _
set_option maxHeartbeats 16000000 in
theorem boxFinds_spec (R : Rm) (p : Pl) (n m : Int) (H : List Row) (hR : RmOk H R p) :
    Fc Try.prog 5 [.agg (cRm R p).toArray, .int .i64 n, .int .i64 m] H (fun v _ => v = .bool true) := by
  by_cases hg : great R
  · have hgr := great_spec R p
    simp only [decide_eq_true hg] at hgr
    refine Fc.mk (callable Try.call5) Try.func5 rfl Try.ntmps5 rfl ?_; dsimp only [fr]
    repeat' (first | (refine XO.op rfl ?_; (first | ((first | refine Xo.ng rfl ?_); (first | (refine Xg.call (EnF.st rfl (Args.cons rfl Args.nil)) rfl rfl (hgr _) ?_; rintro _ H9 ⟨rfl, hH9⟩; subst H9) | (refine Xg.ev (EvF.assign rfl rfl) rfl rfl ?_) | (refine Xg.ev (EvF.loadV rfl rfl (LoadV.whole (te rfl) rfl (List.Mem.head _) rfl)) rfl rfl ?_) | (refine Xg.st (StF.boxAgg rfl rfl) rfl rfl ?_; rintro _ _ ⟨bx, rfl, rfl⟩))))) | (refine XO.done rfl ?_; refine hK _ _ ?_; clear hK K) | refine X.seq rfl ?_ | refine X.region rfl (fun K hK => ?_) | refine X.ret rfl ?_ | (refine X.ite rfl rfl (fun hc => ?_); (first | (with_reducible refine Xb.t hc ?_)) <;> clear hc))
    all_goals try (exfalso; contradiction)
    exact ret_one (by first | exact .inr rfl | exact .inl rfl) Try.results5 rfl (H' := _) (List.Sublist.refl _) rfl
  · have hgr := great_spec R p
    simp only [decide_eq_false hg] at hgr
    have h1 : R.ages.length ≤ 1000000 := by unfold great at hg; omega
    have h2 : R.boxes.length ≤ 1000000 := by unfold great at hg; omega
    have h3 : R.mats.length ≤ 1000000 := by unfold great at hg; omega
    have hdl := dueF_len R n
    have hfl := freF_len R m
    obtain ⟨⟨dd, dl, de⟩, hd⟩ : ∃ y, y = dueF R n := ⟨_, rfl⟩
    obtain ⟨⟨fl, fe⟩, hf⟩ : ∃ y, y = freF R m := ⟨_, rfl⟩
    obtain ⟨⟨⟨ax, ay, az⟩, ae⟩, ha⟩ : ∃ y, y = askF R m := ⟨_, rfl⟩
    have kdu := fun p' H' (h : RmOk H' R p') => kDue_spec R p' n H' h h2
    have rdu := fun p' H' (h : RmOk H' R p') => rDue_spec R p' n H' h
    have kfr := fun p' H' (h : RmOk H' R p') => kFresh_spec R p' m H' h h2
    have rfr := fun p' H' (h : RmOk H' R p') => rFresh_spec R p' m H' h
    have kas := fun p' H' (h : RmOk H' R p') => kAsk_spec R p' m H' h h2
    have ras := fun p' H' (h : RmOk H' R p') => rAsk_spec R p' m H' h
    rw [← hd] at kdu rdu hdl
    rw [← hf] at kfr rfr hfl
    rw [← ha] at kas ras
    clear hd hf ha
    have hdl' : dl.length ≤ 9223372036854775807 := by have : dl.length ≤ R.boxes.length := hdl; omega
    have hfl' : fl.length ≤ 9223372036854775807 := by have : fl.length ≤ R.boxes.length := hfl; omega
    refine Fc.mk (callable Try.call5) Try.func5 rfl Try.ntmps5 rfl ?_; dsimp only [fr]
    repeat' (first | (refine XO.op rfl ?_; (first | ((first | refine Xo.ng rfl ?_); (first | (refine Xg.call (EnF.st rfl (Args.cons rfl Args.nil)) rfl rfl (hgr _) ?_; rintro _ H9 ⟨rfl, hH9⟩; subst H9) | (refine Xg.call (EnF.st rfl (by (repeat (first | exact Args.nil | refine Args.cons rfl ?_)); done)) rfl rfl (twin_spec R p _ (hR.sub (fun _ h => by repeat (first | exact h | apply List.Mem.tail))) h1 h2 h3) ?_; rintro _ _ ⟨t1, k1, t2, k2, t3, k3, rfl, rfl⟩) | (refine Xg.ev (EvF.move rfl rfl) rfl rfl ?_) | (refine Xg.ev (EvF.assign rfl rfl) rfl rfl ?_) | (refine Xg.ev (EvF.loadV rfl rfl (LoadV.whole (te rfl) rfl (List.Mem.head _) rfl)) rfl rfl ?_) | (refine Xg.st (StF.boxAgg rfl rfl) rfl rfl ?_; rintro _ _ ⟨bx, rfl, rfl⟩) | (refine Xg.st (StF.alloc rfl Try.zeroValue26 rfl) rfl rfl ?_; rintro _ _ ⟨bx, rfl, rfl⟩) | (refine Xg.st0 (StF.storeAll (i := 0) rfl rfl rfl (te rfl) rfl rfl rfl rfl) rfl ?_; rintro _ _ ⟨rfl, rfl⟩; dsimp only [List.set]))))) | (refine XO.done rfl ?_; refine hK _ _ ?_; clear hK K) | refine X.seq rfl ?_ | refine X.region rfl (fun K hK => ?_) | refine X.skip rfl ?_ | (refine X.ite rfl rfl (fun hc => ?_); (first | (with_reducible refine Xb.f hc ?_)) <;> clear hc))
    all_goals try (exfalso; contradiction)
    have hT : ∀ H', (⟨t1, 0, R.ages.flatMap cSp, some 35, k1 * 2⟩ : Row) ∈ H' → (⟨t2, 0, R.boxes.flatMap cBx, some 81, k2 * 2⟩ : Row) ∈ H' → (⟨t3, 0, R.mats.flatMap cMt, some 114, k3 * 6⟩ : Row) ∈ H' → RmOk H' R ⟨some ⟨t1, 0, none⟩, k1, some ⟨t2, 0, none⟩, k2, some ⟨t3, 0, none⟩, k3⟩ :=
      fun H' m1 m2 m3 => ⟨SlE.ofRow m1 (fun _ _ => rfl), SlE.ofRow m2 (fun _ _ => rfl), SlE.ofRow m3 (fun _ _ => rfl), by omega, by omega, by omega⟩
    obtain ⟨po, hpo⟩ : ∃ po, po = (⟨some ⟨t1, 0, none⟩, k1, some ⟨t2, 0, none⟩, k2, some ⟨t3, 0, none⟩, k3⟩ : Pl) := ⟨_, rfl⟩
    rw [← hpo] at hT ⊢
    clear hpo
    rename_i b3
    generalize bx = b7
    obtain ⟨HX, hHX⟩ : ∃ HX : List Row, HX = ⟨b7, 0, cRm R po, some 26, 5⟩ :: ⟨t1, 0, R.ages.flatMap cSp, some 35, k1 * 2⟩ :: ⟨t2, 0, R.boxes.flatMap cBx, some 81, k2 * 2⟩ :: ⟨t3, 0, R.mats.flatMap cMt, some 114, k3 * 6⟩ :: ⟨b3, 0, cRm R p, some 26, 5⟩ :: H := ⟨_, rfl⟩
    have m7 : (⟨b7, 0, cRm R po, some 26, 5⟩ : Row) ∈ HX := by rw [hHX]; exact List.Mem.head _
    have m3 : (⟨b3, 0, cRm R p, some 26, 5⟩ : Row) ∈ HX := by rw [hHX]; exact (by repeat (first | exact List.Mem.head _ | apply List.Mem.tail))
    have hO : ∀ S : List Row, (∀ r ∈ HX, r ∈ S) → RmOk S R po := fun S hS => hT S (hS _ (by rw [hHX]; exact (by repeat (first | exact List.Mem.head _ | apply List.Mem.tail)))) (hS _ (by rw [hHX]; exact (by repeat (first | exact List.Mem.head _ | apply List.Mem.tail)))) (hS _ (by rw [hHX]; exact (by repeat (first | exact List.Mem.head _ | apply List.Mem.tail))))
    have hP : ∀ S : List Row, (∀ r ∈ HX, r ∈ S) → RmOk S R p := fun S hS => hR.sub (fun r h => hS r (by rw [hHX]; exact List.Mem.tail _ (List.Mem.tail _ (List.Mem.tail _ (List.Mem.tail _ (List.Mem.tail _ h))))))
    refine XO.weakQ (H' := HX) (by rw [hHX]; exact (by (repeat (first | exact List.Sublist.refl _ | apply List.Sublist.cons_cons | apply List.Sublist.cons)); done)) ?_
    clear hHX hT
    repeat' (first | (refine XO.op rfl ?_; (first | ((first | refine Xo.ng rfl ?_ | (refine Xo.g rfl rfl ?_; with_reducible refine Xw.tt ?_)); (first | (refine Xg.ev (EvF.eqSf rfl rfl rfl) rfl rfl ?_) | (refine Xg.ev (EvF.extract rfl rfl rfl) rfl rfl ?_) | (refine Xg.ev (EvF.loadV rfl rfl (LoadV.whole (T := 26) (cs := cRm R po) (te rfl) rfl (by repeat (first | exact m7 | apply List.mem_append_right | apply List.Mem.tail)) rfl)) rfl rfl ?_) | (refine Xg.ev (EvF.loadV rfl rfl (LoadV.whole (T := 26) (cs := cRm R p) (te rfl) rfl (by repeat (first | exact m3 | apply List.mem_append_right | apply List.Mem.tail)) rfl)) rfl rfl ?_) | (refine Xg.call (EnF.st rfl (by (repeat (first | exact Args.nil | refine Args.cons rfl ?_)); done)) rfl rfl (kdu _ _ (hO _ (fun _ h => by repeat (first | exact h | apply List.mem_append_right | apply List.Mem.tail)))) ?_; rintro _ _ ⟨a1, c1, Z1, rfl, s1, rfl⟩) | (refine Xg.call (EnF.st rfl (by (repeat (first | exact Args.nil | refine Args.cons rfl ?_)); done)) rfl rfl (rdu p _ (hP _ (fun _ h => by repeat (first | exact h | apply List.mem_append_right | apply List.Mem.tail)))) ?_; rintro _ _ ⟨a2, c2, Z2, rfl, s2, rfl⟩) | (refine Xg.call (EnF.st rfl (by (repeat (first | exact Args.nil | refine Args.cons rfl ?_)); done)) rfl rfl (kfr _ _ (hO _ (fun _ h => by repeat (first | exact h | apply List.mem_append_right | apply List.Mem.tail)))) ?_; rintro _ _ ⟨a3, c3, Z3, rfl, s3, rfl⟩) | (refine Xg.call (EnF.st rfl (by (repeat (first | exact Args.nil | refine Args.cons rfl ?_)); done)) rfl rfl (rfr p _ (hP _ (fun _ h => by repeat (first | exact h | apply List.mem_append_right | apply List.Mem.tail)))) ?_; rintro _ _ ⟨a4, c4, Z4, rfl, s4, rfl⟩) | (refine Xg.call (EnF.st rfl (by (repeat (first | exact Args.nil | refine Args.cons rfl ?_)); done)) rfl rfl (kas _ _ (hO _ (fun _ h => by repeat (first | exact h | apply List.mem_append_right | apply List.Mem.tail)))) ?_; rintro _ H9 ⟨rfl, hH9⟩; subst H9) | (refine Xg.call (EnF.st rfl (by (repeat (first | exact Args.nil | refine Args.cons rfl ?_)); done)) rfl rfl (ras p _ (hP _ (fun _ h => by repeat (first | exact h | apply List.mem_append_right | apply List.Mem.tail)))) ?_; rintro _ H9 ⟨rfl, hH9⟩; subst H9) | (refine Xg.call (EnF.st rfl (Args.cons rfl (Args.cons rfl Args.nil))) rfl rfl (sameI_self dl a1 a2 c1 c2 _ (s1.sub (fun _ h => by repeat (first | exact h | apply List.mem_append_right | apply List.Mem.tail))) (s2.sub (fun _ h => by repeat (first | exact h | apply List.mem_append_right | apply List.Mem.tail))) hdl') ?_; rintro _ H9 ⟨rfl, hH9⟩; subst H9) | (refine Xg.call (EnF.st rfl (Args.cons rfl (Args.cons rfl Args.nil))) rfl rfl (sameI_self fl a3 a4 c3 c4 _ (s3.sub (fun _ h => by repeat (first | exact h | apply List.mem_append_right | apply List.Mem.tail))) (s4.sub (fun _ h => by repeat (first | exact h | apply List.mem_append_right | apply List.Mem.tail))) hfl') ?_; rintro _ H9 ⟨rfl, hH9⟩; subst H9) | (refine Xg.call (EnF.st rfl (by (repeat (first | exact Args.nil | refine Args.cons rfl ?_)); done)) rfl rfl (sameR_self R po p _ (hO _ (fun _ h => by repeat (first | exact h | apply List.mem_append_right | apply List.Mem.tail))) (hP _ (fun _ h => by repeat (first | exact h | apply List.mem_append_right | apply List.Mem.tail)))) ?_; rintro _ H9 ⟨rfl, hH9⟩; subst H9) | (refine Xg.ev (EvF.move rfl rfl) rfl rfl ?_) | (refine Xg.ev (EvF.assign rfl rfl) rfl rfl ?_) | (refine Xg.ev (EvF.pickT rfl rfl rfl) rfl rfl ?_))))) | (refine XO.done rfl ?_; refine hK _ _ ?_; clear hK K) | refine X.seq rfl ?_ | refine X.region rfl (fun K hK => ?_) | refine X.ret rfl ?_)
    all_goals try (exfalso; contradiction)
    exact ret_one (by first | exact .inr rfl | exact .inl rfl) Try.results5 rfl (H' := _) (List.Sublist.refl _) rfl
end Go.Proofs.Ytblehgpfddmggaa
end
section
set_option linter.unusedVariables false
namespace Go.Proofs.Ytblehgpfddmggaa
open Go Go.Fw Go.ChangeShapes Go.WideShapes
set_option maxRecDepth 10000
instance : Inhabited Sp := ⟨⟨0, 0⟩⟩
instance : Inhabited Bx := ⟨⟨0, 0⟩⟩
instance : Inhabited Mt := ⟨⟨0, 0, 0, 0, 0, 0⟩⟩
def w64 (n : Int) : Prop := (Lit.int .i64 n).wf = true
section
variable {H : Type} {enc : TypeId × Value → H} {w : World} {base : Nat} {spare : Nat → Bool} {held : Bool} {fuel : Nat} {cs : List Value} {x : DataW H × List MemPlace}
theorem open_i (h : DataW.trod enc Try.prog w base spare held fuel 3 cs = some x) : ∃ q : Int, cs = cI q ∧ w64 q := trod_i (te rfl) h
theorem open_sp (h : DataW.trod enc Try.prog w base spare held fuel 35 cs = some x) : ∃ q : Sp, cs = cSp q ∧ (w64 q.lo ∧ w64 q.hi) := by
  obtain ⟨hl, hf⟩ := trod_st (te rfl) h
  obtain ⟨n0, y0, h0⟩ := hf 0 0 3 _ rfl (te rfl)
  obtain ⟨n1, y1, h1⟩ := hf 1 1 3 _ rfl (te rfl)
  match cs, hl with
  | [a, b], _ =>
    obtain ⟨lo, e0, w0⟩ := open_i h0
    obtain ⟨hi, e1, w1⟩ := open_i h1
    simp [cI] at e0 e1
    subst e0 e1
    exact ⟨⟨lo, hi⟩, rfl, w0, w1⟩
theorem open_bx (h : DataW.trod enc Try.prog w base spare held fuel 81 cs = some x) : ∃ q : Bx, cs = cBx q ∧ (w64 q.id ∧ w64 q.made) := by
  obtain ⟨hl, hf⟩ := trod_st (te rfl) h
  obtain ⟨n0, y0, h0⟩ := hf 0 0 3 _ rfl (te rfl)
  obtain ⟨n1, y1, h1⟩ := hf 1 1 3 _ rfl (te rfl)
  match cs, hl with
  | [a, b], _ =>
    obtain ⟨lo, e0, w0⟩ := open_i h0
    obtain ⟨hi, e1, w1⟩ := open_i h1
    simp [cI] at e0 e1
    subst e0 e1
    exact ⟨⟨lo, hi⟩, rfl, w0, w1⟩
theorem open_mt (h : DataW.trod enc Try.prog w base spare held fuel 114 cs = some x) : ∃ q : Mt, cs = cMt q ∧ (w64 q.number ∧ w64 q.month ∧ w64 q.a ∧ w64 q.b ∧ w64 q.lo ∧ w64 q.hi) := by
  obtain ⟨hl, hf⟩ := trod_st (te rfl) h
  obtain ⟨n0, y0, h0⟩ := hf 0 0 3 _ rfl (te rfl)
  obtain ⟨n1, y1, h1⟩ := hf 1 1 3 _ rfl (te rfl)
  obtain ⟨n2, y2, h2⟩ := hf 2 2 3 _ rfl (te rfl)
  obtain ⟨n3, y3, h3⟩ := hf 3 3 3 _ rfl (te rfl)
  obtain ⟨n4, y4, h4⟩ := hf 4 4 35 _ rfl (te rfl)
  match cs, hl with
  | [a, b, c, d, e, f], _ =>
    obtain ⟨q0, e0, w0⟩ := open_i h0
    obtain ⟨q1, e1, w1⟩ := open_i h1
    obtain ⟨q2, e2, w2⟩ := open_i h2
    obtain ⟨q3, e3, w3⟩ := open_i h3
    obtain ⟨q4, e4, w4⟩ := open_sp h4
    simp [cI, cSp] at e0 e1 e2 e3 e4
    obtain ⟨e4, e5⟩ := e4
    subst e0 e1 e2 e3 e4 e5
    exact ⟨⟨q0, q1, q2, q3, q4.lo, q4.hi⟩, rfl, w0, w1, w2, w3, w4.1, w4.2⟩
end
structure InRm (w : World) (R : Rm) (p : Pl) : Prop where
  ages : InSl w p.a1 cSp 2 R.ages
  boxes : InSl w p.a2 cBx 2 R.boxes
  mats : InSl w p.a3 cMt 6 R.mats
  mo : w64 R.months
  st : w64 R.step
  k1 : R.ages.length ≤ p.c1
  k2 : R.boxes.length ≤ p.c2
  k3 : R.mats.length ≤ p.c3
def rowsRm (R : Rm) (p : Pl) : List Row := rowsOf p.a1 cSp R.ages ++ (rowsOf p.a2 cBx R.boxes ++ rowsOf p.a3 cMt R.mats)
theorem InRm.rm {w : World} {R : Rm} {p : Pl} {H : List Row} (h : InRm w R p) (hs : ∀ r ∈ rowsRm R p, r ∈ H) : RmOk H R p where
  ages := h.ages.sl fun r hr => hs r (List.mem_append_left _ hr)
  boxes := h.boxes.sl fun r hr => hs r (List.mem_append_right _ (List.mem_append_left _ hr))
  mats := h.mats.sl fun r hr => hs r (List.mem_append_right _ (List.mem_append_right _ hr))
  l1 := by have := h.ages.2.1; unfold maxLen at this; omega
  l2 := by have := h.boxes.2.1; unfold maxLen at this; omega
  l3 := by have := h.mats.2.1; unfold maxLen at this; omega
theorem InRm.ok {w : World} {R : Rm} {p : Pl} {B : Nat} (h : InRm w R p) : ∀ r ∈ rowsRm R p, r.own = none ∧ r.ok B w := by
  intro r hr
  rcases List.mem_append.1 hr with hr | hr
  · exact h.ages.ok r hr
  · rcases List.mem_append.1 hr with hr | hr
    · exact h.boxes.ok r hr
    · exact h.mats.ok r hr
section
variable {H : Type} {enc : TypeId × Value → H} {w : World} {base : Nat} {spare : Nat → Bool} {held : Bool} {v : Value} {d : DataW H} {p : List MemPlace} {r : Reach} {b0 : Nat}
theorem open_room (hv : Value.okWide Try.prog w r b0 26 v) (h : DataW.Trod enc Try.prog w base spare held 26 v d p) : ∃ R pl, v = .agg (cRm R pl).toArray ∧ InRm w R pl := by
  obtain ⟨fa, hu, _⟩ := ti_struct (te (T := 26) rfl)
  obtain ⟨⟨cs⟩, rfl, _⟩ := okWide_struct hu hv
  obtain ⟨fuel, hf⟩ := h
  obtain ⟨hl, hf⟩ := trod_st (te rfl) hf
  obtain ⟨n0, y0, h0⟩ := hf 0 0 3 _ rfl (te rfl)
  obtain ⟨n1, y1, h1⟩ := hf 1 1 3 _ rfl (te rfl)
  obtain ⟨n2, y2, h2⟩ := hf 2 2 22 _ rfl (te rfl)
  obtain ⟨n3, y3, h3⟩ := hf 3 3 23 _ rfl (te rfl)
  obtain ⟨n4, y4, h4⟩ := hf 4 4 24 _ rfl (te rfl)
  match cs, hl with
  | [a, b, c, d, e], _ =>
    obtain ⟨q0, e0, w0⟩ := open_i h0
    obtain ⟨q1, e1, w1⟩ := open_i h1
    simp [cI, Value.cells] at e0 e1
    obtain ⟨l2, a2, c2, e2, i2, _, k2⟩ := open_sl (te rfl) (te rfl) rfl (by decide) (fun _ _ _ => open_sp) (fun _ => rfl) h2
    obtain ⟨l3, a3, c3, e3, i3, _, k3⟩ := open_sl (te rfl) (te rfl) rfl (by decide) (fun _ _ _ => open_bx) (fun _ => rfl) h3
    obtain ⟨l4, a4, c4, e4, i4, _, k4⟩ := open_sl (te rfl) (te rfl) rfl (by decide) (fun _ _ _ => open_mt) (fun _ => rfl) h4
    subst e0 e1 e2 e3 e4
    exact ⟨⟨q0, q1, l2, l3, l4⟩, ⟨a2, c2, a3, c3, a4, c4⟩, rfl, i2, i3, i4, w0, w1, k2, k3, k4⟩
end
end Go.Proofs.Ytblehgpfddmggaa
end
