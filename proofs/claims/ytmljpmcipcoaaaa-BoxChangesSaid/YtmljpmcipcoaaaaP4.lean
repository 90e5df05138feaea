/- The program: hasAges. -/
import Derived.Test.YtmljpmcipcoaaaaP3
set_option linter.unusedSimpArgs false
namespace Go.Proofs.Ytmljpmcipcoaaaa
open Go Go.Fw
set_option maxRecDepth 10000
def ts66a : List TOp := [⟨some 5, [], [], []⟩, ⟨some 6, [], [], []⟩, ⟨some 7, [1], [1], []⟩, ⟨some 8, [1, 2], [2], []⟩, ⟨some 9, [0, 1, 2, 3], [0, 3], [3]⟩, ⟨some 10, [0, 1, 2, 3, 4], [4], []⟩, ⟨some 11, [0, 1, 2, 3, 4, 5], [5], []⟩, ⟨some 12, [0, 1, 2, 3, 4, 5, 6], [], []⟩, ⟨some 13, [0, 1, 2, 3, 4, 5, 6], [], []⟩, ⟨some 14, [0, 1, 2, 3, 4, 5, 6, 8], [8], []⟩, ⟨some 15, [0, 1, 2, 3, 4, 5, 6, 8, 9], [9], []⟩, ⟨some 16, [0, 1, 2, 3, 4, 5, 6, 7, 8, 9, 10], [7, 10], [10]⟩, ⟨some 17, [0, 1, 2, 3, 4, 5, 6, 7, 8, 9, 10, 11], [11], []⟩, ⟨some 18, [0, 1, 2, 3, 4, 5, 6, 7, 8, 9, 10, 11, 12], [6, 12], []⟩, ⟨some 19, [0, 1, 2, 3, 4, 5, 6, 7, 8, 9, 10, 11, 12, 13], [13], []⟩, ⟨some 20, [0, 1, 2, 3, 4, 5, 6, 7, 8, 9, 10, 11, 12, 13, 14], [], []⟩, ⟨some 21, [0, 1, 2, 3, 4, 5, 6, 7, 8, 9, 10, 11, 12, 13, 14, 15], [15], []⟩, ⟨some 22, [0, 1, 2, 3, 4, 5, 6, 7, 8, 9, 10, 11, 12, 13, 14, 15, 16], [16], []⟩, ⟨some 23, [0, 1, 2, 3, 4, 5, 6, 7, 8, 9, 10, 11, 12, 13, 14], [], []⟩, ⟨some 24, [0, 1, 2, 3, 4, 5, 6, 7, 8, 9, 10, 11, 12, 13, 14, 18], [18], []⟩, ⟨some 25, [0, 1, 2, 3, 4, 5, 6, 7, 8, 9, 10, 11, 12, 13, 14, 15, 16, 17, 18, 19], [17, 19], []⟩, ⟨some 26, [0, 1, 2, 3, 4, 5, 6, 7, 8, 9, 10, 11, 12, 13, 14, 15, 16, 17, 18, 19, 20], [14, 20], []⟩]
def val66a (b1 : Nat) (R : Rm) (p : Pl) (w0 w1 l1 : Bool) (k : Nat) (env : Env) : Value :=
  match k with
  | 0 => .agg (cSp ⟨1, 12⟩).toArray
  | 1 => .pointer (some ⟨b1, 0, none⟩)
  | 2 => .int .i64 R.months
  | 3 => .slice (some ⟨(env 3).1, 0, none⟩) 1 1
  | 4 => .bool w0
  | 5 => .bool (!w0)
  | 6 => .bool (!w0)
  | 7 => gt (!w0) (.agg (cSp ⟨0, 60⟩).toArray)
  | 8 => gt (!w0) (.pointer (some ⟨b1, 1, none⟩))
  | 9 => gt (!w0) (.int .i64 R.step)
  | 10 => gt (!w0) (.slice (some ⟨(env 10).1, 0, none⟩) 1 1)
  | 11 => gt (!w0) (.bool w1)
  | 12 => gt (!w0) (.bool (!w1))
  | 13 => .bool (!w0 || !w1)
  | 14 => .bool (!w0 || !w1)
  | 15 => gt (!w0 || !w1) (.pointer (some ⟨b1, 2, none⟩))
  | 16 => gt (!w0 || !w1) (.slice p.a1 R.ages.length p.c1)
  | 17 => gt (!w0 || !w1) (.int .i64 R.ages.length)
  | 18 => gt (!w0 || !w1) (.pointer (some ⟨b1, 0, none⟩))
  | 19 => gt (!w0 || !w1) (.int .i64 R.months)
  | 20 => gt (!w0 || !w1) (.bool l1)
  | 21 => .bool (!w0 || !w1 || l1)
  | _ => undef
def rows66a (R : Rm) (w0 : Bool) (k : Nat) (env : Env) : List Row :=
  match k with
  | 3 => [⟨(env 3).1, 0, [.int .i64 R.months], some 3, 1 * 1⟩]
  | 10 => gr (!w0) [⟨(env 10).1, 0, [.int .i64 R.step], some 3, 1 * 1⟩]
  | _ => []
theorem loc66a (b1 : Nat) (R : Rm) (p : Pl) (w0 w1 l1 : Bool) : ∀ k env i q9, i ≠ k → (tAt ts66a k).sup.contains i = false → val66a b1 R p w0 w1 l1 k (upd env i q9) = val66a b1 R p w0 w1 l1 k env ∧ rows66a R w0 k (upd env i q9) = rows66a R w0 k env := by
  intro k env i q hk hs
  have hu : ∀ j, j ≠ i → upd env i q j = env j := fun j hj => by unfold upd; rw [if_neg hj]
  match k, hk, hs with
  | 0, _, _ => exact ⟨rfl, rfl⟩
  | 1, _, _ => exact ⟨rfl, rfl⟩
  | 2, _, _ => exact ⟨rfl, rfl⟩
  | 3, hk, hs => exact ⟨by simp only [val66a, hu 3 (fun e => hk e.symm)], by simp only [rows66a, hu 3 (fun e => hk e.symm)]⟩
  | 4, _, _ => exact ⟨rfl, rfl⟩
  | 5, _, _ => exact ⟨rfl, rfl⟩
  | 6, _, _ => exact ⟨rfl, rfl⟩
  | 7, _, _ => exact ⟨rfl, rfl⟩
  | 8, _, _ => exact ⟨rfl, rfl⟩
  | 9, _, _ => exact ⟨rfl, rfl⟩
  | 10, hk, hs => exact ⟨by simp only [val66a, hu 10 (fun e => hk e.symm)], by simp only [rows66a, hu 10 (fun e => hk e.symm)]⟩
  | 11, _, _ => exact ⟨rfl, rfl⟩
  | 12, _, _ => exact ⟨rfl, rfl⟩
  | 13, _, _ => exact ⟨rfl, rfl⟩
  | 14, _, _ => exact ⟨rfl, rfl⟩
  | 15, _, _ => exact ⟨rfl, rfl⟩
  | 16, _, _ => exact ⟨rfl, rfl⟩
  | 17, _, _ => exact ⟨rfl, rfl⟩
  | 18, _, _ => exact ⟨rfl, rfl⟩
  | 19, _, _ => exact ⟨rfl, rfl⟩
  | 20, _, _ => exact ⟨rfl, rfl⟩
  | 21, _, _ => exact ⟨rfl, rfl⟩
  | _ + 22, _, _ => exact ⟨rfl, rfl⟩
def ts66b : List TOp := [⟨some 34, [], [], []⟩, ⟨some 35, [0], [0], []⟩, ⟨some 36, [], [], []⟩, ⟨some 37, [2], [2], []⟩, ⟨some 38, [0, 1, 2, 3], [1, 3], []⟩, ⟨some 39, [0, 1, 2, 3, 4], [4], []⟩, ⟨some 40, [0, 1, 2, 3, 4, 5], [], []⟩, ⟨some 41, [0, 1, 2, 3, 4, 5], [], []⟩, ⟨some 42, [0, 1, 2, 3, 4, 5, 7], [7], []⟩, ⟨some 43, [0, 1, 2, 3, 4, 5], [], []⟩, ⟨some 44, [0, 1, 2, 3, 4, 5, 9], [9], []⟩, ⟨some 45, [0, 1, 2, 3, 4, 5, 7, 8, 9, 10], [8, 10], []⟩, ⟨some 46, [0, 1, 2, 3, 4, 5, 6, 7, 8, 9, 10, 11], [6, 11], [11]⟩, ⟨some 47, [0, 1, 2, 3, 4, 5, 6, 7, 8, 9, 10, 11, 12], [12], []⟩, ⟨some 48, [0, 1, 2, 3, 4, 5, 6, 7, 8, 9, 10, 11, 12, 13], [5, 13], []⟩]
def val66b (b4 : Nat) (e : Sp) (g w : Bool) (k : Nat) (env : Env) : Value :=
  match k with
  | 0 => .pointer (some ⟨b4, 0, none⟩)
  | 1 => .int .i64 e.lo
  | 2 => .pointer (some ⟨b4, 1, none⟩)
  | 3 => .int .i64 e.hi
  | 4 => .bool g
  | 5 => .bool g
  | 6 => gt g (.agg (cSp ⟨0, 60⟩).toArray)
  | 7 => gt g (.pointer (some ⟨b4, 0, none⟩))
  | 8 => gt g (.int .i64 e.lo)
  | 9 => gt g (.pointer (some ⟨b4, 1, none⟩))
  | 10 => gt g (.int .i64 e.hi)
  | 11 => gt g (.slice (some ⟨(env 11).1, 0, none⟩) 2 2)
  | 12 => gt g (.bool w)
  | 13 => gt g (.bool (!w))
  | 14 => .bool (g || !w)
  | _ => undef
def rows66b (e : Sp) (g : Bool) (k : Nat) (env : Env) : List Row :=
  match k with
  | 11 => gr g [⟨(env 11).1, 0, [.int .i64 e.lo, .int .i64 e.hi], some 3, 2 * 1⟩]
  | _ => []
theorem loc66b (b4 : Nat) (e : Sp) (g w : Bool) : ∀ k env i q9, i ≠ k → (tAt ts66b k).sup.contains i = false → val66b b4 e g w k (upd env i q9) = val66b b4 e g w k env ∧ rows66b e g k (upd env i q9) = rows66b e g k env := by
  intro k env i q hk hs
  have hu : ∀ j, j ≠ i → upd env i q j = env j := fun j hj => by unfold upd; rw [if_neg hj]
  match k, hk, hs with
  | 0, _, _ => exact ⟨rfl, rfl⟩
  | 1, _, _ => exact ⟨rfl, rfl⟩
  | 2, _, _ => exact ⟨rfl, rfl⟩
  | 3, _, _ => exact ⟨rfl, rfl⟩
  | 4, _, _ => exact ⟨rfl, rfl⟩
  | 5, _, _ => exact ⟨rfl, rfl⟩
  | 6, _, _ => exact ⟨rfl, rfl⟩
  | 7, _, _ => exact ⟨rfl, rfl⟩
  | 8, _, _ => exact ⟨rfl, rfl⟩
  | 9, _, _ => exact ⟨rfl, rfl⟩
  | 10, _, _ => exact ⟨rfl, rfl⟩
  | 11, hk, hs => exact ⟨by simp only [val66b, hu 11 (fun e => hk e.symm)], by simp only [rows66b, hu 11 (fun e => hk e.symm)]⟩
  | 12, _, _ => exact ⟨rfl, rfl⟩
  | 13, _, _ => exact ⟨rfl, rfl⟩
  | 14, _, _ => exact ⟨rfl, rfl⟩
  | _ + 15, _, _ => exact ⟨rfl, rfl⟩
def agesOk (R : Rm) : Prop := (1 ≤ R.months ∧ R.months ≤ 12) ∧ (0 ≤ R.step ∧ R.step ≤ 60) ∧ (R.ages.length : Int) = R.months ∧ okAges R.ages
instance (R : Rm) : Decidable (agesOk R) := by unfold agesOk; infer_instance
set_option maxHeartbeats 2000000 in
theorem hasAges_spec (R : Rm) (p : Pl) (H : List Row) (hR : RmOk H R p) : Fc Try.prog 66 [.agg (cRm R p).toArray] H (fun v H' => v = .bool (decide (agesOk R)) ∧ H' = H) := by
  have l1 := hR.l1
  obtain ⟨w0, e0⟩ : ∃ b, decide (∀ n ∈ [R.months], (Sp.mk 1 12).lo ≤ n ∧ n ≤ (Sp.mk 1 12).hi) = b := ⟨_, rfl⟩
  obtain ⟨w1, e1⟩ : ∃ b, decide (∀ n ∈ [R.step], (Sp.mk 0 60).lo ≤ n ∧ n ≤ (Sp.mk 0 60).hi) = b := ⟨_, rfl⟩
  obtain ⟨bb, hbb⟩ : ∃ b, (!w0 || !w1 || !decide ((R.ages.length : Int) = R.months)) = b := ⟨_, rfl⟩
  have hh : bb = false ↔ (1 ≤ R.months ∧ R.months ≤ 12) ∧ (0 ≤ R.step ∧ R.step ≤ 60) ∧ (R.ages.length : Int) = R.months := by
    rw [← hbb, ← e0, ← e1]
    simp [and_assoc]
  refine Fc.mk (callable Try.call66) Try.func66 rfl Try.ntmps66 rfl ?_; dsimp only [fr]
  refine X.seq rfl ?_; refine X.region rfl (fun K hK => ?_); repeat' (first | (refine XO.op rfl ?_; (first | ((first | refine Xo.ng rfl ?_); (first | (refine Xg.ev (EvF.assign rfl rfl) rfl rfl ?_) | (refine Xg.st (StF.boxAgg rfl rfl) rfl rfl ?_; rintro _ _ ⟨bx, rfl, rfl⟩))))) | (refine XO.done rfl ?_; refine hK _ _ ?_; clear hK K))
  rename Nat => b1
  refine X.seq rfl ?_
  refine X.seq rfl ?_
  refine X.regionOb ts66a [1] [(1, .pointer (some ⟨b1, 0, none⟩))] (val66a b1 R p w0 w1 (!decide ((R.ages.length : Int) = R.months))) (rows66a R w0) (fun _ => (0, 0)) (⟨b1, 0, cRm R p, some 26, 5⟩ :: H) rfl mixed (by (repeat (first | exact Sub.nil _ | refine Sub.cons rfl ?_)); done) rfl (by kernel_rfl) (loc66a b1 R p w0 w1 _) (List.Sublist.refl _) ?_ ?_
  · clear hbb
    cases w0 <;> cases w1
    all_goals repeat' (first | exact AllF.done rfl | (refine AllF.step rfl ?_ ?_; · (first | exact Ob.sk rfl rfl (fun _ => rfl) (fun _ => rfl) (fun _ => rfl) (fun _ => rfl) | ((first | refine Ob.ng rfl ?_ | refine Ob.g rfl rfl (fun _ => rfl) ?_); (first | exact ObK.pure (fun env R hR => by exact ⟨_, EvF.move rfl rfl, rfl⟩) rfl (fun _ => rfl) | exact ObK.pure (fun env R hR => by exact ⟨_, EvF.pickT rfl rfl rfl, rfl⟩) rfl (fun _ => rfl) | exact ObK.pure (fun env R hR => by exact ⟨_, EvF.pickF rfl rfl rfl, rfl⟩) rfl (fun _ => rfl) | exact ObK.pure (fun env R hR => by exact ⟨_, EvF.fieldAddr rfl rfl (te rfl) rfl (te rfl) (by decide), rfl⟩) rfl (fun _ => rfl) | exact ObK.pure (fun env R hR => by exact ⟨_, EvF.not rfl rfl, rfl⟩) rfl (fun _ => rfl) | exact ObK.pure (fun env R hR => by exact ⟨_, EvF.cmp rfl rfl rfl rfl, rfl⟩) rfl (fun _ => rfl) | exact ObK.pure (fun env R hR => by exact ⟨_, EvF.lenSlice rfl rfl (te rfl), rfl⟩) rfl (fun _ => rfl) | exact ObK.pure (fun env R hR => by exact ⟨_, EvF.loadV rfl rfl (LoadV.own (te rfl) rfl (hR _ (List.Mem.head _)) rfl), rfl⟩) rfl (fun _ => rfl) | (exact fun env S hS => (StF.buildOne rfl el55 rfl rfl rfl (by decide) (by decide)).op.mono (fun v H' ⟨b, hv, hH⟩ => ⟨(b, 0), fun _ => hv, by rw [hH]; exact List.Perm.refl _⟩)) | (exact ObK.pure (fun env S hS => ⟨_, EvF.build (cs := cSp ⟨1, 12⟩) rfl (ArgsP.cons rfl (ArgsP.cons rfl ArgsP.nil)) (te rfl) (Places.cons (te rfl) (Places.cons (te rfl) Places.nil)) Try.zeroValue35 rfl, rfl⟩) rfl (fun _ => rfl)) | (exact fun env S hS => OpF.callV (Z := []) (EnF.st rfl (by (repeat (first | exact Args.nil | refine Args.cons rfl ?_)); done)) (anyPoints_spec _) rfl rfl) | (exact fun env S hS => OpF.callV (EnF.st rfl (by (repeat (first | exact Args.nil | refine Args.cons rfl ?_)); done)) (withinL_spec ⟨1, 12⟩ [R.months] _ _ _ (SlE.ofRow (l := [R.months]) (List.Mem.head _) (fun _ _ => rfl)) (by simp)) (by rw [e0]; rfl) rfl) | (exact fun env S hS => OpF.callV (EnF.st rfl (by (repeat (first | exact Args.nil | refine Args.cons rfl ?_)); done)) (withinL_spec ⟨0, 60⟩ [R.step] _ _ _ (SlE.ofRow (l := [R.step]) (List.Mem.head _) (fun _ _ => rfl)) (by simp)) (by rw [e1]; rfl) rfl))))))
  · intro env t ha hv
    refine ⟨[(26, .bool bb), (1, .pointer (some ⟨b1, 0, none⟩))], ha.cons (by rw [← hbb]; exact hv 21 26 (Nat.le_of_ble_eq_true rfl) rfl), ?_⟩
    show X _ _ _ _ (⟨b1, 0, cRm R p, some 26, 5⟩ :: H) _
    repeat' (first | (refine XO.op rfl ?_; (first | ((first | refine Xo.ng rfl ?_); (first | (refine Xg.ev (EvF.move rfl rfl) rfl rfl ?_) | (refine Xg.ev (EvF.assign rfl rfl) rfl rfl ?_) | (refine Xg.ev (EvF.cmp rfl rfl rfl rfl) rfl rfl ?_) | (refine Xg.ev (EvF.add64 rfl rfl rfl (by omega) (by omega)) rfl rfl ?_) | (refine Xg.ev (EvF.fieldAddr rfl rfl (te rfl) rfl (te rfl) (by decide)) rfl rfl ?_) | (refine Xg.ev (EvF.lenSlice rfl rfl (te rfl)) rfl rfl ?_) | (refine Xg.ev (EvF.loadV rfl rfl (LoadV.own (te rfl) rfl (List.Mem.head _) rfl)) rfl rfl ?_))))) | (refine XO.done rfl ?_; refine hK _ _ ?_; clear hK K) | refine X.seq rfl ?_ | refine X.region rfl (fun K hK => ?_) | refine X.block rfl ?_ | (refine X.brk rfl ?_; first | refine blockX_hit rfl ?_ | skip) | refine X.skip rfl ?_ | refine X.ret rfl ?_ | (refine X.ite rfl rfl (fun hc => ?_); (first | (with_reducible refine Xb.case hc (fun h => ?_) (fun h => ?_)) | (with_reducible refine Xb.caseB hc (fun h => ?_) (fun h => ?_))) <;> clear hc))
    · refine ret_one (by first | exact .inr rfl | exact .inl rfl) Try.results66 rfl (H' := H) (by (repeat (first | exact List.Sublist.refl _ | apply List.Sublist.cons)); done) ?_; simp only [and_true, true_and]
      congr 1; symm; exact decide_eq_false (fun q => by rw [hh.2 ⟨q.1, q.2.1, q.2.2.1⟩] at h; cases h)
    have hh' := hh.1 (by assumption)
    have hR1 : ∀ r, RmOk (r :: H) R p := fun r => hR.sub (fun _ h => List.mem_cons_of_mem _ h)
    obtain ⟨a1, c1, a2, c2, a3, c3⟩ := p
    refine X.lp rfl (fun m F' H' => ∃ k : Nat, m = R.ages.length - k ∧ k ≤ R.ages.length ∧ (okAges R.ages ↔ okAges (R.ages.drop k)) ∧ H' = ⟨b1, 0, cRm R ⟨a1, c1, a2, c2, a3, c3⟩, some 26, 5⟩ :: H ∧
        F' = [(1, .pointer (some ⟨b1, 0, none⟩)), (28, .slice a1 R.ages.length c1), (29, .int .i64 R.ages.length), (30, .int .i64 k)])
      R.ages.length [(1, .pointer (some ⟨b1, 0, none⟩)), (28, .slice a1 R.ages.length c1), (29, .int .i64 R.ages.length), (30, .int .i64 (0 : Nat))] _ (by (repeat (first | exact Sub.nil _ | refine Sub.cons rfl ?_)); done) (List.Sublist.refl _) ⟨0, by omega, by omega, by simp, rfl, rfl⟩ ?_
    rintro _ _ _ ⟨k, rfl, hk, hn, rfl, rfl⟩
    repeat' (first | (refine XO.op rfl ?_; (first | ((first | refine Xo.ng rfl ?_); (first | (refine Xg.ev (EvF.move rfl rfl) rfl rfl ?_) | (refine Xg.ev (EvF.assign rfl rfl) rfl rfl ?_) | (refine Xg.ev (EvF.cmp rfl rfl rfl rfl) rfl rfl ?_) | (refine Xg.ev (EvF.add64 rfl rfl rfl (by omega) (by omega)) rfl rfl ?_) | (refine Xg.ev (EvF.fieldAddr rfl rfl (te rfl) rfl (te rfl) (by decide)) rfl rfl ?_) | (refine Xg.ev (EvF.lenSlice rfl rfl (te rfl)) rfl rfl ?_) | (refine Xg.ev (EvF.loadV rfl rfl (LoadV.own (te rfl) rfl (List.Mem.head _) rfl)) rfl rfl ?_))))) | (refine XO.done rfl ?_; refine hK _ _ ?_; clear hK K) | refine X.seq rfl ?_ | refine X.region rfl (fun K hK => ?_) | refine X.block rfl ?_ | (refine X.brk rfl ?_; first | refine blockX_hit rfl ?_ | skip) | refine X.skip rfl ?_ | refine X.ret rfl ?_ | (refine X.ite rfl rfl (fun hc => ?_); (first | (with_reducible refine Xb.case hc (fun h => ?_) (fun h => ?_)) | (with_reducible refine Xb.caseB hc (fun h => ?_) (fun h => ?_))) <;> clear hc))
    · obtain ⟨b, off, e, rfl, he⟩ := hR.ages.elem (i := k) (by omega)
      rw [drop_cons he] at hn
      repeat' (first | (refine XO.op rfl ?_; (first | ((first | refine Xo.ng rfl ?_); (first | (refine Xg.ev (EvF.loadV rfl rfl (LoadV.elA0 (hR1 _).ages he (te rfl) rfl (fun _ hm => hm) rfl)) rfl rfl ?_) | (refine Xg.ev (EvF.indexSlice rfl rfl rfl (te rfl) (te rfl) (by omega) (by omega)) rfl rfl ?_) | (refine Xg.st (StF.alloc rfl Try.zeroValue35 rfl) rfl rfl ?_; rintro _ _ ⟨bx, rfl, rfl⟩) | (refine Xg.st0 (StF.storeAll (i := 0) rfl rfl rfl (te rfl) rfl rfl rfl rfl) rfl ?_; rintro _ _ ⟨rfl, rfl⟩; dsimp only [List.set]))))) | (refine XO.done rfl ?_; refine hK _ _ ?_; clear hK K) | refine X.seq rfl ?_)
      rename Nat => b4
      obtain ⟨g, eg⟩ : ∃ q, decide (e.lo > e.hi) = q := ⟨_, rfl⟩
      obtain ⟨w, ew⟩ : ∃ q, decide (∀ n ∈ [e.lo, e.hi], (Sp.mk 0 60).lo ≤ n ∧ n ≤ (Sp.mk 0 60).hi) = q := ⟨_, rfl⟩
      obtain ⟨b2, hb2⟩ : ∃ q, (g || !w) = q := ⟨_, rfl⟩
      have h2 : b2 = false ↔ 0 ≤ e.lo ∧ e.lo ≤ e.hi ∧ e.hi ≤ 60 := by
        rw [← hb2, ← eg, ← ew]
        simp
        omega
      refine X.regionOb ts66b [4, 1, 28, 29, 30] [(4, .pointer (some ⟨b4, 0, none⟩)), (1, .pointer (some ⟨b1, 0, none⟩)), (28, .slice (some ⟨b, off, none⟩) R.ages.length c1), (29, .int .i64 R.ages.length), (30, .int .i64 k)] (val66b b4 e g w) (rows66b e g) (fun _ => (0, 0)) (⟨b4, 0, cSp e, some 35, 2⟩ :: ⟨b1, 0, cRm R ⟨some ⟨b, off, none⟩, c1, a2, c2, a3, c3⟩, some 26, 5⟩ :: H) rfl mixed (by (repeat (first | exact Sub.nil _ | refine Sub.cons rfl ?_)); done) rfl (by kernel_rfl) (loc66b b4 e g w) (List.Sublist.refl _) ?_ ?_
      · clear hb2 h2
        cases g <;> cases w
        all_goals repeat' (first | exact AllF.done rfl | (refine AllF.step rfl ?_ ?_; · (first | exact Ob.sk rfl rfl (fun _ => rfl) (fun _ => rfl) (fun _ => rfl) (fun _ => rfl) | ((first | refine Ob.ng rfl ?_ | refine Ob.g rfl rfl (fun _ => rfl) ?_); (first | exact ObK.pure (fun env R hR => by exact ⟨_, EvF.move rfl rfl, rfl⟩) rfl (fun _ => rfl) | exact ObK.pure (fun env R hR => by exact ⟨_, EvF.pickT rfl rfl rfl, rfl⟩) rfl (fun _ => rfl) | exact ObK.pure (fun env R hR => by exact ⟨_, EvF.pickF rfl rfl rfl, rfl⟩) rfl (fun _ => rfl) | exact ObK.pure (fun env R hR => by exact ⟨_, EvF.fieldAddr rfl rfl (te rfl) rfl (te rfl) (by decide), rfl⟩) rfl (fun _ => rfl) | exact ObK.pure (fun env R hR => by exact ⟨_, EvF.not rfl rfl, rfl⟩) rfl (fun _ => rfl) | exact ObK.pure (fun env R hR => by exact ⟨_, EvF.loadV rfl rfl (LoadV.own (te rfl) rfl (hR _ (List.Mem.head _)) rfl), rfl⟩) rfl (fun _ => rfl) | (exact ObK.pure (fun env S hS => ⟨_, EvF.cmp rfl rfl rfl rfl, by rw [eg]; rfl⟩) rfl (fun _ => rfl)) | (exact fun env S hS => (StF.buildTwo rfl el55 rfl rfl rfl rfl rfl rfl (by decide) (by decide)).op.mono (fun v H' ⟨b, hv, hH⟩ => ⟨(b, 0), fun _ => hv, by rw [hH]; exact List.Perm.refl _⟩)) | (exact fun env S hS => OpF.callV (Z := []) (EnF.st rfl (by (repeat (first | exact Args.nil | refine Args.cons rfl ?_)); done)) (anyPoints_spec _) rfl rfl) | (exact fun env S hS => OpF.callV (EnF.st rfl (by (repeat (first | exact Args.nil | refine Args.cons rfl ?_)); done)) (withinL_spec ⟨0, 60⟩ [e.lo, e.hi] _ _ _ (SlE.ofRow (l := [e.lo, e.hi]) (List.Mem.head _) (fun _ _ => rfl)) (by simp)) (by rw [ew]; rfl) rfl))))))
      · intro env t ha hv
        refine ⟨[(48, .bool b2), (1, .pointer (some ⟨b1, 0, none⟩)), (28, .slice (some ⟨b, off, none⟩) R.ages.length c1), (29, .int .i64 R.ages.length), (30, .int .i64 k)], (ha.sub (by (repeat (first | exact Sub.nil _ | refine Sub.cons rfl ?_)); done)).cons (by rw [← hb2]; exact hv 14 48 (Nat.le_of_ble_eq_true rfl) rfl), ?_⟩
        show X _ _ _ _ (⟨b4, 0, cSp e, some 35, 2⟩ :: ⟨b1, 0, cRm R ⟨some ⟨b, off, none⟩, c1, a2, c2, a3, c3⟩, some 26, 5⟩ :: H) _
        repeat' (first | (refine XO.op rfl ?_; (first | ((first | refine Xo.ng rfl ?_); (first | (refine Xg.ev (EvF.move rfl rfl) rfl rfl ?_) | (refine Xg.ev (EvF.assign rfl rfl) rfl rfl ?_) | (refine Xg.ev (EvF.cmp rfl rfl rfl rfl) rfl rfl ?_) | (refine Xg.ev (EvF.add64 rfl rfl rfl (by omega) (by omega)) rfl rfl ?_) | (refine Xg.ev (EvF.fieldAddr rfl rfl (te rfl) rfl (te rfl) (by decide)) rfl rfl ?_) | (refine Xg.ev (EvF.lenSlice rfl rfl (te rfl)) rfl rfl ?_) | (refine Xg.ev (EvF.loadV rfl rfl (LoadV.own (te rfl) rfl (List.Mem.head _) rfl)) rfl rfl ?_))))) | (refine XO.done rfl ?_; refine hK _ _ ?_; clear hK K) | refine X.seq rfl ?_ | refine X.region rfl (fun K hK => ?_) | refine X.block rfl ?_ | (refine X.brk rfl ?_; first | refine blockX_hit rfl ?_ | skip) | refine X.skip rfl ?_ | refine X.ret rfl ?_ | (refine X.ite rfl rfl (fun hc => ?_); (first | (with_reducible refine Xb.case hc (fun h => ?_) (fun h => ?_)) | (with_reducible refine Xb.caseB hc (fun h => ?_) (fun h => ?_))) <;> clear hc))
        · refine ret_one (by first | exact .inr rfl | exact .inl rfl) Try.results66 rfl (H' := H) (by (repeat (first | exact List.Sublist.refl _ | apply List.Sublist.cons)); done) ?_; simp only [and_true, true_and]
          congr 1; symm
          exact decide_eq_false (fun q => by rw [h2.2 (okAges_cons.1 (hn.1 q.2.2.2)).1] at h; cases h)
        · exact ⟨_, _, _, (by (repeat (first | exact Sub.nil _ | refine Sub.cons rfl ?_)); done), (by (repeat (first | exact List.Sublist.refl _ | apply List.Sublist.cons)); done), ⟨k + 1, rfl, by omega, hn.trans (okAges_cons.trans (and_iff_right (h2.1 (by assumption)))), rfl, rfl⟩, by omega⟩
    · refine ret_one (by first | exact .inr rfl | exact .inl rfl) Try.results66 rfl (H' := H) (by (repeat (first | exact List.Sublist.refl _ | apply List.Sublist.cons)); done) ?_; simp only [and_true, true_and]
      congr 1; symm
      exact decide_eq_true ⟨hh'.1, hh'.2.1, hh'.2.2, hn.2 (by rw [List.drop_eq_nil_of_le (by omega)]; simp [okAges])⟩
end Go.Proofs.Ytmljpmcipcoaaaa
