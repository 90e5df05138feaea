/- The program: hasValidBoxes. -/
import Derived.Test.YtmljpmcipcoaaaaP4
set_option linter.unusedSimpArgs false
namespace Go.Proofs.Ytmljpmcipcoaaaa
open Go Go.Fw
set_option maxRecDepth 10000
def ts67 : List TOp := [⟨some 23, [], [], []⟩, ⟨some 24, [0], [0], []⟩, ⟨some 25, [], [], []⟩, ⟨some 26, [2], [2], []⟩, ⟨some 27, [2, 3], [3], []⟩, ⟨some 28, [0, 1, 2, 3, 4], [1, 4], [4]⟩, ⟨some 29, [0, 1, 2, 3, 4, 5], [5], []⟩]
def val67 (b4 : Nat) (R : Rm) (p : Pl) (e : Bx) (w : Bool) (k : Nat) (env : Env) : Value :=
  match k with
  | 0 => .agg (cRm R p).toArray
  | 1 => .agg (cSp ⟨0, R.months - 1⟩).toArray
  | 2 => .pointer (some ⟨b4, 1, none⟩)
  | 3 => .int .i64 e.made
  | 4 => .slice (some ⟨(env 4).1, 0, none⟩) 1 1
  | 5 => .bool w
  | 6 => .bool (!w)
  | _ => undef
def rows67 (e : Bx) (k : Nat) (env : Env) : List Row :=
  match k with
  | 4 => [⟨(env 4).1, 0, [.int .i64 e.made], some 3, 1 * 1⟩]
  | _ => []
theorem loc67 (b4 : Nat) (R : Rm) (p : Pl) (e : Bx) (w : Bool) : ∀ k env i q9, i ≠ k → (tAt ts67 k).sup.contains i = false → val67 b4 R p e w k (upd env i q9) = val67 b4 R p e w k env ∧ rows67 e k (upd env i q9) = rows67 e k env := by
  intro k env i q hk hs
  have hu : ∀ j, j ≠ i → upd env i q j = env j := fun j hj => by unfold upd; rw [if_neg hj]
  match k, hk, hs with
  | 0, _, _ => exact ⟨rfl, rfl⟩
  | 1, _, _ => exact ⟨rfl, rfl⟩
  | 2, _, _ => exact ⟨rfl, rfl⟩
  | 3, _, _ => exact ⟨rfl, rfl⟩
  | 4, hk, hs => exact ⟨by simp only [val67, hu 4 (fun e => hk e.symm)], by simp only [rows67, hu 4 (fun e => hk e.symm)]⟩
  | 5, _, _ => exact ⟨rfl, rfl⟩
  | 6, _, _ => exact ⟨rfl, rfl⟩
  | _ + 7, _, _ => exact ⟨rfl, rfl⟩
def boxesOk (R : Rm) : Prop := R.boxes.length ≤ 4 ∧ risesOk (R.boxes.map (·.id)) ∧ ∀ b ∈ R.boxes, 0 ≤ b.made ∧ b.made ≤ R.months - 1
noncomputable instance (R : Rm) : Decidable (boxesOk R) := Classical.propDecidable _
set_option maxHeartbeats 2000000 in
theorem hasValidBoxes_spec (R : Rm) (p : Pl) (H : List Row) (hR : RmOk H R p) (hm : 1 ≤ R.months ∧ R.months ≤ 12) : Fc Try.prog 67 [.agg (cRm R p).toArray] H (fun v H' => v = .bool (decide (boxesOk R)) ∧ H' = H) := by
  have l2 := hR.l2
  have hR1 : ∀ r, RmOk (r :: H) R p := fun r => hR.sub (fun _ h => List.mem_cons_of_mem _ h)
  obtain ⟨a1, c1, a2, c2, a3, c3⟩ := p
  refine Fc.mk (callable Try.call67) Try.func67 rfl Try.ntmps67 rfl ?_; dsimp only [fr]
  refine X.seq rfl ?_; refine X.region rfl (fun K hK => ?_); repeat' (first | (refine XO.op rfl ?_; (first | ((first | refine Xo.ng rfl ?_); (first | (refine Xg.ev (EvF.assign rfl rfl) rfl rfl ?_) | (refine Xg.st (StF.boxAgg rfl rfl) rfl rfl ?_; rintro _ _ ⟨bx, rfl, rfl⟩))))) | (refine XO.done rfl ?_; refine hK _ _ ?_; clear hK K))
  rename Nat => b1
  repeat' (first | (refine XO.op rfl ?_; (first | ((first | refine Xo.ng rfl ?_ | (refine Xo.g rfl rfl ?_; with_reducible refine Xw.ff ?_)); (first | (refine Xg.call (EnF.st rfl (by (repeat (first | exact Args.nil | refine Args.cons rfl ?_)); done)) rfl rfl (numbers_specBx R.boxes _ _ _ (hR1 _).boxes (by omega)) ?_; rintro _ _ ⟨a', c', Z, rfl, rfl, hz⟩) | (refine Xg.call (EnF.st rfl (by (repeat (first | exact Args.nil | refine Args.cons rfl ?_)); done)) rfl rfl (rising_spec (R.boxes.map (·.id)) a' c' _ hz (by rw [List.length_map]; omega)) ?_; rintro _ H9 ⟨rfl, hH9⟩; subst H9) | (refine Xg.ev (EvF.loadV rfl rfl (LoadV.own (te rfl) rfl (List.mem_append_right _ (List.Mem.head _)) rfl)) rfl rfl ?_) | (refine Xg.ev (EvF.move rfl rfl) rfl rfl ?_) | (refine Xg.ev (EvF.assign rfl rfl) rfl rfl ?_) | (refine Xg.ev (EvF.pickT rfl rfl rfl) rfl rfl ?_) | (refine Xg.ev (EvF.pickF rfl rfl rfl) rfl rfl ?_) | (refine Xg.ev (EvF.cmp rfl rfl rfl rfl) rfl rfl ?_) | (refine Xg.ev (EvF.not rfl rfl) rfl rfl ?_) | (refine Xg.ev (EvF.fieldAddr rfl rfl (te rfl) rfl (te rfl) (by decide)) rfl rfl ?_) | (refine Xg.ev (EvF.lenSlice rfl rfl (te rfl)) rfl rfl ?_) | (refine Xg.ev (EvF.loadV rfl rfl (LoadV.own (te rfl) rfl (List.Mem.head _) rfl)) rfl rfl ?_))) | (refine Xo.g rfl rfl ?_; (first | (with_reducible refine Xw.tf rfl rfl ?_) | (with_reducible refine Xw.case (fun h => ?_) (fun h => ?_) <;> simp only [h, decide_true, decide_false, Bool.not_true, Bool.not_false, and_self, and_true, true_and, and_false, false_and]))))) | (refine XO.done rfl ?_; refine hK _ _ ?_; clear hK K) | refine X.seq rfl ?_ | refine X.region rfl (fun K hK => ?_) | refine X.block rfl ?_ | refine X.skip rfl ?_ | refine X.ret rfl ?_ | (refine X.ite rfl rfl (fun hc => ?_); (first | (with_reducible refine Xb.t hc ?_) | (with_reducible refine Xb.caseN hc (fun h => ?_) (fun h => ?_))) <;> clear hc))
  · refine ret_one (by first | exact .inr rfl | exact .inl rfl) Try.results67 rfl (H' := H) (by (repeat (first | exact List.Sublist.refl _ | apply List.Sublist.cons)); done) ?_; simp only [and_true, true_and]
    congr 1; symm; exact decide_eq_false (fun q => by have := q.1; omega)
  · refine ret_one (by first | exact .inr rfl | exact .inl rfl) Try.results67 rfl (H' := H) ((List.sublist_cons_self _ _).trans (List.sublist_append_right _ _)) ⟨?_, rfl⟩
    congr 1; symm; exact decide_eq_false (fun q => h q.2.1)
  have hri : risesOk (R.boxes.map (·.id)) := by assumption
  refine X.lp rfl (fun m F' H' => ∃ k : Nat, m = R.boxes.length - k ∧ k ≤ R.boxes.length ∧ ((∀ b ∈ R.boxes, 0 ≤ b.made ∧ b.made ≤ R.months - 1) ↔ ∀ b ∈ R.boxes.drop k, 0 ≤ b.made ∧ b.made ≤ R.months - 1) ∧ H' = ⟨b1, 0, cRm R ⟨a1, c1, a2, c2, a3, c3⟩, some 26, 5⟩ :: H ∧
      F' = [(1, .pointer (some ⟨b1, 0, none⟩)), (17, .slice a2 R.boxes.length c2), (18, .int .i64 R.boxes.length), (19, .int .i64 k)])
    R.boxes.length [(1, .pointer (some ⟨b1, 0, none⟩)), (17, .slice a2 R.boxes.length c2), (18, .int .i64 R.boxes.length), (19, .int .i64 (0 : Nat))] _ (by (repeat (first | exact Sub.nil _ | refine Sub.cons rfl ?_)); done) (List.sublist_append_right _ _) ⟨0, by omega, by omega, by simp, rfl, rfl⟩ ?_
  rintro _ _ _ ⟨k, rfl, hk, hn, rfl, rfl⟩
  repeat' (first | (refine XO.op rfl ?_; (first | ((first | refine Xo.ng rfl ?_); (first | (refine Xg.ev (EvF.move rfl rfl) rfl rfl ?_) | (refine Xg.ev (EvF.assign rfl rfl) rfl rfl ?_) | (refine Xg.ev (EvF.cmp rfl rfl rfl rfl) rfl rfl ?_) | (refine Xg.ev (EvF.add64 rfl rfl rfl (by omega) (by omega)) rfl rfl ?_))))) | (refine XO.done rfl ?_; refine hK _ _ ?_; clear hK K) | refine X.seq rfl ?_ | refine X.region rfl (fun K hK => ?_) | refine X.block rfl ?_ | (refine X.brk rfl ?_; first | refine blockX_hit rfl ?_ | skip) | refine X.skip rfl ?_ | refine X.ret rfl ?_ | (refine X.ite rfl rfl (fun hc => ?_); (first | (with_reducible refine Xb.case hc (fun h => ?_) (fun h => ?_)) | (with_reducible refine Xb.caseB hc (fun h => ?_) (fun h => ?_))) <;> clear hc))
  · obtain ⟨b, off, e, rfl, he⟩ := hR.boxes.elem (i := k) (by omega)
    rw [drop_cons he] at hn
    repeat' (first | (refine XO.op rfl ?_; (first | ((first | refine Xo.ng rfl ?_); (first | (refine Xg.ev (EvF.loadV rfl rfl (LoadV.elA0 (hR1 _).boxes he (te rfl) rfl (fun _ hm => hm) rfl)) rfl rfl ?_) | (refine Xg.ev (EvF.indexSlice rfl rfl rfl (te rfl) (te rfl) (by omega) (by omega)) rfl rfl ?_) | (refine Xg.st (StF.alloc rfl Try.zeroValue35 rfl) rfl rfl ?_; rintro _ _ ⟨bx, rfl, rfl⟩) | (refine Xg.st0 (StF.storeAll (i := 0) rfl rfl rfl (te rfl) rfl rfl rfl rfl) rfl ?_; rintro _ _ ⟨rfl, rfl⟩; dsimp only [List.set]))))) | (refine XO.done rfl ?_; refine hK _ _ ?_; clear hK K) | refine X.seq rfl ?_)
    rename Nat => b4
    obtain ⟨w, ew⟩ : ∃ q, decide (∀ n ∈ [e.made], (Sp.mk 0 (R.months - 1)).lo ≤ n ∧ n ≤ (Sp.mk 0 (R.months - 1)).hi) = q := ⟨_, rfl⟩
    obtain ⟨b2, hb2⟩ : ∃ q, (!w) = q := ⟨_, rfl⟩
    have h2 : b2 = false ↔ 0 ≤ e.made ∧ e.made ≤ R.months - 1 := by
      rw [← hb2, ← ew]
      simp
    refine X.regionOb ts67 [4, 1, 17, 18, 19] [(4, .pointer (some ⟨b4, 0, none⟩)), (1, .pointer (some ⟨b1, 0, none⟩)), (17, .slice (some ⟨b, off, none⟩) R.boxes.length c2), (18, .int .i64 R.boxes.length), (19, .int .i64 k)] (val67 b4 R ⟨a1, c1, some ⟨b, off, none⟩, c2, a3, c3⟩ e w) (rows67 e) (fun _ => (0, 0)) (⟨b4, 0, cBx e, some 77, 2⟩ :: ⟨b1, 0, cRm R ⟨a1, c1, some ⟨b, off, none⟩, c2, a3, c3⟩, some 26, 5⟩ :: H) rfl mixed (by (repeat (first | exact Sub.nil _ | refine Sub.cons rfl ?_)); done) rfl (by kernel_rfl) (loc67 b4 R _ e w) (List.Sublist.refl _) ?_ ?_
    · clear hb2 h2
      repeat' (first | exact AllF.done rfl | (refine AllF.step rfl ?_ ?_; · (first | fail | ((first | refine Ob.ng rfl ?_); (first | exact ObK.pure (fun env R hR => by exact ⟨_, EvF.fieldAddr rfl rfl (te rfl) rfl (te rfl) (by decide), rfl⟩) rfl (fun _ => rfl) | exact ObK.pure (fun env R hR => by exact ⟨_, EvF.not rfl rfl, rfl⟩) rfl (fun _ => rfl) | exact ObK.pure (fun env R hR => by exact ⟨_, EvF.loadV rfl rfl (LoadV.own (te rfl) rfl (hR _ (List.Mem.head _)) rfl), rfl⟩) rfl (fun _ => rfl) | exact ObK.pure (fun env R hR => by exact ⟨_, EvF.loadV rfl rfl (LoadV.whole (te rfl) rfl (hR _ (List.Mem.tail _ (List.Mem.head _))) rfl), rfl⟩) rfl (fun _ => rfl) | (exact fun env S hS => (StF.buildOne rfl el55 rfl rfl rfl (by decide) (by decide)).op.mono (fun v H' ⟨b, hv, hH⟩ => ⟨(b, 0), fun _ => hv, by rw [hH]; exact List.Perm.refl _⟩)) | (exact fun env S hS => OpF.callV (Z := []) (EnF.st rfl (by (repeat (first | exact Args.nil | refine Args.cons rfl ?_)); done)) (anyMonth_spec R _ _ (by omega) (by omega)) rfl rfl) | (exact fun env S hS => OpF.callV (EnF.st rfl (by (repeat (first | exact Args.nil | refine Args.cons rfl ?_)); done)) (withinL_spec ⟨0, R.months - 1⟩ [e.made] _ _ _ (SlE.ofRow (l := [e.made]) (List.Mem.head _) (fun _ _ => rfl)) (by simp)) (by rw [ew]; rfl) rfl))))))
    · intro env t ha hv
      refine ⟨[(29, .bool b2), (1, .pointer (some ⟨b1, 0, none⟩)), (17, .slice (some ⟨b, off, none⟩) R.boxes.length c2), (18, .int .i64 R.boxes.length), (19, .int .i64 k)], (ha.sub (by (repeat (first | exact Sub.nil _ | refine Sub.cons rfl ?_)); done)).cons (by rw [← hb2]; exact hv 6 29 (Nat.le_of_ble_eq_true rfl) rfl), ?_⟩
      show X _ _ _ _ (⟨b4, 0, cBx e, some 77, 2⟩ :: ⟨b1, 0, cRm R ⟨a1, c1, some ⟨b, off, none⟩, c2, a3, c3⟩, some 26, 5⟩ :: H) _
      repeat' (first | (refine XO.op rfl ?_; (first | ((first | refine Xo.ng rfl ?_); (first | (refine Xg.ev (EvF.move rfl rfl) rfl rfl ?_) | (refine Xg.ev (EvF.assign rfl rfl) rfl rfl ?_) | (refine Xg.ev (EvF.cmp rfl rfl rfl rfl) rfl rfl ?_) | (refine Xg.ev (EvF.add64 rfl rfl rfl (by omega) (by omega)) rfl rfl ?_))))) | (refine XO.done rfl ?_; refine hK _ _ ?_; clear hK K) | refine X.seq rfl ?_ | refine X.region rfl (fun K hK => ?_) | refine X.block rfl ?_ | (refine X.brk rfl ?_; first | refine blockX_hit rfl ?_ | skip) | refine X.skip rfl ?_ | refine X.ret rfl ?_ | (refine X.ite rfl rfl (fun hc => ?_); (first | (with_reducible refine Xb.case hc (fun h => ?_) (fun h => ?_)) | (with_reducible refine Xb.caseB hc (fun h => ?_) (fun h => ?_))) <;> clear hc))
      · refine ret_one (by first | exact .inr rfl | exact .inl rfl) Try.results67 rfl (H' := H) (by (repeat (first | exact List.Sublist.refl _ | apply List.Sublist.cons)); done) ?_; simp only [and_true, true_and]
        congr 1; symm
        exact decide_eq_false (fun q => by rw [h2.2 (hn.1 q.2.2 e List.mem_cons_self)] at h; cases h)
      · refine ⟨_, _, _, (by (repeat (first | exact Sub.nil _ | refine Sub.cons rfl ?_)); done), (by (repeat (first | exact List.Sublist.refl _ | apply List.Sublist.cons)); done), ⟨k + 1, rfl, by omega, hn.trans ⟨fun q n hm => q n (List.mem_cons_of_mem _ hm), fun q n hm => ?_⟩, rfl, rfl⟩, by omega⟩
        rcases List.mem_cons.1 hm with rfl | hm
        · exact h2.1 (by assumption)
        · exact q n hm
  · refine ret_one (by first | exact .inr rfl | exact .inl rfl) Try.results67 rfl (H' := H) (by (repeat (first | exact List.Sublist.refl _ | apply List.Sublist.cons)); done) ?_; simp only [and_true, true_and]
    congr 1; symm
    exact decide_eq_true ⟨by omega, hri, hn.2 (by rw [List.drop_eq_nil_of_le (by omega)]; exact fun _ h => absurd h List.not_mem_nil)⟩
end Go.Proofs.Ytmljpmcipcoaaaa
