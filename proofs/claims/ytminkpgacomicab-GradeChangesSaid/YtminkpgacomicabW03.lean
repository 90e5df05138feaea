/- Own work: The program: hasValidBoxes.; The program: hasBoxes and areThere.; The program: hasValidMatches.; The program: Check tells the same rooms as the reference.; Own work: slices of slices, rows in another order. No condition.; The program: copied.; The program: Insert.; The program: Put of a list.; The program: DeleteFunc.; The program: Strike of a list.; contracts of functions, from rows of what is known of the memory; contracts of functions, from rows of what is known of the memory; contracts of functions, from rows of what is known of the memory; contracts of functions, from rows of what is known of the memory; contracts of functions, from rows of what is known of the memory; The program: Put. -/
import Derived.Test.YtminkpgacomicabW02
section
set_option linter.unusedVariables false
set_option linter.unusedSimpArgs false
namespace Go.Proofs.Ytminkpgacomicab
open Go Go.Fw
set_option maxRecDepth 10000
def ts67 : List TOp := [⟨some 23, [], [], []⟩, ⟨some 24, [0], [0], []⟩, ⟨some 25, [], [], []⟩, ⟨some 26, [2], [2], []⟩, ⟨some 27, [2, 3], [3], []⟩, ⟨some 28, [0, 1, 2, 3, 4], [1, 4], [4]⟩, ⟨some 29, [0, 1, 2, 3, 4, 5], [5], []⟩]
def val67 (b4 : Nat) (R : Rm) (p : Pl) (e : Bx) (w : Bool) (k : Nat) (env : Env) : Value :=
  match k with
  | 0 => .agg (cRm R p).toArray
  | 1 => .agg (cSp ⟨0, R.months - 1⟩).toArray
  | 2 => .pointer (some ⟨b4, 1, none⟩)
  | 3 => .int .i64 e.made
  | 4 => .slice (some ⟨(env 4).1, 0, none⟩) 1 1
  | 5 => .bool w
  | 6 => .bool (!w)
  | _ => undef
def rows67 (e : Bx) (k : Nat) (env : Env) : List Row :=
  match k with
  | 4 => [⟨(env 4).1, 0, [.int .i64 e.made], some 3, 1 * 1⟩]
  | _ => []
theorem loc67 (b4 : Nat) (R : Rm) (p : Pl) (e : Bx) (w : Bool) : ∀ k env i q9, i ≠ k → (tAt ts67 k).sup.contains i = false → val67 b4 R p e w k (upd env i q9) = val67 b4 R p e w k env ∧ rows67 e k (upd env i q9) = rows67 e k env := by
  intro k env i q hk hs
  have hu : ∀ j, j ≠ i → upd env i q j = env j := fun j hj => by unfold upd; rw [if_neg hj]
  match k, hk, hs with
  | 0, _, _ => exact ⟨rfl, rfl⟩
  | 1, _, _ => exact ⟨rfl, rfl⟩
  | 2, _, _ => exact ⟨rfl, rfl⟩
  | 3, _, _ => exact ⟨rfl, rfl⟩
  | 4, hk, hs => exact ⟨by simp only [val67, hu 4 (fun e => hk e.symm)], by simp only [rows67, hu 4 (fun e => hk e.symm)]⟩
  | 5, _, _ => exact ⟨rfl, rfl⟩
  | 6, _, _ => exact ⟨rfl, rfl⟩
  | _ + 7, _, _ => exact ⟨rfl, rfl⟩
def boxesOk (R : Rm) : Prop := R.boxes.length ≤ 4 ∧ risesOk (R.boxes.map (·.id)) ∧ ∀ b ∈ R.boxes, 0 ≤ b.made ∧ b.made ≤ R.months - 1
noncomputable instance (R : Rm) : Decidable (boxesOk R) := Classical.propDecidable _
set_option maxHeartbeats 2000000 in
theorem hasValidBoxes_spec (R : Rm) (p : Pl) (H : List Row) (hR : RmOk H R p) (hm : 1 ≤ R.months ∧ R.months ≤ 12) : Fc Try.prog 44 [.agg (cRm R p).toArray] H (fun v H' => v = .bool (decide (boxesOk R)) ∧ H' = H) := by
  have l2 := hR.l2
  have hR1 : ∀ r, RmOk (r :: H) R p := fun r => hR.sub (fun _ h => List.mem_cons_of_mem _ h)
  obtain ⟨a1, c1, a2, c2, a3, c3⟩ := p
  refine Fc.mk (callable Try.call44) Try.func44 rfl Try.ntmps44 rfl ?_; dsimp only [fr]
  refine X.seq rfl ?_; refine X.region rfl (fun K hK => ?_); repeat' (first | (refine XO.op rfl ?_; (first | ((first | refine Xo.ng rfl ?_); (first | (refine Xg.ev (EvF.assign rfl rfl) rfl rfl ?_) | (refine Xg.st (StF.boxAgg rfl rfl) rfl rfl ?_; rintro _ _ ⟨bx, rfl, rfl⟩))))) | (refine XO.done rfl ?_; refine hK _ _ ?_; clear hK K))
  rename Nat => b1
  repeat' (first | (refine XO.op rfl ?_; (first | ((first | refine Xo.ng rfl ?_ | (refine Xo.g rfl rfl ?_; with_reducible refine Xw.ff ?_)); (first | (refine Xg.call (EnF.st rfl (by (repeat (first | exact Args.nil | refine Args.cons rfl ?_)); done)) rfl rfl (numbers_specBx R.boxes _ _ _ (hR1 _).boxes (by omega)) ?_; rintro _ _ ⟨a', c', Z, rfl, rfl, hz⟩) | (refine Xg.call (EnF.st rfl (by (repeat (first | exact Args.nil | refine Args.cons rfl ?_)); done)) rfl rfl (rising_spec (R.boxes.map (·.id)) a' c' _ hz (by rw [List.length_map]; omega)) ?_; rintro _ H9 ⟨rfl, hH9⟩; subst H9) | (refine Xg.ev (EvF.loadV rfl rfl (LoadV.own (te rfl) rfl (List.mem_append_right _ (List.Mem.head _)) rfl)) rfl rfl ?_) | (refine Xg.ev (EvF.move rfl rfl) rfl rfl ?_) | (refine Xg.ev (EvF.assign rfl rfl) rfl rfl ?_) | (refine Xg.ev (EvF.pickT rfl rfl rfl) rfl rfl ?_) | (refine Xg.ev (EvF.pickF rfl rfl rfl) rfl rfl ?_) | (refine Xg.ev (EvF.cmp rfl rfl rfl rfl) rfl rfl ?_) | (refine Xg.ev (EvF.not rfl rfl) rfl rfl ?_) | (refine Xg.ev (EvF.fieldAddr rfl rfl (te rfl) rfl (te rfl) (by decide)) rfl rfl ?_) | (refine Xg.ev (EvF.lenSlice rfl rfl (te rfl)) rfl rfl ?_) | (refine Xg.ev (EvF.loadV rfl rfl (LoadV.own (te rfl) rfl (List.Mem.head _) rfl)) rfl rfl ?_))) | (refine Xo.g rfl rfl ?_; (first | (with_reducible refine Xw.tf rfl rfl ?_) | (with_reducible refine Xw.case (fun h => ?_) (fun h => ?_) <;> simp only [h, decide_true, decide_false, Bool.not_true, Bool.not_false, and_self, and_true, true_and, and_false, false_and]))))) | (refine XO.done rfl ?_; refine hK _ _ ?_; clear hK K) | refine X.seq rfl ?_ | refine X.region rfl (fun K hK => ?_) | refine X.block rfl ?_ | refine X.skip rfl ?_ | refine X.ret rfl ?_ | (refine X.ite rfl rfl (fun hc => ?_); (first | (with_reducible refine Xb.t hc ?_) | (with_reducible refine Xb.caseN hc (fun h => ?_) (fun h => ?_))) <;> clear hc))
  · refine ret_one (by first | exact .inr rfl | exact .inl rfl) Try.results44 rfl (H' := H) (by (repeat (first | exact List.Sublist.refl _ | apply List.Sublist.cons)); done) ?_; simp only [and_true, true_and]
    congr 1; symm; exact decide_eq_false (fun q => by have := q.1; omega)
  · refine ret_one (by first | exact .inr rfl | exact .inl rfl) Try.results44 rfl (H' := H) ((List.sublist_cons_self _ _).trans (List.sublist_append_right _ _)) ⟨?_, rfl⟩
    congr 1; symm; exact decide_eq_false (fun q => h q.2.1)
  have hri : risesOk (R.boxes.map (·.id)) := by assumption
  refine X.lp rfl (fun m F' H' => ∃ k : Nat, m = R.boxes.length - k ∧ k ≤ R.boxes.length ∧ ((∀ b ∈ R.boxes, 0 ≤ b.made ∧ b.made ≤ R.months - 1) ↔ ∀ b ∈ R.boxes.drop k, 0 ≤ b.made ∧ b.made ≤ R.months - 1) ∧ H' = ⟨b1, 0, cRm R ⟨a1, c1, a2, c2, a3, c3⟩, some 26, 5⟩ :: H ∧
      F' = [(1, .pointer (some ⟨b1, 0, none⟩)), (17, .slice a2 R.boxes.length c2), (18, .int .i64 R.boxes.length), (19, .int .i64 k)])
    R.boxes.length [(1, .pointer (some ⟨b1, 0, none⟩)), (17, .slice a2 R.boxes.length c2), (18, .int .i64 R.boxes.length), (19, .int .i64 (0 : Nat))] _ (by (repeat (first | exact Sub.nil _ | refine Sub.cons rfl ?_)); done) (List.sublist_append_right _ _) ⟨0, by omega, by omega, by simp, rfl, rfl⟩ ?_
  rintro _ _ _ ⟨k, rfl, hk, hn, rfl, rfl⟩
  repeat' (first | (refine XO.op rfl ?_; (first | ((first | refine Xo.ng rfl ?_); (first | (refine Xg.ev (EvF.move rfl rfl) rfl rfl ?_) | (refine Xg.ev (EvF.assign rfl rfl) rfl rfl ?_) | (refine Xg.ev (EvF.cmp rfl rfl rfl rfl) rfl rfl ?_) | (refine Xg.ev (EvF.add64 rfl rfl rfl (by omega) (by omega)) rfl rfl ?_))))) | (refine XO.done rfl ?_; refine hK _ _ ?_; clear hK K) | refine X.seq rfl ?_ | refine X.region rfl (fun K hK => ?_) | refine X.block rfl ?_ | (refine X.brk rfl ?_; repeat (first | refine blockX_hit rfl ?_ | refine blockX_miss (by decide) ?_)) | refine X.skip rfl ?_ | refine X.ret rfl ?_ | (refine X.ite rfl rfl (fun hc => ?_); (first | (with_reducible refine Xb.case hc (fun h => ?_) (fun h => ?_)) | (with_reducible refine Xb.caseB hc (fun h => ?_) (fun h => ?_))) <;> clear hc))
  · obtain ⟨b, off, e, rfl, he⟩ := hR.boxes.elem (i := k) (by omega)
    rw [drop_cons he] at hn
    repeat' (first | (refine XO.op rfl ?_; (first | ((first | refine Xo.ng rfl ?_); (first | (refine Xg.ev (EvF.loadV rfl rfl (LoadV.elA0 (hR1 _).boxes he (te rfl) rfl (fun _ hm => hm) rfl)) rfl rfl ?_) | (refine Xg.ev (EvF.indexSlice rfl rfl rfl (te rfl) (te rfl) (by omega) (by omega)) rfl rfl ?_) | (refine Xg.st (StF.alloc rfl Try.zeroValue57 rfl) rfl rfl ?_; rintro _ _ ⟨bx, rfl, rfl⟩) | (refine Xg.st0 (StF.storeAll (i := 0) rfl rfl rfl (te rfl) rfl rfl rfl rfl) rfl ?_; rintro _ _ ⟨rfl, rfl⟩; dsimp only [List.set]))))) | (refine XO.done rfl ?_; refine hK _ _ ?_; clear hK K) | refine X.seq rfl ?_)
    rename Nat => b4
    obtain ⟨w, ew⟩ : ∃ q, decide (∀ n ∈ [e.made], (Sp.mk 0 (R.months - 1)).lo ≤ n ∧ n ≤ (Sp.mk 0 (R.months - 1)).hi) = q := ⟨_, rfl⟩
    obtain ⟨b2, hb2⟩ : ∃ q, (!w) = q := ⟨_, rfl⟩
    have h2 : b2 = false ↔ 0 ≤ e.made ∧ e.made ≤ R.months - 1 := by
      rw [← hb2, ← ew]
      simp
    refine X.regionOb ts67 [4, 1, 17, 18, 19] [(4, .pointer (some ⟨b4, 0, none⟩)), (1, .pointer (some ⟨b1, 0, none⟩)), (17, .slice (some ⟨b, off, none⟩) R.boxes.length c2), (18, .int .i64 R.boxes.length), (19, .int .i64 k)] (val67 b4 R ⟨a1, c1, some ⟨b, off, none⟩, c2, a3, c3⟩ e w) (rows67 e) (fun _ => (0, 0)) (⟨b4, 0, cBx e, some 59, 2⟩ :: ⟨b1, 0, cRm R ⟨a1, c1, some ⟨b, off, none⟩, c2, a3, c3⟩, some 26, 5⟩ :: H) rfl mixed (by (repeat (first | exact Sub.nil _ | refine Sub.cons rfl ?_)); done) rfl (by kernel_rfl) (loc67 b4 R _ e w) (List.Sublist.refl _) ?_ ?_
    · clear hb2 h2
      repeat' (first | exact AllF.done rfl | (refine AllF.step rfl ?_ ?_; · (first | fail | ((first | refine Ob.ng rfl ?_); (first | exact ObK.pure (fun env R hR => by exact ⟨_, EvF.fieldAddr rfl rfl (te rfl) rfl (te rfl) (by decide), rfl⟩) rfl (fun _ => rfl) | exact ObK.pure (fun env R hR => by exact ⟨_, EvF.not rfl rfl, rfl⟩) rfl (fun _ => rfl) | exact ObK.pure (fun env R hR => by exact ⟨_, EvF.loadV rfl rfl (LoadV.own (te rfl) rfl (hR _ (List.Mem.head _)) rfl), rfl⟩) rfl (fun _ => rfl) | exact ObK.pure (fun env R hR => by exact ⟨_, EvF.loadV rfl rfl (LoadV.whole (te rfl) rfl (hR _ (List.Mem.tail _ (List.Mem.head _))) rfl), rfl⟩) rfl (fun _ => rfl) | (exact fun env S hS => (StF.buildOne rfl el55 rfl rfl rfl (by decide) (by decide)).op.mono (fun v H' ⟨b, hv, hH⟩ => ⟨(b, 0), fun _ => hv, by rw [hH]; exact List.Perm.refl _⟩)) | (exact fun env S hS => OpF.callV (Z := []) (EnF.st rfl (by (repeat (first | exact Args.nil | refine Args.cons rfl ?_)); done)) (anyMonth_spec R _ _ (by omega) (by omega)) rfl rfl) | (exact fun env S hS => OpF.callV (EnF.st rfl (by (repeat (first | exact Args.nil | refine Args.cons rfl ?_)); done)) (withinL_spec ⟨0, R.months - 1⟩ [e.made] _ _ _ (SlE.ofRow (l := [e.made]) (List.Mem.head _) (fun _ _ => rfl)) (by simp)) (by rw [ew]; rfl) rfl))))))
    · intro env t ha hv
      refine ⟨[(29, .bool b2), (1, .pointer (some ⟨b1, 0, none⟩)), (17, .slice (some ⟨b, off, none⟩) R.boxes.length c2), (18, .int .i64 R.boxes.length), (19, .int .i64 k)], (ha.sub (by (repeat (first | exact Sub.nil _ | refine Sub.cons rfl ?_)); done)).cons (by rw [← hb2]; exact hv 6 29 (Nat.le_of_ble_eq_true rfl) rfl), ?_⟩
      show X _ _ _ _ (⟨b4, 0, cBx e, some 59, 2⟩ :: ⟨b1, 0, cRm R ⟨a1, c1, some ⟨b, off, none⟩, c2, a3, c3⟩, some 26, 5⟩ :: H) _
      repeat' (first | (refine XO.op rfl ?_; (first | ((first | refine Xo.ng rfl ?_); (first | (refine Xg.ev (EvF.move rfl rfl) rfl rfl ?_) | (refine Xg.ev (EvF.assign rfl rfl) rfl rfl ?_) | (refine Xg.ev (EvF.cmp rfl rfl rfl rfl) rfl rfl ?_) | (refine Xg.ev (EvF.add64 rfl rfl rfl (by omega) (by omega)) rfl rfl ?_))))) | (refine XO.done rfl ?_; refine hK _ _ ?_; clear hK K) | refine X.seq rfl ?_ | refine X.region rfl (fun K hK => ?_) | refine X.block rfl ?_ | (refine X.brk rfl ?_; repeat (first | refine blockX_hit rfl ?_ | refine blockX_miss (by decide) ?_)) | refine X.skip rfl ?_ | refine X.ret rfl ?_ | (refine X.ite rfl rfl (fun hc => ?_); (first | (with_reducible refine Xb.case hc (fun h => ?_) (fun h => ?_)) | (with_reducible refine Xb.caseB hc (fun h => ?_) (fun h => ?_))) <;> clear hc))
      · refine ret_one (by first | exact .inr rfl | exact .inl rfl) Try.results44 rfl (H' := H) (by (repeat (first | exact List.Sublist.refl _ | apply List.Sublist.cons)); done) ?_; simp only [and_true, true_and]
        congr 1; symm
        exact decide_eq_false (fun q => by rw [h2.2 (hn.1 q.2.2 e List.mem_cons_self)] at h; cases h)
      · refine ⟨_, _, _, (by (repeat (first | exact Sub.nil _ | refine Sub.cons rfl ?_)); done), (by (repeat (first | exact List.Sublist.refl _ | apply List.Sublist.cons)); done), ⟨k + 1, rfl, by omega, hn.trans ⟨fun q n hm => q n (List.mem_cons_of_mem _ hm), fun q n hm => ?_⟩, rfl, rfl⟩, by omega⟩
        rcases List.mem_cons.1 hm with rfl | hm
        · exact h2.1 (by assumption)
        · exact q n hm
  · refine ret_one (by first | exact .inr rfl | exact .inl rfl) Try.results44 rfl (H' := H) (by (repeat (first | exact List.Sublist.refl _ | apply List.Sublist.cons)); done) ?_; simp only [and_true, true_and]
    congr 1; symm
    exact decide_eq_true ⟨by omega, hri, hn.2 (by rw [List.drop_eq_nil_of_le (by omega)]; exact fun _ h => absurd h List.not_mem_nil)⟩
end Go.Proofs.Ytminkpgacomicab
end
section
set_option linter.unusedVariables false
set_option linter.unusedSimpArgs false
namespace Go.Proofs.Ytminkpgacomicab
open Go Go.Fw
set_option maxRecDepth 10000
def cAb (a : Option Addr) (n c : Nat) (a' : Option Addr) (n' c' : Nat) : List Value := [.slice a n c, .slice a' n' c']
def allThere (R : Rm) (l : List Int) : Prop := ∀ i ∈ l, ∃ b ∈ R.boxes, b.id = i
noncomputable instance (R : Rm) (l : List Int) : Decidable (allThere R l) := Classical.propDecidable _
def tsHb : List TOp := [⟨some 5, [], [], []⟩, ⟨some 6, [0], [0], []⟩, ⟨some 7, [0, 1], [1], []⟩, ⟨some 8, [], [], []⟩, ⟨some 9, [3], [3], []⟩, ⟨some 10, [0, 1, 2, 3, 4], [2, 4], []⟩, ⟨some 4, [0, 1, 2, 3, 4, 5], [5], []⟩]
def valHb (b2 b3 nB : Nat) (R : Rm) (p : Pl) (a : Option Addr) (n c : Nat) (IL : List Value) (w : Bool) (k : Nat) (env : Env) : Value :=
  match k with
  | 0 => .pointer (some ⟨b2, 3, none⟩)
  | 1 => .slice p.a2 R.boxes.length p.c2
  | 2 => .slice (some ⟨(env 2).1, 0, none⟩) nB (env 2).2
  | 3 => .pointer (some ⟨b3, 0, none⟩)
  | 4 => .slice a n c
  | 5 => .bool w
  | 6 => .bool w
  | _ => undef
def rowsHb (b2 b3 nB : Nat) (R : Rm) (p : Pl) (a : Option Addr) (n c : Nat) (IL : List Value) (w : Bool) (k : Nat) (env : Env) : List Row :=
  match k with
  | 2 => [⟨(env 2).1, 0, IL, some 3, (env 2).2 * 1⟩]
  | _ => []
theorem locHb (b2 b3 nB : Nat) (R : Rm) (p : Pl) (a : Option Addr) (n c : Nat) (IL : List Value) (w : Bool) : ∀ k env i q9, i ≠ k → (tAt tsHb k).sup.contains i = false → valHb b2 b3 nB R p a n c IL w k (upd env i q9) = valHb b2 b3 nB R p a n c IL w k env ∧ rowsHb b2 b3 nB R p a n c IL w k (upd env i q9) = rowsHb b2 b3 nB R p a n c IL w k env := by
  intro k env i q hk hs
  have hu : ∀ j, j ≠ i → upd env i q j = env j := fun j hj => by unfold upd; rw [if_neg hj]
  match k, hk, hs with
  | 0, _, _ => exact ⟨rfl, rfl⟩
  | 1, _, _ => exact ⟨rfl, rfl⟩
  | 2, hk, hs => exact ⟨by simp only [valHb, hu 2 (fun e => hk e.symm)], by simp only [rowsHb, hu 2 (fun e => hk e.symm)]⟩
  | 3, _, _ => exact ⟨rfl, rfl⟩
  | 4, _, _ => exact ⟨rfl, rfl⟩
  | 5, _, _ => exact ⟨rfl, rfl⟩
  | 6, _, _ => exact ⟨rfl, rfl⟩
  | _ + 7, _, _ => exact ⟨rfl, rfl⟩
def rdHb (k : Nat) : List Nat := match k with
  | 5 => [2]
  | _ => []
def tsHc : List TOp := [⟨some 5, [], [], []⟩, ⟨some 6, [0], [0], []⟩, ⟨some 7, [0, 1], [1], []⟩, ⟨some 8, [], [], []⟩, ⟨some 9, [3], [3], []⟩, ⟨some 10, [0, 1, 2, 3, 4], [2, 4], []⟩, ⟨some 4, [0, 1, 2, 3, 4, 5], [5], []⟩]
def valHc (b2 b3 : Nat) (R : Rm) (p : Pl) (a : Option Addr) (n c : Nat) (w : Bool) (k : Nat) (env : Env) : Value :=
  match k with
  | 0 => .pointer (some ⟨b2, 3, none⟩)
  | 1 => .slice p.a2 R.boxes.length p.c2
  | 2 => .slice none 0 0
  | 3 => .pointer (some ⟨b3, 0, none⟩)
  | 4 => .slice a n c
  | 5 => .bool w
  | 6 => .bool w
  | _ => undef
def rowsHc (b2 b3 : Nat) (R : Rm) (p : Pl) (a : Option Addr) (n c : Nat) (w : Bool) (k : Nat) (env : Env) : List Row :=
  match k with
  | _ => []
theorem locHc (b2 b3 : Nat) (R : Rm) (p : Pl) (a : Option Addr) (n c : Nat) (w : Bool) : ∀ k env i q9, i ≠ k → (tAt tsHc k).sup.contains i = false → valHc b2 b3 R p a n c w k (upd env i q9) = valHc b2 b3 R p a n c w k env ∧ rowsHc b2 b3 R p a n c w k (upd env i q9) = rowsHc b2 b3 R p a n c w k env := by
  intro k env i q hk hs
  have hu : ∀ j, j ≠ i → upd env i q j = env j := fun j hj => by unfold upd; rw [if_neg hj]
  match k, hk, hs with
  | 0, _, _ => exact ⟨rfl, rfl⟩
  | 1, _, _ => exact ⟨rfl, rfl⟩
  | 2, _, _ => exact ⟨rfl, rfl⟩
  | 3, _, _ => exact ⟨rfl, rfl⟩
  | 4, _, _ => exact ⟨rfl, rfl⟩
  | 5, _, _ => exact ⟨rfl, rfl⟩
  | 6, _, _ => exact ⟨rfl, rfl⟩
  | _ + 7, _, _ => exact ⟨rfl, rfl⟩
set_option maxHeartbeats 2000000 in
theorem hasBoxes_spec (R : Rm) (p : Pl) (l : List Int) (a : Option Addr) (c : Nat) (a' : Option Addr) (n' c' : Nat) (H : List Row) (hR : RmOk H R p) (hl : SlE H a cI 1 l) (hb : l.length ≤ 9223372036854775807) (h2 : R.boxes.length ≤ 1000000) :
    Fc Try.prog 65 [.agg (cRm R p).toArray, .agg (cAb a l.length c a' n' c').toArray] H (fun v H' => v = .bool (decide (allThere R l)) ∧ H' = H) := by
  have l2 := hR.l2
  have hw : decide (∀ n ∈ l, n ∈ R.boxes.map (·.id)) = decide (allThere R l) := by
    refine decide_eq_decide.2 ⟨fun h n hn => ?_, fun h n hn => ?_⟩
    · obtain ⟨b, hb, e⟩ := List.mem_map.1 (h n hn); exact ⟨b, hb, e⟩
    · obtain ⟨b, hb, e⟩ := h n hn; exact List.mem_map.2 ⟨b, hb, e⟩
  obtain ⟨w, hwe⟩ : ∃ q, decide (allThere R l) = q := ⟨_, rfl⟩
  rw [hwe] at hw ⊢
  have hN : R.boxes ≠ [] → ∀ H', (∀ r ∈ H, r ∈ H') → Fc Try.prog 61 [.slice p.a2 R.boxes.length p.c2, .func (.func 62) #[] #[]] H' (fun v H'' => ∃ b q, v = .slice (some ⟨b, 0, none⟩) (R.boxes.map (·.id)).length q ∧ H'' = ⟨b, 0, (R.boxes.map (·.id)).flatMap cI, some 3, q * 1⟩ :: H') := fun h0 H' h => (numbersO_specBx 62 (·.id) id_spec R.boxes _ _ H' (hR.boxes.sub h) (by omega)).mono (by
    rintro v H'' (⟨e, _, _⟩ | ⟨b, q, _, e1, e2⟩)
    · exact absurd e h0
    · exact ⟨b, q, e1, e2⟩)
  have hN0 : R.boxes = [] → ∀ H', (∀ r ∈ H, r ∈ H') → Fc Try.prog 61 [.slice p.a2 R.boxes.length p.c2, .func (.func 62) #[] #[]] H' (fun v H'' => v = .slice none 0 0 ∧ H'' = H') := fun h0 H' h => (numbersO_specBx 62 (·.id) id_spec R.boxes _ _ H' (hR.boxes.sub h) (by omega)).mono (by
    rintro v H'' (⟨_, e1, e2⟩ | ⟨b, q, e, _, _⟩)
    · exact ⟨e1, e2⟩
    · exact absurd h0 e)
  have hA : ∀ H' b q, (∀ r ∈ H, r ∈ H') → SlE H' (some ⟨b, 0, none⟩) cI 1 (R.boxes.map (·.id)) → Fc Try.prog 75 [.slice (some ⟨b, 0, none⟩) (R.boxes.map (·.id)).length q, .slice a l.length c] H' (fun v H'' => v = .bool w ∧ H'' = H') := fun H' b q h hs => by
    have := among_spec (R.boxes.map (·.id)) l _ a q c H' hs (hl.sub h) (by rw [List.length_map]; omega) hb
    rwa [hw] at this
  refine Fc.mk (callable Try.call65) Try.func65 rfl Try.ntmps65 rfl ?_; dsimp only [fr]
  refine X.seq rfl ?_; refine X.region rfl (fun K hK => ?_); repeat' (first | (refine XO.op rfl ?_; (first | ((first | refine Xo.ng rfl ?_); (first | (refine Xg.ev (EvF.assign rfl rfl) rfl rfl ?_) | (refine Xg.st (StF.boxAgg rfl rfl) rfl rfl ?_; rintro _ _ ⟨bx, rfl, rfl⟩))))) | (refine XO.done rfl ?_; refine hK _ _ ?_; clear hK K))
  rename_i b2
  rename Nat => b3
  by_cases hnil : R.boxes = []
  · have hA0 : ∀ H', (∀ r ∈ H, r ∈ H') → Fc Try.prog 75 [.slice none 0 0, .slice a l.length c] H' (fun v H'' => v = .bool w ∧ H'' = H') := fun H' h => by
      have := among_spec (R.boxes.map (·.id)) l none a 0 c H' (by rw [hnil]; exact sleNil) (hl.sub h) (by rw [List.length_map]; omega) hb
      rw [hw, List.length_map, hnil] at this
      exact this
    refine X.seq rfl ?_
    refine X.regionOb tsHc [2, 3] [(2, .pointer (some ⟨b2, 0, none⟩)), (3, .pointer (some ⟨b3, 0, none⟩))] (valHc b2 b3 R p a l.length c w) (rowsHc b2 b3 R p a l.length c w) (fun _ => (0, 0)) (⟨b3, 0, cAb a l.length c a' n' c', some 94, 2⟩ :: ⟨b2, 0, cRm R p, some 26, 5⟩ :: H) rfl mixed (by (repeat (first | exact Sub.nil _ | refine Sub.cons rfl ?_)); done) rfl (by kernel_rfl) (locHc b2 b3 R p a l.length c w) (List.Sublist.refl _) ?_ ?_
    · repeat' (first | exact AllF.done rfl | (refine AllF.step rfl ?_ ?_; · (first | fail | ((first | refine Ob.ng rfl ?_); (first | exact ObK.pure (fun env R hR => by exact ⟨_, EvF.assign rfl rfl, rfl⟩) rfl (fun _ => rfl) | exact ObK.pure (fun env R hR => by exact ⟨_, EvF.fieldAddr rfl rfl (te rfl) rfl (te rfl) (by decide), rfl⟩) rfl (fun _ => rfl) | exact ObK.pure (fun env R hR => by exact ⟨_, EvF.loadV rfl rfl (LoadV.own (te rfl) rfl (hR _ (List.Mem.head _)) rfl), rfl⟩) rfl (fun _ => rfl) | exact ObK.pure (fun env R hR => by exact ⟨_, EvF.loadV rfl rfl (LoadV.own (te rfl) rfl (hR _ (List.Mem.tail _ (List.Mem.head _))) rfl), rfl⟩) rfl (fun _ => rfl) | (exact fun env S hS => OpF.callV (Z := []) (EnF.st rfl (Args.cons rfl (Args.cons rfl Args.nil))) (hN0 hnil _ (fun _ h => hS _ (List.mem_append_right [_, _] h))) rfl rfl) | (exact fun env S hS => OpF.callV (Z := []) (EnF.st rfl (Args.cons rfl (Args.cons rfl Args.nil))) (hA0 _ (fun _ h => hS _ (List.mem_append_right [_, _] h))) rfl rfl))))))
    intro env t ha hv
    refine ⟨_, ha.cons (hv 6 4 (Nat.le_of_ble_eq_true rfl) rfl), ?_⟩
    repeat' (first | (refine XO.op rfl ?_; (first | ((first | refine Xo.ng rfl ?_); (first | (refine Xg.ev (EvF.move rfl rfl) rfl rfl ?_) | (refine Xg.ev (EvF.assign rfl rfl) rfl rfl ?_) | (refine Xg.ev (EvF.cmp rfl rfl rfl rfl) rfl rfl ?_) | (refine Xg.ev (EvF.add64 rfl rfl rfl (by omega) (by omega)) rfl rfl ?_) | (refine Xg.ev (EvF.fieldAddr rfl rfl (te rfl) rfl (te rfl) (by decide)) rfl rfl ?_) | (refine Xg.ev (EvF.lenSlice rfl rfl (te rfl)) rfl rfl ?_) | (refine Xg.ev (EvF.loadV rfl rfl (LoadV.own (te rfl) rfl (List.Mem.head _) rfl)) rfl rfl ?_))))) | (refine XO.done rfl ?_; refine hK _ _ ?_; clear hK K) | refine X.seq rfl ?_ | refine X.region rfl (fun K hK => ?_) | refine X.block rfl ?_ | (refine X.brk rfl ?_; repeat (first | refine blockX_hit rfl ?_ | refine blockX_miss (by decide) ?_)) | refine X.skip rfl ?_ | refine X.ret rfl ?_ | (refine X.ite rfl rfl (fun hc => ?_); (first | (with_reducible refine Xb.case hc (fun h => ?_) (fun h => ?_)) | (with_reducible refine Xb.caseB hc (fun h => ?_) (fun h => ?_))) <;> clear hc))
    refine ret_one (by first | exact .inr rfl | exact .inl rfl) Try.results65 rfl (H' := H) (by (repeat (first | exact List.Sublist.refl _ | apply List.Sublist.cons)); done) ?_; simp only [and_true, true_and]
    rfl
  · refine X.seq rfl ?_
    refine X.regionRd tsHb rdHb [2, 3] [(2, .pointer (some ⟨b2, 0, none⟩)), (3, .pointer (some ⟨b3, 0, none⟩))] (valHb b2 b3 (R.boxes.map (·.id)).length R p a l.length c ((R.boxes.map (·.id)).flatMap cI) w) (rowsHb b2 b3 (R.boxes.map (·.id)).length R p a l.length c ((R.boxes.map (·.id)).flatMap cI) w) (fun _ => (0, 0)) (⟨b3, 0, cAb a l.length c a' n' c', some 94, 2⟩ :: ⟨b2, 0, cRm R p, some 26, 5⟩ :: H) rfl mixed (by (repeat (first | exact Sub.nil _ | refine Sub.cons rfl ?_)); done) rfl (by kernel_rfl) (by kernel_rfl) (locHb b2 b3 (R.boxes.map (·.id)).length R p a l.length c ((R.boxes.map (·.id)).flatMap cI) w) (List.Sublist.refl _) ?_ ?_
    · repeat' (first | exact AllF.done rfl | (refine AllF.step rfl ?_ ?_; · (first | exact (Ob.ng rfl (ObK.pure (fun env R hR => by exact ⟨_, EvF.assign rfl rfl, rfl⟩) rfl (fun _ => rfl))).toR | exact (Ob.ng rfl (ObK.pure (fun env R hR => by exact ⟨_, EvF.fieldAddr rfl rfl (te rfl) rfl (te rfl) (by decide), rfl⟩) rfl (fun _ => rfl))).toR | exact (Ob.ng rfl (ObK.pure (fun env R hR => by exact ⟨_, EvF.loadV rfl rfl (LoadV.own (te rfl) rfl (hR _ (List.Mem.head _)) rfl), rfl⟩) rfl (fun _ => rfl))).toR | exact (Ob.ng rfl (ObK.pure (fun env R hR => by exact ⟨_, EvF.loadV rfl rfl (LoadV.own (te rfl) rfl (hR _ (List.Mem.tail _ (List.Mem.head _))) rfl), rfl⟩) rfl (fun _ => rfl))).toR | (refine ObR.ng rfl ?_; (first | (exact fun env S hS hrd => (OpF.call (EnF.st rfl (Args.cons rfl (Args.cons rfl Args.nil))) (hN hnil _ (fun _ h => hS _ (List.mem_append_right [_, _] h)))).mono (fun v H' ⟨b, q, hv, hH⟩ => ⟨(b, q), fun _ => hv, by rw [hH]; exact List.Perm.refl _⟩)) | (exact fun env S hS hrd => OpF.callV (Z := []) (EnF.st rfl (Args.cons rfl (Args.cons rfl Args.nil))) (hA _ _ _ (fun _ h => hS _ (List.mem_append_right [_, _] h)) (SlE.ofRow (hrd 2 (List.Mem.head _) _ (List.Mem.head _)) (fun _ _ => rfl))) rfl rfl))))))
    intro env t ha hv
    refine ⟨_, ha.cons (hv 6 4 (Nat.le_of_ble_eq_true rfl) rfl), ?_⟩
    repeat' (first | (refine XO.op rfl ?_; (first | ((first | refine Xo.ng rfl ?_); (first | (refine Xg.ev (EvF.move rfl rfl) rfl rfl ?_) | (refine Xg.ev (EvF.assign rfl rfl) rfl rfl ?_) | (refine Xg.ev (EvF.cmp rfl rfl rfl rfl) rfl rfl ?_) | (refine Xg.ev (EvF.add64 rfl rfl rfl (by omega) (by omega)) rfl rfl ?_) | (refine Xg.ev (EvF.fieldAddr rfl rfl (te rfl) rfl (te rfl) (by decide)) rfl rfl ?_) | (refine Xg.ev (EvF.lenSlice rfl rfl (te rfl)) rfl rfl ?_) | (refine Xg.ev (EvF.loadV rfl rfl (LoadV.own (te rfl) rfl (List.Mem.head _) rfl)) rfl rfl ?_))))) | (refine XO.done rfl ?_; refine hK _ _ ?_; clear hK K) | refine X.seq rfl ?_ | refine X.region rfl (fun K hK => ?_) | refine X.block rfl ?_ | (refine X.brk rfl ?_; repeat (first | refine blockX_hit rfl ?_ | refine blockX_miss (by decide) ?_)) | refine X.skip rfl ?_ | refine X.ret rfl ?_ | (refine X.ite rfl rfl (fun hc => ?_); (first | (with_reducible refine Xb.case hc (fun h => ?_) (fun h => ?_)) | (with_reducible refine Xb.caseB hc (fun h => ?_) (fun h => ?_))) <;> clear hc))
    refine ret_one (by first | exact .inr rfl | exact .inl rfl) Try.results65 rfl (H' := H) (by (repeat (first | exact List.Sublist.refl _ | apply List.Sublist.cons)); done) ?_; simp only [and_true, true_and]
    rfl
def ts122 : List TOp := [⟨some 16, [], [], []⟩, ⟨some 17, [0], [0], []⟩, ⟨some 18, [], [], []⟩, ⟨some 19, [2], [2], []⟩, ⟨some 20, [0, 1, 2, 3], [1, 3], [3]⟩, ⟨some 21, [0, 1, 2, 3, 4], [4], []⟩, ⟨some 22, [0, 1, 2, 3, 4, 5], [5], []⟩, ⟨some 23, [0, 1, 2, 3, 4, 5, 6], [], []⟩, ⟨some 24, [0, 1, 2, 3, 4, 5, 6, 7], [7], []⟩, ⟨some 25, [0, 1, 2, 3, 4, 5, 6], [], []⟩, ⟨some 26, [0, 1, 2, 3, 4, 5, 6, 7, 8, 9], [8, 9], []⟩, ⟨some 27, [0, 1, 2, 3, 4, 5, 6, 7, 8, 9, 10], [6, 10], []⟩]
def val122 (b2 b3 b6 : Nat) (R : Rm) (p : Pl) (m : Int) (w q : Bool) (k : Nat) (env : Env) : Value :=
  match k with
  | 0 => .agg (cRm R p).toArray
  | 1 => .agg (cSp ⟨0, R.months - 1⟩).toArray
  | 2 => .int .i64 m
  | 3 => .slice (some ⟨(env 3).1, 0, none⟩) 1 1
  | 4 => .bool w
  | 5 => .bool (!w)
  | 6 => .bool (!w)
  | 7 => gt (!w) (.pointer (some ⟨b2, 3, none⟩))
  | 8 => gt (!w) (.slice p.a2 R.boxes.length p.c2)
  | 9 => gt (!w) (.func (.func 76) #[] #[.pointer (some ⟨b6, 0, none⟩), .pointer (some ⟨b3, 0, none⟩)])
  | 10 => gt (!w) (.bool q)
  | 11 => .bool (!w || q)
  | _ => undef
def rows122 (m : Int) (k : Nat) (env : Env) : List Row :=
  match k with
  | 3 => [⟨(env 3).1, 0, [.int .i64 m], some 3, 1 * 1⟩]
  | _ => []
theorem loc122 (b2 b3 b6 : Nat) (R : Rm) (p : Pl) (m : Int) (w q : Bool) : ∀ k env i q9, i ≠ k → (tAt ts122 k).sup.contains i = false → val122 b2 b3 b6 R p m w q k (upd env i q9) = val122 b2 b3 b6 R p m w q k env ∧ rows122 m k (upd env i q9) = rows122 m k env := by
  intro k env i q hk hs
  have hu : ∀ j, j ≠ i → upd env i q j = env j := fun j hj => by unfold upd; rw [if_neg hj]
  match k, hk, hs with
  | 0, _, _ => exact ⟨rfl, rfl⟩
  | 1, _, _ => exact ⟨rfl, rfl⟩
  | 2, _, _ => exact ⟨rfl, rfl⟩
  | 3, hk, hs => exact ⟨by simp only [val122, hu 3 (fun e => hk e.symm)], by simp only [rows122, hu 3 (fun e => hk e.symm)]⟩
  | 4, _, _ => exact ⟨rfl, rfl⟩
  | 5, _, _ => exact ⟨rfl, rfl⟩
  | 6, _, _ => exact ⟨rfl, rfl⟩
  | 7, _, _ => exact ⟨rfl, rfl⟩
  | 8, _, _ => exact ⟨rfl, rfl⟩
  | 9, _, _ => exact ⟨rfl, rfl⟩
  | 10, _, _ => exact ⟨rfl, rfl⟩
  | 11, _, _ => exact ⟨rfl, rfl⟩
  | _ + 12, _, _ => exact ⟨rfl, rfl⟩
def inTime (R : Rm) (l : List Int) (t : List Int) : Prop := ∀ m ∈ t, (0 ≤ m ∧ m ≤ R.months - 1) ∧ ¬ ∃ b ∈ R.boxes, b.made > m ∧ b.id ∈ l
noncomputable instance (R : Rm) (l t : List Int) : Decidable (inTime R l t) := Classical.propDecidable _
set_option maxHeartbeats 2000000 in
theorem areThere_spec (R : Rm) (p : Pl) (l t : List Int) (a : Option Addr) (c : Nat) (a' : Option Addr) (c' : Nat) (H : List Row) (hR : RmOk H R p) (hm : 1 ≤ R.months ∧ R.months ≤ 12) (hl : SlE H a cI 1 l) (hb : l.length ≤ 9223372036854775807) (ht : SlE H a' cI 1 t) (hb' : t.length ≤ 9223372036854775807) :
    Fc Try.prog 66 [.agg (cRm R p).toArray, .agg (cAb a l.length c a' t.length c').toArray] H (fun v H' => v = .bool (decide (inTime R l t)) ∧ H' = H) := by
  have l2 := hR.l2
  have ht2 : ∀ r1 r2, SlE (r1 :: r2 :: H) a' cI 1 t := fun r1 r2 => ht.sub (fun _ h => List.Mem.tail _ (List.Mem.tail _ h))
  obtain ⟨a1, c1, a2, c2, a3, c3⟩ := p
  refine Fc.mk (callable Try.call66) Try.func66 rfl Try.ntmps66 rfl ?_; dsimp only [fr]
  refine X.seq rfl ?_; refine X.region rfl (fun K hK => ?_); repeat' (first | (refine XO.op rfl ?_; (first | ((first | refine Xo.ng rfl ?_); (first | (refine Xg.ev (EvF.assign rfl rfl) rfl rfl ?_) | (refine Xg.st (StF.boxAgg rfl rfl) rfl rfl ?_; rintro _ _ ⟨bx, rfl, rfl⟩))))) | (refine XO.done rfl ?_; refine hK _ _ ?_; clear hK K))
  rename_i b2
  rename Nat => b3
  repeat' (first | (refine XO.op rfl ?_; (first | ((first | refine Xo.ng rfl ?_); (first | (refine Xg.ev (EvF.move rfl rfl) rfl rfl ?_) | (refine Xg.ev (EvF.assign rfl rfl) rfl rfl ?_) | (refine Xg.ev (EvF.cmp rfl rfl rfl rfl) rfl rfl ?_) | (refine Xg.ev (EvF.add64 rfl rfl rfl (by omega) (by omega)) rfl rfl ?_) | (refine Xg.ev (EvF.fieldAddr rfl rfl (te rfl) rfl (te rfl) (by decide)) rfl rfl ?_) | (refine Xg.ev (EvF.lenSlice rfl rfl (te rfl)) rfl rfl ?_) | (refine Xg.ev (EvF.loadV rfl rfl (LoadV.own (te rfl) rfl (List.Mem.head _) rfl)) rfl rfl ?_))))) | (refine XO.done rfl ?_; refine hK _ _ ?_; clear hK K) | refine X.seq rfl ?_ | refine X.region rfl (fun K hK => ?_) | refine X.block rfl ?_ | (refine X.brk rfl ?_; repeat (first | refine blockX_hit rfl ?_ | refine blockX_miss (by decide) ?_)) | refine X.skip rfl ?_ | refine X.ret rfl ?_ | (refine X.ite rfl rfl (fun hc => ?_); (first | (with_reducible refine Xb.case hc (fun h => ?_) (fun h => ?_)) | (with_reducible refine Xb.caseB hc (fun h => ?_) (fun h => ?_))) <;> clear hc))
  refine X.lp rfl (fun m F' H' => ∃ k : Nat, m = t.length - k ∧ k ≤ t.length ∧ (inTime R l t ↔ inTime R l (t.drop k)) ∧ H' = ⟨b3, 0, cAb a l.length c a' t.length c', some 94, 2⟩ :: ⟨b2, 0, cRm R ⟨a1, c1, a2, c2, a3, c3⟩, some 26, 5⟩ :: H ∧
      F' = [(2, .pointer (some ⟨b2, 0, none⟩)), (3, .pointer (some ⟨b3, 0, none⟩)), (9, .slice a' t.length c'), (10, .int .i64 t.length), (11, .int .i64 k)])
    t.length [(2, .pointer (some ⟨b2, 0, none⟩)), (3, .pointer (some ⟨b3, 0, none⟩)), (9, .slice a' t.length c'), (10, .int .i64 t.length), (11, .int .i64 (0 : Nat))] _ (by (repeat (first | exact Sub.nil _ | refine Sub.cons rfl ?_)); done) (List.Sublist.refl _) ⟨0, by omega, by omega, by simp, rfl, rfl⟩ ?_
  rintro _ _ _ ⟨k, rfl, hk, hn, rfl, rfl⟩
  repeat' (first | (refine XO.op rfl ?_; (first | ((first | refine Xo.ng rfl ?_); (first | (refine Xg.ev (EvF.move rfl rfl) rfl rfl ?_) | (refine Xg.ev (EvF.assign rfl rfl) rfl rfl ?_) | (refine Xg.ev (EvF.cmp rfl rfl rfl rfl) rfl rfl ?_) | (refine Xg.ev (EvF.add64 rfl rfl rfl (by omega) (by omega)) rfl rfl ?_) | (refine Xg.ev (EvF.fieldAddr rfl rfl (te rfl) rfl (te rfl) (by decide)) rfl rfl ?_) | (refine Xg.ev (EvF.lenSlice rfl rfl (te rfl)) rfl rfl ?_) | (refine Xg.ev (EvF.loadV rfl rfl (LoadV.own (te rfl) rfl (List.Mem.head _) rfl)) rfl rfl ?_))))) | (refine XO.done rfl ?_; refine hK _ _ ?_; clear hK K) | refine X.seq rfl ?_ | refine X.region rfl (fun K hK => ?_) | refine X.block rfl ?_ | (refine X.brk rfl ?_; repeat (first | refine blockX_hit rfl ?_ | refine blockX_miss (by decide) ?_)) | refine X.skip rfl ?_ | refine X.ret rfl ?_ | (refine X.ite rfl rfl (fun hc => ?_); (first | (with_reducible refine Xb.case hc (fun h => ?_) (fun h => ?_)) | (with_reducible refine Xb.caseB hc (fun h => ?_) (fun h => ?_))) <;> clear hc))
  · obtain ⟨b, off, e, rfl, he⟩ := ht.elem (i := k) (by omega)
    rw [drop_cons he] at hn
    repeat' (first | (refine XO.op rfl ?_; (first | ((first | refine Xo.ng rfl ?_); (first | (refine Xg.ev (EvF.loadV rfl rfl (LoadV.el0 (ht2 _ _) he (te rfl) rfl (fun _ hm => hm) rfl)) rfl rfl ?_) | (refine Xg.ev (EvF.makeFunc (fl := []) rfl Args.nil (Args.cons rfl (Args.cons rfl Args.nil))) rfl rfl ?_) | (refine Xg.ev (EvF.assign rfl rfl) rfl rfl ?_) | (refine Xg.ev (EvF.indexSlice rfl rfl rfl (te rfl) (te rfl) (by omega) (by omega)) rfl rfl ?_) | (refine Xg.st (StF.alloc rfl Try.zeroValue3 rfl) rfl rfl ?_; rintro _ _ ⟨bx, rfl, rfl⟩) | (refine Xg.st0 (StF.storeOne (i := 0) rfl rfl rfl rfl (te rfl) rfl rfl (Nat.le_of_ble_eq_true rfl)) rfl ?_; rintro _ _ ⟨rfl, rfl⟩; dsimp only [List.set]))))) | (refine XO.done rfl ?_; refine hK _ _ ?_; clear hK K) | refine X.seq rfl ?_ | refine X.region rfl (fun K hK => ?_))
    rename Nat => b6
    obtain ⟨w, ew⟩ : ∃ q, decide (∀ n ∈ [e], (Sp.mk 0 (R.months - 1)).lo ≤ n ∧ n ≤ (Sp.mk 0 (R.months - 1)).hi) = q := ⟨_, rfl⟩
    obtain ⟨q, eq⟩ : ∃ q, decide (∃ b ∈ R.boxes, decide (b.made > e ∧ b.id ∈ l) = true) = q := ⟨_, rfl⟩
    obtain ⟨bb, hbb⟩ : ∃ z, (!w || q) = z := ⟨_, rfl⟩
    have h2 : bb = false ↔ (0 ≤ e ∧ e ≤ R.months - 1) ∧ ¬ ∃ b ∈ R.boxes, b.made > e ∧ b.id ∈ l := by
      rw [← hbb, ← ew, ← eq]
      simp
    refine X.regionOb ts122 [6, 7, 2, 3, 9, 10, 11] [(6, .pointer (some ⟨b6, 0, none⟩)), (7, .func (.func 76) #[] #[.pointer (some ⟨b6, 0, none⟩), .pointer (some ⟨b3, 0, none⟩)]), (2, .pointer (some ⟨b2, 0, none⟩)), (3, .pointer (some ⟨b3, 0, none⟩)), (9, .slice (some ⟨b, off, none⟩) t.length c'), (10, .int .i64 t.length), (11, .int .i64 k)]
      (val122 b2 b3 b6 R ⟨a1, c1, a2, c2, a3, c3⟩ e w q) (rows122 e) (fun _ => (0, 0)) (⟨b6, 0, [.int .i64 e], some 3, 1⟩ :: ⟨b3, 0, cAb a l.length c (some ⟨b, off, none⟩) t.length c', some 94, 2⟩ :: ⟨b2, 0, cRm R ⟨a1, c1, a2, c2, a3, c3⟩, some 26, 5⟩ :: H) rfl mixed (by (repeat (first | exact Sub.nil _ | refine Sub.cons rfl ?_)); done) rfl (by kernel_rfl) (loc122 b2 b3 b6 R _ e w q) (List.Sublist.refl _) ?_ ?_
    · clear hbb h2
      cases w
      all_goals repeat' (first | exact AllF.done rfl | (refine AllF.step rfl ?_ ?_; · (first | exact Ob.sk rfl rfl (fun _ => rfl) (fun _ => rfl) (fun _ => rfl) (fun _ => rfl) | ((first | refine Ob.ng rfl ?_ | refine Ob.g rfl rfl (fun _ => rfl) ?_); (first | exact ObK.pure (fun env R hR => by exact ⟨_, EvF.move rfl rfl, rfl⟩) rfl (fun _ => rfl) | exact ObK.pure (fun env R hR => by exact ⟨_, EvF.pickT rfl rfl rfl, rfl⟩) rfl (fun _ => rfl) | exact ObK.pure (fun env R hR => by exact ⟨_, EvF.pickF rfl rfl rfl, rfl⟩) rfl (fun _ => rfl) | exact ObK.pure (fun env R hR => by exact ⟨_, EvF.fieldAddr rfl rfl (te rfl) rfl (te rfl) (by decide), rfl⟩) rfl (fun _ => rfl) | exact ObK.pure (fun env R hR => by exact ⟨_, EvF.not rfl rfl, rfl⟩) rfl (fun _ => rfl) | exact ObK.pure (fun env R hR => by exact ⟨_, EvF.loadV rfl rfl (LoadV.own (te rfl) rfl (hR _ (List.Mem.head _)) rfl), rfl⟩) rfl (fun _ => rfl) | exact ObK.pure (fun env R hR => by exact ⟨_, EvF.loadV rfl rfl (LoadV.own (te rfl) rfl (hR _ (List.Mem.tail _ (List.Mem.tail _ (List.Mem.head _)))) rfl), rfl⟩) rfl (fun _ => rfl) | exact ObK.pure (fun env R hR => by exact ⟨_, EvF.loadV rfl rfl (LoadV.whole (te rfl) rfl (hR _ (List.Mem.tail _ (List.Mem.tail _ (List.Mem.head _)))) rfl), rfl⟩) rfl (fun _ => rfl) | (exact fun env S hS => (StF.buildOne rfl el55 rfl rfl rfl (by decide) (by decide)).op.mono (fun v H' ⟨b, hv, hH⟩ => ⟨(b, 0), fun _ => hv, by rw [hH]; exact List.Perm.refl _⟩)) | (exact fun env S hS => OpF.callV (Z := []) (EnF.st rfl (by (repeat (first | exact Args.nil | refine Args.cons rfl ?_)); done)) (anyMonth_spec R _ _ (by omega) (by omega)) rfl rfl) | (exact fun env S hS => OpF.callV (EnF.st rfl (by (repeat (first | exact Args.nil | refine Args.cons rfl ?_)); done)) (withinL_spec ⟨0, R.months - 1⟩ [e] _ _ _ (SlE.ofRow (l := [e]) (List.Mem.head _) (fun _ _ => rfl)) (by simp)) (by rw [ew]; rfl) rfl) | (exact fun env S hS => OpF.callV (Z := []) (EnF.st rfl (by (repeat (first | exact Args.nil | refine Args.cons rfl ?_)); done)) (containsFunc_spec R.boxes _ _ 76 (fun b => decide (b.made > e ∧ b.id ∈ l)) _ _ (hR.boxes.sub (fun _ h => hS _ (List.Mem.tail _ (List.Mem.tail _ (List.Mem.tail _ h))))) l2 (fun q _ => areThere1_spec q e _ _ l _ _ _ _ _ _ _ _ _ _ (hS _ (List.Mem.head _)) (hS _ (List.Mem.tail _ (List.Mem.head _))) (hl.sub (fun _ h => hS _ (List.Mem.tail _ (List.Mem.tail _ (List.Mem.tail _ h))))) hb)) (by rw [eq]; rfl) rfl))))))
    · intro env t' ha hv
      refine ⟨[(27, .bool bb), (2, .pointer (some ⟨b2, 0, none⟩)), (3, .pointer (some ⟨b3, 0, none⟩)), (9, .slice (some ⟨b, off, none⟩) t.length c'), (10, .int .i64 t.length), (11, .int .i64 k)], (ha.sub (by (repeat (first | exact Sub.nil _ | refine Sub.cons rfl ?_)); done)).cons (by rw [← hbb]; exact hv 11 27 (Nat.le_of_ble_eq_true rfl) rfl), ?_⟩
      show X _ _ _ _ (⟨b6, 0, [.int .i64 e], some 3, 1⟩ :: ⟨b3, 0, cAb a l.length c (some ⟨b, off, none⟩) t.length c', some 94, 2⟩ :: ⟨b2, 0, cRm R ⟨a1, c1, a2, c2, a3, c3⟩, some 26, 5⟩ :: H) _
      repeat' (first | (refine XO.op rfl ?_; (first | ((first | refine Xo.ng rfl ?_); (first | (refine Xg.ev (EvF.move rfl rfl) rfl rfl ?_) | (refine Xg.ev (EvF.assign rfl rfl) rfl rfl ?_) | (refine Xg.ev (EvF.cmp rfl rfl rfl rfl) rfl rfl ?_) | (refine Xg.ev (EvF.add64 rfl rfl rfl (by omega) (by omega)) rfl rfl ?_) | (refine Xg.ev (EvF.fieldAddr rfl rfl (te rfl) rfl (te rfl) (by decide)) rfl rfl ?_) | (refine Xg.ev (EvF.lenSlice rfl rfl (te rfl)) rfl rfl ?_) | (refine Xg.ev (EvF.loadV rfl rfl (LoadV.own (te rfl) rfl (List.Mem.head _) rfl)) rfl rfl ?_))))) | (refine XO.done rfl ?_; refine hK _ _ ?_; clear hK K) | refine X.seq rfl ?_ | refine X.region rfl (fun K hK => ?_) | refine X.block rfl ?_ | (refine X.brk rfl ?_; repeat (first | refine blockX_hit rfl ?_ | refine blockX_miss (by decide) ?_)) | refine X.skip rfl ?_ | refine X.ret rfl ?_ | (refine X.ite rfl rfl (fun hc => ?_); (first | (with_reducible refine Xb.case hc (fun h => ?_) (fun h => ?_)) | (with_reducible refine Xb.caseB hc (fun h => ?_) (fun h => ?_))) <;> clear hc))
      · refine ret_one (by first | exact .inr rfl | exact .inl rfl) Try.results66 rfl (H' := H) (by (repeat (first | exact List.Sublist.refl _ | apply List.Sublist.cons)); done) ?_; simp only [and_true, true_and]
        congr 1; symm
        exact decide_eq_false (fun q => by rw [h2.2 (hn.1 q e List.mem_cons_self)] at h; cases h)
      · refine ⟨_, _, _, (by (repeat (first | exact Sub.nil _ | refine Sub.cons rfl ?_)); done), (by (repeat (first | exact List.Sublist.refl _ | apply List.Sublist.cons)); done), ⟨k + 1, rfl, by omega, hn.trans ⟨fun q n hm => q n (List.mem_cons_of_mem _ hm), fun q n hm => ?_⟩, rfl, rfl⟩, by omega⟩
        rcases List.mem_cons.1 hm with rfl | hm
        · exact h2.1 (by assumption)
        · exact q n hm
  · refine ret_one (by first | exact .inr rfl | exact .inl rfl) Try.results66 rfl (H' := H) (by (repeat (first | exact List.Sublist.refl _ | apply List.Sublist.cons)); done) ?_; simp only [and_true, true_and]
    congr 1; symm
    exact decide_eq_true (hn.2 (by rw [List.drop_eq_nil_of_le (by omega)]; exact fun _ h => absurd h List.not_mem_nil))
end Go.Proofs.Ytminkpgacomicab
end
section
set_option linter.unusedVariables false
set_option linter.unusedSimpArgs false
namespace Go.Proofs.Ytminkpgacomicab
open Go Go.Fw
set_option maxRecDepth 10000
def matOk1 (R : Rm) (e : Mt) : Prop := e.a ≠ e.b ∧ e.lo ≤ e.hi ∧ (∀ n ∈ [e.lo, e.hi], (Sp.mk (-60) 60).lo ≤ n ∧ n ≤ (Sp.mk (-60) 60).hi) ∧ allThere R [e.a, e.b] ∧ inTime R [e.a, e.b] [e.month]
def matsOk (R : Rm) : Prop := R.mats.length ≤ 8 ∧ risesOk (R.mats.map (·.number)) ∧ ∀ m ∈ R.mats, matOk1 R m
noncomputable instance (R : Rm) : Decidable (matsOk R) := Classical.propDecidable _
set_option maxHeartbeats 4000000 in
theorem hasValidMatches_spec (R : Rm) (p : Pl) (H : List Row) (hR : RmOk H R p) (hm : 1 ≤ R.months ∧ R.months ≤ 12) (h2 : R.boxes.length ≤ 1000000) : Fc Try.prog 45 [.agg (cRm R p).toArray] H (fun v H' => v = .bool (decide (matsOk R)) ∧ H' = H) := by
  have l2 := hR.l2
  have l3 := hR.l3
  have hR1 : ∀ r, RmOk (r :: H) R p := fun r => hR.sub (fun _ h => List.mem_cons_of_mem _ h)
  have hR2 : ∀ r1 r2, RmOk (r1 :: r2 :: H) R p := fun r1 r2 => hR.sub (fun _ h => List.Mem.tail _ (List.Mem.tail _ h))
  have hR7 : ∀ r1 r2 r3 r4 r5 r6 r7, RmOk (r1 :: r2 :: r3 :: r4 :: r5 :: r6 :: r7 :: H) R p := fun r1 r2 r3 r4 r5 r6 r7 => hR.sub (fun _ h => List.Mem.tail _ (List.Mem.tail _ (List.Mem.tail _ (List.Mem.tail _ (List.Mem.tail _ (List.Mem.tail _ (List.Mem.tail _ h)))))))
  obtain ⟨a1, c1, a2, c2, a3, c3⟩ := p
  refine Fc.mk (callable Try.call45) Try.func45 rfl Try.ntmps45 rfl ?_; dsimp only [fr]
  refine X.seq rfl ?_; refine X.region rfl (fun K hK => ?_); repeat' (first | (refine XO.op rfl ?_; (first | ((first | refine Xo.ng rfl ?_); (first | (refine Xg.ev (EvF.assign rfl rfl) rfl rfl ?_) | (refine Xg.st (StF.boxAgg rfl rfl) rfl rfl ?_; rintro _ _ ⟨bx, rfl, rfl⟩))))) | (refine XO.done rfl ?_; refine hK _ _ ?_; clear hK K))
  rename Nat => b1
  repeat' (first | (refine XO.op rfl ?_; (first | ((first | refine Xo.ng rfl ?_ | (refine Xo.g rfl rfl ?_; with_reducible refine Xw.ff ?_)); (first | (refine Xg.call (EnF.st rfl (by (repeat (first | exact Args.nil | refine Args.cons rfl ?_)); done)) rfl rfl (numbers_specMt R.mats _ _ _ (hR1 _).mats (by omega)) ?_; rintro _ _ ⟨a', c', Z, rfl, rfl, hz⟩) | (refine Xg.call (EnF.st rfl (by (repeat (first | exact Args.nil | refine Args.cons rfl ?_)); done)) rfl rfl (rising_spec (R.mats.map (·.number)) a' c' _ hz (by rw [List.length_map]; omega)) ?_; rintro _ H9 ⟨rfl, hH9⟩; subst H9) | (refine Xg.ev (EvF.loadV rfl rfl (LoadV.own (te rfl) rfl (List.mem_append_right _ (List.Mem.head _)) rfl)) rfl rfl ?_) | (refine Xg.ev (EvF.move rfl rfl) rfl rfl ?_) | (refine Xg.ev (EvF.assign rfl rfl) rfl rfl ?_) | (refine Xg.ev (EvF.pickT rfl rfl rfl) rfl rfl ?_) | (refine Xg.ev (EvF.pickF rfl rfl rfl) rfl rfl ?_) | (refine Xg.ev (EvF.cmp rfl rfl rfl rfl) rfl rfl ?_) | (refine Xg.ev (EvF.not rfl rfl) rfl rfl ?_) | (refine Xg.ev (EvF.fieldAddr rfl rfl (te rfl) rfl (te rfl) (by decide)) rfl rfl ?_) | (refine Xg.ev (EvF.lenSlice rfl rfl (te rfl)) rfl rfl ?_) | (refine Xg.ev (EvF.loadV rfl rfl (LoadV.own (te rfl) rfl (List.Mem.head _) rfl)) rfl rfl ?_))) | (refine Xo.g rfl rfl ?_; (first | (with_reducible refine Xw.tf rfl rfl ?_) | (with_reducible refine Xw.case (fun h => ?_) (fun h => ?_) <;> simp only [h, decide_true, decide_false, Bool.not_true, Bool.not_false, and_self, and_true, true_and, and_false, false_and]))))) | (refine XO.done rfl ?_; refine hK _ _ ?_; clear hK K) | refine X.seq rfl ?_ | refine X.region rfl (fun K hK => ?_) | refine X.block rfl ?_ | refine X.skip rfl ?_ | refine X.ret rfl ?_ | (refine X.ite rfl rfl (fun hc => ?_); (first | (with_reducible refine Xb.t hc ?_) | (with_reducible refine Xb.caseN hc (fun h => ?_) (fun h => ?_))) <;> clear hc))
  · refine ret_one (by first | exact .inr rfl | exact .inl rfl) Try.results45 rfl (H' := H) (by (repeat (first | exact List.Sublist.refl _ | apply List.Sublist.cons)); done) ?_; simp only [and_true, true_and]
    congr 1; symm; exact decide_eq_false (fun q => by have := q.1; omega)
  · refine ret_one (by first | exact .inr rfl | exact .inl rfl) Try.results45 rfl (H' := H) ((List.sublist_cons_self _ _).trans (List.sublist_append_right _ _)) ⟨?_, rfl⟩
    congr 1; symm; exact decide_eq_false (fun q => h q.2.1)
  have hri : risesOk (R.mats.map (·.number)) := by assumption
  refine X.lp rfl (fun m F' H' => ∃ k : Nat, m = R.mats.length - k ∧ k ≤ R.mats.length ∧ ((∀ b ∈ R.mats, matOk1 R b) ↔ ∀ b ∈ R.mats.drop k, matOk1 R b) ∧ H' = ⟨b1, 0, cRm R ⟨a1, c1, a2, c2, a3, c3⟩, some 26, 5⟩ :: H ∧
      F' = [(1, .pointer (some ⟨b1, 0, none⟩)), (18, .slice a3 R.mats.length c3), (19, .int .i64 R.mats.length), (20, .int .i64 k)])
    R.mats.length [(1, .pointer (some ⟨b1, 0, none⟩)), (18, .slice a3 R.mats.length c3), (19, .int .i64 R.mats.length), (20, .int .i64 (0 : Nat))] _ (by (repeat (first | exact Sub.nil _ | refine Sub.cons rfl ?_)); done) (List.sublist_append_right _ _) ⟨0, by omega, by omega, by simp, rfl, rfl⟩ ?_
  rintro _ _ _ ⟨k, rfl, hk, hn, rfl, rfl⟩
  clear hz
  repeat' (first | (refine XO.op rfl ?_; (first | ((first | refine Xo.ng rfl ?_); (first | (refine Xg.ev (EvF.assign rfl rfl) rfl rfl ?_) | (refine Xg.ev (EvF.cmp rfl rfl rfl rfl) rfl rfl ?_))))) | (refine XO.done rfl ?_; refine hK _ _ ?_; clear hK K) | refine X.seq rfl ?_ | refine X.region rfl (fun K hK => ?_) | refine X.block rfl ?_ | (refine X.brk rfl ?_; repeat (first | refine blockX_hit rfl ?_ | refine blockX_miss (by decide) ?_)) | refine X.skip rfl ?_ | refine X.ret rfl ?_ | (refine X.ite rfl rfl (fun hc => ?_); (first | (with_reducible refine Xb.case hc (fun h => ?_) (fun h => ?_))) <;> clear hc))
  · obtain ⟨b, off, e, rfl, he⟩ := hR.mats.elem (i := k) (by omega)
    rw [drop_cons he] at hn
    repeat' (first | (refine XO.op rfl ?_; (first | ((first | refine Xo.ng rfl ?_ | (refine Xo.g rfl rfl ?_; with_reducible refine Xw.ff ?_)); (first | (refine Xg.ev (EvF.loadV rfl rfl (LoadV.elA0 (hR.sub (fun _ h => by repeat (first | exact h | apply List.Mem.tail))).mats he (te rfl) rfl (fun _ hm => hm) rfl)) rfl rfl ?_) | (refine Xg.st (StF.buildTwo rfl el55 rfl rfl rfl rfl rfl rfl (by decide) (by decide)) rfl rfl ?_; rintro _ _ ⟨bt, rfl, rfl⟩) | (refine Xg.st (StF.buildOne rfl el55 rfl rfl rfl (by decide) (by decide)) rfl rfl ?_; rintro _ _ ⟨bo, rfl, rfl⟩) | (refine Xg.call (EnF.st rfl (by (repeat (first | exact Args.nil | refine Args.cons rfl ?_)); done)) rfl rfl (part_spec ⟨e.lo, e.hi⟩ (-60) 60 _) ?_; rintro _ H9 ⟨rfl, hH9⟩; subst H9) | (refine Xg.ev (EvF.loadV rfl rfl (LoadV.ownAgg (vs := cSp ⟨e.lo, e.hi⟩) (te rfl) rfl (List.Mem.head _) rfl rfl)) rfl rfl ?_) | (refine Xg.ev (EvF.build (T := 94) (cs := cAb _ _ _ _ _ _) rfl (ArgsP.cons rfl (ArgsP.cons rfl ArgsP.nil)) (te rfl) (Places.cons (te rfl) (Places.cons (te rfl) Places.nil)) Try.zeroValue94 rfl) rfl rfl ?_) | (refine Xg.call (EnF.st rfl (by (repeat (first | exact Args.nil | refine Args.cons rfl ?_)); done)) rfl rfl (hasBoxes_spec R _ [e.a, e.b] _ _ _ _ _ _ (hR.sub (fun _ h => by repeat (first | exact h | apply List.Mem.tail))) (SlE.ofRow (l := [e.a, e.b]) (List.Mem.tail _ (List.Mem.tail _ (List.Mem.head _))) (fun _ _ => rfl)) (by simp) h2) ?_; rintro _ H9 ⟨rfl, hH9⟩; subst H9) | (refine Xg.call (EnF.st rfl (by (repeat (first | exact Args.nil | refine Args.cons rfl ?_)); done)) rfl rfl (areThere_spec R _ [e.a, e.b] [e.month] _ _ _ _ _ (hR.sub (fun _ h => by repeat (first | exact h | apply List.Mem.tail))) hm (SlE.ofRow (l := [e.a, e.b]) (List.Mem.tail _ (List.Mem.tail _ (List.Mem.head _))) (fun _ _ => rfl)) (by simp) (SlE.ofRow (l := [e.month]) (List.Mem.tail _ (List.Mem.head _)) (fun _ _ => rfl)) (by simp)) ?_; rintro _ H9 ⟨rfl, hH9⟩; subst H9) | (refine Xg.ev (EvF.move rfl rfl) rfl rfl ?_) | (refine Xg.ev (EvF.assign rfl rfl) rfl rfl ?_) | (refine Xg.ev (EvF.pickT rfl rfl rfl) rfl rfl ?_) | (refine Xg.ev (EvF.pickF rfl rfl rfl) rfl rfl ?_) | (refine Xg.ev (EvF.cmp rfl rfl rfl rfl) rfl rfl ?_) | (refine Xg.ev (EvF.add64 rfl rfl rfl (by omega) (by omega)) rfl rfl ?_) | (refine Xg.ev (EvF.not rfl rfl) rfl rfl ?_) | (refine Xg.ev (EvF.fieldAddr rfl rfl (te rfl) rfl (te rfl) (by decide)) rfl rfl ?_) | (refine Xg.ev (EvF.indexSlice rfl rfl rfl (te rfl) (te rfl) (by omega) (by omega)) rfl rfl ?_) | (refine Xg.ev (EvF.loadV rfl rfl (LoadV.own (te rfl) rfl (List.Mem.head _) rfl)) rfl rfl ?_) | (refine Xg.ev (EvF.loadV rfl rfl (LoadV.own (te rfl) rfl (List.Mem.tail _ (List.Mem.head _)) rfl)) rfl rfl ?_) | (refine Xg.ev (EvF.loadV rfl rfl (LoadV.whole (te rfl) rfl (List.Mem.head _) rfl)) rfl rfl ?_) | (refine Xg.ev (EvF.loadV rfl rfl (LoadV.whole (te rfl) rfl (List.Mem.tail _ (List.Mem.tail _ (List.Mem.tail _ (List.Mem.tail _ (List.Mem.head _))))) rfl)) rfl rfl ?_) | (refine Xg.st (StF.alloc rfl Try.zeroValue61 rfl) rfl rfl ?_; rintro _ _ ⟨bx, rfl, rfl⟩) | (refine Xg.st (StF.alloc rfl Try.zeroValue94 rfl) rfl rfl ?_; rintro _ _ ⟨bx, rfl, rfl⟩) | (refine Xg.st0 (StF.storeAll (i := 0) rfl rfl rfl (te rfl) rfl rfl rfl rfl) rfl ?_; rintro _ _ ⟨rfl, rfl⟩; dsimp only [List.set]))) | (refine Xo.g rfl rfl ?_; (first | (with_reducible refine Xw.tf rfl rfl ?_) | (with_reducible refine Xw.case (fun h => ?_) (fun h => ?_) <;> simp only [h, decide_true, decide_false, Bool.not_true, Bool.not_false, and_self, and_true, true_and, and_false, false_and]) | (with_reducible refine Xw.caseN (fun h => ?_) (fun h => ?_) <;> simp only [h, decide_true, decide_false, Bool.not_true, Bool.not_false, and_self, and_true, true_and, and_false, false_and]))))) | (refine XO.done rfl ?_; refine hK _ _ ?_; clear hK K) | refine X.seq rfl ?_ | refine X.region rfl (fun K hK => ?_) | refine X.skip rfl ?_ | refine X.ret rfl ?_ | (refine X.ite rfl rfl (fun hc => ?_); (first | (with_reducible refine Xb.t hc ?_) | (with_reducible refine Xb.caseN hc (fun h => ?_) (fun h => ?_))) <;> clear hc))
    any_goals (refine ret_one (by first | exact .inr rfl | exact .inl rfl) Try.results45 rfl (H' := H) (by (repeat (first | exact List.Sublist.refl _ | apply List.Sublist.cons)); done) ?_; simp only [and_true, true_and]; congr 1; symm; refine decide_eq_false (fun q => ?_); obtain ⟨q1, q2, q3, q4, q5⟩ := hn.1 q.2.2 e List.mem_cons_self; first | (exfalso; omega) | (exact absurd (And.intro q2 q3) (by assumption)) | (exact absurd q4 (by assumption)) | (exact absurd q5 (by assumption)))
    refine ⟨_, _, _, (by (repeat (first | exact Sub.nil _ | refine Sub.cons rfl ?_)); done), (by (repeat (first | exact List.Sublist.refl _ | apply List.Sublist.cons)); done), ⟨k + 1, rfl, by omega, hn.trans ⟨fun q n hm => q n (List.mem_cons_of_mem _ hm), fun q n hm => ?_⟩, rfl, rfl⟩, by omega⟩
    rcases List.mem_cons.1 hm with rfl | hm
    · have hpp : n.lo ≤ n.hi ∧ ∀ x ∈ [n.lo, n.hi], (Sp.mk (-60) 60).lo ≤ x ∧ x ≤ (Sp.mk (-60) 60).hi := by assumption
      exact ⟨by assumption, hpp.1, hpp.2, by assumption, by assumption⟩
    · exact q n hm
  · refine ret_one (by first | exact .inr rfl | exact .inl rfl) Try.results45 rfl (H' := H) (by (repeat (first | exact List.Sublist.refl _ | apply List.Sublist.cons)); done) ?_; simp only [and_true, true_and]
    congr 1; symm
    exact decide_eq_true ⟨by omega, hri, hn.2 (by rw [List.drop_eq_nil_of_le (by omega)]; exact fun _ h => absurd h List.not_mem_nil)⟩
end Go.Proofs.Ytminkpgacomicab
end
section
set_option linter.unusedVariables false
set_option linter.unusedSimpArgs false
namespace Go.Proofs.Ytminkpgacomicab
open Go Go.Fw
set_option maxRecDepth 10000
theorem rises_le : ∀ (l : List Int) (p : Int), rises p l → p ≤ lastOf p l
  | [], p, _ => by simp [lastOf]
  | n :: t, p, h => by
    have := rises_le t n h.2
    have h1 := h.1
    simp only [lastOf]
    omega
theorem rises_mem : ∀ (l : List Int) (p n : Int), rises p l → n ∈ l → p < n
  | [], _, _, _, h => absurd h List.not_mem_nil
  | m :: t, p, n, h, hm => by
    rcases List.mem_cons.1 hm with rfl | hm
    · exact h.1
    · have := rises_mem t m n h.2 hm
      have := h.1
      omega
theorem okBoxes_iff (m : Int) : ∀ (l : List Bx) (last : Int), last ≤ 9999 → (okBoxes m last l ↔ rises last (l.map (·.id)) ∧ lastOf last (l.map (·.id)) ≤ 9999 ∧ ∀ b ∈ l, 0 ≤ b.made ∧ b.made ≤ m - 1)
  | [], last, h => by simp [okBoxes, rises, lastOf, h]
  | b :: l, last, h => by
    have hl := rises_le (l.map (·.id)) b.id
    constructor
    · rintro ⟨h1, h2, h3, h4, h5⟩
      obtain ⟨q1, q2, q3⟩ := (okBoxes_iff m l b.id h2).1 h5
      refine ⟨⟨(show last < b.id by omega), q1⟩, q2, fun e he => ?_⟩
      rcases List.mem_cons.1 he with rfl | he
      · exact ⟨h3, h4⟩
      · exact q3 e he
    · rintro ⟨⟨h1, h2⟩, h3, h4⟩
      have h2' : rises b.id (l.map (·.id)) := h2
      have h3' : lastOf b.id (l.map (·.id)) ≤ 9999 := h3
      have h1' : last < b.id := h1
      have h5 := hl h2'
      have hb := h4 b List.mem_cons_self
      exact ⟨by omega, by omega, hb.1, hb.2, (okBoxes_iff m l b.id (by omega)).2 ⟨h2', h3', fun e he => h4 e (List.mem_cons_of_mem _ he)⟩⟩
theorem okMats_iff (R : Rm) : ∀ (l : List Mt) (last : Int), last ≤ 9999 → (okMats R last l ↔ rises last (l.map (·.number)) ∧ lastOf last (l.map (·.number)) ≤ 9999 ∧ ∀ b ∈ l, matchOk R b)
  | [], last, h => by simp [okMats, rises, lastOf, h]
  | b :: l, last, h => by
    have hl := rises_le (l.map (·.number)) b.number
    constructor
    · rintro ⟨h1, h2, h3, h5⟩
      obtain ⟨q1, q2, q3⟩ := (okMats_iff R l b.number h2).1 h5
      refine ⟨⟨(show last < b.number by omega), q1⟩, q2, fun e he => ?_⟩
      rcases List.mem_cons.1 he with rfl | he
      · exact h3
      · exact q3 e he
    · rintro ⟨⟨h1, h2⟩, h3, h4⟩
      have h2' : rises b.number (l.map (·.number)) := h2
      have h3' : lastOf b.number (l.map (·.number)) ≤ 9999 := h3
      have h1' : last < b.number := h1
      have h5 := hl h2'
      exact ⟨by omega, by omega, h4 b List.mem_cons_self, (okMats_iff R l b.number (by omega)).2 ⟨h2', h3', fun e he => h4 e (List.mem_cons_of_mem _ he)⟩⟩
theorem index_ge : ∀ (l : List Bx) (id : Int), 0 ≤ index l id ↔ ∃ b ∈ l, b.id = id
  | [], id => by simp [index]
  | b :: l, id => by
    have h := index_ge l id
    simp only [index, List.mem_cons, exists_eq_or_imp]
    by_cases hb : b.id = id
    · simp [hb]
    · simp only [hb, if_false, false_or]
      rw [← h]
      split <;> omega
theorem index_id : ∀ (l : List Bx) (id : Int) (e : Bx), 0 ≤ index l id → l[(index l id).toNat]? = some e → e.id = id
  | [], id, e, h, _ => by simp [index] at h
  | b :: l, id, e, h, he => by
    by_cases hb : b.id = id
    · simp [index, hb] at he
      rw [← he]; exact hb
    · simp only [index, hb, if_false] at h he
      by_cases h0 : index l id < 0
      · rw [if_pos h0] at h; omega
      · rw [if_neg h0] at h he
        have : (index l id + 1).toNat = (index l id).toNat + 1 := by omega
        rw [this, List.getElem?_cons_succ] at he
        exact index_id l id e (by omega) he
theorem rises_inj : ∀ (l : List Bx) (p : Int), rises p (l.map (·.id)) → ∀ x ∈ l, ∀ y ∈ l, x.id = y.id → x = y
  | [], _, _, _, h, _, _, _ => absurd h List.not_mem_nil
  | b :: l, p, h, x, hx, y, hy, e => by
    have hm : ∀ z ∈ l, b.id < z.id := fun z hz => rises_mem _ _ _ h.2 (List.mem_map.2 ⟨z, hz, rfl⟩)
    rcases List.mem_cons.1 hx with hx1 | hx1
    · rcases List.mem_cons.1 hy with hy1 | hy1
      · rw [hx1, hy1]
      · have := hm y hy1; rw [hx1] at e; omega
    · rcases List.mem_cons.1 hy with hy1 | hy1
      · have := hm x hx1; rw [hy1] at e; omega
      · exact rises_inj l b.id h.2 x hx1 y hy1 e
theorem match_iff (R : Rm) (hr : rises 0 (R.boxes.map (·.id))) (e : Mt) : matchOk R e ↔ matOk1 R e := by
  have key : ∀ i : Int, 0 ≤ index R.boxes i → bxAt R.boxes i ∈ R.boxes ∧ (bxAt R.boxes i).id = i := fun i hi =>
    ⟨List.mem_of_getElem? (index_get hi), index_id _ _ _ hi (index_get hi)⟩
  have uniq : ∀ i : Int, 0 ≤ index R.boxes i → ∀ b ∈ R.boxes, b.id = i → b = bxAt R.boxes i := fun i hi b hb hbi =>
    rises_inj _ _ hr b hb _ (key i hi).1 (by rw [hbi, (key i hi).2])
  unfold matchOk matOk1 allThere inTime
  constructor
  · rintro ⟨ha, hb, hne, h0, h1, hma, hmb, h2, h3, h4⟩
    refine ⟨fun q => hne (by rw [q]), h3, ?_, ?_, ?_⟩
    · intro n hn
      simp only [List.mem_cons, List.not_mem_nil, or_false] at hn
      rcases hn with rfl | rfl <;> (constructor <;> dsimp only <;> omega)
    · intro i hi
      simp only [List.mem_cons, List.not_mem_nil, or_false] at hi
      rcases hi with rfl | rfl
      · exact ⟨_, (key _ ha).1, (key _ ha).2⟩
      · exact ⟨_, (key _ hb).1, (key _ hb).2⟩
    · intro m hm
      simp only [List.mem_cons, List.not_mem_nil, or_false] at hm
      subst hm
      refine ⟨⟨h0, h1⟩, ?_⟩
      rintro ⟨b, hb1, hb2, hb3⟩
      simp only [List.mem_cons, List.not_mem_nil, or_false] at hb3
      rcases hb3 with h | h
      · rw [uniq _ ha b hb1 h] at hb2; omega
      · rw [uniq _ hb b hb1 h] at hb2; omega
  · rintro ⟨hne, h3, hs, ht, hi⟩
    have ha := (index_ge R.boxes e.a).2 (ht e.a (by simp))
    have hb := (index_ge R.boxes e.b).2 (ht e.b (by simp))
    have hlo := hs e.lo (by simp)
    have hhi := hs e.hi (by simp)
    obtain ⟨hmo, hno⟩ := hi e.month (by simp)
    dsimp only at hlo hhi
    refine ⟨ha, hb, fun q => hne ?_, hmo.1, hmo.2, ?_, ?_, by omega, h3, by omega⟩
    · have h1 := (key _ ha).2
      have h2 := (key _ hb).2
      unfold bxAt at h1 h2
      rw [q] at h1
      rw [← h1, h2]
    · refine Int.not_lt.1 (fun q => hno ⟨_, (key _ ha).1, q, ?_⟩)
      rw [(key _ ha).2]; simp
    · refine Int.not_lt.1 (fun q => hno ⟨_, (key _ hb).1, q, ?_⟩)
      rw [(key _ hb).2]; simp
theorem room_iff (R : Rm) : (agesOk R ∧ boxesOk R ∧ matsOk R) ↔ roomOk R := by
  unfold agesOk boxesOk matsOk roomOk okHead risesOk
  rw [okBoxes_iff _ _ _ (by omega), okMats_iff _ _ _ (by omega)]
  constructor
  · rintro ⟨⟨h1, h2, h3, h4⟩, ⟨h5, ⟨h6, h6'⟩, h7⟩, h8, ⟨h9, h9'⟩, h10⟩
    exact ⟨⟨h1.1, h1.2, h2.1, h2.2, h3, h5, h8⟩, h4, ⟨h6, h6', h7⟩, h9, h9', fun b hb => (match_iff R h6 b).2 (h10 b hb)⟩
  · rintro ⟨⟨h1, h1', h2, h2', h3, h5, h8⟩, h4, ⟨h6, h6', h7⟩, h9, h9', h10⟩
    exact ⟨⟨⟨h1, h1'⟩, ⟨h2, h2'⟩, h3, h4⟩, ⟨h5, ⟨h6, h6'⟩, h7⟩, h8, ⟨h9, h9'⟩, fun b hb => (match_iff R h6 b).1 (h10 b hb)⟩
theorem agesOk.m {R : Rm} (h : agesOk R) : 1 ≤ R.months ∧ R.months ≤ 12 := h.1
theorem check_spec (R : Rm) (p : Pl) (H : List Row) (hR : RmOk H R p) : Fc Try.prog 24 [.agg (cRm R p).toArray] H (fun v H' => ((roomOk R ∧ v = .int .i64 0) ∨ (¬ roomOk R ∧ v = .int .i64 10)) ∧ H' = H) := by
  have hR1 : ∀ r, RmOk (r :: H) R p := fun r => hR.sub (fun _ h => List.mem_cons_of_mem _ h)
  refine Fc.mk (callable Try.call24) Try.func24 rfl Try.ntmps24 rfl ?_; dsimp only [fr]
  repeat' (first | (refine XO.op rfl ?_; (first | ((first | refine Xo.ng rfl ?_ | (refine Xo.g rfl rfl ?_; with_reducible refine Xw.ff ?_)); (first | (refine Xg.call (EnF.st rfl (by (repeat (first | exact Args.nil | refine Args.cons rfl ?_)); done)) rfl rfl (hasAges_spec R _ _ (hR1 _)) ?_; rintro _ H9 ⟨rfl, hH9⟩; subst H9) | (refine Xg.call (EnF.st rfl (by (repeat (first | exact Args.nil | refine Args.cons rfl ?_)); done)) rfl rfl (hasValidBoxes_spec R _ _ (hR1 _) (agesOk.m (by assumption))) ?_; rintro _ H9 ⟨rfl, hH9⟩; subst H9) | (refine Xg.call (EnF.st rfl (by (repeat (first | exact Args.nil | refine Args.cons rfl ?_)); done)) rfl rfl (hasValidMatches_spec R _ _ (hR1 _) (agesOk.m (by assumption)) (by have := (show boxesOk R by assumption).1; omega)) ?_; rintro _ H9 ⟨rfl, hH9⟩; subst H9) | (refine Xg.ev (EvF.move rfl rfl) rfl rfl ?_) | (refine Xg.ev (EvF.assign rfl rfl) rfl rfl ?_) | (refine Xg.ev (EvF.pickT rfl rfl rfl) rfl rfl ?_) | (refine Xg.ev (EvF.pickF rfl rfl rfl) rfl rfl ?_) | (refine Xg.ev (EvF.not rfl rfl) rfl rfl ?_) | (refine Xg.ev (EvF.loadV rfl rfl (LoadV.whole (te rfl) rfl (List.Mem.head _) rfl)) rfl rfl ?_) | (refine Xg.st (StF.boxAgg rfl rfl) rfl rfl ?_; rintro _ _ ⟨bx, rfl, rfl⟩))) | (refine Xo.g rfl rfl ?_; (first | (with_reducible refine Xw.tf rfl rfl ?_) | (with_reducible refine Xw.caseN (fun h => ?_) (fun h => ?_) <;> simp only [h, decide_true, decide_false, Bool.not_true, Bool.not_false, and_self, and_true, true_and, and_false, false_and]))))) | (refine XO.done rfl ?_; refine hK _ _ ?_; clear hK K) | refine X.seq rfl ?_ | refine X.region rfl (fun K hK => ?_) | refine X.skip rfl ?_ | refine X.ret rfl ?_ | (refine X.ite rfl rfl (fun hc => ?_); (first | (with_reducible refine Xb.t hc ?_) | (with_reducible refine Xb.caseN hc (fun h => ?_) (fun h => ?_))) <;> clear hc))
  · refine ret_one (by first | exact .inr rfl | exact .inl rfl) Try.results24 rfl (H' := H) (by (repeat (first | exact List.Sublist.refl _ | apply List.Sublist.cons)); done) ⟨.inr ⟨fun q => h ((room_iff R).2 q).2.2, rfl⟩, rfl⟩
  · refine ret_one (by first | exact .inr rfl | exact .inl rfl) Try.results24 rfl (H' := H) (by (repeat (first | exact List.Sublist.refl _ | apply List.Sublist.cons)); done) ⟨.inl ⟨(room_iff R).1 ⟨by assumption, by assumption, by assumption⟩, rfl⟩, rfl⟩
  · refine ret_one (by first | exact .inr rfl | exact .inl rfl) Try.results24 rfl (H' := H) (by (repeat (first | exact List.Sublist.refl _ | apply List.Sublist.cons)); done) ⟨.inr ⟨fun q => h ((room_iff R).2 q).2.1, rfl⟩, rfl⟩
  · refine ret_one (by first | exact .inr rfl | exact .inl rfl) Try.results24 rfl (H' := H) (by (repeat (first | exact List.Sublist.refl _ | apply List.Sublist.cons)); done) ⟨.inr ⟨fun q => h ((room_iff R).2 q).1, rfl⟩, rfl⟩
end Go.Proofs.Ytminkpgacomicab
end
section
set_option linter.unusedVariables false
namespace Go.Fw
open Go Go.RowKit
section
variable {P : Program} {n : Nat} {ops : Array Oper} {i : Nat} {o : Oper} {F : FS} {H : List Row}
theorem add_zero' (a : Addr) : a.add 0 = a := by unfold Addr.add; simp
/-- where the rest of a slice from some element on lies -/
def sfrom (a : Option Addr) (cap lo sz : Nat) : Option Addr := if cap = lo then a else a.map (·.add (lo * sz))
theorem EvF.sliceTo {T e : TypeId} {x q : Operand} {a : Option Addr} {len cap hh s y : Nat} {kk : IntKind} {ti : TI} (h : o.op = .slice T x none (some q) none) (hx : evF F x = some (.slice a len cap)) (hT : tiOf P T = some ⟨.sl e, s, y⟩) (he : tiOf P e = some ti) (hq : evF F q = some (.int kk (hh : Int))) (h1 : hh ≤ cap) :
    EvF P n H F o (.slice a hh cap) := by
  unfold EvF EvOp
  intro t ha B w0 w hS
  have hu := ti_slice hT
  have hsz := ti_size he w
  have hxv := ha.ev hx
  have hqv := ha.ev hq
  have hbd : (Instr.sliceBounds true len cap none (some (.int kk (hh : Int))) none).run P w = .ok (0, hh, cap) w := by
    simp [Instr.sliceBounds, Instr.sliceBound, asIntOf, h1]
  have e1 : (if cap = 0 then a else Option.map (fun x => x.add (0 * ti.size)) a) = a := by
    split
    · rfl
    · cases a <;> simp [add_zero']
  simp only [Nat.zero_mul] at e1
  simp [execOp, h, hxv, hqv, Instr.sliceAt, Instr.slice, underlying, hu, hbd, hsz, e1]
theorem EvF.sliceFrom {T e : TypeId} {x q : Operand} {a : Option Addr} {len cap lo s y : Nat} {kk : IntKind} {ti : TI} (h : o.op = .slice T x (some q) none none) (hx : evF F x = some (.slice a len cap)) (hT : tiOf P T = some ⟨.sl e, s, y⟩) (he : tiOf P e = some ti) (hq : evF F q = some (.int kk (lo : Int))) (h1 : lo ≤ len) (_h2 : len ≤ cap) :
    EvF P n H F o (.slice (sfrom a cap lo ti.size) (len - lo) (cap - lo)) := by
  unfold EvF EvOp
  intro t ha B w0 w hS
  have hu := ti_slice hT
  have hsz := ti_size he w
  have hxv := ha.ev hx
  have hqv := ha.ev hq
  have hbd : (Instr.sliceBounds true len cap (some (.int kk (lo : Int))) none none).run P w = .ok (lo, len, cap) w := by
    simp [Instr.sliceBounds, Instr.sliceBound, asIntOf, h1]
  simp [execOp, h, hxv, hqv, Instr.sliceAt, Instr.slice, underlying, hu, hbd, hsz, sfrom]
theorem sfrom_lt {b off cap lo sz : Nat} (h : lo < cap) : sfrom (some ⟨b, off, none⟩) cap lo sz = some ⟨b, off + lo * sz, none⟩ := by
  unfold sfrom
  rw [if_neg (by omega)]
  simp [add_none]
theorem EvF.sliceFromL {T e : TypeId} {x q : Operand} {b off len cap lo s y : Nat} {kk : IntKind} {ti : TI} (h : o.op = .slice T x (some q) none none) (hx : evF F x = some (.slice (some ⟨b, off, none⟩) len cap)) (hT : tiOf P T = some ⟨.sl e, s, y⟩) (he : tiOf P e = some ti) (hq : evF F q = some (.int kk (lo : Int))) (h1 : lo ≤ len) (h2 : len ≤ cap) (h3 : lo < cap) :
    EvF P n H F o (.slice (some ⟨b, off + lo * ti.size, none⟩) (len - lo) (cap - lo)) := by
  have := EvF.sliceFrom (P := P) (n := n) (H := H) h hx hT he hq h1 h2
  rwa [sfrom_lt h3] at this
theorem sleFrom {α : Type} {a : Option Addr} {enc : α → List Value} {sz cap : Nat} {l : List α} (h : SlE H a enc sz l) (hc : l.length ≤ cap) (k : Nat) : SlE H (sfrom a cap k sz) enc sz (l.drop k) := by
  unfold SlE at h ⊢
  refine ⟨fun e he => h.1 e (List.mem_of_mem_drop he), fun hk => ?_⟩
  rw [List.length_drop] at hk
  obtain ⟨b, off, rfl, r, j0, hr, hb, ho, hcl⟩ := h.2 (by omega)
  refine ⟨b, off + k * sz, sfrom_lt (by omega), r, j0 + k * sz, hr, hb, by omega, fun i e j v hi hj => ?_⟩
  rw [List.getElem?_drop] at hi
  have := hcl (k + i) e j v hi hj
  rw [← this]
  congr 1
  rw [Nat.add_mul]; omega
theorem sleTake {α : Type} {a : Option Addr} {enc : α → List Value} {sz : Nat} {l : List α} (h : SlE H a enc sz l) (k : Nat) : SlE H a enc sz (l.take k) := by
  unfold SlE at h ⊢
  refine ⟨fun e he => h.1 e (List.mem_of_mem_take he), fun hk => ?_⟩
  rw [List.length_take] at hk
  obtain ⟨b, off, ha, r, j0, hr, hb, ho, hc⟩ := h.2 (by omega)
  refine ⟨b, off, ha, r, j0, hr, hb, ho, fun i e j v hi hj => hc i e j v ?_ hj⟩
  rw [List.getElem?_take] at hi
  split at hi
  · exact hi
  · cases hi
theorem XO.forget {N : FS → List Row → Prop} {q b cap : Nat} {el : TypeId} {cs cs' : List Value} (hi : H[q]? = some ⟨b, 0, cs ++ cs', some el, cap⟩) (k : XO P n ops i F (H.set q ⟨b, 0, cs, some el, cap⟩) N) : XO P n ops i F H N := by
  unfold XO WO at *
  intro t ha ρ ds B w0 w hS
  exact k t ha ρ ds B w0 w (hS.forget hi)
/-- rows in another order -/
theorem X.permH {c : Code} {Q : QX} {H' : List Row} (hp : H'.Perm H) (k : X P n c F H' Q) : X P n c F H Q := by
  unfold X W at *
  intro t ha ρ ds B w0 w hS
  exact k t ha ρ ds B w0 w (hS.perm hp)
/-- a piece of a row can be read -/
theorem Rd.piece {b j cap : Nat} {xs ys zs : List Value} {ow : Option Kd} (hr : ⟨b, 0, xs ++ ys ++ zs, ow, cap⟩ ∈ H) (hj : xs.length = j) : Rd H ⟨b, 0 + j, none⟩ ys := by
  intro k v hk
  refine ⟨_, hr, j + k, rfl, rfl, by show 0 + (j + k) = 0 + j + k; omega, ?_⟩
  subst hj
  have hk' := (List.getElem?_eq_some_iff.1 hk).1
  rw [List.append_assoc, List.getElem?_append_right (by omega), Nat.add_sub_cancel_left, List.getElem?_append_left hk']
  exact hk
theorem splice_at {xs ys zs vs : List Value} {j : Nat} (hj : xs.length = j) (hv : vs.length = ys.length) : splice (xs ++ ys ++ zs) j vs = xs ++ vs ++ zs := by
  subst hj
  unfold splice
  rw [hv]
  rw [show List.take xs.length (xs ++ ys ++ zs) = xs by rw [List.append_assoc]; exact List.take_left]
  rw [show List.drop (xs.length + ys.length) (xs ++ ys ++ zs) = zs by rw [← List.length_append]; exact List.drop_left]
/-- a table of a region whose last operation alone does something: nothing is drawn -/
def valL (vs : List Value) (k : Nat) (_ : Env) : Value := vs.getD k undef
def rowsL (m : Nat) (new old : Row) (k : Nat) (_ : Env) : List Row := match Nat.beq k m with
  | true => [new]
  | false => match Nat.beq k (m + 1) with
    | true => [old]
    | false => []
end
end Go.Fw
end
section
set_option linter.unusedVariables false
set_option linter.unusedSimpArgs false
namespace Go.Proofs.Ytminkpgacomicab
open Go Go.Fw
set_option maxRecDepth 10000
def ts101 : List TOp := [⟨some 3, [], [], []⟩, ⟨some 4, [0], [0], []⟩, ⟨some 5, [0, 1], [1], []⟩, ⟨some 6, [], [], []⟩, ⟨some 7, [3], [3], []⟩, ⟨some 8, [0, 1, 2, 3, 4], [4], []⟩, ⟨some 9, [], [], []⟩, ⟨some 10, [6], [6], []⟩, ⟨some 11, [0, 1, 2, 3, 4, 5, 6, 7], [7], []⟩, ⟨some 12, [0, 1, 2, 3, 4, 6, 7], [], []⟩, ⟨none, [0, 1, 2, 3, 4, 5, 6, 7, 8, 9], [9, 2], [16]⟩, ⟨some 13, [0, 1, 2, 3, 4, 5, 6, 7, 8, 9, 10], [], []⟩, ⟨none, [0, 1, 2, 3, 4, 5, 6, 7, 8, 9, 10, 11], [11, 5], [10]⟩, ⟨some 14, [0, 1, 2, 3, 4, 5, 6, 7, 8, 9, 10, 11, 12], [], []⟩, ⟨none, [0, 1, 2, 3, 4, 5, 6, 7, 8, 9, 10, 11, 12, 13], [13, 8], [12]⟩, ⟨none, [], [], []⟩, ⟨none, [], [], []⟩]
def rd101 (k : Nat) : List Nat := match k with
  | 1 => [16]
  | 4 => [16]
  | 7 => [16]
  | _ => []
def val101 (b1 : Nat) (R : Rm) (d1 : Addr) (c1 : Nat) (d2 : Addr) (c2 : Nat) (d3 : Addr) (c3 : Nat) (k : Nat) (env : Env) : Value :=
  match k with
  | 0 => .pointer (some ⟨b1, 2, none⟩)
  | 1 => .slice (some d1) R.ages.length c1
  | 2 => .slice (some ⟨(env 2).1, 0, none⟩) R.ages.length (env 2).2
  | 3 => .pointer (some ⟨b1, 3, none⟩)
  | 4 => .slice (some d2) R.boxes.length c2
  | 5 => .slice (some ⟨(env 5).1, 0, none⟩) R.boxes.length (env 5).2
  | 6 => .pointer (some ⟨b1, 4, none⟩)
  | 7 => .slice (some d3) R.mats.length c3
  | 8 => .slice (some ⟨(env 8).1, 0, none⟩) R.mats.length (env 8).2
  | 9 => .pointer (some ⟨b1, 2, none⟩)
  | 11 => .pointer (some ⟨b1, 3, none⟩)
  | 13 => .pointer (some ⟨b1, 4, none⟩)
  | _ => undef
def rows101 (b1 b2 : Nat) (R : Rm) (d1 : Addr) (c1 : Nat) (d2 : Addr) (c2 : Nat) (d3 : Addr) (c3 : Nat) (k : Nat) (env : Env) : List Row :=
  match k with
  | 2 => [⟨(env 2).1, 0, R.ages.flatMap cSp, some 57, (env 2).2 * 2⟩]
  | 5 => [⟨(env 5).1, 0, R.boxes.flatMap cBx, some 59, (env 5).2 * 2⟩]
  | 8 => [⟨(env 8).1, 0, R.mats.flatMap cMt, some 61, (env 8).2 * 6⟩]
  | 10 => [⟨b1, 0, cRm R ⟨some ⟨(env 2).1, 0, none⟩, (env 2).2, some d2, c2, some d3, c3⟩, some 26, 5⟩]
  | 12 => [⟨b1, 0, cRm R ⟨some ⟨(env 2).1, 0, none⟩, (env 2).2, some ⟨(env 5).1, 0, none⟩, (env 5).2, some d3, c3⟩, some 26, 5⟩]
  | 14 => [⟨b1, 0, cRm R ⟨some ⟨(env 2).1, 0, none⟩, (env 2).2, some ⟨(env 5).1, 0, none⟩, (env 5).2, some ⟨(env 8).1, 0, none⟩, (env 8).2⟩, some 26, 5⟩]
  | 15 => [⟨b2, 0, [.int .i64 0, .int .i64 0, .slice none 0 0, .slice none 0 0, .slice none 0 0], some 26, 5⟩]
  | 16 => [⟨b1, 0, cRm R ⟨some d1, c1, some d2, c2, some d3, c3⟩, some 26, 5⟩]
  | _ => []
theorem loc101 (b1 b2 : Nat) (R : Rm) (d1 : Addr) (c1 : Nat) (d2 : Addr) (c2 : Nat) (d3 : Addr) (c3 : Nat) : ∀ k env i q9, i ≠ k → (tAt ts101 k).sup.contains i = false → val101 b1 R d1 c1 d2 c2 d3 c3 k (upd env i q9) = val101 b1 R d1 c1 d2 c2 d3 c3 k env ∧ rows101 b1 b2 R d1 c1 d2 c2 d3 c3 k (upd env i q9) = rows101 b1 b2 R d1 c1 d2 c2 d3 c3 k env := by
  intro k env i q hk hs
  have hu : ∀ j, j ≠ i → upd env i q j = env j := fun j hj => by unfold upd; rw [if_neg hj]
  match k, hk, hs with
  | 0, _, _ => exact ⟨rfl, rfl⟩
  | 1, _, _ => exact ⟨rfl, rfl⟩
  | 2, hk, hs => exact ⟨by simp only [val101, hu 2 (fun e => hk e.symm)], by simp only [rows101, hu 2 (fun e => hk e.symm)]⟩
  | 3, _, _ => exact ⟨rfl, rfl⟩
  | 4, _, _ => exact ⟨rfl, rfl⟩
  | 5, hk, hs => exact ⟨by simp only [val101, hu 5 (fun e => hk e.symm)], by simp only [rows101, hu 5 (fun e => hk e.symm)]⟩
  | 6, _, _ => exact ⟨rfl, rfl⟩
  | 7, _, _ => exact ⟨rfl, rfl⟩
  | 8, hk, hs => exact ⟨by simp only [val101, hu 8 (fun e => hk e.symm)], by simp only [rows101, hu 8 (fun e => hk e.symm)]⟩
  | 9, _, _ => exact ⟨rfl, rfl⟩
  | 10, hk, hs => exact ⟨by simp only [val101, hu 2 (by rintro rfl; cases hs)], by simp only [rows101, hu 2 (by rintro rfl; cases hs)]⟩
  | 11, _, _ => exact ⟨rfl, rfl⟩
  | 12, hk, hs => exact ⟨by simp only [val101, hu 2 (by rintro rfl; cases hs), hu 5 (by rintro rfl; cases hs)], by simp only [rows101, hu 2 (by rintro rfl; cases hs), hu 5 (by rintro rfl; cases hs)]⟩
  | 13, _, _ => exact ⟨rfl, rfl⟩
  | 14, hk, hs => exact ⟨by simp only [val101, hu 2 (by rintro rfl; cases hs), hu 5 (by rintro rfl; cases hs), hu 8 (by rintro rfl; cases hs)], by simp only [rows101, hu 2 (by rintro rfl; cases hs), hu 5 (by rintro rfl; cases hs), hu 8 (by rintro rfl; cases hs)]⟩
  | 15, _, _ => exact ⟨rfl, rfl⟩
  | 16, _, _ => exact ⟨rfl, rfl⟩
  | _ + 17, _, _ => exact ⟨rfl, rfl⟩
set_option maxHeartbeats 2000000 in
theorem copied_spec (R : Rm) (d1 : Addr) (c1 : Nat) (d2 : Addr) (c2 : Nat) (d3 : Addr) (c3 : Nat) (H : List Row) (hR : RmOk H R ⟨some d1, c1, some d2, c2, some d3, c3⟩) (h1 : R.ages.length ≤ 1000000) (h2 : R.boxes.length ≤ 1000000) (h3 : R.mats.length ≤ 1000000) :
    Fc Try.prog 51 [.agg (cRm R ⟨some d1, c1, some d2, c2, some d3, c3⟩).toArray] H (fun v H' => ∃ b1 k1 b2 k2 b3 k3, v = .agg (cRm R ⟨some ⟨b1, 0, none⟩, k1, some ⟨b2, 0, none⟩, k2, some ⟨b3, 0, none⟩, k3⟩).toArray ∧
    H' = ⟨b1, 0, R.ages.flatMap cSp, some 57, k1 * 2⟩ :: ⟨b2, 0, R.boxes.flatMap cBx, some 59, k2 * 2⟩ :: ⟨b3, 0, R.mats.flatMap cMt, some 61, k3 * 6⟩ :: H) := by
  refine Fc.mk (callable Try.call51) Try.func51 rfl Try.ntmps51 rfl ?_; dsimp only [fr]
  refine X.seq rfl ?_; refine X.region rfl (fun K hK => ?_); repeat' (first | (refine XO.op rfl ?_; (first | ((first | refine Xo.ng rfl ?_); (first | (refine Xg.st (StF.boxAgg rfl rfl) rfl rfl ?_; rintro _ _ ⟨bx, rfl, rfl⟩) | (refine Xg.st (StF.alloc rfl Try.zeroValue26 rfl) rfl rfl ?_; rintro _ _ ⟨bx, rfl, rfl⟩))))) | (refine XO.done rfl ?_; refine hK _ _ ?_; clear hK K))
  rename_i b1
  rename Nat => b2
  refine X.seq rfl ?_
  refine X.regionRd ts101 rd101 [1, 2] [(1, .pointer (some ⟨b1, 0, none⟩)), (2, .pointer (some ⟨b2, 0, none⟩))] (val101 b1 R d1 c1 d2 c2 d3 c3) (rows101 b1 b2 R d1 c1 d2 c2 d3 c3) (fun _ => (0, 0)) H rfl mixed (by (repeat (first | exact Sub.nil _ | refine Sub.cons rfl ?_)); done) rfl (by kernel_rfl) (by kernel_rfl) (loc101 b1 b2 R d1 c1 d2 c2 d3 c3) (List.Sublist.refl _) ?_ ?_
  · repeat' (first | exact AllF.done rfl | (refine AllF.step rfl ?_ ?_; · (first | exact (Ob.ng rfl (ObK.pure (fun env R hR => by exact ⟨_, EvF.fieldAddr rfl rfl (te rfl) rfl (te rfl) (by decide), rfl⟩) rfl (fun _ => rfl))).toR | (refine ObR.ng rfl ?_; (first | (exact fun env S hS hrd => (StF.ofEv (EvF.loadV rfl rfl (LoadV.own (te rfl) rfl (hrd 16 (List.Mem.head _) _ (List.Mem.head _)) rfl))).op.mono (fun v H' ⟨hv, hH⟩ => ⟨(0, 0), fun _ => hv, by rw [hH]; exact List.Perm.refl _⟩)) | (exact fun env S hS hrd => (OpF.call (EnF.st rfl (by (repeat (first | exact Args.nil | refine Args.cons rfl ?_)); done)) (clone_specSp R.ages d1 c1 _ (hR.ages.sub (fun r hr => hS r hr)) h1)).mono (fun v H' ⟨b, k, hv, hH⟩ => ⟨(b, k), fun _ => hv, by rw [hH]; exact List.Perm.refl _⟩)) | (exact fun env S hS hrd => (OpF.call (EnF.st rfl (by (repeat (first | exact Args.nil | refine Args.cons rfl ?_)); done)) (clone_specBx R.boxes d2 c2 _ (hR.boxes.sub (fun r hr => hS r hr)) h2)).mono (fun v H' ⟨b, k, hv, hH⟩ => ⟨(b, k), fun _ => hv, by rw [hH]; exact List.Perm.refl _⟩)) | (exact fun env S hS hrd => (OpF.call (EnF.st rfl (by (repeat (first | exact Args.nil | refine Args.cons rfl ?_)); done)) (clone_specMt R.mats d3 c3 _ (hR.mats.sub (fun r hr => hS r hr)) h3)).mono (fun v H' ⟨b, k, hv, hH⟩ => ⟨(b, k), fun _ => hv, by rw [hH]; exact List.Perm.refl _⟩)) | (exact fun env S hS hrd => (StF.storeOne (i := 0) rfl rfl rfl rfl (te rfl) rfl rfl (Nat.le_of_ble_eq_true rfl)).op.mono (fun v H' ⟨hv, hH⟩ => ⟨(0, 0), fun h => absurd rfl h, by rw [hH]; exact List.Perm.refl _⟩)))))))
  · intro env t ha hv
    refine ⟨[(1, .pointer (some ⟨b1, 0, none⟩)), (2, .pointer (some ⟨b2, 0, none⟩))], ha, ?_⟩
    show X _ _ _ _ (⟨(env 2).1, 0, R.ages.flatMap cSp, some 57, (env 2).2 * 2⟩ :: ⟨(env 5).1, 0, R.boxes.flatMap cBx, some 59, (env 5).2 * 2⟩ :: ⟨(env 8).1, 0, R.mats.flatMap cMt, some 61, (env 8).2 * 6⟩ ::
      ⟨b1, 0, cRm R ⟨some ⟨(env 2).1, 0, none⟩, (env 2).2, some ⟨(env 5).1, 0, none⟩, (env 5).2, some ⟨(env 8).1, 0, none⟩, (env 8).2⟩, some 26, 5⟩ :: ⟨b2, 0, [.int .i64 0, .int .i64 0, .slice none 0 0, .slice none 0 0, .slice none 0 0], some 26, 5⟩ :: H) _
    repeat' (first | (refine XO.op rfl ?_; (first | ((first | refine Xo.ng rfl ?_); (first | (refine Xg.ev (EvF.loadV rfl rfl (LoadV.whole (te rfl) rfl (List.Mem.tail _ (List.Mem.tail _ (List.Mem.tail _ (List.Mem.head _)))) rfl)) rfl rfl ?_) | (refine Xg.st0 (StF.storeAll (i := 4) rfl rfl rfl (te rfl) rfl rfl rfl rfl) rfl ?_; rintro _ _ ⟨rfl, rfl⟩; dsimp only [List.set]))))) | (refine XO.done rfl ?_; refine hK _ _ ?_; clear hK K) | refine X.seq rfl ?_ | refine X.region rfl (fun K hK => ?_) | refine X.ret rfl ?_)
    exact ret_one (.inr rfl) Try.results51 ⟨_, rfl, LoadV.whole (te rfl) rfl (List.Mem.tail _ (List.Mem.tail _ (List.Mem.tail _ (List.Mem.tail _ (List.Mem.head _))))) rfl⟩ (H' := ⟨(env 2).1, 0, R.ages.flatMap cSp, some 57, (env 2).2 * 2⟩ :: ⟨(env 5).1, 0, R.boxes.flatMap cBx, some 59, (env 5).2 * 2⟩ :: ⟨(env 8).1, 0, R.mats.flatMap cMt, some 61, (env 8).2 * 6⟩ :: H)
      (List.Sublist.cons_cons _ (List.Sublist.cons_cons _ (List.Sublist.cons_cons _ (List.Sublist.cons _ (List.Sublist.cons _ (List.Sublist.refl _)))))) ⟨_, _, _, _, _, _, rfl, rfl⟩
end Go.Proofs.Ytminkpgacomicab
end
section
set_option linter.unusedVariables false
set_option linter.unusedSimpArgs false
namespace Go.Proofs.Ytminkpgacomicab
open Go Go.Fw
set_option maxRecDepth 10000
def ts135b : List TOp := [⟨some 46, [], [], []⟩, ⟨some 47, [], [], []⟩, ⟨some 48, [], [], []⟩, ⟨some 49, [1, 2], [1, 2], []⟩, ⟨some 50, [0, 1, 2, 3], [0, 3], []⟩, ⟨some 51, [], [], []⟩, ⟨some 52, [], [], []⟩, ⟨some 53, [5, 6], [5, 6], []⟩, ⟨some 54, [0, 1, 2, 3, 4, 5, 6, 7], [4, 7], [9]⟩, ⟨none, [], [], []⟩]
def ts135c : List TOp := [⟨some 69, [], [], []⟩, ⟨some 70, [], [], []⟩, ⟨some 71, [], [], []⟩, ⟨some 72, [1, 2], [1, 2], []⟩, ⟨some 73, [0, 1, 2, 3], [0, 3], []⟩, ⟨some 74, [], [], []⟩, ⟨some 75, [], [], []⟩, ⟨some 76, [5, 6], [5, 6], []⟩, ⟨some 77, [0, 1, 2, 3, 4, 5, 6, 7], [4, 7], [9]⟩, ⟨none, [], [], []⟩]
theorem locL (ts : List TOp) (vs : List Value) (m : Nat) (a b : Row) : ∀ k env i p, i ≠ k → (tAt ts k).sup.contains i = false → valL vs k (upd env i p) = valL vs k env ∧ rowsL m a b k (upd env i p) = rowsL m a b k env := fun _ _ _ _ _ _ => ⟨rfl, rfl⟩
set_option maxHeartbeats 4000000 in
theorem insert_specLk (l : List Lk) (x : Lk) (k b c bv : Nat) (H : List Row) (hk : k ≤ l.length) (hb : l.length ≤ 1000000) :
    Fc Try.prog 32 [.slice (some ⟨b, 0, none⟩) l.length c, .int .i64 (k : Nat), .slice (some ⟨bv, 0, none⟩) 1 1] (⟨bv, 0, cLk x, some 32, 1 * 6⟩ :: ⟨b, 0, l.flatMap cLk, some 32, c * 6⟩ :: H)
      (fun v H' => ∃ b' c', v = .slice (some ⟨b', 0, none⟩) (l.length + 1) c' ∧ H' = ⟨b', 0, (l.take k ++ [x] ++ l.drop k).flatMap cLk, some 32, c' * 6⟩ :: H) := by
  have hlen := lenLk l
  have hT : ((l.take k).flatMap cLk).length = k * 6 := by rw [lenLk, List.length_take]; omega
  have hD : ((l.drop k).flatMap cLk).length = (l.length - k) * 6 := by rw [lenLk, List.length_drop]
  have hTD : l.flatMap cLk = (l.take k).flatMap cLk ++ (l.drop k).flatMap cLk := by rw [← List.flatMap_append, List.take_append_drop]
  have hall : ((l.drop k).flatMap cLk).all (·.oneCell') = true := by
    rw [List.all_flatMap]
    exact List.all_eq_true.2 (fun e _ => one_lk e)
  refine Fc.mk (callable Try.call32) Try.func32 rfl Try.ntmps32 rfl ?_; dsimp only [fr]
  refine X.reveal (q := 1) rfl (fun rest hrest => ?_)
  refine X.forget (q := 1) (cs := l.flatMap cLk) (cs' := rest) rfl ?_
  dsimp only [List.set]
  have hlc : l.length ≤ c := by
    rw [List.length_append, hlen] at hrest
    omega
  clear hrest
  repeat' (first | (refine XO.op rfl ?_; (first | ((first | refine Xo.ng rfl ?_); (first | (refine Xg.ev (EvF.capSlice rfl rfl (te rfl)) rfl rfl ?_) | (refine Xg.ev (EvF.sliceTo (hh := k) rfl rfl (te rfl) (te rfl) rfl (by omega)) rfl rfl ?_) | (refine Xg.ev (EvF.sliceTo (hh := l.length + 1) rfl rfl (te rfl) (te rfl) rfl (by omega)) rfl rfl ?_) | (refine Xg.ev (EvF.sliceFromL (lo := k + 1) rfl rfl (te rfl) (te rfl) rfl (by omega) (by omega) (by omega)) rfl rfl ?_) | (refine Xg.ev (EvF.sliceFrom rfl rfl (te rfl) (te rfl) rfl hk hlc) rfl rfl ?_) | (refine Xg.st (StF.appendOwn (i := 1) rfl elLk rfl rfl rfl hlen rfl (Rd.own (List.Mem.head _)) rfl (by omega)) rfl rfl ?_; rintro _ _ ⟨bn, kn, rfl, rfl⟩; dsimp only [List.eraseIdx]) | (refine Xg.st (StF.apart (TR := 4) (p := 0) (q := 1) rfl Try.func52 (by kernel_rfl) (by kernel_rfl) (by kernel_rfl) (by kernel_rfl) elLk rfl rfl rfl rfl (by decide) (by omega)) rfl rfl ?_; rintro _ _ ⟨rfl, rfl⟩) | (refine Xg.ev (EvF.move rfl rfl) rfl rfl ?_) | (refine Xg.ev (EvF.assign rfl rfl) rfl rfl ?_) | (refine Xg.ev (EvF.cmp rfl rfl rfl rfl) rfl rfl ?_) | (refine Xg.ev (EvF.add64 rfl rfl rfl (by omega) (by omega)) rfl rfl ?_) | (refine Xg.ev (EvF.sub64 rfl rfl rfl (by omega) (by omega)) rfl rfl ?_) | (refine Xg.ev (EvF.not rfl rfl) rfl rfl ?_) | (refine Xg.ev (EvF.lenSlice rfl rfl (te rfl)) rfl rfl ?_))))) | (refine XO.done rfl ?_; refine hK _ _ ?_; clear hK K) | refine X.seq rfl ?_ | refine X.region rfl (fun K hK => ?_) | refine X.skip rfl ?_ | refine X.ret rfl ?_ | (refine X.ite rfl rfl (fun hc => ?_); (first | (with_reducible refine Xb.case hc (fun h => ?_) (fun h => ?_)) | (with_reducible refine Xb.caseB hc (fun h => ?_) (fun h => ?_))) <;> clear hc))
  · exfalso; omega
  · refine ret_one (by first | exact .inr rfl | exact .inl rfl) Try.results32 rfl (H' := ⟨bn, 0, l.flatMap cLk ++ cLk x, some 32, kn * 6⟩ :: H) (by (repeat (first | exact List.Sublist.refl _ | apply List.Sublist.cons_cons | apply List.Sublist.cons)); done) ⟨bn, kn, rfl, ?_⟩
    obtain rfl : k = l.length := by omega
    simp [List.flatMap_append]
  · refine XO.op rfl ?_
    refine Xo.ng rfl ?_
    refine Xg.st (StF.appendMake (xs := (l.take k).flatMap cLk) (k := k) (q := l.length + 1 - k) rfl elLk (te rfl) rfl (congrArg (fun z => some (Value.int .i64 z)) (by omega : ((l.length : Int) + ((1 : Nat) : Int) - (k : Int)) = ((l.length + 1 - k : Nat) : Int))) (Rd.piece (xs := []) (zs := (l.drop k).flatMap cLk) (by rw [List.nil_append, ← hTD]; exact List.Mem.tail _ (List.Mem.head _)) rfl) hT (by decide) (by omega) (by omega) (by omega)) rfl rfl ?_
    rintro _ _ ⟨bn, kn, zs, rfl, hz, hkn, rfl⟩
    rw [show k + (l.length + 1 - k) = l.length + 1 by omega] at hkn ⊢
    repeat' (first | (refine XO.op rfl ?_; (first | ((first | refine Xo.ng rfl ?_); (first | (refine Xg.ev (EvF.sliceFromL (lo := k) rfl rfl (te rfl) (te rfl) rfl (by omega) (by omega) (by omega)) rfl rfl ?_) | (refine Xg.st (StF.copyOwn (q := 0) (j := 0 + k * 6) (m := 1) rfl elLk rfl rfl rfl (Nat.min_eq_left (by omega)) rfl (Rd.own (List.Mem.tail _ (List.Mem.head _))) rfl (by rw [List.length_append, hT, hz]; show 0 + k * 6 + 6 ≤ _; omega)) rfl rfl ?_; rintro _ _ ⟨rfl, rfl⟩; dsimp only [List.set]) | (refine Xg.ev (EvF.move rfl rfl) rfl rfl ?_) | (refine Xg.ev (EvF.assign rfl rfl) rfl rfl ?_))))) | (refine XO.done rfl ?_; refine hK _ _ ?_; clear hK K) | refine X.seq rfl ?_ | refine X.region rfl (fun K hK => ?_))
    obtain ⟨z2, hz2, e1⟩ : ∃ z2 : List Value, z2.length = (l.length - k) * 6 ∧ splice ((l.take k).flatMap cLk ++ zs) (0 + k * 6) (cLk x) = (l.take k).flatMap cLk ++ cLk x ++ z2 := by
      refine ⟨zs.drop 6, by rw [List.length_drop, hz]; omega, ?_⟩
      have := splice_at (xs := (l.take k).flatMap cLk) (ys := zs.take 6) (zs := zs.drop 6) (vs := cLk x) (j := 0 + k * 6) (by omega) (by rw [List.length_take, hz]; show 6 = _; omega)
      rwa [List.append_assoc, List.take_append_drop] at this
    rw [e1]
    have e2 : splice ((l.take k).flatMap cLk ++ cLk x ++ z2) (0 + (k + 1) * 6) ((l.drop k).flatMap cLk) = (l.take k ++ [x] ++ l.drop k).flatMap cLk := by
      have := splice_at (xs := (l.take k).flatMap cLk ++ cLk x) (ys := z2) (zs := []) (vs := (l.drop k).flatMap cLk) (j := 0 + (k + 1) * 6) (by rw [List.length_append, hT]; show k * 6 + 6 = _; omega) (by rw [hD, hz2])
      rw [List.append_nil, List.append_nil] at this
      rw [this, List.flatMap_append, List.flatMap_append]
      simp
    refine X.regionOb ts135b [9, 1, 7, 0] [(9, .slice (some ⟨bn, 0, none⟩) (l.length + 1) kn), (1, .int .i64 k), (7, .int .i64 (1 : Nat)), (0, .slice (some ⟨b, 0, none⟩) l.length c)]
      (valL [.slice (some ⟨bn, 0, none⟩) (l.length + 1) kn, .int .i64 k, .int .i64 (1 : Nat), .int .i64 (k + 1 : Nat), .slice (some ⟨bn, 0 + (k + 1) * 6, none⟩) (l.length + 1 - (k + 1)) (kn - (k + 1)), .slice (some ⟨b, 0, none⟩) l.length c, .int .i64 k, .slice (some ⟨b, 0 + k * 6, none⟩) (l.length - k) (c - k), .int .i64 (l.length - k : Nat)])
      (rowsL 8 ⟨bn, 0, splice ((l.take k).flatMap cLk ++ cLk x ++ z2) (0 + (k + 1) * 6) ((l.drop k).flatMap cLk), some 32, kn * 6⟩ ⟨bn, 0, (l.take k).flatMap cLk ++ cLk x ++ z2, some 32, kn * 6⟩) (fun _ => (0, 0)) (⟨bv, 0, cLk x, some 32, 1 * 6⟩ :: ⟨b, 0, l.flatMap cLk, some 32, c * 6⟩ :: H) rfl mixed (by (repeat (first | exact Sub.nil _ | refine Sub.cons rfl ?_)); done) rfl (by kernel_rfl) (locL _ _ _ _ _) (List.Sublist.refl _) ?_ ?_
    · repeat' (first | exact AllF.done rfl | (refine AllF.step rfl ?_ ?_; · (first | fail | ((first | refine Ob.ng rfl ?_); (first | exact ObK.pure (fun env R hR => by exact ⟨_, EvF.move rfl rfl, rfl⟩) rfl (fun _ => rfl) | (exact ObK.pure (fun env S hS => ⟨_, EvF.add64 rfl rfl rfl (by omega) (by omega), rfl⟩) rfl (fun _ => rfl)) | (exact ObK.pure (fun env S hS => ⟨_, EvF.sliceFromL (lo := k + 1) rfl rfl (te rfl) (te rfl) rfl (by omega) (by omega) (by omega), rfl⟩) rfl (fun _ => rfl)) | (exact ObK.pure (fun env S hS => ⟨_, EvF.sliceFromL (lo := k) rfl rfl (te rfl) (te rfl) rfl (by omega) (by omega) (by omega), rfl⟩) rfl (fun _ => rfl)) | (exact fun env S hS => (StF.copyOwn (q := 0) (j := 0 + (k + 1) * 6) (m := l.length - k) (vs := (l.drop k).flatMap cLk) rfl elLk rfl rfl rfl ((Nat.min_eq_left (by omega)).trans (by omega)) hD (Rd.piece (xs := (l.take k).flatMap cLk) (zs := []) (by rw [List.append_nil, ← hTD]; exact List.Mem.tail _ (hS _ (List.Mem.tail _ (List.Mem.head _)))) hT) hall (by rw [List.length_append, List.length_append, hT, hz2, hD]; show _ ≤ k * 6 + 6 + _; omega)).op.mono (fun v H' ⟨hv, hH⟩ => ⟨(0, 0), fun _ => hv, by rw [hH]; exact List.Perm.refl _⟩)))))))
    · intro env t ha hv
      refine ⟨_, ha, ?_⟩
      show X _ _ _ _ (⟨bn, 0, splice ((l.take k).flatMap cLk ++ cLk x ++ z2) (0 + (k + 1) * 6) ((l.drop k).flatMap cLk), some 32, kn * 6⟩ :: ⟨bv, 0, cLk x, some 32, 1 * 6⟩ :: ⟨b, 0, l.flatMap cLk, some 32, c * 6⟩ :: H) _
      rw [e2]
      repeat' (first | (refine XO.op rfl ?_; (first | ((first | refine Xo.ng rfl ?_); (first | (refine Xg.ev (EvF.move rfl rfl) rfl rfl ?_) | (refine Xg.ev (EvF.assign rfl rfl) rfl rfl ?_))))) | (refine XO.done rfl ?_; refine hK _ _ ?_; clear hK K) | refine X.seq rfl ?_ | refine X.region rfl (fun K hK => ?_) | refine X.ret rfl ?_)
      exact ret_one (by first | exact .inr rfl | exact .inl rfl) Try.results32 rfl (H' := ⟨bn, 0, (l.take k ++ [x] ++ l.drop k).flatMap cLk, some 32, kn * 6⟩ :: H) (by (repeat (first | exact List.Sublist.refl _ | apply List.Sublist.cons_cons | apply List.Sublist.cons)); done) ⟨bn, kn, rfl, rfl⟩
  · refine X.reveal (q := 1) rfl (fun rst hrst => ?_)
    dsimp only [List.set]
    have hkl : k < l.length := by omega
    have hroom : l.length + 1 ≤ c := by omega
    have hrl : rst.length = (c - l.length) * 6 := by
      rw [List.length_append, hlen] at hrst
      omega
    rw [hTD]
    obtain ⟨d1, d2, r2, hd1, hd2, hdr⟩ : ∃ d1 d2 r2 : List Value, d1.length = 6 ∧ d2.length = (l.length - k) * 6 ∧ (l.drop k).flatMap cLk ++ rst = d1 ++ d2 ++ r2 := by
      refine ⟨((l.drop k).flatMap cLk ++ rst).take 6, (((l.drop k).flatMap cLk ++ rst).drop 6).take ((l.length - k) * 6), (((l.drop k).flatMap cLk ++ rst).drop 6).drop ((l.length - k) * 6), ?_, ?_, ?_⟩
      · rw [List.length_take, List.length_append, hD, hrl]; omega
      · rw [List.length_take, List.length_drop, List.length_append, hD, hrl]; omega
      · rw [List.append_assoc, List.take_append_drop, List.take_append_drop]
    have e1 : splice ((l.take k).flatMap cLk ++ (l.drop k).flatMap cLk ++ rst) (0 + (k + 1) * 6) ((l.drop k).flatMap cLk) = (l.take k).flatMap cLk ++ d1 ++ ((l.drop k).flatMap cLk ++ r2) := by
      have := splice_at (xs := (l.take k).flatMap cLk ++ d1) (ys := d2) (zs := r2) (vs := (l.drop k).flatMap cLk) (j := 0 + (k + 1) * 6) (by rw [List.length_append, hT, hd1]; omega) (by rw [hD, hd2])
      rw [List.append_assoc ((l.take k).flatMap cLk), hdr]
      rw [← List.append_assoc, ← List.append_assoc, this, List.append_assoc]
    have e2 : splice ((l.take k).flatMap cLk ++ d1 ++ ((l.drop k).flatMap cLk ++ r2)) (0 + k * 6) (cLk x) = (l.take k ++ [x] ++ l.drop k).flatMap cLk ++ r2 := by
      rw [splice_at (by rw [hT]; omega) (by rw [hd1]; rfl), List.flatMap_append, List.flatMap_append]
      simp
    refine X.permH (List.Perm.swap _ _ _) ?_
    refine X.regionOb ts135c [0, 1, 7, 2] [(0, .slice (some ⟨b, 0, none⟩) (l.length + 1) c), (1, .int .i64 k), (7, .int .i64 (1 : Nat)), (2, .slice (some ⟨bv, 0, none⟩) 1 1)]
      (valL [.slice (some ⟨b, 0, none⟩) (l.length + 1) c, .int .i64 k, .int .i64 (1 : Nat), .int .i64 (k + 1 : Nat), .slice (some ⟨b, 0 + (k + 1) * 6, none⟩) (l.length + 1 - (k + 1)) (c - (k + 1)), .slice (some ⟨b, 0, none⟩) (l.length + 1) c, .int .i64 k, .slice (some ⟨b, 0 + k * 6, none⟩) (l.length + 1 - k) (c - k), .int .i64 (l.length - k : Nat)])
      (rowsL 8 ⟨b, 0, splice ((l.take k).flatMap cLk ++ (l.drop k).flatMap cLk ++ rst) (0 + (k + 1) * 6) ((l.drop k).flatMap cLk), some 32, c * 6⟩ ⟨b, 0, (l.take k).flatMap cLk ++ (l.drop k).flatMap cLk ++ rst, some 32, c * 6⟩) (fun _ => (0, 0)) (⟨bv, 0, cLk x, some 32, 1 * 6⟩ :: H) rfl mixed (by (repeat (first | exact Sub.nil _ | refine Sub.cons rfl ?_)); done) rfl (by kernel_rfl) (locL _ _ _ _ _) (List.Sublist.refl _) ?_ ?_
    · repeat' (first | exact AllF.done rfl | (refine AllF.step rfl ?_ ?_; · (first | fail | ((first | refine Ob.ng rfl ?_); (first | exact ObK.pure (fun env R hR => by exact ⟨_, EvF.move rfl rfl, rfl⟩) rfl (fun _ => rfl) | (exact ObK.pure (fun env S hS => ⟨_, EvF.add64 rfl rfl rfl (by omega) (by omega), rfl⟩) rfl (fun _ => rfl)) | (exact ObK.pure (fun env S hS => ⟨_, EvF.sliceFromL (lo := k + 1) rfl rfl (te rfl) (te rfl) rfl (by omega) (by omega) (by omega), rfl⟩) rfl (fun _ => rfl)) | (exact ObK.pure (fun env S hS => ⟨_, EvF.sliceFromL (lo := k) rfl rfl (te rfl) (te rfl) rfl (by omega) (by omega) (by omega), rfl⟩) rfl (fun _ => rfl)) | (exact fun env S hS => (StF.copyOwn (q := 0) (j := 0 + (k + 1) * 6) (m := l.length - k) (vs := (l.drop k).flatMap cLk) rfl elLk rfl rfl rfl ((Nat.min_eq_right (by omega)).trans (by omega)) hD (Rd.piece (xs := (l.take k).flatMap cLk) (zs := rst) (List.Mem.head _) hT) hall (by rw [List.length_append, List.length_append, hT, hrl, hD]; omega)).op.mono (fun v H' ⟨hv, hH⟩ => ⟨(0, 0), fun _ => hv, by rw [hH]; exact List.Perm.refl _⟩)))))))
    · intro env t ha hv
      refine ⟨_, ha, ?_⟩
      show X _ _ _ _ (⟨b, 0, splice ((l.take k).flatMap cLk ++ (l.drop k).flatMap cLk ++ rst) (0 + (k + 1) * 6) ((l.drop k).flatMap cLk), some 32, c * 6⟩ :: ⟨bv, 0, cLk x, some 32, 1 * 6⟩ :: H) _
      rw [e1]
      refine X.seq rfl ?_; refine X.region rfl (fun K hK => ?_); repeat' (first | (refine XO.op rfl ?_; (first | ((first | refine Xo.ng rfl ?_); (first | (refine Xg.ev (EvF.sliceFromL (lo := k) rfl rfl (te rfl) (te rfl) rfl (by omega) (by omega) (by omega)) rfl rfl ?_) | (refine Xg.st (StF.copyOwn (q := 0) (j := 0 + k * 6) (m := 1) rfl elLk rfl rfl rfl (Nat.min_eq_left (by omega)) rfl (Rd.own (List.Mem.tail _ (List.Mem.head _))) rfl (by rw [List.length_append, List.length_append, hT, hd1]; show 0 + k * 6 + 6 ≤ _; omega)) rfl rfl ?_; rintro _ _ ⟨rfl, rfl⟩; dsimp only [List.set]) | (refine Xg.ev (EvF.move rfl rfl) rfl rfl ?_))))) | (refine XO.done rfl ?_; refine hK _ _ ?_; clear hK K))
      rw [e2]
      refine X.forget (q := 0) rfl ?_
      dsimp only [List.set]
      repeat' (first | (refine XO.op rfl ?_; (first | ((first | refine Xo.ng rfl ?_); (first | (refine Xg.ev (EvF.move rfl rfl) rfl rfl ?_) | (refine Xg.ev (EvF.assign rfl rfl) rfl rfl ?_))))) | (refine XO.done rfl ?_; refine hK _ _ ?_; clear hK K) | refine X.seq rfl ?_ | refine X.region rfl (fun K hK => ?_) | refine X.ret rfl ?_)
      exact ret_one (by first | exact .inr rfl | exact .inl rfl) Try.results32 rfl (H' := ⟨b, 0, (l.take k ++ [x] ++ l.drop k).flatMap cLk, some 32, c * 6⟩ :: H) (by (repeat (first | exact List.Sublist.refl _ | apply List.Sublist.cons_cons | apply List.Sublist.cons)); done) ⟨b, c, rfl, rfl⟩
  · rename_i h _
    cases h
end Go.Proofs.Ytminkpgacomicab
end
section
set_option linter.unusedVariables false
set_option linter.unusedSimpArgs false
namespace Go.Proofs.Ytminkpgacomicab
open Go Go.Fw
set_option maxRecDepth 10000
def ts102 : List TOp := [⟨some 15, [], [], []⟩, ⟨some 16, [0], [0], []⟩, ⟨some 17, [], [], []⟩, ⟨some 18, [], [], []⟩, ⟨some 19, [3], [3], []⟩, ⟨some 20, [0, 1, 2, 3, 4], [1, 2, 4], [4, 1]⟩, ⟨some 6, [0, 1, 2, 3, 4, 5], [5], []⟩]
def val102Mt (l : List Mt) (x : Mt) (k0 : Nat) (ad : Addr) (c : Nat) (k : Nat) (env : Env) : Value :=
  match k with
  | 0 => .slice (some ad) l.length c
  | 1 => .slice (some ⟨(env 1).1, 0, none⟩) l.length (env 1).2
  | 2 => .int .i64 k0
  | 3 => .agg (cMt x).toArray
  | 4 => .slice (some ⟨(env 4).1, 0, none⟩) 1 1
  | 5 => .slice (some ⟨(env 5).1, 0, none⟩) (l.length + 1) (env 5).2
  | 6 => .slice (some ⟨(env 5).1, 0, none⟩) (l.length + 1) (env 5).2
  | _ => undef
def rows102Mt (l : List Mt) (x : Mt) (k0 : Nat) (k : Nat) (env : Env) : List Row :=
  match k with
  | 1 => [⟨(env 1).1, 0, l.flatMap cMt, some 61, (env 1).2 * 6⟩]
  | 4 => [⟨(env 4).1, 0, cMt x, some 61, 1 * 6⟩]
  | 5 => [⟨(env 5).1, 0, (l.take k0 ++ [x] ++ l.drop k0).flatMap cMt, some 61, (env 5).2 * 6⟩]
  | _ => []
def insLk (x : Lk) : List Lk → List Lk
  | [] => [x]
  | m :: t => if m.number < x.number then m :: insLk x t else x :: m :: t
theorem insLk_at (x : Lk) : ∀ (l : List Lk) (k : Nat), k ≤ l.length → (∀ i e, i < k → l[i]? = some e → e.number < x.number) → (∀ e, l[k]? = some e → ¬ e.number < x.number) → insLk x l = l.take k ++ [x] ++ l.drop k
  | [], k, hk, _, _ => by simp [insLk]
  | m :: t, 0, _, _, h => by
    have := h m rfl
    simp [insLk, this]
  | m :: t, k + 1, hk, h1, h2 => by
    have h3 := h1 0 m (by omega) rfl
    have := insLk_at x t k (by simpa using hk) (fun i e hi he => h1 (i + 1) e (by omega) (by simpa using he)) (fun e he => h2 e (by simpa using he))
    simp [insLk, h3, this]
theorem insLk_len (x : Lk) : ∀ l, (insLk x l).length = l.length + 1
  | [] => rfl
  | m :: t => by
    have := insLk_len x t
    simp only [insLk]
    split <;> simp [this]
def val102Lk (l : List Lk) (x : Lk) (k0 : Nat) (ad : Addr) (c : Nat) (k : Nat) (env : Env) : Value :=
  match k with
  | 0 => .slice (some ad) l.length c
  | 1 => .slice (some ⟨(env 1).1, 0, none⟩) l.length (env 1).2
  | 2 => .int .i64 k0
  | 3 => .agg (cLk x).toArray
  | 4 => .slice (some ⟨(env 4).1, 0, none⟩) 1 1
  | 5 => .slice (some ⟨(env 5).1, 0, none⟩) (l.length + 1) (env 5).2
  | 6 => .slice (some ⟨(env 5).1, 0, none⟩) (l.length + 1) (env 5).2
  | _ => undef
def rows102Lk (l : List Lk) (x : Lk) (k0 : Nat) (k : Nat) (env : Env) : List Row :=
  match k with
  | 1 => [⟨(env 1).1, 0, l.flatMap cLk, some 32, (env 1).2 * 6⟩]
  | 4 => [⟨(env 4).1, 0, cLk x, some 32, 1 * 6⟩]
  | 5 => [⟨(env 5).1, 0, (l.take k0 ++ [x] ++ l.drop k0).flatMap cLk, some 32, (env 5).2 * 6⟩]
  | _ => []
theorem loc102Lk (l : List Lk) (x : Lk) (k0 : Nat) (ad : Addr) (c : Nat) : ∀ k env i q9, i ≠ k → (tAt ts102 k).sup.contains i = false → val102Lk l x k0 ad c k (upd env i q9) = val102Lk l x k0 ad c k env ∧ rows102Lk l x k0 k (upd env i q9) = rows102Lk l x k0 k env := by
  intro k env i q hk hs
  have hu : ∀ j, j ≠ i → upd env i q j = env j := fun j hj => by unfold upd; rw [if_neg hj]
  match k, hk, hs with
  | 0, _, _ => exact ⟨rfl, rfl⟩
  | 1, hk, hs => exact ⟨by simp only [val102Lk, hu 1 (fun e => hk e.symm)], by simp only [rows102Lk, hu 1 (fun e => hk e.symm)]⟩
  | 2, _, _ => exact ⟨rfl, rfl⟩
  | 3, _, _ => exact ⟨rfl, rfl⟩
  | 4, hk, hs => exact ⟨by simp only [val102Lk, hu 4 (fun e => hk e.symm)], by simp only [rows102Lk, hu 4 (fun e => hk e.symm)]⟩
  | 5, hk, hs => exact ⟨by simp only [val102Lk, hu 5 (fun e => hk e.symm)], by simp only [rows102Lk, hu 5 (fun e => hk e.symm)]⟩
  | 6, hk, hs => exact ⟨by simp only [val102Lk, hu 5 (by rintro rfl; cases hs)], by simp only [rows102Lk, hu 5 (by rintro rfl; cases hs)]⟩
  | _ + 7, _, _ => exact ⟨rfl, rfl⟩
set_option maxHeartbeats 4000000 in
theorem put_specLk (l : List Lk) (x : Lk) (ad : Addr) (c : Nat) (H : List Row) (hl : SlE H (some ad) cLk 6 l) (hb : l.length ≤ 1000000) :
    Fc Try.prog 17 [.slice (some ad) l.length c, .agg (cLk x).toArray, .func (.func 18) #[] #[]] H (fun v H' => ∃ b k, v = .slice (some ⟨b, 0, none⟩) (insLk x l).length k ∧ H' = ⟨b, 0, (insLk x l).flatMap cLk, some 32, k * 6⟩ :: H) := by
  have hl2 : ∀ r1 r2, SlE (r1 :: r2 :: H) (some ad) cLk 6 l := fun r1 r2 => hl.sub (fun _ h => List.Mem.tail _ (List.Mem.tail _ h))
  refine Fc.mk (callable Try.call17) Try.func17 rfl Try.ntmps17 rfl ?_; dsimp only [fr]
  refine X.seq rfl ?_; refine X.region rfl (fun K hK => ?_); repeat' (first | (refine XO.op rfl ?_; (first | ((first | refine Xo.ng rfl ?_); (first | (refine Xg.ev (EvF.assign rfl rfl) rfl rfl ?_) | (refine Xg.st (StF.boxAgg rfl rfl) rfl rfl ?_; rintro _ _ ⟨bx, rfl, rfl⟩) | (refine Xg.st (StF.boxOne rfl rfl rfl) rfl rfl ?_; rintro _ _ ⟨bx, rfl, rfl⟩))))) | (refine XO.done rfl ?_; refine hK _ _ ?_; clear hK K))
  rename_i b4
  rename Nat => b5
  repeat' (first | (refine XO.op rfl ?_; (first | ((first | refine Xo.ng rfl ?_); (first | (refine Xg.ev (EvF.makeFunc (fl := []) rfl Args.nil (Args.cons rfl (Args.cons rfl Args.nil))) rfl rfl ?_) | (refine Xg.call (EnF.st rfl (by (repeat (first | exact Args.nil | refine Args.cons rfl ?_)); done)) rfl rfl (indexFunc_specLk l _ _ 31 (fun y => decide (y.number ≥ x.number)) _ _ (hl2 _ _) (by omega) (fun y _ => put1_specLk y x _ _ _ _ _ _ _ (List.Mem.head _) (List.Mem.tail _ (List.Mem.head _)))) ?_; rintro _ H9 ⟨⟨z, rfl, hz⟩, hH9⟩; subst H9; rcases hz with ⟨rfl, hz⟩ | ⟨k, e, rfl, he, hp, hz⟩) | (refine Xg.ev (EvF.move rfl rfl) rfl rfl ?_) | (refine Xg.ev (EvF.assign rfl rfl) rfl rfl ?_) | (refine Xg.ev (EvF.cmp rfl rfl rfl rfl) rfl rfl ?_) | (refine Xg.ev (EvF.lenSlice rfl rfl (te rfl)) rfl rfl ?_))))) | (refine XO.done rfl ?_; refine hK _ _ ?_; clear hK K) | refine X.seq rfl ?_ | refine X.region rfl (fun K hK => ?_) | refine X.skip rfl ?_ | (refine X.ite rfl rfl (fun hc => ?_); (first | (with_reducible refine Xb.case hc (fun h => ?_) (fun h => ?_))) <;> clear hc))
  any_goals (exfalso; omega)
  · have hk : l.length ≤ l.length := Nat.le_refl _
    have hins := insLk_at x l l.length hk (fun i e _ he => by have := of_decide_eq_false (hz e (List.mem_of_getElem? he)); omega) (fun e he => by rw [List.getElem?_eq_none (Nat.le_refl _)] at he; cases he)
    refine X.regionOb ts102 [0, 7, 4] [(0, .slice (some ad) l.length c), (7, .int .i64 (l.length : Nat)), (4, .pointer (some ⟨b4, 0, none⟩))] (val102Lk l x l.length ad c) (rows102Lk l x l.length) (fun _ => (0, 0)) (⟨b5, 0, [.func (.func 18) #[] #[]], some 51, 1⟩ :: ⟨b4, 0, cLk x, some 32, 6⟩ :: H) rfl mixed (by (repeat (first | exact Sub.nil _ | refine Sub.cons rfl ?_)); done) rfl (by kernel_rfl) (loc102Lk l x l.length ad c) (List.Sublist.refl _) ?_ ?_
    · repeat' (first | exact AllF.done rfl | (refine AllF.step rfl ?_ ?_; · (first | fail | ((first | refine Ob.ng rfl ?_); (first | exact ObK.pure (fun env R hR => by exact ⟨_, EvF.move rfl rfl, rfl⟩) rfl (fun _ => rfl) | exact ObK.pure (fun env R hR => by exact ⟨_, EvF.assign rfl rfl, rfl⟩) rfl (fun _ => rfl) | exact ObK.pure (fun env R hR => by exact ⟨_, EvF.loadV rfl rfl (LoadV.whole (te rfl) rfl (hR _ (List.Mem.tail _ (List.Mem.head _))) rfl), rfl⟩) rfl (fun _ => rfl) | (exact fun env S hS => (OpF.call (EnF.st rfl (by (repeat (first | exact Args.nil | refine Args.cons rfl ?_)); done)) (clone_specLk l ad c _ (hl.sub (fun r hr => hS _ (List.Mem.tail _ (List.Mem.tail _ hr)))) hb)).mono (fun v H' ⟨b, k, hv, hH⟩ => ⟨(b, k), fun _ => hv, by rw [hH]; exact List.Perm.refl _⟩)) | (exact fun env S hS => (StF.buildOne rfl elLk rfl rfl rfl (by decide) (by decide)).op.mono (fun v H' ⟨b, hv, hH⟩ => ⟨(b, 0), fun _ => hv, by rw [hH]; exact List.Perm.refl _⟩)) | (exact fun env S hS => (OpF.call (EnF.st rfl (by (repeat (first | exact Args.nil | refine Args.cons rfl ?_)); done)) (insert_specLk l x l.length _ _ _ S hk hb)).mono (fun v H' ⟨b, k, hv, hH⟩ => ⟨(b, k), fun _ => hv, by rw [hH]; exact List.Perm.refl _⟩)))))))
    · intro env t ha hv
      refine ⟨[(6, .slice (some ⟨(env 5).1, 0, none⟩) (l.length + 1) (env 5).2)], (ha.sub (Sub.nil _)).cons (hv 6 6 (Nat.le_of_ble_eq_true rfl) rfl), ?_⟩
      show X _ _ _ _ (⟨(env 5).1, 0, (l.take l.length ++ [x] ++ l.drop l.length).flatMap cLk, some 32, (env 5).2 * 6⟩ :: ⟨b5, 0, [.func (.func 18) #[] #[]], some 51, 1⟩ :: ⟨b4, 0, cLk x, some 32, 6⟩ :: H) _
      repeat' (first | refine X.ret rfl ?_)
      refine ret_one (by first | exact .inr rfl | exact .inl rfl) Try.results17 rfl (H' := ⟨(env 5).1, 0, (l.take l.length ++ [x] ++ l.drop l.length).flatMap cLk, some 32, (env 5).2 * 6⟩ :: H) (by (repeat (first | exact List.Sublist.refl _ | apply List.Sublist.cons_cons | apply List.Sublist.cons)); done) ⟨_, _, by rw [insLk_len], ?_⟩
      rw [hins]
  · have hk : k ≤ l.length := Nat.le_of_lt (List.getElem?_eq_some_iff.1 he).1
    have hins := insLk_at x l k hk (fun i e hi he => by have := of_decide_eq_false (hz i e hi he); omega) (fun e' he' => by rw [he] at he'; cases he'; have := of_decide_eq_true hp; omega)
    refine X.regionOb ts102 [0, 7, 4] [(0, .slice (some ad) l.length c), (7, .int .i64 (k : Nat)), (4, .pointer (some ⟨b4, 0, none⟩))] (val102Lk l x k ad c) (rows102Lk l x k) (fun _ => (0, 0)) (⟨b5, 0, [.func (.func 18) #[] #[]], some 51, 1⟩ :: ⟨b4, 0, cLk x, some 32, 6⟩ :: H) rfl mixed (by (repeat (first | exact Sub.nil _ | refine Sub.cons rfl ?_)); done) rfl (by kernel_rfl) (loc102Lk l x k ad c) (List.Sublist.refl _) ?_ ?_
    · repeat' (first | exact AllF.done rfl | (refine AllF.step rfl ?_ ?_; · (first | fail | ((first | refine Ob.ng rfl ?_); (first | exact ObK.pure (fun env R hR => by exact ⟨_, EvF.move rfl rfl, rfl⟩) rfl (fun _ => rfl) | exact ObK.pure (fun env R hR => by exact ⟨_, EvF.assign rfl rfl, rfl⟩) rfl (fun _ => rfl) | exact ObK.pure (fun env R hR => by exact ⟨_, EvF.loadV rfl rfl (LoadV.whole (te rfl) rfl (hR _ (List.Mem.tail _ (List.Mem.head _))) rfl), rfl⟩) rfl (fun _ => rfl) | (exact fun env S hS => (OpF.call (EnF.st rfl (by (repeat (first | exact Args.nil | refine Args.cons rfl ?_)); done)) (clone_specLk l ad c _ (hl.sub (fun r hr => hS _ (List.Mem.tail _ (List.Mem.tail _ hr)))) hb)).mono (fun v H' ⟨b, k, hv, hH⟩ => ⟨(b, k), fun _ => hv, by rw [hH]; exact List.Perm.refl _⟩)) | (exact fun env S hS => (StF.buildOne rfl elLk rfl rfl rfl (by decide) (by decide)).op.mono (fun v H' ⟨b, hv, hH⟩ => ⟨(b, 0), fun _ => hv, by rw [hH]; exact List.Perm.refl _⟩)) | (exact fun env S hS => (OpF.call (EnF.st rfl (by (repeat (first | exact Args.nil | refine Args.cons rfl ?_)); done)) (insert_specLk l x k _ _ _ S hk hb)).mono (fun v H' ⟨b, k, hv, hH⟩ => ⟨(b, k), fun _ => hv, by rw [hH]; exact List.Perm.refl _⟩)))))))
    · intro env t ha hv
      refine ⟨[(6, .slice (some ⟨(env 5).1, 0, none⟩) (l.length + 1) (env 5).2)], (ha.sub (Sub.nil _)).cons (hv 6 6 (Nat.le_of_ble_eq_true rfl) rfl), ?_⟩
      show X _ _ _ _ (⟨(env 5).1, 0, (l.take k ++ [x] ++ l.drop k).flatMap cLk, some 32, (env 5).2 * 6⟩ :: ⟨b5, 0, [.func (.func 18) #[] #[]], some 51, 1⟩ :: ⟨b4, 0, cLk x, some 32, 6⟩ :: H) _
      repeat' (first | refine X.ret rfl ?_)
      refine ret_one (by first | exact .inr rfl | exact .inl rfl) Try.results17 rfl (H' := ⟨(env 5).1, 0, (l.take k ++ [x] ++ l.drop k).flatMap cLk, some 32, (env 5).2 * 6⟩ :: H) (by (repeat (first | exact List.Sublist.refl _ | apply List.Sublist.cons_cons | apply List.Sublist.cons)); done) ⟨_, _, by rw [insLk_len], ?_⟩
      rw [hins]
end Go.Proofs.Ytminkpgacomicab
end
section
set_option linter.unusedVariables false
set_option linter.unusedSimpArgs false
namespace Go.Proofs.Ytminkpgacomicab
open Go Go.Fw
set_option maxRecDepth 10000
theorem filter_snoc_tMt {p : Mt → Bool} {l : List Mt} {j : Nat} {e : Mt} (he : l[j]? = some e) (hp : p e = true) : (l.take (j + 1)).filter (fun e => !p e) = (l.take j).filter (fun e => !p e) := by
  rw [take_snoc he, List.filter_append]; simp [hp]
theorem filter_snoc_fMt {p : Mt → Bool} {l : List Mt} {j : Nat} {e : Mt} (he : l[j]? = some e) (hp : p e = false) : (l.take (j + 1)).filter (fun e => !p e) = (l.take j).filter (fun e => !p e) ++ [e] := by
  rw [take_snoc he, List.filter_append]; simp [hp]
theorem honeMt (z : Value) (w : World) (h : (zeroValue 61).run Try.prog w = .ok z w) : z.cells.all (·.oneCell') = true := by
  rw [Try.zeroValue61] at h
  cases h
  first | decide | simp [Value.cells, Value.oneCell'] | kernel_rfl
set_option maxHeartbeats 4000000 in
theorem deleteFunc_specMt (l : List Mt) (b c g : Nat) (p : Mt → Bool) (cap : List Value) (H : List Row) (hb : l.length ≤ 1000000) (hf : ∀ Z, ∀ e ∈ l, Fc Try.prog g ([.agg (cMt e).toArray] ++ cap) (Z ++ H) (fun v H' => v = .bool (p e) ∧ H' = Z ++ H)) :
    Fc Try.prog 69 [.slice (some ⟨b, 0, none⟩) l.length c, .func (.func g) #[] cap.toArray] (⟨b, 0, l.flatMap cMt, some 61, c * 6⟩ :: H)
      (fun v H' => v = .slice (some ⟨b, 0, none⟩) (l.filter (fun e => !p e)).length c ∧ H' = ⟨b, 0, (l.filter (fun e => !p e)).flatMap cMt, some 61, c * 6⟩ :: H) := by
  have hlen := lenMt l
  refine Fc.mk (callable Try.call69) Try.func69 rfl Try.ntmps69 rfl ?_; dsimp only [fr]
  refine X.reveal (q := 0) rfl (fun rest hrest => ?_)
  refine X.forget (q := 0) (cs := l.flatMap cMt) (cs' := rest) rfl ?_
  dsimp only [List.set]
  have hlc : l.length ≤ c := by
    rw [List.length_append, hlen] at hrest
    omega
  clear hrest
  repeat' (first | (refine XO.op rfl ?_; (first | ((first | refine Xo.ng rfl ?_); (first | (refine Xg.call (EnF.st rfl (by (repeat (first | exact Args.nil | refine Args.cons rfl ?_)); done)) rfl rfl (indexFunc_specMt l _ _ g p cap _ (SlE.ofRow (List.Mem.head _) (fun _ _ => rfl)) (by omega) (fun e he => hf [_] e he)) ?_; rintro _ H9 ⟨⟨z, rfl, hz⟩, hH9⟩; subst H9; rcases hz with ⟨rfl, hz⟩ | ⟨k, e0, rfl, he0, hp0, hz⟩; rotate_left; have hk0 := (List.getElem?_eq_some_iff.1 he0).1; rotate_right) | (refine Xg.ev (EvF.move rfl rfl) rfl rfl ?_) | (refine Xg.ev (EvF.assign rfl rfl) rfl rfl ?_) | (refine Xg.ev (EvF.cmp rfl rfl rfl rfl) rfl rfl ?_) | (refine Xg.ev (EvF.add64 rfl rfl rfl (by omega) (by omega)) rfl rfl ?_))))) | (refine XO.done rfl ?_; refine hK _ _ ?_; clear hK K) | refine X.seq rfl ?_ | refine X.region rfl (fun K hK => ?_) | refine X.block rfl ?_ | refine X.skip rfl ?_ | refine X.ret rfl ?_ | (refine X.ite rfl rfl (fun hc => ?_); (first | (with_reducible refine Xb.case hc (fun h => ?_) (fun h => ?_))) <;> clear hc))
  any_goals (exfalso; omega)
  · have e1 : l.filter (fun e => !p e) = l := List.filter_eq_self.2 (fun e he => by simp [hz e he])
    refine ret_one (by first | exact .inr rfl | exact .inl rfl) Try.results69 rfl (H' := ⟨b, 0, l.flatMap cMt, some 61, c * 6⟩ :: H) (List.Sublist.refl _) ?_
    rw [e1]
    exact ⟨rfl, rfl⟩
  have e1 : (l.take k).filter (fun e => !p e) = l.take k := List.filter_eq_self.2 (fun e he => by
    obtain ⟨i, hi⟩ := List.getElem?_of_mem he
    rw [List.getElem?_take] at hi
    split at hi
    · simp [hz i e (by assumption) hi]
    · cases hi)
  refine X.lp rfl (fun q F' H' => ∃ (i j : Nat) (M : List Value), q = l.length - j ∧ j ≤ l.length ∧ i < j ∧ i = ((l.take j).filter (fun e => !p e)).length ∧ M.length = (j - i) * 6 ∧
      ⟨b, 0, ((l.take j).filter (fun e => !p e)).flatMap cMt ++ M ++ (l.drop j).flatMap cMt, some 61, c * 6⟩ :: H = H' ∧
      F' = [(0, .slice (some ⟨b, 0, none⟩) l.length c), (1, .func (.func g) #[] cap.toArray), (5, .int .i64 i), (6, .int .i64 j)])
    (l.length - (k + 1)) [(0, .slice (some ⟨b, 0, none⟩) l.length c), (1, .func (.func g) #[] cap.toArray), (5, .int .i64 k), (6, .int .i64 (k + 1 : Nat))] _ (by (repeat (first | exact Sub.nil _ | refine Sub.cons rfl ?_)); done) (List.Sublist.refl _) ⟨k, k + 1, cMt e0, rfl, by omega, by omega, ?_, ?_, ?_, rfl⟩ ?_
  · rw [filter_snoc_tMt he0 hp0, e1, List.length_take]; omega
  · show 6 = _; omega
  · rw [filter_snoc_tMt he0 hp0, e1]
    congr 2
    rw [show l.flatMap cMt = (l.take k ++ l.drop k).flatMap cMt by rw [List.take_append_drop], drop_cons he0, List.flatMap_append, List.flatMap_cons, List.append_assoc]
  rintro _ _ H2 ⟨i, j, M, rfl, hj, hij, hi, hM, hH, rfl⟩
  subst hH
  have hF : (((l.take j).filter (fun e => !p e)).flatMap cMt).length = i * 6 := by rw [lenMt, ← hi]
  repeat' (first | (refine XO.op rfl ?_; (first | ((first | refine Xo.ng rfl ?_); (first | (refine Xg.ev (EvF.move rfl rfl) rfl rfl ?_) | (refine Xg.ev (EvF.cmp rfl rfl rfl rfl) rfl rfl ?_) | (refine Xg.ev (EvF.lenSlice rfl rfl (te rfl)) rfl rfl ?_) | (refine Xg.ev (EvF.indexSlice rfl rfl rfl (te rfl) (te rfl) (by omega) (by omega)) rfl rfl ?_))))) | (refine XO.done rfl ?_; refine hK _ _ ?_; clear hK K) | refine X.seq rfl ?_ | refine X.region rfl (fun K hK => ?_) | refine X.block rfl ?_ | (refine X.brk rfl ?_; repeat (first | refine blockX_hit rfl ?_ | refine blockX_miss (by decide) ?_)) | refine X.skip rfl ?_ | (refine X.ite rfl rfl (fun hc => ?_); (first | (with_reducible refine Xb.case hc (fun h => ?_) (fun h => ?_))) <;> clear hc))
  · have hjl : j < l.length := by omega
    obtain ⟨e, he⟩ : ∃ e, l[j]? = some e := ⟨_, List.getElem?_eq_getElem hjl⟩
    rw [drop_cons he, List.flatMap_cons]
    have hload : ((((l.take j).filter (fun e => !p e)).flatMap cMt ++ M ++ (cMt e ++ (l.drop (j + 1)).flatMap cMt)).drop (0 + (j : Int).toNat * 6)).take 6 = cMt e := by
      rw [List.drop_left' (by rw [List.length_append, hF, hM]; show _ = 0 + j * 6; omega)]
      exact List.take_left' rfl
    repeat' (first | (refine XO.op rfl ?_; (first | ((first | refine Xo.ng rfl ?_); (first | (refine Xg.ev (EvF.loadV rfl rfl (LoadV.ownAgg (te rfl) rfl (List.Mem.head _) hload rfl)) rfl rfl ?_) | (refine Xg.call (EnF.dyn0 rfl rfl (by (repeat (first | exact Args.nil | refine Args.cons rfl ?_)); done)) rfl rfl (hf [_, _] e (List.mem_of_getElem? he)) ?_; rintro _ H9 ⟨rfl, hH9⟩; subst H9) | (refine Xg.st0 (StF.storeAt (q := 1) rfl rfl rfl (te rfl) rfl rfl (one_mt e) (by rw [List.length_append, List.length_append, hF, hM]; show 0 + i * 6 + 6 ≤ _; omega)) rfl ?_; rintro _ _ ⟨rfl, rfl⟩; dsimp only [List.set]) | (refine Xg.ev (EvF.move rfl rfl) rfl rfl ?_) | (refine Xg.ev (EvF.assign rfl rfl) rfl rfl ?_) | (refine Xg.ev (EvF.add64 rfl rfl rfl (by omega) (by omega)) rfl rfl ?_) | (refine Xg.ev (EvF.not rfl rfl) rfl rfl ?_) | (refine Xg.ev (EvF.indexSlice rfl rfl rfl (te rfl) (te rfl) (by omega) (by omega)) rfl rfl ?_) | (refine Xg.ev (EvF.loadV rfl rfl (LoadV.whole (te rfl) rfl (List.Mem.head _) rfl)) rfl rfl ?_) | (refine Xg.st (StF.alloc rfl Try.zeroValue61 rfl) rfl rfl ?_; rintro _ _ ⟨bx, rfl, rfl⟩) | (refine Xg.st0 (StF.storeAll (i := 0) rfl rfl rfl (te rfl) rfl rfl rfl rfl) rfl ?_; rintro _ _ ⟨rfl, rfl⟩; dsimp only [List.set]))))) | (refine XO.done rfl ?_; refine hK _ _ ?_; clear hK K) | refine X.seq rfl ?_ | refine X.region rfl (fun K hK => ?_) | refine X.skip rfl ?_ | (refine X.ite rfl rfl (fun hc => ?_); (first | (with_reducible refine Xb.caseB hc (fun h => ?_) (fun h => ?_))) <;> clear hc))
    · have hp : p e = false := by simpa using h
      refine ⟨_, [(0, .slice (some ⟨b, 0, none⟩) l.length c), (1, .func (.func g) #[] cap.toArray), (5, .int .i64 (i + 1 : Nat)), (6, .int .i64 (j + 1 : Nat))], _, (by (repeat (first | exact Sub.nil _ | refine Sub.cons rfl ?_)); done), ?_, ⟨i + 1, j + 1, M.drop 6 ++ cMt e, rfl, by omega, by omega, ?_, ?_, rfl, rfl⟩, by omega⟩
      · rw [filter_snoc_fMt he hp, List.flatMap_append]
        have := splice_at (xs := ((l.take j).filter (fun e => !p e)).flatMap cMt) (ys := M.take 6) (zs := M.drop 6 ++ (cMt e ++ (l.drop (j + 1)).flatMap cMt)) (vs := cMt e) (j := 0 + (i : Int).toNat * 6) (by rw [hF]; show _ = 0 + i * 6; omega) (by rw [List.length_take, hM]; show 6 = _; omega)
        rw [show ((l.take j).filter (fun e => !p e)).flatMap cMt ++ M.take 6 ++ (M.drop 6 ++ (cMt e ++ (l.drop (j + 1)).flatMap cMt)) = ((l.take j).filter (fun e => !p e)).flatMap cMt ++ M ++ (cMt e ++ (l.drop (j + 1)).flatMap cMt) by
          rw [List.append_assoc, ← List.append_assoc (M.take 6), List.take_append_drop, List.append_assoc]] at this
        rw [this]
        rw [show ((l.take j).filter (fun e => !p e)).flatMap cMt ++ cMt e ++ (M.drop 6 ++ (cMt e ++ (l.drop (j + 1)).flatMap cMt)) = ((l.take j).filter (fun e => !p e)).flatMap cMt ++ [e].flatMap cMt ++ (M.drop 6 ++ cMt e) ++ (l.drop (j + 1)).flatMap cMt by
          rw [List.flatMap_singleton]; simp only [List.append_assoc]]
        exact (by (repeat (first | exact List.Sublist.refl _ | apply List.Sublist.cons_cons | apply List.Sublist.cons)); done)
      · rw [filter_snoc_fMt he hp, List.length_append, ← hi]; rfl
      · rw [List.length_append, List.length_drop, hM]; show _ + 6 = _; omega
    · have hp : p e = true := by simpa using h
      refine ⟨_, [(0, .slice (some ⟨b, 0, none⟩) l.length c), (1, .func (.func g) #[] cap.toArray), (5, .int .i64 i), (6, .int .i64 (j + 1 : Nat))], _, (by (repeat (first | exact Sub.nil _ | refine Sub.cons rfl ?_)); done), ?_, ⟨i, j + 1, M ++ cMt e, rfl, by omega, by omega, ?_, ?_, rfl, rfl⟩, by omega⟩
      · rw [filter_snoc_tMt he hp, List.append_assoc, List.append_assoc, List.append_assoc]
        exact (by (repeat (first | exact List.Sublist.refl _ | apply List.Sublist.cons_cons | apply List.Sublist.cons)); done)
      · rw [filter_snoc_tMt he hp]; exact hi
      · rw [List.length_append, hM]; show _ + 6 = _; omega
  · obtain rfl : j = l.length := by omega
    rw [List.take_length] at hi hF ⊢
    rw [List.drop_length, List.flatMap_nil, List.append_nil]
    repeat' (first | (refine XO.op rfl ?_; (first | ((first | refine Xo.ng rfl ?_); (first | (refine Xg.ev (EvF.sliceFromL (lo := i) rfl rfl (te rfl) (te rfl) rfl (by omega) (by omega) (by omega)) rfl rfl ?_) | (refine Xg.st0 (StF.clear (q := 0) rfl el24 rfl rfl (by rw [List.length_append, hF, hM]; show 0 + i * 6 + _ ≤ _; omega) honeMt) rfl ?_; rintro _ _ ⟨zs, hzs, rfl⟩; dsimp only [List.set]) | (refine Xg.ev (EvF.move rfl rfl) rfl rfl ?_))))) | (refine XO.done rfl ?_; refine hK _ _ ?_; clear hK K) | refine X.seq rfl ?_ | refine X.region rfl (fun K hK => ?_))
    have e2 : splice ((l.filter (fun e => !p e)).flatMap cMt ++ M) (0 + i * 6) zs = (l.filter (fun e => !p e)).flatMap cMt ++ zs := by
      have := splice_at (xs := (l.filter (fun e => !p e)).flatMap cMt) (ys := M) (zs := []) (vs := zs) (j := 0 + i * 6) (by rw [hF]; omega) (by rw [hzs, hM])
      rwa [List.append_nil, List.append_nil] at this
    rw [e2]
    refine XO.forget (q := 0) rfl ?_
    dsimp only [List.set]
    repeat' (first | (refine XO.op rfl ?_; (first | ((first | refine Xo.ng rfl ?_); (first | (refine Xg.ev (EvF.sliceTo (hh := i) rfl rfl (te rfl) (te rfl) rfl (by omega)) rfl rfl ?_) | (refine Xg.ev (EvF.assign rfl rfl) rfl rfl ?_))))) | (refine XO.done rfl ?_; refine hK _ _ ?_; clear hK K) | refine X.ret rfl ?_)
    refine ret_one (by first | exact .inr rfl | exact .inl rfl) Try.results69 rfl (H' := ⟨b, 0, (l.filter (fun e => !p e)).flatMap cMt, some 61, c * 6⟩ :: H) (List.Sublist.refl _) ⟨?_, rfl⟩
    rw [hi]
theorem filter_snoc_tLk {p : Lk → Bool} {l : List Lk} {j : Nat} {e : Lk} (he : l[j]? = some e) (hp : p e = true) : (l.take (j + 1)).filter (fun e => !p e) = (l.take j).filter (fun e => !p e) := by
  rw [take_snoc he, List.filter_append]; simp [hp]
theorem filter_snoc_fLk {p : Lk → Bool} {l : List Lk} {j : Nat} {e : Lk} (he : l[j]? = some e) (hp : p e = false) : (l.take (j + 1)).filter (fun e => !p e) = (l.take j).filter (fun e => !p e) ++ [e] := by
  rw [take_snoc he, List.filter_append]; simp [hp]
theorem honeLk (z : Value) (w : World) (h : (zeroValue 32).run Try.prog w = .ok z w) : z.cells.all (·.oneCell') = true := by
  rw [Try.zeroValue32] at h
  cases h
  first | decide | simp [Value.cells, Value.oneCell'] | kernel_rfl
set_option maxHeartbeats 4000000 in
theorem deleteFunc_specLk (l : List Lk) (b c g : Nat) (p : Lk → Bool) (cap : List Value) (H : List Row) (hb : l.length ≤ 1000000) (hf : ∀ Z, ∀ e ∈ l, Fc Try.prog g ([.agg (cLk e).toArray] ++ cap) (Z ++ H) (fun v H' => v = .bool (p e) ∧ H' = Z ++ H)) :
    Fc Try.prog 39 [.slice (some ⟨b, 0, none⟩) l.length c, .func (.func g) #[] cap.toArray] (⟨b, 0, l.flatMap cLk, some 32, c * 6⟩ :: H)
      (fun v H' => v = .slice (some ⟨b, 0, none⟩) (l.filter (fun e => !p e)).length c ∧ H' = ⟨b, 0, (l.filter (fun e => !p e)).flatMap cLk, some 32, c * 6⟩ :: H) := by
  have hlen := lenLk l
  refine Fc.mk (callable Try.call39) Try.func39 rfl Try.ntmps39 rfl ?_; dsimp only [fr]
  refine X.reveal (q := 0) rfl (fun rest hrest => ?_)
  refine X.forget (q := 0) (cs := l.flatMap cLk) (cs' := rest) rfl ?_
  dsimp only [List.set]
  have hlc : l.length ≤ c := by
    rw [List.length_append, hlen] at hrest
    omega
  clear hrest
  repeat' (first | (refine XO.op rfl ?_; (first | ((first | refine Xo.ng rfl ?_); (first | (refine Xg.call (EnF.st rfl (by (repeat (first | exact Args.nil | refine Args.cons rfl ?_)); done)) rfl rfl (indexFunc_specLk l _ _ g p cap _ (SlE.ofRow (List.Mem.head _) (fun _ _ => rfl)) (by omega) (fun e he => hf [_] e he)) ?_; rintro _ H9 ⟨⟨z, rfl, hz⟩, hH9⟩; subst H9; rcases hz with ⟨rfl, hz⟩ | ⟨k, e0, rfl, he0, hp0, hz⟩; rotate_left; have hk0 := (List.getElem?_eq_some_iff.1 he0).1; rotate_right) | (refine Xg.ev (EvF.move rfl rfl) rfl rfl ?_) | (refine Xg.ev (EvF.assign rfl rfl) rfl rfl ?_) | (refine Xg.ev (EvF.cmp rfl rfl rfl rfl) rfl rfl ?_) | (refine Xg.ev (EvF.add64 rfl rfl rfl (by omega) (by omega)) rfl rfl ?_))))) | (refine XO.done rfl ?_; refine hK _ _ ?_; clear hK K) | refine X.seq rfl ?_ | refine X.region rfl (fun K hK => ?_) | refine X.block rfl ?_ | refine X.skip rfl ?_ | refine X.ret rfl ?_ | (refine X.ite rfl rfl (fun hc => ?_); (first | (with_reducible refine Xb.case hc (fun h => ?_) (fun h => ?_))) <;> clear hc))
  any_goals (exfalso; omega)
  · have e1 : l.filter (fun e => !p e) = l := List.filter_eq_self.2 (fun e he => by simp [hz e he])
    refine ret_one (by first | exact .inr rfl | exact .inl rfl) Try.results39 rfl (H' := ⟨b, 0, l.flatMap cLk, some 32, c * 6⟩ :: H) (List.Sublist.refl _) ?_
    rw [e1]
    exact ⟨rfl, rfl⟩
  have e1 : (l.take k).filter (fun e => !p e) = l.take k := List.filter_eq_self.2 (fun e he => by
    obtain ⟨i, hi⟩ := List.getElem?_of_mem he
    rw [List.getElem?_take] at hi
    split at hi
    · simp [hz i e (by assumption) hi]
    · cases hi)
  refine X.lp rfl (fun q F' H' => ∃ (i j : Nat) (M : List Value), q = l.length - j ∧ j ≤ l.length ∧ i < j ∧ i = ((l.take j).filter (fun e => !p e)).length ∧ M.length = (j - i) * 6 ∧
      ⟨b, 0, ((l.take j).filter (fun e => !p e)).flatMap cLk ++ M ++ (l.drop j).flatMap cLk, some 32, c * 6⟩ :: H = H' ∧
      F' = [(0, .slice (some ⟨b, 0, none⟩) l.length c), (1, .func (.func g) #[] cap.toArray), (5, .int .i64 i), (6, .int .i64 j)])
    (l.length - (k + 1)) [(0, .slice (some ⟨b, 0, none⟩) l.length c), (1, .func (.func g) #[] cap.toArray), (5, .int .i64 k), (6, .int .i64 (k + 1 : Nat))] _ (by (repeat (first | exact Sub.nil _ | refine Sub.cons rfl ?_)); done) (List.Sublist.refl _) ⟨k, k + 1, cLk e0, rfl, by omega, by omega, ?_, ?_, ?_, rfl⟩ ?_
  · rw [filter_snoc_tLk he0 hp0, e1, List.length_take]; omega
  · show 6 = _; omega
  · rw [filter_snoc_tLk he0 hp0, e1]
    congr 2
    rw [show l.flatMap cLk = (l.take k ++ l.drop k).flatMap cLk by rw [List.take_append_drop], drop_cons he0, List.flatMap_append, List.flatMap_cons, List.append_assoc]
  rintro _ _ H2 ⟨i, j, M, rfl, hj, hij, hi, hM, hH, rfl⟩
  subst hH
  have hF : (((l.take j).filter (fun e => !p e)).flatMap cLk).length = i * 6 := by rw [lenLk, ← hi]
  repeat' (first | (refine XO.op rfl ?_; (first | ((first | refine Xo.ng rfl ?_); (first | (refine Xg.ev (EvF.move rfl rfl) rfl rfl ?_) | (refine Xg.ev (EvF.cmp rfl rfl rfl rfl) rfl rfl ?_) | (refine Xg.ev (EvF.lenSlice rfl rfl (te rfl)) rfl rfl ?_) | (refine Xg.ev (EvF.indexSlice rfl rfl rfl (te rfl) (te rfl) (by omega) (by omega)) rfl rfl ?_))))) | (refine XO.done rfl ?_; refine hK _ _ ?_; clear hK K) | refine X.seq rfl ?_ | refine X.region rfl (fun K hK => ?_) | refine X.block rfl ?_ | (refine X.brk rfl ?_; repeat (first | refine blockX_hit rfl ?_ | refine blockX_miss (by decide) ?_)) | refine X.skip rfl ?_ | (refine X.ite rfl rfl (fun hc => ?_); (first | (with_reducible refine Xb.case hc (fun h => ?_) (fun h => ?_))) <;> clear hc))
  · have hjl : j < l.length := by omega
    obtain ⟨e, he⟩ : ∃ e, l[j]? = some e := ⟨_, List.getElem?_eq_getElem hjl⟩
    rw [drop_cons he, List.flatMap_cons]
    have hload : ((((l.take j).filter (fun e => !p e)).flatMap cLk ++ M ++ (cLk e ++ (l.drop (j + 1)).flatMap cLk)).drop (0 + (j : Int).toNat * 6)).take 6 = cLk e := by
      rw [List.drop_left' (by rw [List.length_append, hF, hM]; show _ = 0 + j * 6; omega)]
      exact List.take_left' rfl
    repeat' (first | (refine XO.op rfl ?_; (first | ((first | refine Xo.ng rfl ?_); (first | (refine Xg.ev (EvF.loadV rfl rfl (LoadV.ownAgg (te rfl) rfl (List.Mem.head _) hload rfl)) rfl rfl ?_) | (refine Xg.call (EnF.dyn0 rfl rfl (by (repeat (first | exact Args.nil | refine Args.cons rfl ?_)); done)) rfl rfl (hf [_, _] e (List.mem_of_getElem? he)) ?_; rintro _ H9 ⟨rfl, hH9⟩; subst H9) | (refine Xg.st0 (StF.storeAt (q := 1) rfl rfl rfl (te rfl) rfl rfl (one_lk e) (by rw [List.length_append, List.length_append, hF, hM]; show 0 + i * 6 + 6 ≤ _; omega)) rfl ?_; rintro _ _ ⟨rfl, rfl⟩; dsimp only [List.set]) | (refine Xg.ev (EvF.move rfl rfl) rfl rfl ?_) | (refine Xg.ev (EvF.assign rfl rfl) rfl rfl ?_) | (refine Xg.ev (EvF.add64 rfl rfl rfl (by omega) (by omega)) rfl rfl ?_) | (refine Xg.ev (EvF.not rfl rfl) rfl rfl ?_) | (refine Xg.ev (EvF.indexSlice rfl rfl rfl (te rfl) (te rfl) (by omega) (by omega)) rfl rfl ?_) | (refine Xg.ev (EvF.loadV rfl rfl (LoadV.whole (te rfl) rfl (List.Mem.head _) rfl)) rfl rfl ?_) | (refine Xg.st (StF.alloc rfl Try.zeroValue61 rfl) rfl rfl ?_; rintro _ _ ⟨bx, rfl, rfl⟩) | (refine Xg.st0 (StF.storeAll (i := 0) rfl rfl rfl (te rfl) rfl rfl rfl rfl) rfl ?_; rintro _ _ ⟨rfl, rfl⟩; dsimp only [List.set]))))) | (refine XO.done rfl ?_; refine hK _ _ ?_; clear hK K) | refine X.seq rfl ?_ | refine X.region rfl (fun K hK => ?_) | refine X.skip rfl ?_ | (refine X.ite rfl rfl (fun hc => ?_); (first | (with_reducible refine Xb.caseB hc (fun h => ?_) (fun h => ?_))) <;> clear hc))
    · have hp : p e = false := by simpa using h
      refine ⟨_, [(0, .slice (some ⟨b, 0, none⟩) l.length c), (1, .func (.func g) #[] cap.toArray), (5, .int .i64 (i + 1 : Nat)), (6, .int .i64 (j + 1 : Nat))], _, (by (repeat (first | exact Sub.nil _ | refine Sub.cons rfl ?_)); done), ?_, ⟨i + 1, j + 1, M.drop 6 ++ cLk e, rfl, by omega, by omega, ?_, ?_, rfl, rfl⟩, by omega⟩
      · rw [filter_snoc_fLk he hp, List.flatMap_append]
        have := splice_at (xs := ((l.take j).filter (fun e => !p e)).flatMap cLk) (ys := M.take 6) (zs := M.drop 6 ++ (cLk e ++ (l.drop (j + 1)).flatMap cLk)) (vs := cLk e) (j := 0 + (i : Int).toNat * 6) (by rw [hF]; show _ = 0 + i * 6; omega) (by rw [List.length_take, hM]; show 6 = _; omega)
        rw [show ((l.take j).filter (fun e => !p e)).flatMap cLk ++ M.take 6 ++ (M.drop 6 ++ (cLk e ++ (l.drop (j + 1)).flatMap cLk)) = ((l.take j).filter (fun e => !p e)).flatMap cLk ++ M ++ (cLk e ++ (l.drop (j + 1)).flatMap cLk) by
          rw [List.append_assoc, ← List.append_assoc (M.take 6), List.take_append_drop, List.append_assoc]] at this
        rw [this]
        rw [show ((l.take j).filter (fun e => !p e)).flatMap cLk ++ cLk e ++ (M.drop 6 ++ (cLk e ++ (l.drop (j + 1)).flatMap cLk)) = ((l.take j).filter (fun e => !p e)).flatMap cLk ++ [e].flatMap cLk ++ (M.drop 6 ++ cLk e) ++ (l.drop (j + 1)).flatMap cLk by
          rw [List.flatMap_singleton]; simp only [List.append_assoc]]
        exact (by (repeat (first | exact List.Sublist.refl _ | apply List.Sublist.cons_cons | apply List.Sublist.cons)); done)
      · rw [filter_snoc_fLk he hp, List.length_append, ← hi]; rfl
      · rw [List.length_append, List.length_drop, hM]; show _ + 6 = _; omega
    · have hp : p e = true := by simpa using h
      refine ⟨_, [(0, .slice (some ⟨b, 0, none⟩) l.length c), (1, .func (.func g) #[] cap.toArray), (5, .int .i64 i), (6, .int .i64 (j + 1 : Nat))], _, (by (repeat (first | exact Sub.nil _ | refine Sub.cons rfl ?_)); done), ?_, ⟨i, j + 1, M ++ cLk e, rfl, by omega, by omega, ?_, ?_, rfl, rfl⟩, by omega⟩
      · rw [filter_snoc_tLk he hp, List.append_assoc, List.append_assoc, List.append_assoc]
        exact (by (repeat (first | exact List.Sublist.refl _ | apply List.Sublist.cons_cons | apply List.Sublist.cons)); done)
      · rw [filter_snoc_tLk he hp]; exact hi
      · rw [List.length_append, hM]; show _ + 6 = _; omega
  · obtain rfl : j = l.length := by omega
    rw [List.take_length] at hi hF ⊢
    rw [List.drop_length, List.flatMap_nil, List.append_nil]
    repeat' (first | (refine XO.op rfl ?_; (first | ((first | refine Xo.ng rfl ?_); (first | (refine Xg.ev (EvF.sliceFromL (lo := i) rfl rfl (te rfl) (te rfl) rfl (by omega) (by omega) (by omega)) rfl rfl ?_) | (refine Xg.st0 (StF.clear (q := 0) rfl elLk rfl rfl (by rw [List.length_append, hF, hM]; show 0 + i * 6 + _ ≤ _; omega) honeLk) rfl ?_; rintro _ _ ⟨zs, hzs, rfl⟩; dsimp only [List.set]) | (refine Xg.ev (EvF.move rfl rfl) rfl rfl ?_))))) | (refine XO.done rfl ?_; refine hK _ _ ?_; clear hK K) | refine X.seq rfl ?_ | refine X.region rfl (fun K hK => ?_))
    have e2 : splice ((l.filter (fun e => !p e)).flatMap cLk ++ M) (0 + i * 6) zs = (l.filter (fun e => !p e)).flatMap cLk ++ zs := by
      have := splice_at (xs := (l.filter (fun e => !p e)).flatMap cLk) (ys := M) (zs := []) (vs := zs) (j := 0 + i * 6) (by rw [hF]; omega) (by rw [hzs, hM])
      rwa [List.append_nil, List.append_nil] at this
    rw [e2]
    refine XO.forget (q := 0) rfl ?_
    dsimp only [List.set]
    repeat' (first | (refine XO.op rfl ?_; (first | ((first | refine Xo.ng rfl ?_); (first | (refine Xg.ev (EvF.sliceTo (hh := i) rfl rfl (te rfl) (te rfl) rfl (by omega)) rfl rfl ?_) | (refine Xg.ev (EvF.assign rfl rfl) rfl rfl ?_))))) | (refine XO.done rfl ?_; refine hK _ _ ?_; clear hK K) | refine X.ret rfl ?_)
    refine ret_one (by first | exact .inr rfl | exact .inl rfl) Try.results39 rfl (H' := ⟨b, 0, (l.filter (fun e => !p e)).flatMap cLk, some 32, c * 6⟩ :: H) (List.Sublist.refl _) ⟨?_, rfl⟩
    rw [hi]
end Go.Proofs.Ytminkpgacomicab
end
section
set_option linter.unusedVariables false
set_option linter.unusedSimpArgs false
namespace Go.Proofs.Ytminkpgacomicab
open Go Go.Fw
set_option maxRecDepth 10000
def leftMt (ms : List Mt) (l : List Int) : List Mt := ms.filter (fun m => !decide (m.number ∈ l))
def strOk (ms : List Mt) (l : List Int) : Prop := risesOk l ∧ (leftMt ms l).length + l.length = ms.length
set_option maxHeartbeats 4000000 in
theorem strikeL_spec (ms : List Mt) (ad : Addr) (c : Nat) (l : List Int) (al : Option Addr) (cl : Nat) (H : List Row) (hm : SlE H (some ad) cMt 6 ms) (hb : ms.length ≤ 1000000) (hl : SlE H al cI 1 l) (hb' : l.length ≤ 1000000) :
    Fc Try.prog 49 [.slice (some ad) ms.length c, .slice al l.length cl, .func (.func 50) #[] #[]] H (fun v H' => (¬ strOk ms l ∧ v = .tuple #[.slice none 0 0, .bool false] ∧ H' = H) ∨
      (strOk ms l ∧ ∃ b k, v = .tuple #[.slice (some ⟨b, 0, none⟩) (leftMt ms l).length k, .bool true] ∧ H' = ⟨b, 0, (leftMt ms l).flatMap cMt, some 61, k * 6⟩ :: H)) := by
  have hl2 : ∀ r1 r2, SlE (r1 :: r2 :: H) al cI 1 l := fun r1 r2 => hl.sub (fun _ h => List.Mem.tail _ (List.Mem.tail _ h))
  have hm2 : ∀ r1 r2, SlE (r1 :: r2 :: H) (some ad) cMt 6 ms := fun r1 r2 => hm.sub (fun _ h => List.Mem.tail _ (List.Mem.tail _ h))
  have hlf : (ms.filter (fun m => !decide (m.number ∈ l))).length ≤ ms.length := List.length_filter_le _ _
  refine Fc.mk (callable Try.call49) Try.func49 rfl Try.ntmps49 rfl ?_; dsimp only [fr]
  refine X.seq rfl ?_; refine X.region rfl (fun K hK => ?_); repeat' (first | (refine XO.op rfl ?_; (first | ((first | refine Xo.ng rfl ?_); (first | (refine Xg.ev (EvF.assign rfl rfl) rfl rfl ?_) | (refine Xg.st (StF.boxOne rfl rfl rfl) rfl rfl ?_; rintro _ _ ⟨bx, rfl, rfl⟩))))) | (refine XO.done rfl ?_; refine hK _ _ ?_; clear hK K))
  rename_i b4
  rename Nat => b5
  repeat' (first | (refine XO.op rfl ?_; (first | ((first | refine Xo.ng rfl ?_); (first | (refine Xg.call (EnF.st rfl (by (repeat (first | exact Args.nil | refine Args.cons rfl ?_)); done)) rfl rfl (rising_spec l _ _ _ (hl2 _ _) (by omega)) ?_; rintro _ H9 ⟨rfl, hH9⟩; subst H9) | (refine Xg.call (EnF.st rfl (by (repeat (first | exact Args.nil | refine Args.cons rfl ?_)); done)) rfl rfl (clone_specMt ms _ _ _ (hm2 _ _) hb) ?_; rintro _ _ ⟨bc, kc, rfl, rfl⟩) | (refine Xg.ev (EvF.makeFunc (fl := []) rfl Args.nil (Args.cons rfl (Args.cons rfl Args.nil))) rfl rfl ?_) | (refine Xg.call (EnF.st rfl (by (repeat (first | exact Args.nil | refine Args.cons rfl ?_)); done)) rfl rfl (deleteFunc_specMt ms _ _ 71 (fun m => decide (m.number ∈ l)) _ _ hb (fun Z e _ => strike1_specMt e l al b4 b5 cl _ _ _ _ _ (List.mem_append_right _ (List.Mem.head _)) (List.mem_append_right _ (List.Mem.tail _ (List.Mem.head _))) (hl.sub (fun _ h => List.mem_append_right _ (List.Mem.tail _ (List.Mem.tail _ h)))) (by omega))) ?_; rintro _ H9 ⟨rfl, hH9⟩; subst H9) | (refine Xg.ev (EvF.move rfl rfl) rfl rfl ?_) | (refine Xg.ev (EvF.assign rfl rfl) rfl rfl ?_) | (refine Xg.ev (EvF.cmp rfl rfl rfl rfl) rfl rfl ?_) | (refine Xg.ev (EvF.add64 rfl rfl rfl (by omega) (by omega)) rfl rfl ?_) | (refine Xg.ev (EvF.not rfl rfl) rfl rfl ?_) | (refine Xg.ev (EvF.lenSlice rfl rfl (te rfl)) rfl rfl ?_) | (refine Xg.ev (EvF.loadV rfl rfl (LoadV.own (te rfl) rfl (List.Mem.tail _ (List.Mem.head _)) rfl)) rfl rfl ?_) | (refine Xg.ev (EvF.loadV rfl rfl (LoadV.own (te rfl) rfl (List.Mem.tail _ (List.Mem.tail _ (List.Mem.head _))) rfl)) rfl rfl ?_))))) | (refine XO.done rfl ?_; refine hK _ _ ?_; clear hK K) | refine X.seq rfl ?_ | refine X.region rfl (fun K hK => ?_) | refine X.skip rfl ?_ | refine X.ret rfl ?_ | (refine X.ite rfl rfl (fun hc => ?_); (first | (with_reducible refine Xb.caseN hc (fun h => ?_) (fun h => ?_))) <;> clear hc))
  · exact ret_two (by first | exact .inr rfl | exact .inl rfl) Try.results49 rfl rfl (H' := H) (by (repeat (first | exact List.Sublist.refl _ | apply List.Sublist.cons)); done) (.inl ⟨fun q => h q.1, rfl, rfl⟩)
  · refine ret_two (by first | exact .inr rfl | exact .inl rfl) Try.results49 rfl rfl (H' := H) (by (repeat (first | exact List.Sublist.refl _ | apply List.Sublist.cons)); done) (.inl ⟨fun q => h ?_, rfl, rfl⟩)
    have := q.2
    unfold leftMt at this
    omega
  · refine ret_two (by first | exact .inr rfl | exact .inl rfl) Try.results49 rfl rfl (H' := ⟨bc, 0, (leftMt ms l).flatMap cMt, some 61, kc * 6⟩ :: H) (by (repeat (first | exact List.Sublist.refl _ | apply List.Sublist.cons_cons | apply List.Sublist.cons)); done) (.inr ⟨⟨by assumption, ?_⟩, bc, kc, rfl, rfl⟩)
    unfold leftMt
    omega
def leftLk (ms : List Lk) (l : List Int) : List Lk := ms.filter (fun m => !decide (m.number ∈ l))
def strOkL (ms : List Lk) (l : List Int) : Prop := risesOk l ∧ (leftLk ms l).length + l.length = ms.length
set_option maxHeartbeats 4000000 in
theorem strikeL_specL (ms : List Lk) (ad : Addr) (c : Nat) (l : List Int) (al : Option Addr) (cl : Nat) (H : List Row) (hm : SlE H (some ad) cLk 6 ms) (hb : ms.length ≤ 1000000) (hl : SlE H al cI 1 l) (hb' : l.length ≤ 1000000) :
    Fc Try.prog 20 [.slice (some ad) ms.length c, .slice al l.length cl, .func (.func 18) #[] #[]] H (fun v H' => (¬ strOkL ms l ∧ v = .tuple #[.slice none 0 0, .bool false] ∧ H' = H) ∨
      (strOkL ms l ∧ ∃ b k, v = .tuple #[.slice (some ⟨b, 0, none⟩) (leftLk ms l).length k, .bool true] ∧ H' = ⟨b, 0, (leftLk ms l).flatMap cLk, some 32, k * 6⟩ :: H)) := by
  have hl2 : ∀ r1 r2, SlE (r1 :: r2 :: H) al cI 1 l := fun r1 r2 => hl.sub (fun _ h => List.Mem.tail _ (List.Mem.tail _ h))
  have hm2 : ∀ r1 r2, SlE (r1 :: r2 :: H) (some ad) cLk 6 ms := fun r1 r2 => hm.sub (fun _ h => List.Mem.tail _ (List.Mem.tail _ h))
  have hlf : (ms.filter (fun m => !decide (m.number ∈ l))).length ≤ ms.length := List.length_filter_le _ _
  refine Fc.mk (callable Try.call20) Try.func20 rfl Try.ntmps20 rfl ?_; dsimp only [fr]
  refine X.seq rfl ?_; refine X.region rfl (fun K hK => ?_); repeat' (first | (refine XO.op rfl ?_; (first | ((first | refine Xo.ng rfl ?_); (first | (refine Xg.ev (EvF.assign rfl rfl) rfl rfl ?_) | (refine Xg.st (StF.boxOne rfl rfl rfl) rfl rfl ?_; rintro _ _ ⟨bx, rfl, rfl⟩))))) | (refine XO.done rfl ?_; refine hK _ _ ?_; clear hK K))
  rename_i b4
  rename Nat => b5
  repeat' (first | (refine XO.op rfl ?_; (first | ((first | refine Xo.ng rfl ?_); (first | (refine Xg.call (EnF.st rfl (by (repeat (first | exact Args.nil | refine Args.cons rfl ?_)); done)) rfl rfl (rising_spec l _ _ _ (hl2 _ _) (by omega)) ?_; rintro _ H9 ⟨rfl, hH9⟩; subst H9) | (refine Xg.call (EnF.st rfl (by (repeat (first | exact Args.nil | refine Args.cons rfl ?_)); done)) rfl rfl (clone_specLk ms _ _ _ (hm2 _ _) hb) ?_; rintro _ _ ⟨bc, kc, rfl, rfl⟩) | (refine Xg.ev (EvF.makeFunc (fl := []) rfl Args.nil (Args.cons rfl (Args.cons rfl Args.nil))) rfl rfl ?_) | (refine Xg.call (EnF.st rfl (by (repeat (first | exact Args.nil | refine Args.cons rfl ?_)); done)) rfl rfl (deleteFunc_specLk ms _ _ 40 (fun m => decide (m.number ∈ l)) _ _ hb (fun Z e _ => strike1_specLk e l al b4 b5 cl _ _ _ _ _ (List.mem_append_right _ (List.Mem.head _)) (List.mem_append_right _ (List.Mem.tail _ (List.Mem.head _))) (hl.sub (fun _ h => List.mem_append_right _ (List.Mem.tail _ (List.Mem.tail _ h)))) (by omega))) ?_; rintro _ H9 ⟨rfl, hH9⟩; subst H9) | (refine Xg.ev (EvF.move rfl rfl) rfl rfl ?_) | (refine Xg.ev (EvF.assign rfl rfl) rfl rfl ?_) | (refine Xg.ev (EvF.cmp rfl rfl rfl rfl) rfl rfl ?_) | (refine Xg.ev (EvF.add64 rfl rfl rfl (by omega) (by omega)) rfl rfl ?_) | (refine Xg.ev (EvF.not rfl rfl) rfl rfl ?_) | (refine Xg.ev (EvF.lenSlice rfl rfl (te rfl)) rfl rfl ?_) | (refine Xg.ev (EvF.loadV rfl rfl (LoadV.own (te rfl) rfl (List.Mem.tail _ (List.Mem.head _)) rfl)) rfl rfl ?_) | (refine Xg.ev (EvF.loadV rfl rfl (LoadV.own (te rfl) rfl (List.Mem.tail _ (List.Mem.tail _ (List.Mem.head _))) rfl)) rfl rfl ?_))))) | (refine XO.done rfl ?_; refine hK _ _ ?_; clear hK K) | refine X.seq rfl ?_ | refine X.region rfl (fun K hK => ?_) | refine X.skip rfl ?_ | refine X.ret rfl ?_ | (refine X.ite rfl rfl (fun hc => ?_); (first | (with_reducible refine Xb.caseN hc (fun h => ?_) (fun h => ?_))) <;> clear hc))
  · exact ret_two (by first | exact .inr rfl | exact .inl rfl) Try.results20 rfl rfl (H' := H) (by (repeat (first | exact List.Sublist.refl _ | apply List.Sublist.cons)); done) (.inl ⟨fun q => h q.1, rfl, rfl⟩)
  · refine ret_two (by first | exact .inr rfl | exact .inl rfl) Try.results20 rfl rfl (H' := H) (by (repeat (first | exact List.Sublist.refl _ | apply List.Sublist.cons)); done) (.inl ⟨fun q => h ?_, rfl, rfl⟩)
    have := q.2
    unfold leftLk at this
    omega
  · refine ret_two (by first | exact .inr rfl | exact .inl rfl) Try.results20 rfl rfl (H' := ⟨bc, 0, (leftLk ms l).flatMap cLk, some 32, kc * 6⟩ :: H) (by (repeat (first | exact List.Sublist.refl _ | apply List.Sublist.cons_cons | apply List.Sublist.cons)); done) (.inr ⟨⟨by assumption, ?_⟩, bc, kc, rfl, rfl⟩)
    unfold leftLk
    omega
end Go.Proofs.Ytminkpgacomicab
end
section
set_option linter.unusedVariables false
set_option linter.unusedSimpArgs false
namespace Go.Proofs.Ytminkpgacomicab
open Go Go.Fw
set_option maxRecDepth 10000
structure Dk where
  room : Rm
  lean : Int
  bales : List Int
  cls : List Int
  looks : List Lk
structure Pd where
  pr : Pl
  a4 : Option Addr
  c4 : Nat
  a5 : Option Addr
  c5 : Nat
  a6 : Option Addr
  c6 : Nat
def cDk (D : Dk) (p : Pd) : List Value := [.int .i64 D.room.months, .int .i64 D.room.step, .slice p.pr.a1 D.room.ages.length p.pr.c1, .slice p.pr.a2 D.room.boxes.length p.pr.c2, .slice p.pr.a3 D.room.mats.length p.pr.c3, .int .i64 D.lean, .slice p.a4 D.bales.length p.c4, .slice p.a5 D.cls.length p.c5, .slice p.a6 D.looks.length p.c6]
structure DkOk (H : List Row) (D : Dk) (p : Pd) : Prop where
  room : RmOk H D.room p.pr
  bales : SlE H p.a4 cI 1 D.bales
  cls : SlE H p.a5 cI 1 D.cls
  looks : SlE H p.a6 cLk 6 D.looks
  l4 : D.bales.length ≤ 9223372036854775807
  l5 : D.cls.length ≤ 9223372036854775807
  l6 : D.looks.length ≤ 9223372036854775807
theorem DkOk.sub {H H' : List Row} {D : Dk} {p : Pd} (h : DkOk H D p) (hs : ∀ r ∈ H, r ∈ H') : DkOk H' D p := ⟨h.room.sub hs, h.bales.sub hs, h.cls.sub hs, h.looks.sub hs, h.l4, h.l5, h.l6⟩
def idsOk (D : Dk) : Prop := D.bales.length ≤ 6 ∧ risesOk D.bales ∧ D.cls.length ≤ 4 ∧ risesOk D.cls
noncomputable instance (D : Dk) : Decidable (idsOk D) := Classical.propDecidable _
set_option maxHeartbeats 2000000 in
theorem hasValidIds_spec (D : Dk) (p : Pd) (H : List Row) (hD : DkOk H D p) : Fc Try.prog 26 [.agg (cDk D p).toArray] H (fun v H' => v = .bool (decide (idsOk D)) ∧ H' = H) := by
  have hD1 : ∀ r, DkOk (r :: H) D p := fun r => hD.sub (fun _ h => List.mem_cons_of_mem _ h)
  refine Fc.mk (callable Try.call26) Try.func26 rfl Try.ntmps26 rfl ?_; dsimp only [fr]
  repeat' (first | (refine XO.op rfl ?_; (first | ((first | refine Xo.ng rfl ?_ | (refine Xo.g rfl rfl ?_; with_reducible refine Xw.tt ?_)); (first | (refine Xg.call (EnF.st rfl (Args.cons rfl Args.nil)) rfl rfl (rising_spec D.bales _ _ _ (hD1 _).bales hD.l4) ?_; rintro _ H9 ⟨rfl, hH9⟩; subst H9) | (refine Xg.call (EnF.st rfl (Args.cons rfl Args.nil)) rfl rfl (rising_spec D.cls _ _ _ (hD1 _).cls hD.l5) ?_; rintro _ H9 ⟨rfl, hH9⟩; subst H9) | (refine Xg.ev (EvF.move rfl rfl) rfl rfl ?_) | (refine Xg.ev (EvF.assign rfl rfl) rfl rfl ?_) | (refine Xg.ev (EvF.pickT rfl rfl rfl) rfl rfl ?_) | (refine Xg.ev (EvF.pickF rfl rfl rfl) rfl rfl ?_) | (refine Xg.ev (EvF.cmp rfl rfl rfl rfl) rfl rfl ?_) | (refine Xg.ev (EvF.fieldAddr rfl rfl (te rfl) rfl (te rfl) (by decide)) rfl rfl ?_) | (refine Xg.ev (EvF.lenSlice rfl rfl (te rfl)) rfl rfl ?_) | (refine Xg.ev (EvF.loadV rfl rfl (LoadV.own (te rfl) rfl (List.Mem.head _) rfl)) rfl rfl ?_) | (refine Xg.st (StF.boxAgg rfl rfl) rfl rfl ?_; rintro _ _ ⟨bx, rfl, rfl⟩))) | (refine Xo.g rfl rfl ?_; (first | (with_reducible refine Xw.ft rfl rfl ?_) | (with_reducible refine Xw.case (fun h => ?_) (fun h => ?_) <;> simp only [h, decide_true, decide_false, Bool.not_true, Bool.not_false, and_self, and_true, true_and, and_false, false_and]))))) | (refine XO.done rfl ?_; refine hK _ _ ?_; clear hK K) | refine X.seq rfl ?_ | refine X.region rfl (fun K hK => ?_) | refine X.ret rfl ?_)
  all_goals (refine ret_one (by first | exact .inr rfl | exact .inl rfl) Try.results26 rfl (H' := H) (by (repeat (first | exact List.Sublist.refl _ | apply List.Sublist.cons)); done) ?_; simp only [and_true, true_and])
  all_goals (congr 1; symm)
  all_goals first
    | exact decide_eq_false (fun q => by have := q.1; omega)
    | exact decide_eq_false (fun q => absurd q.2.1 (by assumption))
    | exact decide_eq_false (fun q => by have := q.2.2.1; omega)
    | exact decide_eq_decide.2 ⟨fun q => q.2.2.2, fun q => ⟨by omega, by assumption, by omega, q⟩⟩
def besideP (R : Rm) (x : Lk) (b : Bx) : Prop := b.id = x.box ∧ ∀ n ∈ [x.month], (Sp.mk b.made (R.months - 1)).lo ≤ n ∧ n ≤ (Sp.mk b.made (R.months - 1)).hi
instance (R : Rm) (x : Lk) (b : Bx) : Decidable (besideP R x b) := by unfold besideP; infer_instance
theorem isBeside1_spec (R : Rm) (p : Pl) (x : Lk) (b : Bx) (bx br : Nat) (ow ow' : Option Kd) (cap cap' : Nat) (H : List Row) (hm : 1 ≤ R.months ∧ R.months ≤ 12) (hx : ⟨bx, 0, cLk x, ow, cap⟩ ∈ H) (hr : ⟨br, 0, cRm R p, ow', cap'⟩ ∈ H) :
    Fc Try.prog 68 ([.agg (cBx b).toArray] ++ [.pointer (some ⟨bx, 0, none⟩), .pointer (some ⟨br, 0, none⟩)]) H (fun v H' => v = .bool (decide (besideP R x b)) ∧ H' = H) := by
  show Fc Try.prog 68 [.agg (cBx b).toArray, .pointer (some ⟨bx, 0, none⟩), .pointer (some ⟨br, 0, none⟩)] H _
  obtain ⟨a1, c1, a2, c2, a3, c3⟩ := p
  refine Fc.mk (callable Try.call68) Try.func68 rfl Try.ntmps68 rfl ?_; dsimp only [fr]
  repeat' (first | (refine XO.op rfl ?_; (first | ((first | refine Xo.ng rfl ?_ | (refine Xo.g rfl rfl ?_; with_reducible refine Xw.tt ?_)); (first | (refine Xg.ev (EvF.loadV rfl rfl (LoadV.own (te rfl) rfl (List.mem_cons_of_mem _ hx) rfl)) rfl rfl ?_) | (refine Xg.ev (EvF.loadV rfl rfl (LoadV.own (te rfl) rfl (List.mem_cons_of_mem _ hr) rfl)) rfl rfl ?_) | (refine Xg.ev (EvF.build (cs := cSp ⟨b.made, R.months - 1⟩) rfl (ArgsP.cons rfl (ArgsP.cons rfl ArgsP.nil)) (te rfl) (Places.cons (te rfl) (Places.cons (te rfl) Places.nil)) Try.zeroValue57 rfl) rfl rfl ?_) | (refine Xg.st (StF.buildOne rfl el55 rfl rfl rfl (by decide) (by decide)) rfl rfl ?_; rintro _ _ ⟨bo, rfl, rfl⟩) | (refine Xg.call (EnF.st rfl (Args.cons rfl (Args.cons rfl Args.nil))) rfl rfl (withinL_spec ⟨b.made, R.months - 1⟩ [x.month] _ _ _ (SlE.ofRow (l := [x.month]) (List.Mem.head _) (fun _ _ => rfl)) (by simp)) ?_; rintro _ H9 ⟨rfl, hH9⟩; subst H9) | (refine Xg.ev (EvF.move rfl rfl) rfl rfl ?_) | (refine Xg.ev (EvF.assign rfl rfl) rfl rfl ?_) | (refine Xg.ev (EvF.pickT rfl rfl rfl) rfl rfl ?_) | (refine Xg.ev (EvF.pickF rfl rfl rfl) rfl rfl ?_) | (refine Xg.ev (EvF.cmp rfl rfl rfl rfl) rfl rfl ?_) | (refine Xg.ev (EvF.sub64 rfl rfl rfl (by omega) (by omega)) rfl rfl ?_) | (refine Xg.ev (EvF.fieldAddr rfl rfl (te rfl) rfl (te rfl) (by decide)) rfl rfl ?_) | (refine Xg.ev (EvF.loadV rfl rfl (LoadV.own (te rfl) rfl (List.Mem.head _) rfl)) rfl rfl ?_) | (refine Xg.st (StF.boxAgg rfl rfl) rfl rfl ?_; rintro _ _ ⟨bx, rfl, rfl⟩))) | (refine Xo.g rfl rfl ?_; (first | (with_reducible refine Xw.ft rfl rfl ?_) | (with_reducible refine Xw.case (fun h => ?_) (fun h => ?_) <;> simp only [h, decide_true, decide_false, Bool.not_true, Bool.not_false, and_self, and_true, true_and, and_false, false_and]))))) | (refine XO.done rfl ?_; refine hK _ _ ?_; clear hK K) | refine X.seq rfl ?_ | refine X.region rfl (fun K hK => ?_) | refine X.ret rfl ?_)
  all_goals (refine ret_one (by first | exact .inr rfl | exact .inl rfl) Try.results68 rfl (H' := H) (by (repeat (first | exact List.Sublist.refl _ | apply List.Sublist.cons)); done) ?_; simp only [and_true, true_and])
  all_goals (congr 1; symm; unfold besideP)
  all_goals first
    | exact decide_eq_false (fun q => absurd q.1 (by assumption))
    | exact decide_eq_decide.2 ⟨fun q => q.2, fun q => ⟨by assumption, q⟩⟩
def beside (R : Rm) (x : Lk) : Prop := ∃ b ∈ R.boxes, decide (besideP R x b) = true
instance (R : Rm) (x : Lk) : Decidable (beside R x) := by unfold beside; infer_instance
theorem isBeside_spec (R : Rm) (p : Pl) (x : Lk) (H : List Row) (hm : 1 ≤ R.months ∧ R.months ≤ 12) (hR : RmOk H R p) : Fc Try.prog 48 [.agg (cRm R p).toArray, .agg (cLk x).toArray] H (fun v H' => v = .bool (decide (beside R x)) ∧ H' = H) := by
  have hR2 : ∀ r1 r2, RmOk (r1 :: r2 :: H) R p := fun r1 r2 => hR.sub (fun _ h => List.Mem.tail _ (List.Mem.tail _ h))
  obtain ⟨a1, c1, a2, c2, a3, c3⟩ := p
  refine Fc.mk (callable Try.call48) Try.func48 rfl Try.ntmps48 rfl ?_; dsimp only [fr]
  repeat' (first | (refine XO.op rfl ?_; (first | ((first | refine Xo.ng rfl ?_); (first | (refine Xg.ev (EvF.makeFunc (fl := []) rfl Args.nil (Args.cons rfl (Args.cons rfl Args.nil))) rfl rfl ?_) | (refine Xg.call (EnF.st rfl (Args.cons rfl (Args.cons rfl Args.nil))) rfl rfl (containsFunc_spec R.boxes _ _ 68 (fun b => decide (besideP R x b)) _ _ (hR2 _ _).boxes hR.l2 (fun b _ => isBeside1_spec R ⟨a1, c1, a2, c2, a3, c3⟩ x b _ _ _ _ _ _ _ hm (List.Mem.head _) (List.Mem.tail _ (List.Mem.head _)))) ?_; rintro _ H9 ⟨rfl, hH9⟩; subst H9) | (refine Xg.ev (EvF.assign rfl rfl) rfl rfl ?_) | (refine Xg.ev (EvF.fieldAddr rfl rfl (te rfl) rfl (te rfl) (by decide)) rfl rfl ?_) | (refine Xg.ev (EvF.loadV rfl rfl (LoadV.own (te rfl) rfl (List.Mem.tail _ (List.Mem.head _)) rfl)) rfl rfl ?_) | (refine Xg.st (StF.boxAgg rfl rfl) rfl rfl ?_; rintro _ _ ⟨bx, rfl, rfl⟩))))) | (refine XO.done rfl ?_; refine hK _ _ ?_; clear hK K) | refine X.seq rfl ?_ | refine X.region rfl (fun K hK => ?_) | refine X.ret rfl ?_)
  refine ret_one (by first | exact .inr rfl | exact .inl rfl) Try.results48 rfl (H' := H) (by (repeat (first | exact List.Sublist.refl _ | apply List.Sublist.cons)); done) ?_; simp only [and_true, true_and]
  rfl
end Go.Proofs.Ytminkpgacomicab
end
section
set_option linter.unusedVariables false
set_option linter.unusedSimpArgs false
namespace Go.Proofs.Ytminkpgacomicab
open Go Go.Fw
set_option maxRecDepth 10000
def lookOk1 (D : Dk) (x : Lk) : Prop := x.bale ∈ D.bales ∧ x.classer ∈ D.cls ∧ beside D.room x
def looksOk (D : Dk) : Prop := D.looks.length ≤ 12 ∧ risesOk (D.looks.map (·.number)) ∧ (∀ n ∈ D.looks.map (·.said), (Sp.mk 1 9).lo ≤ n ∧ n ≤ (Sp.mk 1 9).hi) ∧ ∀ x ∈ D.looks, lookOk1 D x
noncomputable instance (D : Dk) : Decidable (looksOk D) := Classical.propDecidable _
set_option maxHeartbeats 4000000 in
theorem hasValidLooks_spec (D : Dk) (p : Pd) (H : List Row) (hm : 1 ≤ D.room.months ∧ D.room.months ≤ 12) (hD : DkOk H D p) : Fc Try.prog 27 [.agg (cDk D p).toArray] H (fun v H' => v = .bool (decide (looksOk D)) ∧ H' = H) := by
  have hD1 : ∀ r, DkOk (r :: H) D p := fun r => hD.sub (fun _ h => List.mem_cons_of_mem _ h)
  have hD2 : ∀ r1 r2, DkOk (r1 :: r2 :: H) D p := fun r1 r2 => hD.sub (fun _ h => List.Mem.tail _ (List.Mem.tail _ h))
  have l6 := hD.l6
  obtain ⟨pr, a4, c4, a5, c5, a6, c6⟩ := p
  refine Fc.mk (callable Try.call27) Try.func27 rfl Try.ntmps27 rfl ?_; dsimp only [fr]
  refine X.seq rfl ?_; refine X.region rfl (fun K hK => ?_); repeat' (first | (refine XO.op rfl ?_; (first | ((first | refine Xo.ng rfl ?_); (first | (refine Xg.ev (EvF.assign rfl rfl) rfl rfl ?_) | (refine Xg.st (StF.boxAgg rfl rfl) rfl rfl ?_; rintro _ _ ⟨bx, rfl, rfl⟩))))) | (refine XO.done rfl ?_; refine hK _ _ ?_; clear hK K))
  rename Nat => b1
  repeat' (first | (refine XO.op rfl ?_; (first | ((first | refine Xo.ng rfl ?_ | (refine Xo.g rfl rfl ?_; with_reducible refine Xw.ff ?_)); (first | (refine Xg.call (EnF.st rfl (Args.cons rfl (Args.cons rfl Args.nil))) rfl rfl (numbersF_specLk 18 (·.number) numberL_spec D.looks _ _ _ (hD1 _).looks (by omega)) ?_; rintro _ _ ⟨a', c', Z, rfl, rfl, hz⟩) | (refine Xg.call (EnF.st rfl (Args.cons rfl (Args.cons rfl Args.nil))) rfl rfl (numbersF_specLk 47 (·.said) said_spec D.looks _ _ _ (hD.looks.sub (fun r h => List.mem_append_right _ (List.Mem.tail _ h))) (by omega)) ?_; rintro _ _ ⟨a'', c'', Z2, rfl, rfl, hz2⟩) | (refine Xg.call (EnF.st rfl (Args.cons rfl Args.nil)) rfl rfl (rising_spec (D.looks.map (·.number)) a' c' _ hz (by rw [List.length_map]; omega)) ?_; rintro _ H9 ⟨rfl, hH9⟩; subst H9) | (refine Xg.call (EnF.st rfl (Args.cons rfl (Args.cons rfl Args.nil))) rfl rfl (withinL_spec ⟨1, 9⟩ (D.looks.map (·.said)) a'' c'' _ hz2 (by rw [List.length_map]; omega)) ?_; rintro _ H9 ⟨rfl, hH9⟩; subst H9) | (refine Xg.ev (EvF.build (cs := cSp ⟨1, 9⟩) rfl (ArgsP.cons rfl (ArgsP.cons rfl ArgsP.nil)) (te rfl) (Places.cons (te rfl) (Places.cons (te rfl) Places.nil)) Try.zeroValue57 rfl) rfl rfl ?_) | (refine Xg.ev (EvF.loadV rfl rfl (LoadV.own (te rfl) rfl (List.mem_append_right _ (List.Mem.head _)) rfl)) rfl rfl ?_) | (refine Xg.ev (EvF.loadV rfl rfl (LoadV.own (te rfl) rfl (List.mem_append_right _ (List.mem_append_right _ (List.Mem.head _))) rfl)) rfl rfl ?_) | (refine Xg.ev (EvF.move rfl rfl) rfl rfl ?_) | (refine Xg.ev (EvF.assign rfl rfl) rfl rfl ?_) | (refine Xg.ev (EvF.pickT rfl rfl rfl) rfl rfl ?_) | (refine Xg.ev (EvF.pickF rfl rfl rfl) rfl rfl ?_) | (refine Xg.ev (EvF.cmp rfl rfl rfl rfl) rfl rfl ?_) | (refine Xg.ev (EvF.not rfl rfl) rfl rfl ?_) | (refine Xg.ev (EvF.fieldAddr rfl rfl (te rfl) rfl (te rfl) (by decide)) rfl rfl ?_) | (refine Xg.ev (EvF.lenSlice rfl rfl (te rfl)) rfl rfl ?_) | (refine Xg.ev (EvF.loadV rfl rfl (LoadV.own (te rfl) rfl (List.Mem.head _) rfl)) rfl rfl ?_))) | (refine Xo.g rfl rfl ?_; (first | (with_reducible refine Xw.tf rfl rfl ?_) | (with_reducible refine Xw.case (fun h => ?_) (fun h => ?_) <;> simp only [h, decide_true, decide_false, Bool.not_true, Bool.not_false, and_self, and_true, true_and, and_false, false_and]) | (with_reducible refine Xw.caseN (fun h => ?_) (fun h => ?_) <;> simp only [h, decide_true, decide_false, Bool.not_true, Bool.not_false, and_self, and_true, true_and, and_false, false_and]))))) | (refine XO.done rfl ?_; refine hK _ _ ?_; clear hK K) | refine X.seq rfl ?_ | refine X.region rfl (fun K hK => ?_) | refine X.block rfl ?_ | refine X.skip rfl ?_ | refine X.ret rfl ?_ | (refine X.ite rfl rfl (fun hc => ?_); (first | (with_reducible refine Xb.t hc ?_) | (with_reducible refine Xb.caseN hc (fun h => ?_) (fun h => ?_))) <;> clear hc))
  any_goals (refine ret_one (by first | exact .inr rfl | exact .inl rfl) Try.results27 rfl (H' := H) (by first | exact List.sublist_cons_self _ _ | exact (List.sublist_cons_self _ _).trans (List.sublist_append_right _ _) | exact ((List.sublist_cons_self _ _).trans (List.sublist_append_right _ _)).trans (List.sublist_append_right _ _)) ⟨?_, rfl⟩; congr 1; symm; refine decide_eq_false (fun q => ?_); first | (have := q.1; omega) | exact absurd q.2.1 (by assumption) | exact absurd q.2.2.1 (by assumption))
  have hri : risesOk (D.looks.map (·.number)) := by assumption
  have hsa : ∀ n ∈ D.looks.map (·.said), (Sp.mk 1 9).lo ≤ n ∧ n ≤ (Sp.mk 1 9).hi := by assumption
  refine X.lp rfl (fun m F' H' => ∃ k : Nat, m = D.looks.length - k ∧ k ≤ D.looks.length ∧ ((∀ x ∈ D.looks, lookOk1 D x) ↔ ∀ x ∈ D.looks.drop k, lookOk1 D x) ∧ H' = ⟨b1, 0, cDk D ⟨pr, a4, c4, a5, c5, a6, c6⟩, some 30, 9⟩ :: H ∧
      F' = [(1, .pointer (some ⟨b1, 0, none⟩)), (25, .slice a6 D.looks.length c6), (26, .int .i64 D.looks.length), (27, .int .i64 k)])
    D.looks.length [(1, .pointer (some ⟨b1, 0, none⟩)), (25, .slice a6 D.looks.length c6), (26, .int .i64 D.looks.length), (27, .int .i64 (0 : Nat))] _ (by (repeat (first | exact Sub.nil _ | refine Sub.cons rfl ?_)); done) ((List.sublist_append_right _ _).trans (List.sublist_append_right _ _)) ⟨0, by omega, by omega, by simp, rfl, rfl⟩ ?_
  rintro _ _ _ ⟨k, rfl, hk, hn, rfl, rfl⟩
  clear hz hz2
  repeat' (first | (refine XO.op rfl ?_; (first | ((first | refine Xo.ng rfl ?_); (first | (refine Xg.ev (EvF.assign rfl rfl) rfl rfl ?_) | (refine Xg.ev (EvF.cmp rfl rfl rfl rfl) rfl rfl ?_))))) | (refine XO.done rfl ?_; refine hK _ _ ?_; clear hK K) | refine X.seq rfl ?_ | refine X.region rfl (fun K hK => ?_) | refine X.block rfl ?_ | (refine X.brk rfl ?_; repeat (first | refine blockX_hit rfl ?_ | refine blockX_miss (by decide) ?_)) | refine X.skip rfl ?_ | refine X.ret rfl ?_ | (refine X.ite rfl rfl (fun hc => ?_); (first | (with_reducible refine Xb.case hc (fun h => ?_) (fun h => ?_))) <;> clear hc))
  · obtain ⟨b, off, e, rfl, he⟩ := hD.looks.elem (i := k) (by omega)
    rw [drop_cons he] at hn
    repeat' (first | (refine XO.op rfl ?_; (first | ((first | refine Xo.ng rfl ?_ | (refine Xo.g rfl rfl ?_; with_reducible refine Xw.ff ?_)); (first | (refine Xg.ev (EvF.loadV rfl rfl (LoadV.elA0 (hD1 _).looks he (te rfl) rfl (fun _ hm => hm) rfl)) rfl rfl ?_) | (refine Xg.ev (EvF.loadV rfl rfl (LoadV.own (te rfl) rfl (List.Mem.head _) rfl)) rfl rfl ?_) | (refine Xg.call (EnF.st rfl (Args.cons rfl (Args.cons rfl Args.nil))) rfl rfl (contains_spec D.bales _ _ _ _ (hD2 _ _).bales hD.l4) ?_; rintro _ H9 ⟨rfl, hH9⟩; subst H9) | (refine Xg.call (EnF.st rfl (Args.cons rfl (Args.cons rfl Args.nil))) rfl rfl (contains_spec D.cls _ _ _ _ (hD2 _ _).cls hD.l5) ?_; rintro _ H9 ⟨rfl, hH9⟩; subst H9) | (refine Xg.call (EnF.st rfl (Args.cons rfl (Args.cons rfl Args.nil))) rfl rfl (isBeside_spec D.room pr e _ hm (hD2 _ _).room) ?_; rintro _ H9 ⟨rfl, hH9⟩; subst H9) | (refine Xg.ev (EvF.move rfl rfl) rfl rfl ?_) | (refine Xg.ev (EvF.assign rfl rfl) rfl rfl ?_) | (refine Xg.ev (EvF.pickT rfl rfl rfl) rfl rfl ?_) | (refine Xg.ev (EvF.pickF rfl rfl rfl) rfl rfl ?_) | (refine Xg.ev (EvF.add64 rfl rfl rfl (by omega) (by omega)) rfl rfl ?_) | (refine Xg.ev (EvF.not rfl rfl) rfl rfl ?_) | (refine Xg.ev (EvF.fieldAddr rfl rfl (te rfl) rfl (te rfl) (by decide)) rfl rfl ?_) | (refine Xg.ev (EvF.indexSlice rfl rfl rfl (te rfl) (te rfl) (by omega) (by omega)) rfl rfl ?_) | (refine Xg.ev (EvF.loadV rfl rfl (LoadV.own (te rfl) rfl (List.Mem.tail _ (List.Mem.head _)) rfl)) rfl rfl ?_) | (refine Xg.ev (EvF.loadV rfl rfl (LoadV.whole (te rfl) rfl (List.Mem.head _) rfl)) rfl rfl ?_) | (refine Xg.ev (EvF.loadV rfl rfl (LoadV.ownAgg (te rfl) rfl (List.Mem.tail _ (List.Mem.head _)) rfl rfl)) rfl rfl ?_) | (refine Xg.st (StF.alloc rfl Try.zeroValue61 rfl) rfl rfl ?_; rintro _ _ ⟨bx, rfl, rfl⟩) | (refine Xg.st0 (StF.storeAll (i := 0) rfl rfl rfl (te rfl) rfl rfl rfl rfl) rfl ?_; rintro _ _ ⟨rfl, rfl⟩; dsimp only [List.set]))) | (refine Xo.g rfl rfl ?_; (first | (with_reducible refine Xw.tf rfl rfl ?_) | (with_reducible refine Xw.caseN (fun h => ?_) (fun h => ?_) <;> simp only [h, decide_true, decide_false, Bool.not_true, Bool.not_false, and_self, and_true, true_and, and_false, false_and]))))) | (refine XO.done rfl ?_; refine hK _ _ ?_; clear hK K) | refine X.seq rfl ?_ | refine X.region rfl (fun K hK => ?_) | refine X.skip rfl ?_ | refine X.ret rfl ?_ | (refine X.ite rfl rfl (fun hc => ?_); (first | (with_reducible refine Xb.t hc ?_) | (with_reducible refine Xb.caseN hc (fun h => ?_) (fun h => ?_))) <;> clear hc))
    any_goals (refine ret_one (by first | exact .inr rfl | exact .inl rfl) Try.results27 rfl (H' := H) (by (repeat (first | exact List.Sublist.refl _ | apply List.Sublist.cons)); done) ?_; simp only [and_true, true_and]; congr 1; symm; refine decide_eq_false (fun q => ?_); obtain ⟨q1, q2, q3⟩ := hn.1 q.2.2.2 e List.mem_cons_self; first | (exact absurd q1 (by assumption)) | (exact absurd q2 (by assumption)) | (exact absurd q3 (by assumption)))
    refine ⟨_, _, _, (by (repeat (first | exact Sub.nil _ | refine Sub.cons rfl ?_)); done), (by (repeat (first | exact List.Sublist.refl _ | apply List.Sublist.cons)); done), ⟨k + 1, rfl, by omega, hn.trans ⟨fun q n hm => q n (List.mem_cons_of_mem _ hm), fun q n hm => ?_⟩, rfl, rfl⟩, by omega⟩
    rcases List.mem_cons.1 hm with rfl | hm
    · exact ⟨by assumption, by assumption, by assumption⟩
    · exact q n hm
  · refine ret_one (by first | exact .inr rfl | exact .inl rfl) Try.results27 rfl (H' := H) (by (repeat (first | exact List.Sublist.refl _ | apply List.Sublist.cons)); done) ?_; simp only [and_true, true_and]
    congr 1; symm
    exact decide_eq_true ⟨by omega, hri, hsa, hn.2 (by rw [List.drop_eq_nil_of_le (by omega)]; exact fun _ h => absurd h List.not_mem_nil)⟩
/-- a valid desk, as the program asks it -/
def deskOk (D : Dk) : Prop := roomOk D.room ∧ (∀ n ∈ [D.lean], (Sp.mk 0 30).lo ≤ n ∧ n ≤ (Sp.mk 0 30).hi) ∧ idsOk D ∧ looksOk D
theorem roomOk.m {R : Rm} (h : roomOk R) : 1 ≤ R.months ∧ R.months ≤ 12 := ⟨h.1.1, h.1.2.1⟩
set_option maxHeartbeats 4000000 in
theorem gcheck_spec (D : Dk) (p : Pd) (H : List Row) (hD : DkOk H D p) : Fc Try.prog 15 [.agg (cDk D p).toArray] H (fun v H' => ((deskOk D ∧ v = .int .i64 0) ∨ (¬ deskOk D ∧ v = .int .i64 20)) ∧ H' = H) := by
  have hD1 : ∀ r, DkOk (r :: H) D p := fun r => hD.sub (fun _ h => List.mem_cons_of_mem _ h)
  have hD2 : ∀ r1 r2, DkOk (r1 :: r2 :: H) D p := fun r1 r2 => hD.sub (fun _ h => List.Mem.tail _ (List.Mem.tail _ h))
  obtain ⟨pr, a4, c4, a5, c5, a6, c6⟩ := p
  refine Fc.mk (callable Try.call15) Try.func15 rfl Try.ntmps15 rfl ?_; dsimp only [fr]
  repeat' (first | (refine XO.op rfl ?_; (first | ((first | refine Xo.ng rfl ?_ | (refine Xo.g rfl rfl ?_; with_reducible refine Xw.ff ?_)); (first | (refine Xg.call (EnF.st rfl (Args.cons rfl Args.nil)) rfl rfl (check_spec D.room pr _ (hD1 _).room) ?_; rintro _ H9 ⟨⟨hr, rfl⟩ | ⟨hr, rfl⟩, hH9⟩ <;> subst H9) | (refine Xg.ev (EvF.build (cs := cSp ⟨0, 30⟩) rfl (ArgsP.cons rfl (ArgsP.cons rfl ArgsP.nil)) (te rfl) (Places.cons (te rfl) (Places.cons (te rfl) Places.nil)) Try.zeroValue57 rfl) rfl rfl ?_) | (refine Xg.st (StF.buildOne rfl el55 rfl rfl rfl (by decide) (by decide)) rfl rfl ?_; rintro _ _ ⟨bo, rfl, rfl⟩) | (refine Xg.call (EnF.st rfl (Args.cons rfl (Args.cons rfl Args.nil))) rfl rfl (withinL_spec ⟨0, 30⟩ [D.lean] _ _ _ (SlE.ofRow (l := [D.lean]) (List.Mem.head _) (fun _ _ => rfl)) (by simp)) ?_; rintro _ H9 ⟨rfl, hH9⟩; subst H9) | (refine Xg.call (EnF.st rfl (Args.cons rfl Args.nil)) rfl rfl (hasValidIds_spec D ⟨pr, a4, c4, a5, c5, a6, c6⟩ _ (hD2 _ _)) ?_; rintro _ H9 ⟨rfl, hH9⟩; subst H9) | (refine Xg.call (EnF.st rfl (Args.cons rfl Args.nil)) rfl rfl (hasValidLooks_spec D ⟨pr, a4, c4, a5, c5, a6, c6⟩ _ hr.m (hD2 _ _)) ?_; rintro _ H9 ⟨rfl, hH9⟩; subst H9) | (refine Xg.ev (EvF.move rfl rfl) rfl rfl ?_) | (refine Xg.ev (EvF.assign rfl rfl) rfl rfl ?_) | (refine Xg.ev (EvF.pickT rfl rfl rfl) rfl rfl ?_) | (refine Xg.ev (EvF.pickF rfl rfl rfl) rfl rfl ?_) | (refine Xg.ev (EvF.cmp rfl rfl rfl rfl) rfl rfl ?_) | (refine Xg.ev (EvF.not rfl rfl) rfl rfl ?_) | (refine Xg.ev (EvF.fieldAddr rfl rfl (te rfl) rfl (te rfl) (by decide)) rfl rfl ?_) | (refine Xg.ev (EvF.loadV rfl rfl (LoadV.own (te rfl) rfl (List.Mem.head _) rfl)) rfl rfl ?_) | (refine Xg.ev (EvF.loadV rfl rfl (LoadV.whole (te rfl) rfl (List.Mem.tail _ (List.Mem.head _)) rfl)) rfl rfl ?_) | (refine Xg.ev (EvF.loadV rfl rfl (LoadV.ownAgg (te rfl) rfl (List.Mem.head _) rfl rfl)) rfl rfl ?_) | (refine Xg.st (StF.boxAgg rfl rfl) rfl rfl ?_; rintro _ _ ⟨bx, rfl, rfl⟩))) | (refine Xo.g rfl rfl ?_; (first | (with_reducible refine Xw.tf rfl rfl ?_) | (with_reducible refine Xw.caseN (fun h => ?_) (fun h => ?_) <;> simp only [h, decide_true, decide_false, Bool.not_true, Bool.not_false, and_self, and_true, true_and, and_false, false_and]) | (with_reducible refine Xw.caseB (fun h => ?_) (fun h => ?_) <;> simp only [h, decide_true, decide_false, Bool.not_true, Bool.not_false, and_self, and_true, true_and, and_false, false_and]))))) | (refine XO.done rfl ?_; refine hK _ _ ?_; clear hK K) | refine X.seq rfl ?_ | refine X.region rfl (fun K hK => ?_) | refine X.skip rfl ?_ | refine X.ret rfl ?_ | (refine X.ite rfl rfl (fun hc => ?_); (first | (with_reducible refine Xb.t hc ?_) | (with_reducible refine Xb.caseN hc (fun h => ?_) (fun h => ?_))) <;> clear hc))
  any_goals (exfalso; first | omega | (simp_all; done))
  all_goals (refine ret_one (by first | exact .inr rfl | exact .inl rfl) Try.results15 rfl (H' := H) (by (repeat (first | exact List.Sublist.refl _ | apply List.Sublist.cons)); done) ⟨?_, rfl⟩; first | exact .inl ⟨⟨hr, by assumption, by assumption, by assumption⟩, rfl⟩ | exact .inr ⟨fun q => absurd q.1 (by assumption), rfl⟩ | exact .inr ⟨fun q => absurd q.2.1 (by assumption), rfl⟩ | exact .inr ⟨fun q => absurd q.2.2.1 (by assumption), rfl⟩ | exact .inr ⟨fun q => absurd q.2.2.2 (by assumption), rfl⟩)
end Go.Proofs.Ytminkpgacomicab
end
section
set_option linter.unusedVariables false
set_option linter.unusedSimpArgs false
namespace Go.Proofs.Ytminkpgacomicab
open Go Go.Fw
set_option maxRecDepth 10000
theorem within2_spec (n lo hi : Int) (H : List Row) : Fc Try.prog 35 [.int .i64 n, .int .i64 lo, .int .i64 hi] H (fun v H' => v = .bool (decide (lo ≤ n ∧ n ≤ hi)) ∧ H' = H) := by
  refine Fc.mk (callable Try.call35) Try.func35 rfl Try.ntmps35 rfl ?_; dsimp only [fr]
  repeat' (first | (refine XO.op rfl ?_; (first | ((first | refine Xo.ng rfl ?_ | (refine Xo.g rfl rfl ?_; with_reducible refine Xw.tt ?_)); (first | (refine Xg.ev (EvF.move rfl rfl) rfl rfl ?_) | (refine Xg.ev (EvF.assign rfl rfl) rfl rfl ?_) | (refine Xg.ev (EvF.pickT rfl rfl rfl) rfl rfl ?_) | (refine Xg.ev (EvF.pickF rfl rfl rfl) rfl rfl ?_) | (refine Xg.ev (EvF.cmp rfl rfl rfl rfl) rfl rfl ?_) | (refine Xg.ev (EvF.lenSlice rfl rfl (te rfl)) rfl rfl ?_))) | (refine Xo.g rfl rfl ?_; (first | (with_reducible refine Xw.ft rfl rfl ?_) | (with_reducible refine Xw.case (fun h => ?_) (fun h => ?_) <;> simp only [h, decide_true, decide_false, Bool.not_true, Bool.not_false, and_self, and_true, true_and, and_false, false_and]))))) | (refine XO.done rfl ?_; refine hK _ _ ?_; clear hK K) | refine X.seq rfl ?_ | refine X.region rfl (fun K hK => ?_) | refine X.block rfl ?_ | (refine X.brk rfl ?_; repeat (first | refine blockX_hit rfl ?_ | refine blockX_miss (by decide) ?_)) | refine X.skip rfl ?_ | refine X.ret rfl ?_ | (refine X.ite rfl rfl (fun hc => ?_); (first | (with_reducible refine Xb.case hc (fun h => ?_) (fun h => ?_))) <;> clear hc))
  all_goals (refine ret_one (by first | exact .inr rfl | exact .inl rfl) Try.results35 rfl (H' := H) (by (repeat (first | exact List.Sublist.refl _ | apply List.Sublist.cons)); done) ?_; simp only [and_true, true_and])
  all_goals simp [*]
def rising2 : Int → List Int → Prop
  | _, [] => True
  | last, n :: t => last + 1 ≤ n ∧ n ≤ 9999 ∧ rising2 n t
theorem rising2_iff : ∀ (l : List Int) (last : Int), last ≤ 9999 → (rising2 last l ↔ rises last l ∧ lastOf last l ≤ 9999)
  | [], last, h => by simp [rising2, rises, lastOf, h]
  | n :: t, last, h => by
    have hl := rises_le t n
    constructor
    · rintro ⟨h1, h2, h3⟩
      obtain ⟨q1, q2⟩ := (rising2_iff t n h2).1 h3
      exact ⟨⟨by omega, q1⟩, q2⟩
    · rintro ⟨⟨h1, h2⟩, h3⟩
      have h5 := hl h2
      have h3' : lastOf n t ≤ 9999 := h3
      exact ⟨by omega, by omega, (rising2_iff t n (by omega)).2 ⟨h2, h3'⟩⟩
theorem rising2_spec (l : List Int) (a : Option Addr) (c : Nat) (H : List Row) (hl : SlE H a cI 1 l) (hb : l.length ≤ 9223372036854775807) : Fc Try.prog 36 [.slice a l.length c] H (fun v H' => v = .bool (decide (risesOk l)) ∧ H' = H) := by
  have h0 : risesOk l ↔ rising2 0 l := (rising2_iff l 0 (by omega)).symm
  refine Fc.mk (callable Try.call36) Try.func36 rfl Try.ntmps36 rfl ?_; dsimp only [fr]
  repeat' (first | (refine XO.op rfl ?_; (first | ((first | refine Xo.ng rfl ?_ | (refine Xo.g rfl rfl ?_; with_reducible refine Xw.tt ?_)); (first | (refine Xg.ev (EvF.move rfl rfl) rfl rfl ?_) | (refine Xg.ev (EvF.assign rfl rfl) rfl rfl ?_) | (refine Xg.ev (EvF.pickT rfl rfl rfl) rfl rfl ?_) | (refine Xg.ev (EvF.pickF rfl rfl rfl) rfl rfl ?_) | (refine Xg.ev (EvF.cmp rfl rfl rfl rfl) rfl rfl ?_) | (refine Xg.ev (EvF.lenSlice rfl rfl (te rfl)) rfl rfl ?_))) | (refine Xo.g rfl rfl ?_; (first | (with_reducible refine Xw.ft rfl rfl ?_) | (with_reducible refine Xw.case (fun h => ?_) (fun h => ?_) <;> simp only [h, decide_true, decide_false, Bool.not_true, Bool.not_false, and_self, and_true, true_and, and_false, false_and]))))) | (refine XO.done rfl ?_; refine hK _ _ ?_; clear hK K) | refine X.seq rfl ?_ | refine X.region rfl (fun K hK => ?_) | refine X.block rfl ?_ | (refine X.brk rfl ?_; repeat (first | refine blockX_hit rfl ?_ | refine blockX_miss (by decide) ?_)) | refine X.skip rfl ?_ | refine X.ret rfl ?_ | (refine X.ite rfl rfl (fun hc => ?_); (first | (with_reducible refine Xb.case hc (fun h => ?_) (fun h => ?_))) <;> clear hc))
  refine X.lp rfl (fun q F' H' => ∃ (k : Nat) (last : Int), q = l.length - k ∧ k ≤ l.length ∧ (risesOk l ↔ rising2 last (l.drop k)) ∧ 0 ≤ last ∧ last ≤ 9999 ∧ H = H' ∧
      F' = [(3, .int .i64 last), (6, .slice a l.length c), (7, .int .i64 l.length), (8, .int .i64 k)])
    l.length [(3, .int .i64 0), (6, .slice a l.length c), (7, .int .i64 l.length), (8, .int .i64 (0 : Nat))] _ (by (repeat (first | exact Sub.nil _ | refine Sub.cons rfl ?_)); done) (by (repeat (first | exact List.Sublist.refl _ | apply List.Sublist.cons_cons | apply List.Sublist.cons)); done) ⟨0, 0, by omega, by omega, by simpa using h0, by omega, by omega, rfl, rfl⟩ ?_
  rintro _ _ H2 ⟨k, last, rfl, hk, hn, hl0, hl9, hH, rfl⟩
  subst hH
  repeat' (first | (refine XO.op rfl ?_; (first | ((first | refine Xo.ng rfl ?_ | (refine Xo.g rfl rfl ?_; with_reducible refine Xw.tt ?_)); (first | (refine Xg.ev (EvF.move rfl rfl) rfl rfl ?_) | (refine Xg.ev (EvF.assign rfl rfl) rfl rfl ?_) | (refine Xg.ev (EvF.pickT rfl rfl rfl) rfl rfl ?_) | (refine Xg.ev (EvF.pickF rfl rfl rfl) rfl rfl ?_) | (refine Xg.ev (EvF.cmp rfl rfl rfl rfl) rfl rfl ?_) | (refine Xg.ev (EvF.lenSlice rfl rfl (te rfl)) rfl rfl ?_))) | (refine Xo.g rfl rfl ?_; (first | (with_reducible refine Xw.ft rfl rfl ?_) | (with_reducible refine Xw.case (fun h => ?_) (fun h => ?_) <;> simp only [h, decide_true, decide_false, Bool.not_true, Bool.not_false, and_self, and_true, true_and, and_false, false_and]))))) | (refine XO.done rfl ?_; refine hK _ _ ?_; clear hK K) | refine X.seq rfl ?_ | refine X.region rfl (fun K hK => ?_) | refine X.block rfl ?_ | (refine X.brk rfl ?_; repeat (first | refine blockX_hit rfl ?_ | refine blockX_miss (by decide) ?_)) | refine X.skip rfl ?_ | refine X.ret rfl ?_ | (refine X.ite rfl rfl (fun hc => ?_); (first | (with_reducible refine Xb.case hc (fun h => ?_) (fun h => ?_))) <;> clear hc))
  · obtain ⟨b, off, e, rfl, he⟩ := hl.elem (i := k) (by omega)
    rw [drop_cons he] at hn
    repeat' (first | (refine XO.op rfl ?_; (first | ((first | refine Xo.ng rfl ?_); (first | (refine Xg.ev (EvF.loadV rfl rfl (LoadV.el0 hl he (te rfl) rfl (fun _ hm => hm) rfl)) rfl rfl ?_) | (refine Xg.call (EnF.st rfl (by (repeat (first | exact Args.nil | refine Args.cons rfl ?_)); done)) rfl rfl (within2_spec _ _ _ _) ?_; rintro _ H9 ⟨rfl, hH9⟩; subst H9) | (refine Xg.ev (EvF.move rfl rfl) rfl rfl ?_) | (refine Xg.ev (EvF.assign rfl rfl) rfl rfl ?_) | (refine Xg.ev (EvF.add64 rfl rfl rfl (by omega) (by omega)) rfl rfl ?_) | (refine Xg.ev (EvF.not rfl rfl) rfl rfl ?_) | (refine Xg.ev (EvF.indexSlice rfl rfl rfl (te rfl) (te rfl) (by omega) (by omega)) rfl rfl ?_))))) | (refine XO.done rfl ?_; refine hK _ _ ?_; clear hK K) | refine X.seq rfl ?_ | refine X.region rfl (fun K hK => ?_) | refine X.skip rfl ?_ | refine X.ret rfl ?_ | (refine X.ite rfl rfl (fun hc => ?_); (first | (with_reducible refine Xb.caseN hc (fun h => ?_) (fun h => ?_))) <;> clear hc))
    · refine ret_one (by first | exact .inr rfl | exact .inl rfl) Try.results36 rfl (H' := H) (by (repeat (first | exact List.Sublist.refl _ | apply List.Sublist.cons)); done) ?_; simp only [and_true, true_and]
      congr 1; symm; exact decide_eq_false (fun q => by have := hn.1 q; unfold rising2 at this; omega)
    · refine ⟨_, [(3, .int .i64 e), (6, .slice (some ⟨b, off, none⟩) l.length c), (7, .int .i64 l.length), (8, .int .i64 (k + 1 : Nat))], _, (by (repeat (first | exact Sub.nil _ | refine Sub.cons rfl ?_)); done), (by (repeat (first | exact List.Sublist.refl _ | apply List.Sublist.cons)); done), ⟨k + 1, e, rfl, by omega, hn.trans ⟨fun q => q.2.2, fun q => ⟨by omega, by omega, q⟩⟩, by omega, by omega, rfl, rfl⟩, by omega⟩
  · rw [List.drop_eq_nil_of_le (by omega)] at hn
    refine ret_one (by first | exact .inr rfl | exact .inl rfl) Try.results36 rfl (H' := H) (by (repeat (first | exact List.Sublist.refl _ | apply List.Sublist.cons)); done) ?_; simp only [and_true, true_and]
    congr 1; symm
    exact decide_eq_true (hn.2 trivial)
theorem index2_spec (l : List Int) (a : Option Addr) (c : Nat) (x : Int) (H : List Row) (hl : SlE H a cI 1 l) (hb : l.length ≤ 9223372036854775807) :
    Fc Try.prog 42 [.slice a l.length c, .int .i64 x] H (fun v H' => (∃ z, v = .int .i64 z ∧ IdxR (fun n => decide (n = x)) l z) ∧ H' = H) := by
  refine Fc.mk (callable Try.call42) Try.func42 rfl Try.ntmps42 rfl ?_; dsimp only [fr]
  repeat' (first | (refine XO.op rfl ?_; (first | ((first | refine Xo.ng rfl ?_ | (refine Xo.g rfl rfl ?_; with_reducible refine Xw.tt ?_)); (first | (refine Xg.ev (EvF.move rfl rfl) rfl rfl ?_) | (refine Xg.ev (EvF.assign rfl rfl) rfl rfl ?_) | (refine Xg.ev (EvF.pickT rfl rfl rfl) rfl rfl ?_) | (refine Xg.ev (EvF.pickF rfl rfl rfl) rfl rfl ?_) | (refine Xg.ev (EvF.cmp rfl rfl rfl rfl) rfl rfl ?_) | (refine Xg.ev (EvF.lenSlice rfl rfl (te rfl)) rfl rfl ?_))) | (refine Xo.g rfl rfl ?_; (first | (with_reducible refine Xw.ft rfl rfl ?_) | (with_reducible refine Xw.case (fun h => ?_) (fun h => ?_) <;> simp only [h, decide_true, decide_false, Bool.not_true, Bool.not_false, and_self, and_true, true_and, and_false, false_and]))))) | (refine XO.done rfl ?_; refine hK _ _ ?_; clear hK K) | refine X.seq rfl ?_ | refine X.region rfl (fun K hK => ?_) | refine X.block rfl ?_ | (refine X.brk rfl ?_; repeat (first | refine blockX_hit rfl ?_ | refine blockX_miss (by decide) ?_)) | refine X.skip rfl ?_ | refine X.ret rfl ?_ | (refine X.ite rfl rfl (fun hc => ?_); (first | (with_reducible refine Xb.case hc (fun h => ?_) (fun h => ?_))) <;> clear hc))
  refine X.lp rfl (fun q F' H' => ∃ k : Nat, q = l.length - k ∧ k ≤ l.length ∧ (∀ i e, i < k → l[i]? = some e → ¬ e = x) ∧ H = H' ∧
      F' = [(0, .slice a l.length c), (1, .int .i64 x), (5, .int .i64 k)])
    l.length [(0, .slice a l.length c), (1, .int .i64 x), (5, .int .i64 (0 : Nat))] _ (by (repeat (first | exact Sub.nil _ | refine Sub.cons rfl ?_)); done) (by (repeat (first | exact List.Sublist.refl _ | apply List.Sublist.cons_cons | apply List.Sublist.cons)); done) ⟨0, by omega, by omega, (fun i e hi => absurd hi (by omega)), rfl, rfl⟩ ?_
  rintro _ _ H2 ⟨k, rfl, hk, hn, hH, rfl⟩
  subst hH
  repeat' (first | (refine XO.op rfl ?_; (first | ((first | refine Xo.ng rfl ?_ | (refine Xo.g rfl rfl ?_; with_reducible refine Xw.tt ?_)); (first | (refine Xg.ev (EvF.move rfl rfl) rfl rfl ?_) | (refine Xg.ev (EvF.assign rfl rfl) rfl rfl ?_) | (refine Xg.ev (EvF.pickT rfl rfl rfl) rfl rfl ?_) | (refine Xg.ev (EvF.pickF rfl rfl rfl) rfl rfl ?_) | (refine Xg.ev (EvF.cmp rfl rfl rfl rfl) rfl rfl ?_) | (refine Xg.ev (EvF.lenSlice rfl rfl (te rfl)) rfl rfl ?_))) | (refine Xo.g rfl rfl ?_; (first | (with_reducible refine Xw.ft rfl rfl ?_) | (with_reducible refine Xw.case (fun h => ?_) (fun h => ?_) <;> simp only [h, decide_true, decide_false, Bool.not_true, Bool.not_false, and_self, and_true, true_and, and_false, false_and]))))) | (refine XO.done rfl ?_; refine hK _ _ ?_; clear hK K) | refine X.seq rfl ?_ | refine X.region rfl (fun K hK => ?_) | refine X.block rfl ?_ | (refine X.brk rfl ?_; repeat (first | refine blockX_hit rfl ?_ | refine blockX_miss (by decide) ?_)) | refine X.skip rfl ?_ | refine X.ret rfl ?_ | (refine X.ite rfl rfl (fun hc => ?_); (first | (with_reducible refine Xb.case hc (fun h => ?_) (fun h => ?_))) <;> clear hc))
  · obtain ⟨b, off, e, rfl, he⟩ := hl.elem (i := k) (by omega)
    repeat' (first | (refine XO.op rfl ?_; (first | ((first | refine Xo.ng rfl ?_); (first | (refine Xg.ev (EvF.loadV rfl rfl (LoadV.el0 hl he (te rfl) rfl (fun _ hm => hm) rfl)) rfl rfl ?_) | (refine Xg.ev (EvF.move rfl rfl) rfl rfl ?_) | (refine Xg.ev (EvF.assign rfl rfl) rfl rfl ?_) | (refine Xg.ev (EvF.cmp rfl rfl rfl rfl) rfl rfl ?_) | (refine Xg.ev (EvF.add64 rfl rfl rfl (by omega) (by omega)) rfl rfl ?_) | (refine Xg.ev (EvF.indexSlice rfl rfl rfl (te rfl) (te rfl) (by omega) (by omega)) rfl rfl ?_))))) | (refine XO.done rfl ?_; refine hK _ _ ?_; clear hK K) | refine X.seq rfl ?_ | refine X.region rfl (fun K hK => ?_) | refine X.skip rfl ?_ | refine X.ret rfl ?_ | (refine X.ite rfl rfl (fun hc => ?_); (first | (with_reducible refine Xb.case hc (fun h => ?_) (fun h => ?_))) <;> clear hc))
    · refine ret_one (by first | exact .inr rfl | exact .inl rfl) Try.results42 rfl (H' := H) (by (repeat (first | exact List.Sublist.refl _ | apply List.Sublist.cons)); done) ?_; simp only [and_true, true_and]
      refine ⟨_, rfl, .inr ⟨k, e, rfl, he, decide_eq_true (by assumption), fun i e hi he => decide_eq_false (hn i e hi he)⟩⟩
    · refine ⟨_, [(0, .slice (some ⟨b, off, none⟩) l.length c), (1, .int .i64 x), (5, .int .i64 (k + 1 : Nat))], _, (by (repeat (first | exact Sub.nil _ | refine Sub.cons rfl ?_)); done), (by (repeat (first | exact List.Sublist.refl _ | apply List.Sublist.cons_cons | apply List.Sublist.cons)); done), ⟨k + 1, rfl, by omega, (fun i e' hi he' => ?_), rfl, rfl⟩, by omega⟩
      rcases Nat.lt_or_ge i k with h1 | h1
      · exact hn i e' h1 he'
      · obtain rfl : i = k := by omega
        rw [he] at he'; cases he'; assumption
  · refine ret_one (by first | exact .inr rfl | exact .inl rfl) Try.results42 rfl (H' := H) (by (repeat (first | exact List.Sublist.refl _ | apply List.Sublist.cons)); done) ?_; simp only [and_true, true_and]
    refine ⟨_, rfl, .inl ⟨rfl, fun e he => ?_⟩⟩
    obtain ⟨i, hi, rfl⟩ := List.mem_iff_getElem.1 he
    exact decide_eq_false (hn i _ (by omega) (List.getElem?_eq_getElem hi))
theorem there_spec (R : Rm) (p : Pl) (id m : Int) (H : List Row) (hR : RmOk H R p) (hm : 1 ≤ R.months ∧ R.months ≤ 12) (hi : 0 ≤ index R.boxes id) : Fc Try.prog 57 [.agg (cRm R p).toArray, .int .i64 (index R.boxes id), .int .i64 m] H (fun v H' => v = .bool (decide ((0 ≤ m ∧ m ≤ R.months - 1) ∧ (bxAt R.boxes id).made ≤ m)) ∧ H' = H) := by
  have hlt := index_lt R.boxes id
  have he := index_get hi
  obtain ⟨a1, c1, a2, c2, a3, c3⟩ := p
  obtain ⟨b, off, _, rfl, _⟩ := hR.boxes.elem (i := 0) (by omega)
  have hbx : ∀ r, SlE (r :: H) _ cBx 2 R.boxes := fun r => hR.boxes.sub (fun _ h => List.mem_cons_of_mem _ h)
  refine Fc.mk (callable Try.call57) Try.func57 rfl Try.ntmps57 rfl ?_; dsimp only [fr]
  repeat' (first | (refine XO.op rfl ?_; (first | ((first | refine Xo.ng rfl ?_ | (refine Xo.g rfl rfl ?_; with_reducible refine Xw.tt ?_)); (first | (refine Xg.call (EnF.st rfl (by (repeat (first | exact Args.nil | refine Args.cons rfl ?_)); done)) rfl rfl (within_spec _ _ _ _) ?_; rintro _ H9 ⟨rfl, hH9⟩; subst H9) | (refine Xg.ev (EvF.loadV rfl rfl (LoadV.el1 (hbx _) he (te rfl) rfl (fun _ hm => hm) rfl)) rfl rfl ?_) | (refine Xg.ev (EvF.move rfl rfl) rfl rfl ?_) | (refine Xg.ev (EvF.assign rfl rfl) rfl rfl ?_) | (refine Xg.ev (EvF.pickT rfl rfl rfl) rfl rfl ?_) | (refine Xg.ev (EvF.pickF rfl rfl rfl) rfl rfl ?_) | (refine Xg.ev (EvF.cmp rfl rfl rfl rfl) rfl rfl ?_) | (refine Xg.ev (EvF.sub64 rfl rfl rfl (by omega) (by omega)) rfl rfl ?_) | (refine Xg.ev (EvF.fieldAddr rfl rfl (te rfl) rfl (te rfl) (by decide)) rfl rfl ?_) | (refine Xg.ev (EvF.indexSlice rfl rfl rfl (te rfl) (te rfl) (by omega) (by omega)) rfl rfl ?_) | (refine Xg.ev (EvF.loadV rfl rfl (LoadV.own (te rfl) rfl (List.Mem.head _) rfl)) rfl rfl ?_) | (refine Xg.st (StF.boxAgg rfl rfl) rfl rfl ?_; rintro _ _ ⟨bx, rfl, rfl⟩))) | (refine Xo.g rfl rfl ?_; (first | (with_reducible refine Xw.ft rfl rfl ?_) | (with_reducible refine Xw.case (fun h => ?_) (fun h => ?_) <;> simp only [h, decide_true, decide_false, Bool.not_true, Bool.not_false, and_self, and_true, true_and, and_false, false_and]))))) | (refine XO.done rfl ?_; refine hK _ _ ?_; clear hK K) | refine X.seq rfl ?_ | refine X.region rfl (fun K hK => ?_) | refine X.ret rfl ?_)
  all_goals (refine ret_one (by first | exact .inr rfl | exact .inl rfl) Try.results57 rfl (H' := H) (by (repeat (first | exact List.Sublist.refl _ | apply List.Sublist.cons)); done) ?_; simp only [and_true, true_and])
  all_goals (congr 1; symm)
  all_goals first
    | exact decide_eq_false (fun q => absurd q.1 (by assumption))
    | exact decide_eq_decide.2 ⟨fun q => q.2, fun q => ⟨by assumption, q⟩⟩
end Go.Proofs.Ytminkpgacomicab
end
section
set_option linter.unusedVariables false
set_option linter.unusedSimpArgs false
namespace Go.Proofs.Ytminkpgacomicab
open Go Go.Fw
set_option maxRecDepth 10000
def lookR (D : Dk) (x : Lk) : Prop := x.classer ∈ D.cls ∧ x.bale ∈ D.bales ∧ (1 ≤ x.said ∧ x.said ≤ 9) ∧ (0 ≤ x.month ∧ x.month ≤ D.room.months - 1) ∧ 0 ≤ index D.room.boxes x.box ∧ (bxAt D.room.boxes x.box).made ≤ x.month
instance (D : Dk) (x : Lk) : Decidable (lookR D x) := by unfold lookR; infer_instance
theorem IdxR.lt {l : List Int} {x z : Int} (h : IdxR (fun n => decide (n = x)) l z) : z < 0 ↔ x ∉ l := by
  have := h.ge
  constructor
  · intro q hx
    have := this.2 ⟨x, hx, by simp⟩
    omega
  · intro q
    apply Int.not_le.1
    intro hz
    obtain ⟨e, he, hp⟩ := this.1 hz
    have := of_decide_eq_true hp
    subst this
    exact q he
set_option maxHeartbeats 4000000 in
theorem look_spec (D : Dk) (p : Pd) (x : Lk) (H : List Row) (hm : 1 ≤ D.room.months ∧ D.room.months ≤ 12) (hD : DkOk H D p) : Fc Try.prog 37 [.agg (cDk D p).toArray, .agg (cLk x).toArray] H (fun v H' => v = .bool (decide (lookR D x)) ∧ H' = H) := by
  have hD2 : ∀ r1 r2, DkOk (r1 :: r2 :: H) D p := fun r1 r2 => hD.sub (fun _ h => List.Mem.tail _ (List.Mem.tail _ h))
  obtain ⟨pr, a4, c4, a5, c5, a6, c6⟩ := p
  refine Fc.mk (callable Try.call37) Try.func37 rfl Try.ntmps37 rfl ?_; dsimp only [fr]
  repeat' (first | (refine XO.op rfl ?_; (first | ((first | refine Xo.ng rfl ?_ | (refine Xo.g rfl rfl ?_; with_reducible refine Xw.tt ?_) | (refine Xo.g rfl rfl ?_; with_reducible refine Xw.ff ?_)); (first | (refine Xg.call (EnF.st rfl (Args.cons rfl (Args.cons rfl Args.nil))) rfl rfl (index2_spec D.cls _ _ x.classer _ (hD2 _ _).cls hD.l5) ?_; rintro _ H9 ⟨⟨zc, rfl, hzc⟩, hH9⟩; subst H9) | (refine Xg.call (EnF.st rfl (Args.cons rfl (Args.cons rfl Args.nil))) rfl rfl (index2_spec D.bales _ _ x.bale _ (hD2 _ _).bales hD.l4) ?_; rintro _ H9 ⟨⟨zb, rfl, hzb⟩, hH9⟩; subst H9) | (refine Xg.call (EnF.st rfl (by (repeat (first | exact Args.nil | refine Args.cons rfl ?_)); done)) rfl rfl (within2_spec _ _ _ _) ?_; rintro _ H9 ⟨rfl, hH9⟩; subst H9) | (refine Xg.call (EnF.st rfl (Args.cons rfl (Args.cons rfl Args.nil))) rfl rfl (index_spec D.room pr x.box _ (hD2 _ _).room) ?_; rintro _ H9 ⟨rfl, hH9⟩; subst H9) | (refine Xg.call (EnF.st rfl (Args.cons rfl (Args.cons rfl (Args.cons rfl Args.nil)))) rfl rfl (there_spec D.room pr x.box x.month _ (hD2 _ _).room hm (by omega)) ?_; rintro _ H9 ⟨rfl, hH9⟩; subst H9) | (refine Xg.ev (EvF.move rfl rfl) rfl rfl ?_) | (refine Xg.ev (EvF.assign rfl rfl) rfl rfl ?_) | (refine Xg.ev (EvF.pickT rfl rfl rfl) rfl rfl ?_) | (refine Xg.ev (EvF.pickF rfl rfl rfl) rfl rfl ?_) | (refine Xg.ev (EvF.cmp rfl rfl rfl rfl) rfl rfl ?_) | (refine Xg.ev (EvF.sub64 rfl rfl rfl (by omega) (by omega)) rfl rfl ?_) | (refine Xg.ev (EvF.not rfl rfl) rfl rfl ?_) | (refine Xg.ev (EvF.fieldAddr rfl rfl (te rfl) rfl (te rfl) (by decide)) rfl rfl ?_) | (refine Xg.ev (EvF.loadV rfl rfl (LoadV.own (te rfl) rfl (List.Mem.head _) rfl)) rfl rfl ?_) | (refine Xg.ev (EvF.loadV rfl rfl (LoadV.own (te rfl) rfl (List.Mem.tail _ (List.Mem.head _)) rfl)) rfl rfl ?_) | (refine Xg.ev (EvF.loadV rfl rfl (LoadV.ownAgg (te rfl) rfl (List.Mem.tail _ (List.Mem.head _)) rfl rfl)) rfl rfl ?_) | (refine Xg.st (StF.boxAgg rfl rfl) rfl rfl ?_; rintro _ _ ⟨bx, rfl, rfl⟩))) | (refine Xo.g rfl rfl ?_; (first | (with_reducible refine Xw.tf rfl rfl ?_) | (with_reducible refine Xw.ft rfl rfl ?_) | (with_reducible refine Xw.case (fun h => ?_) (fun h => ?_) <;> simp only [h, decide_true, decide_false, Bool.not_true, Bool.not_false, and_self, and_true, true_and, and_false, false_and]) | (with_reducible refine Xw.caseN (fun h => ?_) (fun h => ?_) <;> simp only [h, decide_true, decide_false, Bool.not_true, Bool.not_false, and_self, and_true, true_and, and_false, false_and]))))) | (refine XO.done rfl ?_; refine hK _ _ ?_; clear hK K) | refine X.seq rfl ?_ | refine X.region rfl (fun K hK => ?_) | refine X.skip rfl ?_ | refine X.ret rfl ?_ | (refine X.ite rfl rfl (fun hc => ?_); (first | (with_reducible refine Xb.t hc ?_) | (with_reducible refine Xb.caseN hc (fun h => ?_) (fun h => ?_))) <;> clear hc))
  all_goals (refine ret_one (by first | exact .inr rfl | exact .inl rfl) Try.results37 rfl (H' := H) (by (repeat (first | exact List.Sublist.refl _ | apply List.Sublist.cons)); done) ⟨?_, rfl⟩; congr 1; symm)
  all_goals first
    | exact decide_eq_false (fun q => absurd q.1 (hzc.lt.1 (by assumption)))
    | exact decide_eq_false (fun q => absurd q.2.1 (hzb.lt.1 (by assumption)))
    | exact decide_eq_false (fun q => absurd q.2.2.1 (by assumption))
    | exact decide_eq_false (fun q => absurd q.2.2.2.1 (by assumption))
    | exact decide_eq_false (fun q => absurd q.2.2.2.2.1 (by assumption))
    | exact decide_eq_decide.2 ⟨fun q => ⟨q.2.2.2.1, q.2.2.2.2.2⟩, fun q => ⟨Classical.byContradiction (fun hx => absurd (hzc.lt.2 hx) (by assumption)), Classical.byContradiction (fun hx => absurd (hzb.lt.2 hx) (by assumption)), by assumption, by assumption, by assumption, q.2⟩⟩
end Go.Proofs.Ytminkpgacomicab
end
section
set_option linter.unusedVariables false
set_option linter.unusedSimpArgs false
namespace Go.Proofs.Ytminkpgacomicab
open Go Go.Fw
set_option maxRecDepth 10000
def deskR (D : Dk) : Prop := roomOk D.room ∧ (0 ≤ D.lean ∧ D.lean ≤ 30) ∧ D.bales.length ≤ 6 ∧ D.cls.length ≤ 4 ∧ D.looks.length ≤ 12 ∧ risesOk D.bales ∧ risesOk D.cls ∧ (∀ x ∈ D.looks, lookR D x) ∧ risesOk (D.looks.map (·.number))
noncomputable instance (D : Dk) : Decidable (deskR D) := Classical.propDecidable _
theorem trivialRises : risesOk [] := ⟨trivial, by decide⟩
set_option maxHeartbeats 4000000 in
theorem desk_spec (D : Dk) (p : Pd) (H : List Row) (hD : DkOk H D p) : Fc Try.prog 19 [.agg (cDk D p).toArray] H (fun v H' => v = .bool (decide (deskR D)) ∧ H' = H) := by
  have hD1 : ∀ r, DkOk (r :: H) D p := fun r => hD.sub (fun _ h => List.mem_cons_of_mem _ h)
  obtain ⟨pr, a4, c4, a5, c5, a6, c6⟩ := p
  refine Fc.mk (callable Try.call19) Try.func19 rfl Try.ntmps19 rfl ?_; dsimp only [fr]
  refine X.seq rfl ?_; refine X.region rfl (fun K hK => ?_); repeat' (first | (refine XO.op rfl ?_; (first | ((first | refine Xo.ng rfl ?_); (first | (refine Xg.ev (EvF.assign rfl rfl) rfl rfl ?_) | (refine Xg.st (StF.boxAgg rfl rfl) rfl rfl ?_; rintro _ _ ⟨bx, rfl, rfl⟩))))) | (refine XO.done rfl ?_; refine hK _ _ ?_; clear hK K))
  rename Nat => b1
  repeat' (first | (refine XO.op rfl ?_; (first | ((first | refine Xo.ng rfl ?_ | (refine Xo.g rfl rfl ?_; with_reducible refine Xw.ff ?_)); (first | (refine Xg.call (EnF.st rfl (Args.cons rfl Args.nil)) rfl rfl (room_spec D.room pr _ (hD1 _).room) ?_; rintro _ H9 ⟨rfl, hH9⟩; subst H9) | (refine Xg.call (EnF.st rfl (by (repeat (first | exact Args.nil | refine Args.cons rfl ?_)); done)) rfl rfl (within2_spec _ _ _ _) ?_; rintro _ H9 ⟨rfl, hH9⟩; subst H9) | (refine Xg.call (EnF.st rfl (Args.cons rfl Args.nil)) rfl rfl (rising2_spec D.bales _ _ _ (hD1 _).bales hD.l4) ?_; rintro _ H9 ⟨rfl, hH9⟩; subst H9) | (refine Xg.call (EnF.st rfl (Args.cons rfl Args.nil)) rfl rfl (rising2_spec D.cls _ _ _ (hD1 _).cls hD.l5) ?_; rintro _ H9 ⟨rfl, hH9⟩; subst H9) | (refine Xg.ev (EvF.move rfl rfl) rfl rfl ?_) | (refine Xg.ev (EvF.assign rfl rfl) rfl rfl ?_) | (refine Xg.ev (EvF.pickT rfl rfl rfl) rfl rfl ?_) | (refine Xg.ev (EvF.pickF rfl rfl rfl) rfl rfl ?_) | (refine Xg.ev (EvF.cmp rfl rfl rfl rfl) rfl rfl ?_) | (refine Xg.ev (EvF.not rfl rfl) rfl rfl ?_) | (refine Xg.ev (EvF.fieldAddr rfl rfl (te rfl) rfl (te rfl) (by decide)) rfl rfl ?_) | (refine Xg.ev (EvF.lenSlice rfl rfl (te rfl)) rfl rfl ?_) | (refine Xg.ev (EvF.loadV rfl rfl (LoadV.own (te rfl) rfl (List.Mem.head _) rfl)) rfl rfl ?_) | (refine Xg.ev (EvF.loadV rfl rfl (LoadV.ownAgg (te rfl) rfl (List.Mem.head _) rfl rfl)) rfl rfl ?_))) | (refine Xo.g rfl rfl ?_; (first | (with_reducible refine Xw.tf rfl rfl ?_) | (with_reducible refine Xw.case (fun h => ?_) (fun h => ?_) <;> simp only [h, decide_true, decide_false, Bool.not_true, Bool.not_false, and_self, and_true, true_and, and_false, false_and]) | (with_reducible refine Xw.caseN (fun h => ?_) (fun h => ?_) <;> simp only [h, decide_true, decide_false, Bool.not_true, Bool.not_false, and_self, and_true, true_and, and_false, false_and]))))) | (refine XO.done rfl ?_; refine hK _ _ ?_; clear hK K) | refine X.seq rfl ?_ | refine X.region rfl (fun K hK => ?_) | refine X.block rfl ?_ | refine X.skip rfl ?_ | refine X.ret rfl ?_ | (refine X.ite rfl rfl (fun hc => ?_); (first | (with_reducible refine Xb.t hc ?_) | (with_reducible refine Xb.caseN hc (fun h => ?_) (fun h => ?_))) <;> clear hc))
  any_goals (refine ret_one (by first | exact .inr rfl | exact .inl rfl) Try.results19 rfl (H' := H) (by (repeat (first | exact List.Sublist.refl _ | apply List.Sublist.cons)); done) ⟨?_, rfl⟩; congr 1; symm; refine decide_eq_false (fun q => ?_); obtain ⟨q1, q2, q3, q4, q5, q6, q7, q8, q9⟩ := q; first | (exfalso; omega) | (exact absurd q1 (by assumption)) | (exact absurd q2 (by assumption)) | (exact absurd q6 (by assumption)) | (exact absurd q7 (by assumption)))
  have hR : roomOk D.room := by assumption
  have hle : 0 ≤ D.lean ∧ D.lean ≤ 30 := by assumption
  have hb : risesOk D.bales := by assumption
  have hc : risesOk D.cls := by assumption
  have hl12 : D.looks.length ≤ 12 := by omega
  have hb6 : D.bales.length ≤ 6 := by omega
  have hc4 : D.cls.length ≤ 4 := by omega
  refine X.lp rfl (fun q F' H' => ∃ (k : Nat) (out : Value) (Z : List Row), q = D.looks.length - k ∧ k ≤ D.looks.length ∧ ((∀ x ∈ D.looks, lookR D x) ↔ ∀ x ∈ D.looks.drop k, lookR D x) ∧ ((k = 0 ∧ out = .slice none 0 0 ∧ Z = []) ∨ ∃ b q, out = .slice (some ⟨b, 0, none⟩) k q ∧ Z = [⟨b, 0, ((D.looks.take k).map (·.number)).flatMap cI, some 3, q * 1⟩]) ∧ Z ++ ⟨b1, 0, cDk D ⟨pr, a4, c4, a5, c5, a6, c6⟩, some 30, 9⟩ :: H = H' ∧
      F' = [(1, .pointer (some ⟨b1, 0, none⟩)), (3, out), (47, .slice a6 D.looks.length c6), (48, .int .i64 D.looks.length), (49, .int .i64 k)])
    D.looks.length [(1, .pointer (some ⟨b1, 0, none⟩)), (3, .slice none 0 0), (47, .slice a6 D.looks.length c6), (48, .int .i64 D.looks.length), (49, .int .i64 (0 : Nat))] _ (by (repeat (first | exact Sub.nil _ | refine Sub.cons rfl ?_)); done) (by (repeat (first | exact List.Sublist.refl _ | apply List.Sublist.cons_cons | apply List.Sublist.cons)); done) ⟨0, _, [], by omega, by omega, by simp, .inl ⟨rfl, rfl, rfl⟩, rfl, rfl⟩ ?_
  rintro _ _ H2 ⟨k, out, Z, rfl, hk, hn, ⟨rfl, rfl, rfl⟩ | ⟨b0, q0, rfl, rfl⟩, hH, rfl⟩
  · rw [List.nil_append] at hH
    subst hH
    repeat' (first | (refine XO.op rfl ?_; (first | ((first | refine Xo.ng rfl ?_); (first | (refine Xg.ev (EvF.move rfl rfl) rfl rfl ?_) | (refine Xg.ev (EvF.cmp rfl rfl rfl rfl) rfl rfl ?_))))) | (refine XO.done rfl ?_; refine hK _ _ ?_; clear hK K) | refine X.seq rfl ?_ | refine X.region rfl (fun K hK => ?_) | refine X.block rfl ?_ | (refine X.brk rfl ?_; repeat (first | refine blockX_hit rfl ?_ | refine blockX_miss (by decide) ?_)) | refine X.skip rfl ?_ | (refine X.ite rfl rfl (fun hc => ?_); (first | (with_reducible refine Xb.case hc (fun h => ?_) (fun h => ?_))) <;> clear hc))
    · obtain ⟨b, off, e, rfl, he⟩ := hD.looks.elem (i := 0) (by omega)
      rw [drop_cons he] at hn
      have hD4 : ∀ r1 r2 r3 r4, DkOk (r1 :: r2 :: r3 :: r4 :: H) D ⟨pr, a4, c4, a5, c5, some ⟨b, off, none⟩, c6⟩ := fun r1 r2 r3 r4 => hD.sub (fun _ h => List.Mem.tail _ (List.Mem.tail _ (List.Mem.tail _ (List.Mem.tail _ h))))
      repeat' (first | (refine XO.op rfl ?_; (first | ((first | refine Xo.ng rfl ?_); (first | (refine Xg.ev (EvF.loadV rfl rfl (LoadV.elA0 (hD1 _).looks he (te rfl) rfl (fun _ hm => hm) rfl)) rfl rfl ?_) | (refine Xg.st (StF.buildOne rfl el55 rfl rfl rfl (by decide) (by decide)) rfl rfl ?_; rintro _ _ ⟨bs, rfl, rfl⟩) | (refine Xg.st (StF.appendNew rfl el55 rfl rfl (by decide) rfl (Rd.own (List.Mem.head _)) (by decide)) rfl rfl ?_; rintro _ _ ⟨bn, kn, rfl, rfl⟩) | (refine Xg.call (EnF.st rfl (Args.cons rfl (Args.cons rfl Args.nil))) rfl rfl (look_spec D ⟨pr, a4, c4, a5, c5, some ⟨b, off, none⟩, c6⟩ e _ hR.m (hD4 _ _ _ _)) ?_; rintro _ H9 ⟨rfl, hH9⟩; subst H9) | (refine Xg.ev (EvF.move rfl rfl) rfl rfl ?_) | (refine Xg.ev (EvF.assign rfl rfl) rfl rfl ?_) | (refine Xg.ev (EvF.add64 rfl rfl rfl (by omega) (by omega)) rfl rfl ?_) | (refine Xg.ev (EvF.not rfl rfl) rfl rfl ?_) | (refine Xg.ev (EvF.fieldAddr rfl rfl (te rfl) rfl (te rfl) (by decide)) rfl rfl ?_) | (refine Xg.ev (EvF.indexSlice rfl rfl rfl (te rfl) (te rfl) (by omega) (by omega)) rfl rfl ?_) | (refine Xg.ev (EvF.loadV rfl rfl (LoadV.own (te rfl) rfl (List.Mem.head _) rfl)) rfl rfl ?_) | (refine Xg.ev (EvF.loadV rfl rfl (LoadV.whole (te rfl) rfl (List.Mem.tail _ (List.Mem.tail _ (List.Mem.head _))) rfl)) rfl rfl ?_) | (refine Xg.ev (EvF.loadV rfl rfl (LoadV.whole (te rfl) rfl (List.Mem.tail _ (List.Mem.tail _ (List.Mem.tail _ (List.Mem.head _)))) rfl)) rfl rfl ?_) | (refine Xg.st (StF.alloc rfl Try.zeroValue61 rfl) rfl rfl ?_; rintro _ _ ⟨bx, rfl, rfl⟩) | (refine Xg.st0 (StF.storeAll (i := 0) rfl rfl rfl (te rfl) rfl rfl rfl rfl) rfl ?_; rintro _ _ ⟨rfl, rfl⟩; dsimp only [List.set]))))) | (refine XO.done rfl ?_; refine hK _ _ ?_; clear hK K) | refine X.seq rfl ?_ | refine X.region rfl (fun K hK => ?_) | refine X.skip rfl ?_ | refine X.ret rfl ?_ | (refine X.ite rfl rfl (fun hc => ?_); (first | (with_reducible refine Xb.caseN hc (fun h => ?_) (fun h => ?_))) <;> clear hc))
      · refine ret_one (by first | exact .inr rfl | exact .inl rfl) Try.results19 rfl (H' := H) (by (repeat (first | exact List.Sublist.refl _ | apply List.Sublist.cons)); done) ⟨?_, rfl⟩; congr 1; symm
        exact decide_eq_false (fun q => absurd (hn.1 q.2.2.2.2.2.2.2.1 e List.mem_cons_self) h)
      · refine ⟨_, _, _, (by (repeat (first | exact Sub.nil _ | refine Sub.cons rfl ?_)); done), ?_, ⟨0 + 1, _, [⟨bn, 0, ((D.looks.take (0 + 1)).map (·.number)).flatMap cI, some 3, kn * 1⟩], rfl, by omega, hn.trans ⟨fun q n hm => q n (List.mem_cons_of_mem _ hm), fun q n hm => ?_⟩, .inr ⟨_, _, rfl, rfl⟩, rfl, rfl⟩, by omega⟩
        · rw [take_snoc he]
          exact (by (repeat (first | exact List.Sublist.refl _ | apply List.Sublist.cons_cons | apply List.Sublist.cons)); done)
        · rcases List.mem_cons.1 hm with rfl | hm
          · assumption
          · exact q n hm
    · have hnil : D.looks = [] := List.eq_nil_of_length_eq_zero (by omega)
      repeat' (first | (refine XO.op rfl ?_; (first | ((first | refine Xo.ng rfl ?_); (first | (refine Xg.call (EnF.st rfl (Args.cons rfl Args.nil)) rfl rfl (rising2_spec [] none 0 _ sleNil (by simp)) ?_; rintro _ H9 ⟨rfl, hH9⟩; subst H9) | (refine Xg.ev (EvF.assign rfl rfl) rfl rfl ?_))))) | (refine XO.done rfl ?_; refine hK _ _ ?_; clear hK K) | refine X.ret rfl ?_)
      refine ret_one (by first | exact .inr rfl | exact .inl rfl) Try.results19 rfl (H' := H) (by (repeat (first | exact List.Sublist.refl _ | apply List.Sublist.cons)); done) ⟨?_, rfl⟩; congr 1; symm
      refine decide_eq_decide.2 ⟨fun q => trivialRises, fun q => ⟨hR, hle, hb6, hc4, hl12, hb, hc, hn.2 (by rw [hnil]; exact fun _ h => absurd h List.not_mem_nil), by rw [hnil]; exact q⟩⟩
  · have hlen : (((D.looks.take k).map (·.number)).flatMap cI).length = k * 1 := by rw [lenI, List.length_map, List.length_take]; omega
    simp only [List.cons_append, List.nil_append] at hH
    subst hH
    repeat' (first | (refine XO.op rfl ?_; (first | ((first | refine Xo.ng rfl ?_); (first | (refine Xg.ev (EvF.move rfl rfl) rfl rfl ?_) | (refine Xg.ev (EvF.cmp rfl rfl rfl rfl) rfl rfl ?_))))) | (refine XO.done rfl ?_; refine hK _ _ ?_; clear hK K) | refine X.seq rfl ?_ | refine X.region rfl (fun K hK => ?_) | refine X.block rfl ?_ | (refine X.brk rfl ?_; repeat (first | refine blockX_hit rfl ?_ | refine blockX_miss (by decide) ?_)) | refine X.skip rfl ?_ | (refine X.ite rfl rfl (fun hc => ?_); (first | (with_reducible refine Xb.case hc (fun h => ?_) (fun h => ?_))) <;> clear hc))
    · obtain ⟨b, off, e, rfl, he⟩ := hD.looks.elem (i := k) (by omega)
      rw [drop_cons he] at hn
      have hD2 : ∀ r1 r2, DkOk (r1 :: r2 :: H) D ⟨pr, a4, c4, a5, c5, some ⟨b, off, none⟩, c6⟩ := fun r1 r2 => hD.sub (fun _ h => List.Mem.tail _ (List.Mem.tail _ h))
      have hD4 : ∀ r1 r2 r3 r4, DkOk (r1 :: r2 :: r3 :: r4 :: H) D ⟨pr, a4, c4, a5, c5, some ⟨b, off, none⟩, c6⟩ := fun r1 r2 r3 r4 => hD.sub (fun _ h => List.Mem.tail _ (List.Mem.tail _ (List.Mem.tail _ (List.Mem.tail _ h))))
      repeat' (first | (refine XO.op rfl ?_; (first | ((first | refine Xo.ng rfl ?_); (first | (refine Xg.ev (EvF.loadV rfl rfl (LoadV.elA0 (hD2 _ _).looks he (te rfl) rfl (fun _ hm => hm) rfl)) rfl rfl ?_) | (refine Xg.st (StF.buildOne rfl el55 rfl rfl rfl (by decide) (by decide)) rfl rfl ?_; rintro _ _ ⟨bs, rfl, rfl⟩) | (refine Xg.st (StF.appendOwn (i := 2) rfl el55 rfl rfl rfl hlen rfl (Rd.own (List.Mem.head _)) rfl (by omega)) rfl rfl ?_; rintro _ _ ⟨bn, kn, rfl, rfl⟩; dsimp only [List.eraseIdx]) | (refine Xg.call (EnF.st rfl (Args.cons rfl (Args.cons rfl Args.nil))) rfl rfl (look_spec D ⟨pr, a4, c4, a5, c5, some ⟨b, off, none⟩, c6⟩ e _ hR.m (hD4 _ _ _ _)) ?_; rintro _ H9 ⟨rfl, hH9⟩; subst H9) | (refine Xg.ev (EvF.move rfl rfl) rfl rfl ?_) | (refine Xg.ev (EvF.assign rfl rfl) rfl rfl ?_) | (refine Xg.ev (EvF.add64 rfl rfl rfl (by omega) (by omega)) rfl rfl ?_) | (refine Xg.ev (EvF.not rfl rfl) rfl rfl ?_) | (refine Xg.ev (EvF.fieldAddr rfl rfl (te rfl) rfl (te rfl) (by decide)) rfl rfl ?_) | (refine Xg.ev (EvF.indexSlice rfl rfl rfl (te rfl) (te rfl) (by omega) (by omega)) rfl rfl ?_) | (refine Xg.ev (EvF.loadV rfl rfl (LoadV.own (te rfl) rfl (List.Mem.head _) rfl)) rfl rfl ?_) | (refine Xg.ev (EvF.loadV rfl rfl (LoadV.whole (te rfl) rfl (List.Mem.tail _ (List.Mem.tail _ (List.Mem.head _))) rfl)) rfl rfl ?_) | (refine Xg.ev (EvF.loadV rfl rfl (LoadV.whole (te rfl) rfl (List.Mem.tail _ (List.Mem.tail _ (List.Mem.tail _ (List.Mem.head _)))) rfl)) rfl rfl ?_) | (refine Xg.st (StF.alloc rfl Try.zeroValue61 rfl) rfl rfl ?_; rintro _ _ ⟨bx, rfl, rfl⟩) | (refine Xg.st0 (StF.storeAll (i := 0) rfl rfl rfl (te rfl) rfl rfl rfl rfl) rfl ?_; rintro _ _ ⟨rfl, rfl⟩; dsimp only [List.set]))))) | (refine XO.done rfl ?_; refine hK _ _ ?_; clear hK K) | refine X.seq rfl ?_ | refine X.region rfl (fun K hK => ?_) | refine X.skip rfl ?_ | refine X.ret rfl ?_ | (refine X.ite rfl rfl (fun hc => ?_); (first | (with_reducible refine Xb.caseN hc (fun h => ?_) (fun h => ?_))) <;> clear hc))
      · refine ret_one (by first | exact .inr rfl | exact .inl rfl) Try.results19 rfl (H' := H) (by (repeat (first | exact List.Sublist.refl _ | apply List.Sublist.cons)); done) ⟨?_, rfl⟩; congr 1; symm
        exact decide_eq_false (fun q => absurd (hn.1 q.2.2.2.2.2.2.2.1 e List.mem_cons_self) h)
      · refine ⟨_, _, _, (by (repeat (first | exact Sub.nil _ | refine Sub.cons rfl ?_)); done), ?_, ⟨k + 1, _, [⟨bn, 0, ((D.looks.take (k + 1)).map (·.number)).flatMap cI, some 3, kn * 1⟩], rfl, by omega, hn.trans ⟨fun q n hm => q n (List.mem_cons_of_mem _ hm), fun q n hm => ?_⟩, .inr ⟨_, _, rfl, rfl⟩, rfl, rfl⟩, by omega⟩
        · rw [take_snoc he, List.map_append, List.flatMap_append]
          exact (by (repeat (first | exact List.Sublist.refl _ | apply List.Sublist.cons_cons | apply List.Sublist.cons)); done)
        · rcases List.mem_cons.1 hm with rfl | hm
          · assumption
          · exact q n hm
    · obtain rfl : k = D.looks.length := by omega
      rw [List.take_length]
      have hln : (D.looks.map (·.number)).length = D.looks.length := List.length_map _
      have hr2 : ∀ r, Fc Try.prog 36 [.slice (some ⟨b0, 0, none⟩) D.looks.length q0] (⟨b0, 0, (D.looks.map (·.number)).flatMap cI, some 3, q0 * 1⟩ :: r :: H) (fun v H' => v = .bool (decide (risesOk (D.looks.map (·.number)))) ∧ H' = ⟨b0, 0, (D.looks.map (·.number)).flatMap cI, some 3, q0 * 1⟩ :: r :: H) := fun r => by
        have := rising2_spec (D.looks.map (·.number)) (some ⟨b0, 0, none⟩) q0 (⟨b0, 0, (D.looks.map (·.number)).flatMap cI, some 3, q0 * 1⟩ :: r :: H) (SlE.ofRow (List.Mem.head _) (fun _ _ => rfl)) (by rw [hln]; omega)
        rwa [hln] at this
      repeat' (first | (refine XO.op rfl ?_; (first | ((first | refine Xo.ng rfl ?_); (first | (refine Xg.call (EnF.st rfl (Args.cons rfl Args.nil)) rfl rfl (hr2 _) ?_; rintro _ H9 ⟨rfl, hH9⟩; subst H9) | (refine Xg.ev (EvF.assign rfl rfl) rfl rfl ?_))))) | (refine XO.done rfl ?_; refine hK _ _ ?_; clear hK K) | refine X.ret rfl ?_)
      refine ret_one (by first | exact .inr rfl | exact .inl rfl) Try.results19 rfl (H' := H) (by (repeat (first | exact List.Sublist.refl _ | apply List.Sublist.cons)); done) ⟨?_, rfl⟩; congr 1; symm
      exact decide_eq_decide.2 ⟨fun q => q.2.2.2.2.2.2.2.2, fun q => ⟨hR, hle, hb6, hc4, hl12, hb, hc, hn.2 (by rw [List.drop_eq_nil_of_le (Nat.le_refl _)]; exact fun _ h => absurd h List.not_mem_nil), q⟩⟩
end Go.Proofs.Ytminkpgacomicab
end
section
set_option linter.unusedVariables false
set_option linter.unusedSimpArgs false
namespace Go.Proofs.Ytminkpgacomicab
open Go Go.Fw
set_option maxRecDepth 10000
def Rz : Rm := ⟨0, 0, [], [], []⟩
def pz : Pl := ⟨none, 0, none, 0, none, 0⟩
def rAges (R : Rm) (t k : Nat) : Row := ⟨t, 0, R.ages.flatMap cSp, some 57, k * 2⟩
def rBoxes (R : Rm) (t k : Nat) : Row := ⟨t, 0, R.boxes.flatMap cBx, some 59, k * 2⟩
def rMats (R : Rm) (t k : Nat) : Row := ⟨t, 0, R.mats.flatMap cMt, some 61, k * 6⟩
/-- a room whose lists lie in memory of one's own, and nothing else there -/
def OwnRm (Z : List Row) (R : Rm) (p : Pl) : Prop :=
  (R = Rz ∧ p = pz ∧ Z = []) ∨ ∃ t1 k1 t2 k2 t3 k3, p = ⟨some ⟨t1, 0, none⟩, k1, some ⟨t2, 0, none⟩, k2, some ⟨t3, 0, none⟩, k3⟩ ∧ Z.Perm [rAges R t1 k1, rBoxes R t2 k2, rMats R t3 k3]
def tup' (R : Rm) (p : Pl) (e : Int) : Value := .tuple #[.agg (cRm R p).toArray, .int .i64 e]
def strRm (R : Rm) (l : List Int) : Rm := { R with mats := leftMt R.mats l }
open Classical in
noncomputable def strF (R : Rm) (l : List Int) : Rm × Int := if roomOk R then (if strOk R.mats l then (strRm R l, 0) else (Rz, 12)) else (Rz, 10)
theorem ownSl {α : Type} {enc : α → List Value} {sz b cap : Nat} {l : List α} {ow : Option Kd} {H : List Row} (hl : ∀ e, (enc e).length = sz) (hm : ⟨b, 0, l.flatMap enc, ow, cap⟩ ∈ H) : SlE H (some ⟨b, 0, none⟩) enc sz l := SlE.ofRow hm (fun e _ => hl e)
def ProgR (F : Rm × Int) (H : List Row) (v : Value) (H' : List Row) : Prop := ∃ p Z, v = tup' F.1 p F.2 ∧ H' = Z ++ H ∧ OwnRm Z F.1 p
end Go.Proofs.Ytminkpgacomicab
end
