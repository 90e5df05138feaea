/- Own work: contracts of functions, from rows of what is known of the memory; contracts of functions, from rows of what is known of the memory; contracts of functions, from rows of what is known of the memory; contracts of functions, from rows of what is known of the memory; contracts of functions, from rows of what is known of the memory; contracts of functions, from rows of what is known of the memory; contracts of functions, from rows of what is known of the memory; contracts of functions, from rows of what is known of the memory; contracts of functions, from rows of what is known of the memory; contracts of functions, from rows of what is known of the memory -/
import Derived.Test.YtblehgpfddmggaaW06
section
set_option linter.unusedVariables false
set_option linter.unusedSimpArgs false
namespace Go.Proofs.Ytblehgpfddmggaa
open Go Go.Fw
set_option maxRecDepth 10000
def zCm : List Value := zCt ++ [.int .i64 0, .int .i64 0] ++ [.int .i64 0, .int .i64 0]
def tsKcl : List TOp := [⟨some 28, [], [], []⟩, ⟨some 29, [], [], []⟩, ⟨some 30, [], [], []⟩, ⟨some 31, [], [], []⟩, ⟨some 32, [2, 3], [2, 3], []⟩, ⟨some 33, [0, 1, 2, 3, 4], [0, 1, 4], []⟩, ⟨none, [0, 1, 2, 3, 4, 5], [5], [8]⟩, ⟨some 7, [0, 1, 2, 3, 4, 5, 6], [], []⟩, ⟨none, [], [], []⟩]
def valKcl (b6 b8 b10 : Nat) (R : Rm) (p : Pl) (a : Option Addr) (c : Nat) (q : Pk) (s : Sp) (k : Nat) (env : Env) : Value :=
  match k with
  | 0 => .agg (cCt R p a c).toArray
  | 1 => .agg (cPk q).toArray
  | 2 => .agg (cCt R p a c).toArray
  | 3 => .agg (cPk q).toArray
  | 4 => .agg (cSp s).toArray
  | 5 => .agg (cCm R p a c q s).toArray
  | 6 => undef
  | 7 => .int .i64 0
  | _ => undef
def rowsKcl (b6 b8 b10 : Nat) (R : Rm) (p : Pl) (a : Option Addr) (c : Nat) (q : Pk) (s : Sp) (k : Nat) (env : Env) : List Row :=
  match k with
  | 6 => [⟨b6, 0, cCm R p a c q s, some 132, 10⟩]
  | 8 => [⟨b6, 0, zCm, some 132, 10⟩]
  | _ => []
theorem locKcl (b6 b8 b10 : Nat) (R : Rm) (p : Pl) (a : Option Addr) (c : Nat) (q : Pk) (s : Sp) : ∀ k env i q9, i ≠ k → (tAt tsKcl k).sup.contains i = false → valKcl b6 b8 b10 R p a c q s k (upd env i q9) = valKcl b6 b8 b10 R p a c q s k env ∧ rowsKcl b6 b8 b10 R p a c q s k (upd env i q9) = rowsKcl b6 b8 b10 R p a c q s k env := by
  intro k env i q hk hs
  have hu : ∀ j, j ≠ i → upd env i q j = env j := fun j hj => by unfold upd; rw [if_neg hj]
  match k, hk, hs with
  | 0, _, _ => exact ⟨rfl, rfl⟩
  | 1, _, _ => exact ⟨rfl, rfl⟩
  | 2, _, _ => exact ⟨rfl, rfl⟩
  | 3, _, _ => exact ⟨rfl, rfl⟩
  | 4, _, _ => exact ⟨rfl, rfl⟩
  | 5, _, _ => exact ⟨rfl, rfl⟩
  | 6, _, _ => exact ⟨rfl, rfl⟩
  | 7, _, _ => exact ⟨rfl, rfl⟩
  | 8, _, _ => exact ⟨rfl, rfl⟩
  | _ + 9, _, _ => exact ⟨rfl, rfl⟩
set_option maxHeartbeats 8000000 in
theorem claimedY (R : Rm) (p : Pl) (x m : Int) (H : List Row) (hR : RmOk H R p) (h2 : R.boxes.length ≤ 1000000) (he : openE R [x] [m] = 0) :
    Fc Try.prog 85 [.agg (cRm R p).toArray, .int .i64 x, .int .i64 m] H (fun v H' => ∃ b k, (plcs R).length ≤ k ∧ v = .tuple #[.agg (cCm R p (some ⟨b, 0, none⟩) k ⟨x, m⟩ (rng R R.mats ⟨x, m⟩ zp)).toArray, .int .i64 0] ∧ H' = ⟨b, 0, (plcs R).flatMap cPk, some 104, k * 2⟩ :: H) := by
  have hbt : ∀ (H' : List Row) (b1 b2 : Nat), ⟨b1, 0, [.int .i64 x], some 3, 1 * 1⟩ ∈ H' → ⟨b2, 0, [.int .i64 m], some 3, 1 * 1⟩ ∈ H' → BtOk H' ⟨[x], some ⟨b1, 0, none⟩, 1, [m], some ⟨b2, 0, none⟩, 1⟩ := fun H' b1 b2 q1 q2 => ⟨SlE.ofRow (l := [x]) q1 (fun _ _ => rfl), SlE.ofRow (l := [m]) q2 (fun _ _ => rfl), Nat.le_of_ble_eq_true rfl, Nat.le_of_ble_eq_true rfl⟩
  obtain ⟨hok, _, _, hT⟩ := openE_ok he
  have hp := plcs_of he (List.mem_singleton.2 rfl) (List.mem_singleton.2 rfl)
  have hye := fun H' b k hC hk => yellow_spec R p (some ⟨b, 0, none⟩) k ⟨x, m⟩ H' hok.ok hok.mats hC hok.lens.ages hok.lens.mats hk hp hT
  obtain ⟨s, hs⟩ : ∃ s, s = rng R R.mats ⟨x, m⟩ zp := ⟨_, rfl⟩
  rw [← hs] at hye ⊢
  refine Fc.mk (callable Try.call85) Try.func85 rfl Try.ntmps85 rfl ?_; dsimp only [fr]
  repeat' (first | (refine XO.op rfl ?_; (first | ((first | refine Xo.ng rfl ?_); (first | (refine Xg.ev (EvF.cmp (b := false) rfl rfl rfl (congrArg some (nd_f (by omega)))) rfl rfl ?_) | (refine Xg.st (StF.buildOne (v0 := .int .i64 x) rfl el55 rfl rfl rfl (by decide) (by decide)) rfl rfl ?_; rintro _ _ ⟨b1, rfl, rfl⟩) | (refine Xg.st (StF.buildOne (v0 := .int .i64 m) rfl el55 rfl rfl rfl (by decide) (by decide)) rfl rfl ?_; rintro _ _ ⟨b2, rfl, rfl⟩) | (refine Xg.ev (EvF.build (cs := cBt ⟨[x], some ⟨b1, 0, none⟩, 1, [m], some ⟨b2, 0, none⟩, 1⟩) rfl (ArgsP.cons rfl (ArgsP.cons rfl ArgsP.nil)) (te rfl) (Places.cons (te rfl) (Places.cons (te rfl) Places.nil)) Try.zeroValue101 rfl) rfl rfl ?_) | (refine Xg.call (EnF.st rfl (by (repeat (first | exact Args.nil | refine Args.cons rfl ?_)); done)) rfl rfl (openY (hR.sub (fun _ h => by repeat (first | exact h | apply List.Mem.tail))) (hbt _ b1 b2 (List.Mem.tail _ (List.Mem.head _)) (List.Mem.head _)) h2 he) ?_; rintro _ _ ⟨b, k, hbk, rfl, rfl⟩) | (refine Xg.st (StF.alloc rfl Try.zeroValue96 rfl) rfl rfl ?_; rintro _ _ ⟨b8, rfl, rfl⟩) | (refine Xg.st0 (StF.storeAll (i := 0) (vs := cCt R p (some ⟨b, 0, none⟩) k) rfl rfl rfl (te rfl) rfl rfl rfl rfl) rfl ?_; rintro _ _ ⟨rfl, rfl⟩; dsimp only [List.set]) | (refine Xg.ev (EvF.build (cs := cPk ⟨x, m⟩) rfl (ArgsP.cons rfl (ArgsP.cons rfl ArgsP.nil)) (te rfl) (Places.cons (te rfl) (Places.cons (te rfl) Places.nil)) Try.zeroValue104 rfl) rfl rfl ?_) | (refine Xg.st (StF.alloc rfl Try.zeroValue104 rfl) rfl rfl ?_; rintro _ _ ⟨b10, rfl, rfl⟩) | (refine Xg.ev (EvF.move rfl rfl) rfl rfl ?_) | (refine Xg.ev (EvF.assign rfl rfl) rfl rfl ?_) | (refine Xg.ev (EvF.loadV rfl rfl (LoadV.whole (te rfl) rfl (List.Mem.tail _ (List.Mem.head _)) rfl)) rfl rfl ?_) | (refine Xg.ev (EvF.extract rfl rfl rfl) rfl rfl ?_) | (refine Xg.st (StF.boxAgg rfl rfl) rfl rfl ?_; rintro _ _ ⟨bx, rfl, rfl⟩) | (refine Xg.st (StF.alloc rfl Try.zeroValue132 rfl) rfl rfl ?_; rintro _ _ ⟨bx, rfl, rfl⟩) | (refine Xg.st0 (StF.storeAll (i := 0) rfl rfl rfl (te rfl) rfl rfl rfl rfl) rfl ?_; rintro _ _ ⟨rfl, rfl⟩; dsimp only [List.set]))))) | (refine XO.done rfl ?_; refine hK _ _ ?_; clear hK K) | refine X.seq rfl ?_ | refine X.region rfl (fun K hK => ?_) | refine X.skip rfl ?_ | (refine X.ite rfl rfl (fun hc => ?_); (first | (with_reducible refine Xb.f hc ?_)) <;> clear hc))
  all_goals try (exfalso; contradiction)
  generalize bx = b6
  refine X.weak (F' := [(6, .pointer (some ⟨b6, 0, none⟩)), (8, .pointer (some ⟨b8, 0, none⟩)), (10, .pointer (some ⟨b10, 0, none⟩))]) (H' := ⟨b10, 0, cPk ⟨x, m⟩, some 104, 2⟩ :: ⟨b8, 0, cCt R p (some ⟨b, 0, none⟩) k, some 96, 6⟩ :: ⟨b, 0, (plcs R).flatMap cPk, some 104, k * 2⟩ :: ⟨b6, 0, zCm, some 132, 10⟩ :: H) (by (repeat (first | exact Sub.nil _ | refine Sub.cons rfl ?_)); done) (by (repeat (first | exact List.Sublist.refl _ | apply List.Sublist.cons_cons | apply List.Sublist.cons)); done) ?_
  refine X.permH (H' := ⟨b6, 0, zCm, some 132, 10⟩ :: ⟨b10, 0, cPk ⟨x, m⟩, some 104, 2⟩ :: ⟨b8, 0, cCt R p (some ⟨b, 0, none⟩) k, some 96, 6⟩ :: ⟨b, 0, (plcs R).flatMap cPk, some 104, k * 2⟩ :: H) (List.perm_middle (l₁ := [_, _, _])).symm ?_
  refine X.regionOb tsKcl [6, 8, 10] [(6, .pointer (some ⟨b6, 0, none⟩)), (8, .pointer (some ⟨b8, 0, none⟩)), (10, .pointer (some ⟨b10, 0, none⟩))] (valKcl b6 b8 b10 R p (some ⟨b, 0, none⟩) k ⟨x, m⟩ s) (rowsKcl b6 b8 b10 R p (some ⟨b, 0, none⟩) k ⟨x, m⟩ s) (fun _ => (0, 0)) (⟨b10, 0, cPk ⟨x, m⟩, some 104, 2⟩ :: ⟨b8, 0, cCt R p (some ⟨b, 0, none⟩) k, some 96, 6⟩ :: ⟨b, 0, (plcs R).flatMap cPk, some 104, k * 2⟩ :: H) rfl mixed (by (repeat (first | exact Sub.nil _ | refine Sub.cons rfl ?_)); done) rfl (by kernel_rfl) (locKcl b6 b8 b10 R p (some ⟨b, 0, none⟩) k ⟨x, m⟩ s) (List.Sublist.refl _) ?_ ?_
  · repeat' (first | exact AllF.done rfl | (refine AllF.step rfl ?_ ?_; · (first | fail | ((first | refine Ob.ng rfl ?_); (first | exact ObK.pure (fun env R hR => by exact ⟨_, EvF.assign rfl rfl, rfl⟩) rfl (fun _ => rfl) | exact ObK.pure (fun env R hR => by exact ⟨_, EvF.loadV rfl rfl (LoadV.whole (te rfl) rfl (hR _ (List.Mem.head _)) rfl), rfl⟩) rfl (fun _ => rfl) | exact ObK.pure (fun env R hR => by exact ⟨_, EvF.loadV rfl rfl (LoadV.whole (te rfl) rfl (hR _ (List.Mem.tail _ (List.Mem.head _))) rfl), rfl⟩) rfl (fun _ => rfl) | (exact fun env S hS => OpF.callV (Z := []) (EnF.st rfl (Args.cons rfl (Args.cons rfl Args.nil))) (hye S b k ⟨hR.sub (fun r h => hS r (List.Mem.tail _ (List.Mem.tail _ (List.Mem.tail _ h)))), SlE.ofRow (hS _ (List.Mem.tail _ (List.Mem.tail _ (List.Mem.head _)))) (fun _ _ => rfl)⟩ hbk) rfl rfl) | (exact ObK.pure (fun env S hS => ⟨_, EvF.build (cs := cCm R p (some ⟨b, 0, none⟩) k ⟨x, m⟩ s) rfl (ArgsP.cons rfl (ArgsP.cons rfl (ArgsP.cons rfl ArgsP.nil))) (te rfl) (Places.cons (te rfl) (Places.cons (te rfl) (Places.cons (te rfl) Places.nil))) Try.zeroValue132 rfl, rfl⟩) rfl (fun _ => rfl)) | (exact fun env S hS => (StF.storeAll (i := 0) (cs := zCm) (vs := cCm R p (some ⟨b, 0, none⟩) k ⟨x, m⟩ s) rfl rfl rfl (te rfl) rfl rfl rfl rfl).op.mono (fun v H' ⟨hv, hH⟩ => ⟨(0, 0), fun h => absurd rfl h, by rw [hH]; exact List.Perm.refl _⟩)))))))
  intro env t ha2 hv; refine ⟨_, ha2.cons (hv 7 7 (Nat.le_of_ble_eq_true rfl) rfl), ?_⟩; clear hv ha2
  show X _ _ _ [(7, .int .i64 0), (6, .pointer (some ⟨b6, 0, none⟩)), (8, .pointer (some ⟨b8, 0, none⟩)), (10, .pointer (some ⟨b10, 0, none⟩))] (⟨b6, 0, cCm R p (some ⟨b, 0, none⟩) k ⟨x, m⟩ s, some 132, 10⟩ :: ⟨b10, 0, cPk ⟨x, m⟩, some 104, 2⟩ :: ⟨b8, 0, cCt R p (some ⟨b, 0, none⟩) k, some 96, 6⟩ :: ⟨b, 0, (plcs R).flatMap cPk, some 104, k * 2⟩ :: H) _
  clear env
  repeat' (first | refine X.ret rfl ?_)
  exact ret_two (v := .agg (cCm R p (some ⟨b, 0, none⟩) k ⟨x, m⟩ s).toArray) (by first | exact .inr rfl | exact .inl rfl) Try.results85 ⟨_, rfl, LoadV.whole (te rfl) rfl (List.Mem.head _) rfl⟩ rfl (H' := ⟨b, 0, (plcs R).flatMap cPk, some 104, k * 2⟩ :: H) (by (repeat (first | exact List.Sublist.refl _ | apply List.Sublist.cons_cons | apply List.Sublist.cons)); done) ⟨b, k, hbk, rfl, rfl⟩
set_option maxHeartbeats 4000000 in
theorem claimedN (R : Rm) (p : Pl) (x m e : Int) (H : List Row) (hR : RmOk H R p) (h2 : R.boxes.length ≤ 1000000) (he : openE R [x] [m] = e) (h0 : e ≠ 0) :
    Fc Try.prog 85 [.agg (cRm R p).toArray, .int .i64 x, .int .i64 m] H (fun v H' => v = .tuple #[.agg zCm.toArray, .int .i64 e] ∧ H' = H) := by
  have hbt : ∀ (H' : List Row) (b1 b2 : Nat), ⟨b1, 0, [.int .i64 x], some 3, 1 * 1⟩ ∈ H' → ⟨b2, 0, [.int .i64 m], some 3, 1 * 1⟩ ∈ H' → BtOk H' ⟨[x], some ⟨b1, 0, none⟩, 1, [m], some ⟨b2, 0, none⟩, 1⟩ := fun H' b1 b2 q1 q2 => ⟨SlE.ofRow (l := [x]) q1 (fun _ _ => rfl), SlE.ofRow (l := [m]) q2 (fun _ _ => rfl), Nat.le_of_ble_eq_true rfl, Nat.le_of_ble_eq_true rfl⟩
  refine Fc.mk (callable Try.call85) Try.func85 rfl Try.ntmps85 rfl ?_; dsimp only [fr]
  repeat' (first | (refine XO.op rfl ?_; (first | ((first | refine Xo.ng rfl ?_); (first | (refine Xg.ev (EvF.cmp (b := true) rfl rfl rfl (congrArg some (nd_t (by omega)))) rfl rfl ?_) | (refine Xg.st (StF.buildOne (v0 := .int .i64 x) rfl el55 rfl rfl rfl (by decide) (by decide)) rfl rfl ?_; rintro _ _ ⟨b1, rfl, rfl⟩) | (refine Xg.st (StF.buildOne (v0 := .int .i64 m) rfl el55 rfl rfl rfl (by decide) (by decide)) rfl rfl ?_; rintro _ _ ⟨b2, rfl, rfl⟩) | (refine Xg.ev (EvF.build (cs := cBt ⟨[x], some ⟨b1, 0, none⟩, 1, [m], some ⟨b2, 0, none⟩, 1⟩) rfl (ArgsP.cons rfl (ArgsP.cons rfl ArgsP.nil)) (te rfl) (Places.cons (te rfl) (Places.cons (te rfl) Places.nil)) Try.zeroValue101 rfl) rfl rfl ?_) | (refine Xg.call (EnF.st rfl (Args.cons rfl (Args.cons rfl Args.nil))) rfl rfl (openN (hR.sub (fun _ h => by repeat (first | exact h | apply List.Mem.tail))) (hbt _ b1 b2 (List.Mem.tail _ (List.Mem.head _)) (List.Mem.head _)) h2 he h0) ?_; rintro _ H9 ⟨rfl, hH9⟩; subst H9) | (refine Xg.st (StF.alloc rfl Try.zeroValue96 rfl) rfl rfl ?_; rintro _ _ ⟨b8, rfl, rfl⟩) | (refine Xg.st0 (StF.storeAll (i := 0) (vs := zCt) rfl rfl rfl (te rfl) rfl rfl rfl rfl) rfl ?_; rintro _ _ ⟨rfl, rfl⟩; dsimp only [List.set]) | (refine Xg.ev (EvF.build (cs := zCm) rfl ArgsP.nil (te rfl) (Places.cons (te rfl) (Places.cons (te rfl) (Places.cons (te rfl) Places.nil))) Try.zeroValue132 rfl) rfl rfl ?_) | (refine Xg.st0 (StF.storeAll (i := 3) (vs := zCm) rfl rfl rfl (te rfl) rfl rfl rfl rfl) rfl ?_; rintro _ _ ⟨rfl, rfl⟩; dsimp only [List.set]) | (refine Xg.ev (EvF.move rfl rfl) rfl rfl ?_) | (refine Xg.ev (EvF.assign rfl rfl) rfl rfl ?_) | (refine Xg.ev (EvF.loadV rfl rfl (LoadV.whole (te rfl) rfl (List.Mem.tail _ (List.Mem.head _)) rfl)) rfl rfl ?_) | (refine Xg.ev (EvF.extract rfl rfl rfl) rfl rfl ?_) | (refine Xg.st (StF.boxAgg rfl rfl) rfl rfl ?_; rintro _ _ ⟨bx, rfl, rfl⟩) | (refine Xg.st (StF.alloc rfl Try.zeroValue132 rfl) rfl rfl ?_; rintro _ _ ⟨bx, rfl, rfl⟩))))) | (refine XO.done rfl ?_; refine hK _ _ ?_; clear hK K) | refine X.seq rfl ?_ | refine X.region rfl (fun K hK => ?_) | refine X.ret rfl ?_ | (refine X.ite rfl rfl (fun hc => ?_); (first | (with_reducible refine Xb.t hc ?_)) <;> clear hc))
  all_goals try (exfalso; contradiction)
  exact ret_two (v := .agg zCm.toArray) (by first | exact .inr rfl | exact .inl rfl) Try.results85 ⟨_, rfl, LoadV.whole (te rfl) rfl (by repeat (first | exact List.Mem.head _ | apply List.Mem.tail)) rfl⟩ rfl (H' := H) (by (repeat (first | exact List.Sublist.refl _ | apply List.Sublist.cons)); done) ⟨rfl, rfl⟩
theorem wrong11_spec (x : Mt) (l : List Int) (al : Option Addr) (cl b : Nat) (ow : Option Kd) (cap : Nat) (H : List Row) (hm : ⟨b, 0, [.slice al l.length cl], ow, cap⟩ ∈ H) (hl : SlE H al cI 1 l) (hb : l.length ≤ 1000000) :
    Fc Try.prog 97 ([.agg (cMt x).toArray] ++ [.pointer (some ⟨b, 0, none⟩)]) H (fun v H' => v = .bool (decide (x.number ∈ l)) ∧ H' = H) := by
  show Fc Try.prog 97 [.agg (cMt x).toArray, .pointer (some ⟨b, 0, none⟩)] H _
  refine Fc.mk (callable Try.call97) Try.func97 rfl Try.ntmps97 rfl ?_; dsimp only [fr]
  repeat' (first | (refine XO.op rfl ?_; (first | ((first | refine Xo.ng rfl ?_); (first | (refine Xg.ev (EvF.loadV rfl rfl (LoadV.own (te rfl) rfl (List.Mem.tail _ hm) rfl)) rfl rfl ?_) | (refine Xg.call (EnF.st rfl (Args.cons rfl (Args.cons rfl Args.nil))) rfl rfl (contains_spec l al cl x.number _ (hl.sub (fun _ h => by repeat (first | exact h | apply List.Mem.tail))) (by omega)) ?_; rintro _ H9 ⟨rfl, hH9⟩; subst H9) | (refine Xg.ev (EvF.assign rfl rfl) rfl rfl ?_) | (refine Xg.ev (EvF.fieldAddr rfl rfl (te rfl) rfl (te rfl) (by decide)) rfl rfl ?_) | (refine Xg.ev (EvF.loadV rfl rfl (LoadV.own (te rfl) rfl (List.Mem.head _) rfl)) rfl rfl ?_) | (refine Xg.st (StF.boxAgg rfl rfl) rfl rfl ?_; rintro _ _ ⟨bx, rfl, rfl⟩))))) | (refine XO.done rfl ?_; refine hK _ _ ?_; clear hK K) | refine X.seq rfl ?_ | refine X.region rfl (fun K hK => ?_) | refine X.ret rfl ?_)
  exact ret_one (by first | exact .inr rfl | exact .inl rfl) Try.results97 rfl (H' := H) (by (repeat (first | exact List.Sublist.refl _ | apply List.Sublist.cons_cons | apply List.Sublist.cons)); done) ⟨rfl, rfl⟩
set_option maxHeartbeats 4000000 in
theorem wrong1_spec (R : Rm) (p : Pl) (a : Option Addr) (c : Nat) (l : List Int) (al : Option Addr) (cl b5 : Nat) (ow : Option Kd) (cap : Nat) (H : List Row) (hr : okRm R) (hm : matsThere R R.mats) (hC : CtOk H R p a) (hla : R.ages.length ≤ 1000) (hlm : R.mats.length ≤ 1000) (hpc : (plcs R).length ≤ c) (m5 : ⟨b5, 0, cCt R p a c, ow, cap⟩ ∈ H) (hl : SlE H al cI 1 l) (hb : l.length ≤ 1000000) :
    Fc Try.prog 95 ([.slice al l.length cl] ++ [.pointer (some ⟨b5, 0, none⟩)]) H (fun v H' => v = .bool (okW R l) ∧ H' = H) := by
  show Fc Try.prog 95 [.slice al l.length cl, .pointer (some ⟨b5, 0, none⟩)] H _
  have hMs : ∀ x ∈ outM R.mats l, x ∈ R.mats := fun x hx => (List.mem_filter.1 hx).1
  have hMl : (outM R.mats l).length ≤ 1000 := Nat.le_trans (List.length_filter_le _ _) hlm
  have hwo := fun b3 S hC (hl' : SlE S al cI 1 l) (m3 : (⟨b3, 0, [.slice al l.length cl], some 55, 1⟩ : Row) ∈ S) => kwithout_spec R p a c 97 [.pointer (some ⟨b3, 0, none⟩)] (fun x => decide (x.number ∈ l)) S hlm hC (fun x H' hs => wrong11_spec x l al cl b3 (some 55) 1 H' (hs _ m3) (hl'.sub hs) hb)
  have hca := fun p' S hC' => can_spec (wM R (outM R.mats l)) p' a c S (wM_ok _ hr) (mats_sub hm hMs) hC' hla hMl hpc
  have hok : decide (hasT (wM R (outM R.mats l)) (wM R (outM R.mats l)).mats) = okW R l := by unfold okW; exact decide_eq_decide.2 wM_has
  rw [hok] at hca
  refine Fc.mk (callable Try.call95) Try.func95 rfl Try.ntmps95 rfl ?_; dsimp only [fr]
  repeat' (first | (refine XO.op rfl ?_; (first | ((first | refine Xo.ng rfl ?_); (first | (refine Xg.ev (EvF.loadV rfl rfl (LoadV.whole (T := 96) (cs := cCt R p a c) (te rfl) rfl (List.Mem.tail _ m5) rfl)) rfl rfl ?_) | (refine Xg.ev (EvF.makeFunc (fl := []) rfl Args.nil (Args.cons rfl Args.nil)) rfl rfl ?_) | (refine Xg.call (EnF.st rfl (by (repeat (first | exact Args.nil | refine Args.cons rfl ?_)); done)) rfl rfl (hwo _ _ (hC.sub (fun _ h => by repeat (first | exact h | apply List.Mem.tail))) (hl.sub (fun _ h => by repeat (first | exact h | apply List.Mem.tail))) (List.Mem.head _)) ?_; rintro _ _ ⟨p', Z, rfl, hC', rfl⟩) | (refine Xg.call (EnF.st rfl (Args.cons rfl Args.nil)) rfl rfl (hca p' _ hC') ?_; rintro _ H9 ⟨rfl, hH9⟩; subst H9) | (refine Xg.ev (EvF.assign rfl rfl) rfl rfl ?_) | (refine Xg.st (StF.boxOne rfl rfl rfl) rfl rfl ?_; rintro _ _ ⟨bx, rfl, rfl⟩))))) | (refine XO.done rfl ?_; refine hK _ _ ?_; clear hK K) | refine X.seq rfl ?_ | refine X.region rfl (fun K hK => ?_) | refine X.ret rfl ?_)
  exact ret_one (by first | exact .inr rfl | exact .inl rfl) Try.results95 rfl (H' := H) ((List.Sublist.cons _ (List.Sublist.refl _)).trans (List.sublist_append_right _ _)) ⟨rfl, rfl⟩
end Go.Proofs.Ytblehgpfddmggaa
end
section
set_option linter.unusedVariables false
set_option linter.unusedSimpArgs false
namespace Go.Proofs.Ytblehgpfddmggaa
open Go Go.Fw
set_option maxRecDepth 10000
theorem numsMt (R : Rm) (p : Pl) (H : List Row) (hM : SlE H p.a3 cMt 6 R.mats) (hl : R.mats.length ≤ 1000000) : Fc Try.prog 87 [.slice p.a3 R.mats.length p.c3, .func (.func 88) #[] #[]] H (fun v H' => (R.mats = [] ∧ v = .slice none 0 0 ∧ H' = H) ∨ ∃ b q, R.mats ≠ [] ∧ v = .slice (some ⟨b, 0, none⟩) (R.mats.map (·.number)).length q ∧ H' = ⟨b, 0, (R.mats.map (·.number)).flatMap cI, some 3, q * 1⟩ :: H) :=
  numbersO_specMt 88 (·.number) number_spec R.mats p.a3 p.c3 H hM hl
def wrgO : Option (List Int) → List Int × Int
  | some r => (r, 0)
  | none => ([], 4)
set_option maxHeartbeats 8000000 in
theorem kWrong_spec (R : Rm) (p : Pl) (H : List Row) (hR : RmOk H R p) (h2 : R.boxes.length ≤ 1000000) : Fc Try.prog 44 [.agg (cRm R p).toArray] H (LstR (wrgF R).1 (wrgF R).2 H) := by
  by_cases hok : roomOk R
  · have hml : R.mats.length ≤ 8 := hok.1.2.2.2.2.2.2
    have hck := fun p' H' (h : RmOk H' R p') => kCheck2_spec R p' H' h
    rw [show chkF R = 0 by unfold chkF; rw [if_pos hok]] at hck
    obtain ⟨L, hL⟩ : ∃ L, L = R.mats.map (·.number) := ⟨_, rfl⟩
    have hLl : L.length ≤ 8 := by rw [hL, List.length_map]; exact hml
    obtain ⟨f, hf⟩ : ∃ f, f = fewG (okW R) L 4 0 := ⟨_, rfl⟩
    have hF : wrgF R = wrgO f := by
      unfold wrgF
      rw [if_pos hok, ← hL, ← hf]
      cases f <;> rfl
    have hfm : fewG (okW R) L (min 3 L.length + 1) 0 = f := by rw [fewG_min, hf]
    have hfw := fun a c b5 b k S (hs : SlE S a cI 1 L) hC hk (m5 : (⟨b5, 0, cCt R p (some ⟨b, 0, none⟩) k, some 96, 6⟩ : Row) ∈ S) => fewest_specI (okW R) L a c 3 95 [.pointer (some ⟨b5, 0, none⟩)] S hs (by omega) (by omega) (fun acc a' c' H' hs' hacc hal => wrong1_spec R p (some ⟨b, 0, none⟩) k acc a' c' b5 (some 96) 6 H' hok.ok hok.mats (CtOk.sub hC hs') hok.lens.ages hok.lens.mats hk (hs' _ m5) hacc hal)
    simp only [hfm] at hfw
    have hnu := fun S hS => numsMt R p S hS (by omega)
    rw [← hL] at hnu
    rw [hF]
    clear hF hfm hf
    refine Fc.mk (callable Try.call44) Try.func44 rfl Try.ntmps44 rfl ?_; dsimp only [fr]
    repeat' (first | (refine XO.op rfl ?_; (first | ((first | refine Xo.ng rfl ?_); (first | (refine Xg.ev (EvF.cmp (b := false) rfl rfl rfl (congrArg some (nd_f (by omega)))) rfl rfl ?_) | (refine Xg.ev (EvF.loadV rfl rfl (LoadV.whole (T := 26) (cs := cRm R p) (te rfl) rfl (by repeat (first | exact List.Mem.head _ | apply List.Mem.tail)) rfl)) rfl rfl ?_) | (refine Xg.call (EnF.st rfl (Args.cons rfl Args.nil)) rfl rfl (hck p _ (hR.sub (fun _ h => by repeat (first | exact h | apply List.Mem.tail)))) ?_; rintro _ H9 ⟨rfl, hH9⟩; subst H9) | (refine Xg.call (EnF.st rfl (by (repeat (first | exact Args.nil | refine Args.cons rfl ?_)); done)) rfl rfl (draw_spec R p _ hok.ok (hR.sub (fun _ h => by repeat (first | exact h | apply List.Mem.tail)))) ?_; rintro _ _ ⟨b, k, hbk, rfl, rfl⟩) | (refine Xg.st (StF.alloc rfl Try.zeroValue96 rfl) rfl rfl ?_; rintro _ _ ⟨b5, rfl, rfl⟩) | (refine Xg.st0 (StF.storeAll (i := 0) (vs := cCt R p (some ⟨b, 0, none⟩) k) rfl rfl rfl (te rfl) rfl rfl rfl rfl) rfl ?_; rintro _ _ ⟨rfl, rfl⟩; dsimp only [List.set]) | (refine Xg.ev (EvF.loadV rfl rfl (LoadV.own (cs := cRm R p) (te rfl) rfl (by repeat (first | exact List.Mem.head _ | apply List.Mem.tail)) rfl)) rfl rfl ?_) | (refine Xg.call (EnF.st rfl (by (repeat (first | exact Args.nil | refine Args.cons rfl ?_)); done)) rfl rfl (hnu _ (hR.mats.sub (fun _ h => by repeat (first | exact h | apply List.Mem.tail)))) ?_; rintro _ _ (⟨h0, rfl, rfl⟩ | ⟨bn, kn, h0, rfl, rfl⟩)) | (refine Xg.ev (EvF.makeFunc (fl := []) rfl Args.nil (Args.cons rfl Args.nil)) rfl rfl ?_) | (refine Xg.ev (EvF.move rfl rfl) rfl rfl ?_) | (refine Xg.ev (EvF.assign rfl rfl) rfl rfl ?_) | (refine Xg.ev (EvF.fieldAddr rfl rfl (te rfl) rfl (te rfl) (by decide)) rfl rfl ?_) | (refine Xg.st (StF.boxAgg rfl rfl) rfl rfl ?_; rintro _ _ ⟨bx, rfl, rfl⟩))))) | (refine XO.done rfl ?_; refine hK _ _ ?_; clear hK K) | refine X.seq rfl ?_ | refine X.region rfl (fun K hK => ?_) | refine X.skip rfl ?_ | (refine X.ite rfl rfl (fun hc => ?_); (first | (with_reducible refine Xb.f hc ?_)) <;> clear hc))
    all_goals try (exfalso; contradiction)
    · have hL0 : L = [] := by rw [hL, h0]; rfl
      subst hL0
      repeat' (first | (refine XO.op rfl ?_; (first | ((first | refine Xo.ng rfl ?_); (first | (refine Xg.call (EnF.st rfl (by (repeat (first | exact Args.nil | refine Args.cons rfl ?_)); done)) rfl rfl (hfw none 0 b5 b k _ sleNil ⟨hR.sub (fun _ h => by repeat (first | exact h | apply List.Mem.tail)), SlE.ofRow (by repeat (first | exact List.Mem.head _ | apply List.Mem.tail)) (fun _ _ => rfl)⟩ hbk (by repeat (first | exact List.Mem.head _ | apply List.Mem.tail))) ?_; rintro _ _ ⟨out, Z, hT, rfl, rfl⟩) | (refine Xg.ev (EvF.extract rfl rfl rfl) rfl rfl ?_) | (refine Xg.ev (EvF.move rfl rfl) rfl rfl ?_) | (refine Xg.ev (EvF.assign rfl rfl) rfl rfl ?_) | (refine Xg.ev (EvF.not rfl rfl) rfl rfl ?_))))) | (refine XO.done rfl ?_; refine hK _ _ ?_; clear hK K) | refine X.seq rfl ?_ | refine X.region rfl (fun K hK => ?_) | refine X.skip rfl ?_ | refine X.ret rfl ?_ | (refine X.ite rfl rfl (fun hc => ?_); (first | (with_reducible refine Xb.caseB hc (fun h => ?_) (fun h => ?_))) <;> clear hc))
      · have hn : f.isSome = false := by simpa using (by assumption : (!f.isSome) = true)
        cases f with
        | some r => cases hn
        | none => exact ret_two (by first | exact .inr rfl | exact .inl rfl) Try.results44 rfl rfl (H' := H) (List.Sublist.trans (by (repeat (first | exact List.Sublist.refl _ | apply List.Sublist.cons)); done) (List.sublist_append_right _ _)) ⟨none, 0, [], rfl, sleNil, rfl⟩
      · have hn : f.isSome = true := by simpa using (by assumption : (!f.isSome) = false)
        cases f with
        | none => cases hn
        | some r =>
          obtain ⟨a', c', rfl, hs⟩ := TrvI.sl (H := H) hT
          exact ret_two (by first | exact .inr rfl | exact .inl rfl) Try.results44 rfl rfl (H' := Z ++ H) (List.Sublist.append (List.Sublist.refl _) (by (repeat (first | exact List.Sublist.refl _ | apply List.Sublist.cons)); done)) ⟨a', c', Z, rfl, hs, rfl⟩
    · repeat' (first | (refine XO.op rfl ?_; (first | ((first | refine Xo.ng rfl ?_); (first | (refine Xg.call (EnF.st rfl (by (repeat (first | exact Args.nil | refine Args.cons rfl ?_)); done)) rfl rfl (hfw (some ⟨bn, 0, none⟩) kn b5 b k _ (SlE.ofRow (by repeat (first | exact List.Mem.head _ | apply List.Mem.tail)) (fun _ _ => rfl)) ⟨hR.sub (fun _ h => by repeat (first | exact h | apply List.Mem.tail)), SlE.ofRow (by repeat (first | exact List.Mem.head _ | apply List.Mem.tail)) (fun _ _ => rfl)⟩ hbk (by repeat (first | exact List.Mem.head _ | apply List.Mem.tail))) ?_; rintro _ _ ⟨out, Z, hT, rfl, rfl⟩) | (refine Xg.ev (EvF.extract rfl rfl rfl) rfl rfl ?_) | (refine Xg.ev (EvF.move rfl rfl) rfl rfl ?_) | (refine Xg.ev (EvF.assign rfl rfl) rfl rfl ?_) | (refine Xg.ev (EvF.not rfl rfl) rfl rfl ?_))))) | (refine XO.done rfl ?_; refine hK _ _ ?_; clear hK K) | refine X.seq rfl ?_ | refine X.region rfl (fun K hK => ?_) | refine X.skip rfl ?_ | refine X.ret rfl ?_ | (refine X.ite rfl rfl (fun hc => ?_); (first | (with_reducible refine Xb.caseB hc (fun h => ?_) (fun h => ?_))) <;> clear hc))
      · have hn : f.isSome = false := by simpa using (by assumption : (!f.isSome) = true)
        cases f with
        | some r => cases hn
        | none => exact ret_two (by first | exact .inr rfl | exact .inl rfl) Try.results44 rfl rfl (H' := H) (List.Sublist.trans (by (repeat (first | exact List.Sublist.refl _ | apply List.Sublist.cons)); done) (List.sublist_append_right _ _)) ⟨none, 0, [], rfl, sleNil, rfl⟩
      · have hn : f.isSome = true := by simpa using (by assumption : (!f.isSome) = false)
        cases f with
        | none => cases hn
        | some r =>
          obtain ⟨a', c', rfl, hs⟩ := TrvI.sl (H := H) hT
          exact ret_two (by first | exact .inr rfl | exact .inl rfl) Try.results44 rfl rfl (H' := Z ++ H) (List.Sublist.append (List.Sublist.refl _) (by (repeat (first | exact List.Sublist.refl _ | apply List.Sublist.cons)); done)) ⟨a', c', Z, rfl, hs, rfl⟩
  · have hck := fun p' H' (h : RmOk H' R p') => kCheck2_spec R p' H' h
    rw [show chkF R = 10 by unfold chkF; rw [if_neg hok]] at hck
    have hF : wrgF R = ([], 10) := by unfold wrgF; rw [if_neg hok]
    rw [hF]
    refine Fc.mk (callable Try.call44) Try.func44 rfl Try.ntmps44 rfl ?_; dsimp only [fr]
    repeat' (first | (refine XO.op rfl ?_; (first | ((first | refine Xo.ng rfl ?_); (first | (refine Xg.ev (EvF.cmp (b := true) rfl rfl rfl (congrArg some (nd_t (by omega)))) rfl rfl ?_) | (refine Xg.ev (EvF.loadV rfl rfl (LoadV.whole (T := 26) (cs := cRm R p) (te rfl) rfl (by repeat (first | exact List.Mem.head _ | apply List.Mem.tail)) rfl)) rfl rfl ?_) | (refine Xg.call (EnF.st rfl (Args.cons rfl Args.nil)) rfl rfl (hck p _ (hR.sub (fun _ h => by repeat (first | exact h | apply List.Mem.tail)))) ?_; rintro _ H9 ⟨rfl, hH9⟩; subst H9) | (refine Xg.ev (EvF.move rfl rfl) rfl rfl ?_) | (refine Xg.ev (EvF.assign rfl rfl) rfl rfl ?_) | (refine Xg.st (StF.boxAgg rfl rfl) rfl rfl ?_; rintro _ _ ⟨bx, rfl, rfl⟩))))) | (refine XO.done rfl ?_; refine hK _ _ ?_; clear hK K) | refine X.seq rfl ?_ | refine X.region rfl (fun K hK => ?_) | refine X.ret rfl ?_ | (refine X.ite rfl rfl (fun hc => ?_); (first | (with_reducible refine Xb.t hc ?_)) <;> clear hc))
    all_goals try (exfalso; contradiction)
    exact ret_two (by first | exact .inr rfl | exact .inl rfl) Try.results44 rfl rfl (H' := H) (by (repeat (first | exact List.Sublist.refl _ | apply List.Sublist.cons_cons | apply List.Sublist.cons)); done) ⟨none, 0, [], rfl, sleNil, rfl⟩
end Go.Proofs.Ytblehgpfddmggaa
end
section
set_option linter.unusedVariables false
set_option linter.unusedSimpArgs false
namespace Go.Proofs.Ytblehgpfddmggaa
open Go Go.Fw
set_option maxRecDepth 10000
theorem wout_outM (R : Rm) (l : List Int) : wout R l R.mats.length = outM R.mats l := by
  unfold wout outM
  rw [List.take_length]
  refine List.filter_congr fun x _ => ?_
  by_cases h : x.number ∈ l <;> simp [h]
theorem rwithout_spec (R : Rm) (p : Pl) (l : List Int) (a : Option Addr) (c : Nat) (H : List Row) (hR : RmOk H R p) (hl : SlE H a cI 1 l) (hb : l.length ≤ 1000000) (h1 : R.ages.length ≤ 1000000) (h2 : R.boxes.length ≤ 1000000) (h3 : R.mats.length ≤ 1000000) : Fc Try.prog 94 [.agg (cRm R p).toArray, .slice a l.length c] H (fun v H' =>
    ∃ po Z, v = .agg (cRm (wM R (outM R.mats l)) po).toArray ∧ RmOk (Z ++ H) (wM R (outM R.mats l)) po ∧ H' = Z ++ H) := by
  have hl9 : (outM R.mats l).length ≤ R.mats.length := List.length_filter_le _ _
  refine (without_spec R p l a c H hR hl hb h1 h2 h3).mono fun v H' h => ?_
  obtain ⟨t1, k1, t2, k2, ao, co, Z, hv, hH, hz⟩ := h
  rw [wout_outM] at hv hz
  refine ⟨⟨some ⟨t1, 0, none⟩, k1, some ⟨t2, 0, none⟩, k2, ao, co⟩, Z ++ [⟨t1, 0, R.ages.flatMap cSp, some 35, k1 * 2⟩, ⟨t2, 0, R.boxes.flatMap cBx, some 81, k2 * 2⟩], hv, ?_, by rw [hH]; simp⟩
  have m1 : (⟨t1, 0, R.ages.flatMap cSp, some 35, k1 * 2⟩ : Row) ∈ (Z ++ [⟨t1, 0, R.ages.flatMap cSp, some 35, k1 * 2⟩, ⟨t2, 0, R.boxes.flatMap cBx, some 81, k2 * 2⟩]) ++ H := by simp
  have m2 : (⟨t2, 0, R.boxes.flatMap cBx, some 81, k2 * 2⟩ : Row) ∈ (Z ++ [⟨t1, 0, R.ages.flatMap cSp, some 35, k1 * 2⟩, ⟨t2, 0, R.boxes.flatMap cBx, some 81, k2 * 2⟩]) ++ H := by simp
  refine ⟨SlE.ofRow m1 (fun _ _ => rfl), SlE.ofRow m2 (fun _ _ => rfl), ?_, by show R.ages.length ≤ _; omega, by show R.boxes.length ≤ _; omega, by show (outM R.mats l).length ≤ _; omega⟩
  rcases hz with ⟨_, rfl, _, h0⟩ | ⟨t3, hZ, rfl⟩
  · show SlE _ none cMt 6 (outM R.mats l)
    rw [h0]; exact sleNil
  · have m3 : (⟨t3, 0, (outM R.mats l).flatMap cMt, some 114, co * 6⟩ : Row) ∈ (Z ++ [⟨t1, 0, R.ages.flatMap cSp, some 35, k1 * 2⟩, ⟨t2, 0, R.boxes.flatMap cBx, some 81, k2 * 2⟩]) ++ H := by rw [hZ]; simp
    exact SlE.ofRow m3 (fun _ _ => rfl)
theorem rtrue (R : Rm) (l : List Int) (po : Pl) (S : List Row) (hr : okRm R) (hm : matsThere R R.mats) (hlm : R.mats.length ≤ 100) (hS : RmOk S (wM R (outM R.mats l)) po) : Fc Try.prog 58 [.agg (cRm (wM R (outM R.mats l)) po).toArray] S (fun v H' => v = .bool (okW R l) ∧ H' = S) := by
  have h1 : (outM R.mats l).length ≤ R.mats.length := List.length_filter_le _ _
  have := true_spec (wM R (outM R.mats l)) po S (wM_ok _ hr) (mats_sub hm (fun x hx => (List.mem_filter.1 hx).1)) (by show (outM R.mats l).length ≤ _; omega) hS
  rwa [show decide (hasT (wM R (outM R.mats l)) (wM R (outM R.mats l)).mats) = okW R l by unfold okW; exact decide_eq_decide.2 wM_has] at this
/-- the first list of numbers, m more, that is right -/
def stk9 (ok : List Int → Bool) : List Mt → Nat → List Int → Option (List Int)
  | [], 0, ns => if ok ns = true then some ns else none
  | [], _ + 1, _ => none
  | _ :: _, 0, ns => if ok ns = true then some ns else none
  | x :: t, m + 1, ns => match stk9 ok t m (ns ++ [x.number]) with
    | some r => some r
    | none => stk9 ok t (m + 1) ns
theorem stk9_zero (ok : List Int → Bool) (t : List Mt) (ns : List Int) : stk9 ok t 0 ns = if ok ns = true then some ns else none := by cases t <;> rfl
theorem stk9_lon (ok : List Int → Bool) : ∀ (t : List Mt) (m : Nat) (ns : List Int), stk9 ok t m ns = lonG ok (t.map (·.number)) m ns
  | [], 0, ns => rfl
  | [], _ + 1, _ => rfl
  | _ :: _, 0, ns => rfl
  | x :: t, m + 1, ns => by
    have h1 := stk9_lon ok t m (ns ++ [x.number])
    have h2 := stk9_lon ok t (m + 1) ns
    simp only [List.map_cons, stk9, lonG, h1, h2]
    cases lonG ok (t.map (·.number)) m (ns ++ [x.number]) <;> rfl
def Stk9R (ok : List Int → Bool) (t : List Mt) (m : Nat) (ns : List Int) (a : Option Addr) (c : Nat) (H : List Row) (v : Value) (H' : List Row) : Prop :=
  (m = 0 ∧ v = .tuple #[.slice a ns.length c, .bool (ok ns)] ∧ H' = H) ∨ (0 < m ∧ ((∃ r b k, stk9 ok t m ns = some r ∧ v = .tuple #[.slice (some ⟨b, 0, none⟩) r.length k, .bool true] ∧ H' = ⟨b, 0, r.flatMap cI, some 3, k * 1⟩ :: H) ∨ (stk9 ok t m ns = none ∧ v = .tuple #[.slice none 0 0, .bool false] ∧ H' = H)))
def rdS9 (k : Nat) : List Nat := match k with
  | 16 => [11]
  | _ => []
def rowsS9 (ns : List Int) (num : Int) (cr : Nat × Nat → List Row) (k : Nat) (env : Env) : List Row :=
  match k with
  | 1 => [⟨(env 1).1, 0, [], some 3, 0⟩]
  | 3 => [⟨(env 3).1, 0, ns.flatMap cI, some 3, (env 3).2 * 1⟩]
  | 10 => [⟨(env 10).1, 0, [.int .i64 num], some 3, 1 * 1⟩]
  | 11 => [⟨(env 11).1, 0, ns.flatMap cI ++ [.int .i64 num], some 3, (env 11).2 * 1⟩]
  | 16 => cr (env 16)
  | _ => []
def valS9 (b4 off : Nat) (R : Rm) (p : Pl) (ns : List Int) (a : Option Addr) (c : Nat) (dl : Nat) (db doff dc : Nat) (i : Nat) (m : Nat) (num : Int) (cv : Nat × Nat → Nat × Nat → Value) (bv : Bool) (k : Nat) (env : Env) : Value :=
  match k with
  | 0 => .agg (cRm R p).toArray
  | 1 => .slice (some ⟨(env 1).1, 0, none⟩) 0 0
  | 2 => .slice a ns.length c
  | 3 => .slice (some ⟨(env 3).1, 0, none⟩) ns.length (env 3).2
  | 4 => .pointer (some ⟨b4, off, none⟩)
  | 5 => .slice (some ⟨db, doff, none⟩) dl dc
  | 6 => .int .i64 i
  | 7 => .pointer (some ⟨db, doff + i * 6, none⟩)
  | 8 => .pointer (some ⟨db, doff + i * 6 + 0, none⟩)
  | 9 => .int .i64 num
  | 10 => .slice (some ⟨(env 10).1, 0, none⟩) 1 1
  | 11 => .slice (some ⟨(env 11).1, 0, none⟩) (ns.length + 1) (env 11).2
  | 12 => .int .i64 i
  | 13 => .int .i64 (i + 1)
  | 14 => .int .i64 (m + 1 : Nat)
  | 15 => .int .i64 ((m + 1 : Nat) - 1)
  | 16 => .tuple #[cv (env 11) (env 16), .bool bv]
  | 17 => .tuple #[cv (env 11) (env 16), .bool bv]
  | 18 => cv (env 11) (env 16)
  | 19 => .bool bv
  | 20 => cv (env 11) (env 16)
  | 21 => .bool bv
  | _ => undef
def tsstruck9 : List TOp := [⟨some 29, [], [], []⟩, ⟨some 30, [], [], []⟩, ⟨some 31, [], [], []⟩, ⟨some 32, [1, 2], [1, 2], [1]⟩, ⟨some 33, [], [], []⟩, ⟨some 34, [4], [4], []⟩, ⟨some 35, [], [], []⟩, ⟨some 36, [4, 5, 6], [5, 6], []⟩, ⟨some 37, [4, 5, 6, 7], [7], []⟩, ⟨some 38, [4, 5, 6, 7, 8], [8], []⟩, ⟨some 39, [4, 5, 6, 7, 8, 9], [9], []⟩, ⟨some 40, [1, 2, 3, 4, 5, 6, 7, 8, 9, 10], [3, 10], [3, 10]⟩, ⟨some 41, [], [], []⟩, ⟨some 42, [12], [12], []⟩, ⟨some 43, [], [], []⟩, ⟨some 44, [14], [14], []⟩, ⟨some 45, [0, 1, 2, 3, 4, 5, 6, 7, 8, 9, 10, 11, 12, 13, 14, 15], [0, 11, 13, 15], []⟩, ⟨some 28, [0, 1, 2, 3, 4, 5, 6, 7, 8, 9, 10, 11, 12, 13, 14, 15, 16], [16], []⟩, ⟨some 46, [0, 1, 2, 3, 4, 5, 6, 7, 8, 9, 10, 11, 12, 13, 14, 15, 16, 17], [17], []⟩, ⟨some 47, [0, 1, 2, 3, 4, 5, 6, 7, 8, 9, 10, 11, 12, 13, 14, 15, 16, 17], [17], []⟩, ⟨some 11, [0, 1, 2, 3, 4, 5, 6, 7, 8, 9, 10, 11, 12, 13, 14, 15, 16, 17, 18], [18], []⟩, ⟨some 12, [0, 1, 2, 3, 4, 5, 6, 7, 8, 9, 10, 11, 12, 13, 14, 15, 16, 17, 18, 19, 20], [19], []⟩]
theorem locstruck9 (b4 : Nat) (R : Rm) (p : Pl) (ns : List Int) (a : Option Addr) (c dl db doff dc j m : Nat) (num : Int) (cv : Nat × Nat → Nat × Nat → Value) (bv : Bool) (cr : Nat × Nat → List Row) : ∀ k env i q9, i ≠ k → (tAt tsstruck9 k).sup.contains i = false → valS9 b4 4 R p ns a c dl db doff dc j m num cv bv k (upd env i q9) = valS9 b4 4 R p ns a c dl db doff dc j m num cv bv k env ∧ rowsS9 ns num cr k (upd env i q9) = rowsS9 ns num cr k env := by
  intro k env i q hk hs
  have hu : ∀ j, j ≠ i → upd env i q j = env j := fun j hj => by unfold upd; rw [if_neg hj]
  match k, hk, hs with
  | 0, _, _ => exact ⟨rfl, rfl⟩
  | 1, hk, hs => exact ⟨by simp only [valS9, hu 1 (fun e => hk e.symm)], by simp only [rowsS9, hu 1 (fun e => hk e.symm)]⟩
  | 2, _, _ => exact ⟨rfl, rfl⟩
  | 3, hk, hs => exact ⟨by simp only [valS9, hu 3 (fun e => hk e.symm)], by simp only [rowsS9, hu 3 (fun e => hk e.symm)]⟩
  | 4, _, _ => exact ⟨rfl, rfl⟩
  | 5, _, _ => exact ⟨rfl, rfl⟩
  | 6, _, _ => exact ⟨rfl, rfl⟩
  | 7, _, _ => exact ⟨rfl, rfl⟩
  | 8, _, _ => exact ⟨rfl, rfl⟩
  | 9, _, _ => exact ⟨rfl, rfl⟩
  | 10, hk, hs => exact ⟨by simp only [valS9, hu 10 (fun e => hk e.symm)], by simp only [rowsS9, hu 10 (fun e => hk e.symm)]⟩
  | 11, hk, hs => exact ⟨by simp only [valS9, hu 11 (fun e => hk e.symm)], by simp only [rowsS9, hu 11 (fun e => hk e.symm)]⟩
  | 12, _, _ => exact ⟨rfl, rfl⟩
  | 13, _, _ => exact ⟨rfl, rfl⟩
  | 14, _, _ => exact ⟨rfl, rfl⟩
  | 15, _, _ => exact ⟨rfl, rfl⟩
  | 16, hk, hs => exact ⟨by simp only [valS9, hu 11 (by rintro rfl; cases hs), hu 16 (fun e => hk e.symm)], by simp only [rowsS9, hu 11 (by rintro rfl; cases hs), hu 16 (fun e => hk e.symm)]⟩
  | 17, hk, hs => exact ⟨by simp only [valS9, hu 11 (by rintro rfl; cases hs), hu 16 (by rintro rfl; cases hs)], by simp only [rowsS9, hu 11 (by rintro rfl; cases hs), hu 16 (by rintro rfl; cases hs)]⟩
  | 18, hk, hs => exact ⟨by simp only [valS9, hu 11 (by rintro rfl; cases hs), hu 16 (by rintro rfl; cases hs)], by simp only [rowsS9, hu 11 (by rintro rfl; cases hs), hu 16 (by rintro rfl; cases hs)]⟩
  | 19, _, _ => exact ⟨rfl, rfl⟩
  | 20, hk, hs => exact ⟨by simp only [valS9, hu 11 (by rintro rfl; cases hs), hu 16 (by rintro rfl; cases hs)], by simp only [rowsS9, hu 11 (by rintro rfl; cases hs), hu 16 (by rintro rfl; cases hs)]⟩
  | 21, _, _ => exact ⟨rfl, rfl⟩
  | _ + 22, _, _ => exact ⟨rfl, rfl⟩
set_option maxHeartbeats 8000000 in
theorem struck9_spec (R : Rm) (p : Pl) (H0 : List Row) (hB0 : RmOk H0 R p) (hr : okRm R) (hm : matsThere R R.mats) (hlm : R.mats.length ≤ 100) (hla : R.ages.length ≤ 1000) :
    ∀ (m f : Nat) (mi fi : Int) (ns : List Int) (a : Option Addr) (c : Nat) (H : List Row), mi = m → fi = f → f ≤ R.mats.length → ns.length + m ≤ 1000000 → (∀ r ∈ H0, r ∈ H) → SlE H a cI 1 ns →
    Fc Try.prog 99 [.agg (cRm R p).toArray, .slice a ns.length c, .int .i64 fi, .int .i64 mi] H (Stk9R (okW R) (R.mats.drop f) m ns a c H) := by
  have hb4 := hr.b4
  intro m
  induction m with
  | zero =>
    intro f mi fi ns a c H hmi hfi hfr hacc hH0 hs
    subst hmi
    have hB : RmOk H R p := hB0.sub hH0
    have hB1 : ∀ r, RmOk (r :: H) R p := fun r => hB.sub (fun _ h => List.Mem.tail _ h)
    have hs1 : ∀ r, SlE (r :: H) a cI 1 ns := fun r => hs.sub (fun _ h => List.Mem.tail _ h)
    show Fc Try.prog 99 [.agg (cRm R p).toArray, .slice a ns.length c, .int .i64 fi, .int .i64 ((0 : Nat) : Int)] H _
    refine Fc.mk (callable Try.call99) Try.func99 rfl Try.ntmps99 rfl ?_; dsimp only [fr]
    repeat' (first | (refine XO.op rfl ?_; (first | ((first | refine Xo.ng rfl ?_); (first | (refine Xg.ev (EvF.loadV rfl rfl (LoadV.whole (T := 26) (cs := cRm R p) (te rfl) rfl (List.Mem.head _) rfl)) rfl rfl ?_) | (refine Xg.call (EnF.st rfl (Args.cons rfl (Args.cons rfl Args.nil))) rfl rfl (rwithout_spec R p ns a c _ (hB1 _) (hs1 _) (by omega) (by omega) (by omega) (by omega)) ?_; rintro _ _ ⟨po, Z, rfl, hbl, rfl⟩) | (refine Xg.call (EnF.st rfl (Args.cons rfl Args.nil)) rfl rfl (rtrue R ns po _ hr hm (by omega) hbl) ?_; rintro _ H9 ⟨rfl, hH9⟩; subst H9) | (refine Xg.ev (EvF.move rfl rfl) rfl rfl ?_) | (refine Xg.ev (EvF.assign rfl rfl) rfl rfl ?_) | (refine Xg.ev (EvF.cmp rfl rfl rfl rfl) rfl rfl ?_) | (refine Xg.st (StF.boxAgg rfl rfl) rfl rfl ?_; rintro _ _ ⟨bx, rfl, rfl⟩))))) | (refine XO.done rfl ?_; refine hK _ _ ?_; clear hK K) | refine X.seq rfl ?_ | refine X.region rfl (fun K hK => ?_) | refine X.block rfl ?_ | refine X.skip rfl ?_ | refine X.ret rfl ?_ | (refine X.ite rfl rfl (fun hc => ?_); (first | (with_reducible refine Xb.case hc (fun h => ?_) (fun h => ?_))) <;> clear hc))
    all_goals try (exfalso; omega)
    refine ret_two (by first | exact .inr rfl | exact .inl rfl) Try.results99 rfl rfl (H' := H) ((List.sublist_cons_self _ _).trans (List.sublist_append_right _ _)) (.inl ⟨rfl, rfl, rfl⟩)
  | succ m ih =>
    intro f mi fi ns a c H hmi hfi hfr hacc hH0 hs
    subst hfi hmi
    have hB : RmOk H R p := hB0.sub hH0
    have hB1 : ∀ r, RmOk (r :: H) R p := fun r => hB.sub (fun _ h => List.Mem.tail _ h)
    obtain ⟨a1, c1, a2, c2, a3, c3⟩ := p
    show Fc Try.prog 99 [.agg (cRm R ⟨a1, c1, a2, c2, a3, c3⟩).toArray, .slice a ns.length c, .int .i64 (f : Int), .int .i64 ((m + 1 : Nat) : Int)] H _
    refine Fc.mk (callable Try.call99) Try.func99 rfl Try.ntmps99 rfl ?_; dsimp only [fr]
    repeat' (first | (refine XO.op rfl ?_; (first | ((first | refine Xo.ng rfl ?_); (first | (refine Xg.ev (EvF.move rfl rfl) rfl rfl ?_) | (refine Xg.ev (EvF.assign rfl rfl) rfl rfl ?_) | (refine Xg.ev (EvF.cmp rfl rfl rfl rfl) rfl rfl ?_) | (refine Xg.ev (EvF.add64 rfl rfl rfl (by omega) (by omega)) rfl rfl ?_) | (refine Xg.ev (EvF.loadV rfl rfl (LoadV.whole (te rfl) rfl (List.Mem.head _) rfl)) rfl rfl ?_) | (refine Xg.st (StF.boxAgg rfl rfl) rfl rfl ?_; rintro _ _ ⟨bx, rfl, rfl⟩))))) | (refine XO.done rfl ?_; refine hK _ _ ?_; clear hK K) | refine X.seq rfl ?_ | refine X.region rfl (fun K hK => ?_) | refine X.block rfl ?_ | refine X.skip rfl ?_ | refine X.ret rfl ?_ | (refine X.ite rfl rfl (fun hc => ?_); (first | (with_reducible refine Xb.t hc ?_) | (with_reducible refine Xb.f hc ?_) | (with_reducible refine Xb.case hc (fun h => ?_) (fun h => ?_))) <;> clear hc))
    · exfalso; omega
    rename Nat => b4
    refine X.lp rfl (fun q F' H' => ∃ i : Nat, q = R.mats.length - i ∧ i ≤ R.mats.length ∧ stk9 (okW R) (R.mats.drop f) (m + 1) ns = stk9 (okW R) (R.mats.drop i) (m + 1) ns ∧ ⟨b4, 0, cRm R ⟨a1, c1, a2, c2, a3, c3⟩, some 26, 5⟩ :: H = H' ∧ F' = [(1, .slice a ns.length c), (3, .int .i64 (m + 1 : Nat)), (4, .pointer (some ⟨b4, 0, none⟩)), (10, .int .i64 i)])
      (R.mats.length - f) [(1, .slice a ns.length c), (3, .int .i64 (m + 1 : Nat)), (4, .pointer (some ⟨b4, 0, none⟩)), (10, .int .i64 f)] _ (by (repeat (first | exact Sub.nil _ | refine Sub.cons rfl ?_)); done) (List.Sublist.refl _) ⟨f, rfl, hfr, rfl, rfl, rfl⟩ ?_
    rintro _ _ H2 ⟨i, rfl, hi, hst, hH, rfl⟩
    subst hH
    repeat' (first | (refine XO.op rfl ?_; (first | ((first | refine Xo.ng rfl ?_); (first | (refine Xg.ev (EvF.move rfl rfl) rfl rfl ?_) | (refine Xg.ev (EvF.assign rfl rfl) rfl rfl ?_) | (refine Xg.ev (EvF.cmp rfl rfl rfl rfl) rfl rfl ?_) | (refine Xg.ev (EvF.fieldAddr rfl rfl (te rfl) rfl (te rfl) (by decide)) rfl rfl ?_) | (refine Xg.ev (EvF.lenSlice rfl rfl (te rfl)) rfl rfl ?_) | (refine Xg.ev (EvF.loadV rfl rfl (LoadV.own (te rfl) rfl (List.Mem.head _) rfl)) rfl rfl ?_))))) | (refine XO.done rfl ?_; refine hK _ _ ?_; clear hK K) | refine X.seq rfl ?_ | refine X.region rfl (fun K hK => ?_) | refine X.block rfl ?_ | (refine X.brk rfl ?_; repeat (first | refine blockX_hit rfl ?_ | refine blockX_miss (by decide) ?_)) | refine X.skip rfl ?_ | refine X.ret rfl ?_ | (refine X.ite rfl rfl (fun hc => ?_); (first | (with_reducible refine Xb.case hc (fun h => ?_) (fun h => ?_))) <;> clear hc))
    · obtain ⟨db, doff, e, rfl, he⟩ := hB.mats.elem (i := i) (by omega)
      have hil := (List.getElem?_eq_some_iff.1 he).1
      have hle : (ns ++ [e.number]).length = ns.length + 1 := by rw [List.length_append]; rfl
      have hfm : ns.flatMap cI ++ [.int .i64 e.number] = (ns ++ [e.number]).flatMap cI := by rw [List.flatMap_append]; rfl
      have hal : (ns.flatMap cI).length = ns.length * 1 := lenI ns
      rw [drop_cons he] at hst
      obtain ⟨cv, bv, cr, hcall, hres⟩ : ∃ (cv : Nat × Nat → Nat × Nat → Value) (bv : Bool) (cr : Nat × Nat → List Row),
          (∀ (q11 : Nat × Nat) (S : List Row), (∀ r ∈ H0, r ∈ S) → SlE S (some ⟨q11.1, 0, none⟩) cI 1 (ns ++ [e.number]) → Fc Try.prog 99 [.agg (cRm R ⟨a1, c1, a2, c2, some ⟨db, doff, none⟩, c3⟩).toArray, .slice (some ⟨q11.1, 0, none⟩) (ns.length + 1) q11.2, .int .i64 (i + 1), .int .i64 ((m + 1 : Nat) - 1)] S (fun v H' => ∃ q, v = .tuple #[cv q11 q, .bool bv] ∧ H' = cr q ++ S)) ∧
          ((bv = true ∧ ∃ r, stk9 (okW R) (R.mats.drop (i + 1)) m (ns ++ [e.number]) = some r ∧ ∀ q11 q : Nat × Nat, ∃ b k, cv q11 q = .slice (some ⟨b, 0, none⟩) r.length k ∧ ∀ Z, List.Sublist (⟨b, 0, r.flatMap cI, some 3, k * 1⟩ :: Z) (⟨q11.1, 0, ns.flatMap cI ++ [.int .i64 e.number], some 3, q11.2 * 1⟩ :: (cr q ++ Z))) ∨
            (bv = false ∧ stk9 (okW R) (R.mats.drop (i + 1)) m (ns ++ [e.number]) = none)) := by
        rw [← hle]
        rcases Nat.eq_zero_or_pos m with rfl | hm
        · refine ⟨fun q11 _ => .slice (some ⟨q11.1, 0, none⟩) (ns ++ [e.number]).length q11.2, okW R (ns ++ [e.number]), fun _ => [], fun q11 S hS hs' => (ih (i + 1) _ _ (ns ++ [e.number]) _ _ S (by omega) (by omega) (by omega) (by omega) hS hs').mono (fun v H' h => ?_), ?_⟩
          · rcases h with ⟨_, hv, hH⟩ | ⟨h0, _⟩
            · exact ⟨(0, 0), hv, hH⟩
            · omega
          · rw [stk9_zero]
            by_cases hk : okW R (ns ++ [e.number]) = true
            · exact .inl ⟨hk, ns ++ [e.number], by rw [if_pos hk], fun q11 q => ⟨q11.1, q11.2, rfl, fun Z => by rw [hfm]; exact List.Sublist.refl _⟩⟩
            · exact .inr ⟨Bool.eq_false_iff.2 hk, by rw [if_neg hk]⟩
        · cases hq : stk9 (okW R) (R.mats.drop (i + 1)) m (ns ++ [e.number]) with
          | some r =>
            refine ⟨fun _ q => .slice (some ⟨q.1, 0, none⟩) r.length q.2, true, fun q => [⟨q.1, 0, r.flatMap cI, some 3, q.2 * 1⟩], fun q11 S hS hs' => (ih (i + 1) _ _ (ns ++ [e.number]) _ _ S (by omega) (by omega) (by omega) (by omega) hS hs').mono (fun v H' h => ?_), .inl ⟨rfl, r, rfl, fun q11 q => ⟨q.1, q.2, rfl, fun Z => List.Sublist.cons _ (List.Sublist.refl _)⟩⟩⟩
            rcases h with ⟨h0, _⟩ | ⟨_, ⟨r', b, k, hr', hv, hH⟩ | ⟨hn, _⟩⟩
            · omega
            · rw [hq] at hr'
              cases hr'
              exact ⟨(b, k), hv, hH⟩
            · rw [hq] at hn; cases hn
          | none =>
            refine ⟨fun _ _ => .slice none 0 0, false, fun _ => [], fun q11 S hS hs' => (ih (i + 1) _ _ (ns ++ [e.number]) _ _ S (by omega) (by omega) (by omega) (by omega) hS hs').mono (fun v H' h => ?_), .inr ⟨rfl, rfl⟩⟩
            rcases h with ⟨h0, _⟩ | ⟨_, ⟨r', b, k, hr', hv, hH⟩ | ⟨hn, hv, hH⟩⟩
            · omega
            · rw [hq] at hr'; cases hr'
            · exact ⟨(0, 0), hv, hH⟩
      refine X.regionRd tsstruck9 rdS9 [1, 3, 4, 10] [(1, .slice a ns.length c), (3, .int .i64 (m + 1 : Nat)), (4, .pointer (some ⟨b4, 0, none⟩)), (10, .int .i64 i)] (valS9 b4 4 R ⟨a1, c1, a2, c2, some ⟨db, doff, none⟩, c3⟩ ns a c R.mats.length db doff c3 i m e.number cv bv) (rowsS9 ns e.number cr) (fun _ => (0, 0)) (⟨b4, 0, cRm R ⟨a1, c1, a2, c2, some ⟨db, doff, none⟩, c3⟩, some 26, 5⟩ :: H) rfl mixed (by (repeat (first | exact Sub.nil _ | refine Sub.cons rfl ?_)); done) rfl (by kernel_rfl) (by kernel_rfl) (locstruck9 b4 R ⟨a1, c1, a2, c2, some ⟨db, doff, none⟩, c3⟩ ns a c R.mats.length db doff c3 i m e.number cv bv cr) (List.Sublist.refl _) ?_ ?_
      · repeat' (first | exact AllF.done rfl | (refine AllF.step rfl ?_ ?_; · (first | exact (Ob.ng rfl (ObK.pure (fun env R hR => by exact ⟨_, EvF.move rfl rfl, rfl⟩) rfl (fun _ => rfl))).toR | exact (Ob.ng rfl (ObK.pure (fun env R hR => by exact ⟨_, EvF.assign rfl rfl, rfl⟩) rfl (fun _ => rfl))).toR | exact (Ob.ng rfl (ObK.pure (fun env R hR => by exact ⟨_, EvF.fieldAddr rfl rfl (te rfl) rfl (te rfl) (by decide), rfl⟩) rfl (fun _ => rfl))).toR | exact (Ob.ng rfl (ObK.pure (fun env R hR => by exact ⟨_, EvF.loadV rfl rfl (LoadV.own (te rfl) rfl (hR _ (List.Mem.head _)) rfl), rfl⟩) rfl (fun _ => rfl))).toR | exact (Ob.ng rfl (ObK.pure (fun env R hR => by exact ⟨_, EvF.loadV rfl rfl (LoadV.whole (te rfl) rfl (hR _ (List.Mem.head _)) rfl), rfl⟩) rfl (fun _ => rfl))).toR | (refine ObR.ng rfl ?_; (first | (exact fun env S hS hrd => (StF.buildNil rfl el55).op.mono (fun v H' ⟨b, hv, hH⟩ => ⟨(b, 0), fun _ => hv, by rw [hH]; exact List.Perm.refl _⟩)) | ((refine fun env S hS hrd => (StF.ofEv (v := .pointer (some ⟨db, doff + i * 6, none⟩)) ?_).op.mono (fun v H' ⟨hv, hH⟩ => ⟨(0, 0), fun _ => hv, by rw [hH]; exact List.Perm.refl _⟩); refine EvF.indexSlice (T := 24) (e := 114) (i := (i : Int)) (off := doff) (b := db) (len := R.mats.length) (ti := ⟨.st [(0, 3), (1, 3), (2, 3), (3, 3), (4, 35)], 6, 48⟩) rfl rfl rfl (te rfl) (te rfl) ?_ ?_ <;> omega)) | (exact fun env S hS hrd => (StF.ofEv (v := .int .i64 e.number) (EvF.loadV rfl rfl (LoadV.el1 (n := i) (j := 0) hB.mats he (te rfl) rfl (fun _ h => hS _ (List.Mem.tail _ h)) rfl))).op.mono (fun v H' ⟨hv, hH⟩ => ⟨(0, 0), fun _ => hv, by rw [hH]; exact List.Perm.refl _⟩)) | (exact fun env S hS hrd => (StF.buildOne rfl el55 rfl rfl rfl (by decide) (by decide)).op.mono (fun v H' ⟨b, hv, hH⟩ => ⟨(b, 0), fun _ => hv, by rw [hH]; exact List.Perm.refl _⟩)) | (exact fun env S hS hrd => (StF.appendSl (i := 0) (l := ns) rfl el55 rfl rfl rfl (hs.sub (fun r hr => List.mem_append_right _ (hS r (List.Mem.tail _ hr)))) (fun e _ => rfl) rfl (by decide) (by omega)).op.mono (fun v H' ⟨b, c, hv, hH⟩ => ⟨(b, c), fun _ => by rw [hv, Nat.zero_add]; rfl, by rw [hH]; exact List.Perm.refl _⟩)) | (exact fun env S hS hrd => (StF.appendOwn (i := 0) rfl el55 rfl rfl rfl hal rfl (Rd.own (List.Mem.tail _ (List.Mem.head _))) rfl (by omega)).op.drop (fun v H' ⟨b, c, hv, hH⟩ => ⟨_, by rw [hH]; exact List.Sublist.cons_cons _ (List.Sublist.cons _ (List.Sublist.refl _)), (b, c), fun _ => hv, List.Perm.refl _⟩)) | (exact fun env S hS hrd => (StF.ofEv (v := .int .i64 ((i : Int) + 1)) (EvF.add64 (p := (i : Int)) (q := 1) rfl rfl rfl (by omega) (by omega))).op.mono (fun v H' ⟨hv, hH⟩ => ⟨(0, 0), fun _ => hv, by rw [hH]; exact List.Perm.refl _⟩)) | (exact fun env S hS hrd => (StF.ofEv (v := .int .i64 (((m + 1 : Nat) : Int) - 1)) (EvF.sub64 (p := ((m + 1 : Nat) : Int)) (q := 1) rfl rfl rfl (by omega) (by omega))).op.mono (fun v H' ⟨hv, hH⟩ => ⟨(0, 0), fun _ => hv, by rw [hH]; exact List.Perm.refl _⟩)) | (exact fun env S hS hrd => (StF.ofEv (v := .bool bv) (EvF.extract rfl rfl rfl)).op.mono (fun v H' ⟨hv, hH⟩ => ⟨(0, 0), fun _ => hv, by rw [hH]; exact List.Perm.refl _⟩)) | (exact fun env S hS hrd => (StF.ofEv (v := cv (env 11) (env 16)) (EvF.extract rfl rfl rfl)).op.mono (fun v H' ⟨hv, hH⟩ => ⟨(0, 0), fun _ => hv, by rw [hH]; exact List.Perm.refl _⟩)) | (exact fun env S hS hrd => (OpF.call (EnF.st rfl (by (repeat (first | exact Args.nil | refine Args.cons rfl ?_)); done)) (hcall (env 11) S (fun r hr => hS r (List.Mem.tail _ (hH0 r hr))) (SlE.ofRow (by rw [← hfm]; exact hrd 11 (List.Mem.head _) _ (List.Mem.head _)) (fun _ _ => rfl)))).mono (fun v H' ⟨q, hv, hH⟩ => ⟨q, fun _ => hv, by rw [hH]; exact List.Perm.refl _⟩)))))))
      · intro env t ha hv
        refine ⟨(12, .bool bv) :: (11, cv (env 11) (env 16)) :: [(1, .slice a ns.length c), (3, .int .i64 (m + 1 : Nat)), (4, .pointer (some ⟨b4, 0, none⟩)), (10, .int .i64 i)], (ha.cons (hv 20 11 (Nat.le_of_ble_eq_true rfl) rfl)).cons (hv 21 12 (Nat.le_of_ble_eq_true rfl) rfl), ?_⟩
        show X _ _ _ _ (⟨(env 11).1, 0, ns.flatMap cI ++ [.int .i64 e.number], some 3, (env 11).2 * 1⟩ :: (cr (env 16) ++ []) ++ ⟨b4, 0, cRm R ⟨a1, c1, a2, c2, some ⟨db, doff, none⟩, c3⟩, some 26, 5⟩ :: H) _
        rw [List.append_nil, List.cons_append]
        generalize env 11 = q11
        generalize env 16 = q16
        rcases hres with ⟨rfl, r, hr, hc⟩ | ⟨rfl, hn⟩
        · obtain ⟨b, k, hcv, hsub⟩ := hc q11 q16
          rw [hcv]
          repeat' (first | (refine XO.op rfl ?_; (first | ((first | refine Xo.ng rfl ?_); (first | (refine Xg.ev (EvF.move rfl rfl) rfl rfl ?_) | (refine Xg.ev (EvF.assign rfl rfl) rfl rfl ?_) | (refine Xg.ev (EvF.cmp rfl rfl rfl rfl) rfl rfl ?_) | (refine Xg.ev (EvF.add64 rfl rfl rfl (by omega) (by omega)) rfl rfl ?_) | (refine Xg.ev (EvF.loadV rfl rfl (LoadV.whole (te rfl) rfl (List.Mem.head _) rfl)) rfl rfl ?_) | (refine Xg.st (StF.boxAgg rfl rfl) rfl rfl ?_; rintro _ _ ⟨bx, rfl, rfl⟩))))) | (refine XO.done rfl ?_; refine hK _ _ ?_; clear hK K) | refine X.seq rfl ?_ | refine X.region rfl (fun K hK => ?_) | refine X.block rfl ?_ | refine X.skip rfl ?_ | refine X.ret rfl ?_ | (refine X.ite rfl rfl (fun hc => ?_); (first | (with_reducible refine Xb.t hc ?_) | (with_reducible refine Xb.f hc ?_) | (with_reducible refine Xb.case hc (fun h => ?_) (fun h => ?_))) <;> clear hc))
          all_goals try (exfalso; contradiction)
          refine ret_two (by first | exact .inr rfl | exact .inl rfl) Try.results99 rfl rfl (H' := ⟨b, 0, r.flatMap cI, some 3, k * 1⟩ :: H) ((List.Sublist.cons_cons _ (List.sublist_cons_self _ _)).trans (hsub _)) (.inr ⟨by omega, .inl ⟨r, b, k, ?_, rfl, rfl⟩⟩)
          rw [hst]; simp only [stk9, hr]
        · repeat' (first | (refine XO.op rfl ?_; (first | ((first | refine Xo.ng rfl ?_); (first | (refine Xg.ev (EvF.move rfl rfl) rfl rfl ?_) | (refine Xg.ev (EvF.assign rfl rfl) rfl rfl ?_) | (refine Xg.ev (EvF.cmp rfl rfl rfl rfl) rfl rfl ?_) | (refine Xg.ev (EvF.add64 rfl rfl rfl (by omega) (by omega)) rfl rfl ?_) | (refine Xg.ev (EvF.loadV rfl rfl (LoadV.whole (te rfl) rfl (List.Mem.head _) rfl)) rfl rfl ?_) | (refine Xg.st (StF.boxAgg rfl rfl) rfl rfl ?_; rintro _ _ ⟨bx, rfl, rfl⟩))))) | (refine XO.done rfl ?_; refine hK _ _ ?_; clear hK K) | refine X.seq rfl ?_ | refine X.region rfl (fun K hK => ?_) | refine X.block rfl ?_ | refine X.skip rfl ?_ | refine X.ret rfl ?_ | (refine X.ite rfl rfl (fun hc => ?_); (first | (with_reducible refine Xb.t hc ?_) | (with_reducible refine Xb.f hc ?_) | (with_reducible refine Xb.case hc (fun h => ?_) (fun h => ?_))) <;> clear hc))
          all_goals try (exfalso; contradiction)
          refine ⟨_, _, _, (by (repeat (first | exact Sub.nil _ | refine Sub.cons rfl ?_)); done), (List.sublist_append_right _ _).trans (List.sublist_cons_self _ _), ⟨i + 1, rfl, by omega, ?_, rfl, rfl⟩, by omega⟩
          rw [hst]; simp only [stk9, hn]
    · have hi' : i = R.mats.length := by omega
      refine ret_two (by first | exact .inr rfl | exact .inl rfl) Try.results99 rfl rfl (H' := H) (by (repeat (first | exact List.Sublist.refl _ | apply List.Sublist.cons)); done) (.inr ⟨by omega, .inr ⟨?_, rfl, rfl⟩⟩)
      rw [hst, hi', List.drop_length]; rfl
end Go.Proofs.Ytblehgpfddmggaa
end
section
set_option linter.unusedVariables false
set_option linter.unusedSimpArgs false
namespace Go.Proofs.Ytblehgpfddmggaa
open Go Go.Fw
set_option maxRecDepth 10000
theorem Stk9R.top {ok : List Int → Bool} {t : List Mt} {m : Nat} {H : List Row} {v : Value} {H' : List Row} (h : Stk9R ok t m [] none 0 H v H') :
    (∃ r a c Z, stk9 ok t m [] = some r ∧ v = .tuple #[.slice a r.length c, .bool true] ∧ (∀ H0, SlE (Z ++ H0) a cI 1 r) ∧ H' = Z ++ H) ∨ (stk9 ok t m [] = none ∧ v = .tuple #[.slice none 0 0, .bool false] ∧ H' = H) := by
  rcases h with ⟨rfl, rfl, rfl⟩ | ⟨_, ⟨r, b, k, hr, rfl, rfl⟩ | h⟩
  · rw [stk9_zero]
    by_cases hk : ok [] = true
    · exact .inl ⟨[], none, 0, [], by rw [if_pos hk], by rw [hk]; (try rfl), fun _ => sleNil, rfl⟩
    · exact .inr ⟨by rw [if_neg hk], by rw [Bool.eq_false_iff.2 hk]; (try rfl), rfl⟩
  · exact .inl ⟨r, _, _, [⟨b, 0, r.flatMap cI, some 3, k * 1⟩], hr, rfl, fun _ => SlE.ofRow (List.Mem.head _) (fun _ _ => rfl), rfl⟩
  · exact .inr h
set_option maxHeartbeats 8000000 in
theorem rWrong_spec (R : Rm) (p : Pl) (H : List Row) (hR : RmOk H R p) : Fc Try.prog 45 [.agg (cRm R p).toArray] H (LstR (wrgF R).1 (wrgF R).2 H) := by
  by_cases hok : roomOk R
  · have hr := hok.ok
    have hml : R.mats.length ≤ 8 := hok.1.2.2.2.2.2.2
    have hrs : ∀ r1, Fc Try.prog 47 [.agg (cRm R p).toArray] (r1 :: H) (fun v H' => v = .bool true ∧ H' = r1 :: H) := fun r1 => by
      have := room_spec R p (r1 :: H) (hR.sub (fun _ h => List.Mem.tail _ h))
      rwa [decide_eq_true hok] at this
    obtain ⟨f, hf⟩ : ∃ f, f = fewG (okW R) (R.mats.map (·.number)) 4 0 := ⟨_, rfl⟩
    have hF : wrgF R = wrgO f := by
      unfold wrgF
      rw [if_pos hok, ← hf]
      cases f <;> rfl
    rw [hF]
    have hst := struck9_spec R p H hR hr hok.mats (by omega) hok.lens.ages
    refine Fc.mk (callable Try.call45) Try.func45 rfl Try.ntmps45 rfl ?_; dsimp only [fr]
    repeat' (first | (refine XO.op rfl ?_; (first | ((first | refine Xo.ng rfl ?_); (first | (refine Xg.ev (EvF.loadV rfl rfl (LoadV.whole (T := 26) (cs := cRm R p) (te rfl) rfl (by repeat (first | exact List.Mem.head _ | apply List.Mem.tail)) rfl)) rfl rfl ?_) | (refine Xg.call (EnF.st rfl (Args.cons rfl Args.nil)) rfl rfl (hrs _) ?_; rintro _ H9 ⟨rfl, hH9⟩; subst H9) | (refine Xg.ev (EvF.assign rfl rfl) rfl rfl ?_) | (refine Xg.ev (EvF.not rfl rfl) rfl rfl ?_) | (refine Xg.st (StF.boxAgg rfl rfl) rfl rfl ?_; rintro _ _ ⟨bx, rfl, rfl⟩))))) | (refine XO.done rfl ?_; refine hK _ _ ?_; clear hK K) | refine X.seq rfl ?_ | refine X.region rfl (fun K hK => ?_) | refine X.block rfl ?_ | refine X.skip rfl ?_ | refine X.ret rfl ?_ | (refine X.ite rfl rfl (fun hc => ?_); (first | (with_reducible refine Xb.caseB hc (fun h => ?_) (fun h => ?_))) <;> clear hc))
    all_goals try (exfalso; contradiction)
    refine X.lp rfl (fun q F' H' => ∃ n : Nat, q = 4 - n ∧ n ≤ 4 ∧ fewG (okW R) (R.mats.map (·.number)) (4 - n) n = f ∧ ⟨bx, 0, cRm R p, some 26, 5⟩ :: H = H' ∧ F' = [(1, .pointer (some ⟨bx, 0, none⟩)), (4, .int .i64 n)])
      4 [(1, .pointer (some ⟨bx, 0, none⟩)), (4, .int .i64 (0 : Nat))] _ (by (repeat (first | exact Sub.nil _ | refine Sub.cons rfl ?_)); done) (List.Sublist.refl _) ⟨0, rfl, by omega, hf.symm, rfl, rfl⟩ ?_
    rintro _ _ _ ⟨n, rfl, hn, hfn, rfl, rfl⟩
    by_cases hlt : n < 4
    · obtain ⟨q, hq⟩ : ∃ q, 4 - n = q + 1 := ⟨3 - n, by omega⟩
      rw [hq] at hfn
      unfold fewG at hfn
      rw [← stk9_lon] at hfn
      repeat' (first | (refine XO.op rfl ?_; (first | ((first | refine Xo.ng rfl ?_); (first | (refine Xg.ev (EvF.cmp (b := true) rfl rfl rfl (congrArg some (decide_eq_true (by omega)))) rfl rfl ?_) | (refine Xg.ev (EvF.loadV rfl rfl (LoadV.whole (T := 26) (cs := cRm R p) (te rfl) rfl (by repeat (first | exact List.Mem.head _ | apply List.Mem.tail)) rfl)) rfl rfl ?_) | (refine Xg.ev (EvF.extract rfl rfl rfl) rfl rfl ?_) | (refine Xg.call (EnF.st rfl (by (repeat (first | exact Args.nil | refine Args.cons rfl ?_)); done)) rfl rfl (hst n 0 (n : Int) 0 [] none 0 _ rfl rfl (Nat.zero_le _) (by simp only [List.length_nil]; omega) (fun r h => List.Mem.tail _ h) sleNil) ?_; rintro _ _ hR9; rcases hR9.top with ⟨r, a, c, Z, hr9, rfl, hs, rfl⟩ | ⟨hr9, rfl, rfl⟩) | (refine Xg.ev (EvF.move rfl rfl) rfl rfl ?_) | (refine Xg.ev (EvF.assign rfl rfl) rfl rfl ?_) | (refine Xg.ev (EvF.add64 rfl rfl rfl (by omega) (by omega)) rfl rfl ?_))))) | (refine XO.done rfl ?_; refine hK _ _ ?_; clear hK K) | refine X.seq rfl ?_ | refine X.region rfl (fun K hK => ?_) | refine X.block rfl ?_ | refine X.skip rfl ?_ | refine X.ret rfl ?_ | (refine X.ite rfl rfl (fun hc => ?_); (first | (with_reducible refine Xb.t hc ?_) | (with_reducible refine Xb.f hc ?_)) <;> clear hc))
      all_goals try (exfalso; contradiction)
      · rw [List.drop_zero] at hr9
        rw [hr9] at hfn
        have hfn : some r = f := hfn
        rw [← hfn]
        exact ret_two (by first | exact .inr rfl | exact .inl rfl) Try.results45 rfl rfl (H' := Z ++ H) (List.Sublist.append (List.Sublist.refl _) (List.sublist_cons_self _ _)) ⟨a, c, Z, rfl, hs H, rfl⟩
      · rw [List.drop_zero] at hr9
        rw [hr9] at hfn
        have hfn : fewG (okW R) (R.mats.map (·.number)) q (n + 1) = f := hfn
        exact ⟨_, _, ⟨bx, 0, cRm R p, some 26, 5⟩ :: H, (by (repeat (first | exact Sub.nil _ | refine Sub.cons rfl ?_)); done), List.Sublist.refl _, ⟨n + 1, rfl, by omega, by rw [show 4 - (n + 1) = q by omega]; exact hfn, rfl, rfl⟩, by omega⟩
    · obtain rfl : n = 4 := by omega
      have hfn : none = f := hfn
      rw [← hfn]
      repeat' (first | (refine XO.op rfl ?_; (first | ((first | refine Xo.ng rfl ?_); (first | (refine Xg.ev (EvF.cmp (b := false) rfl rfl rfl (congrArg some (decide_eq_false (by omega)))) rfl rfl ?_) | (refine Xg.ev (EvF.move rfl rfl) rfl rfl ?_) | (refine Xg.ev (EvF.assign rfl rfl) rfl rfl ?_))))) | (refine XO.done rfl ?_; refine hK _ _ ?_; clear hK K) | refine X.seq rfl ?_ | refine X.region rfl (fun K hK => ?_) | (refine X.brk rfl ?_; repeat (first | refine blockX_hit rfl ?_ | refine blockX_miss (by decide) ?_)) | refine X.ret rfl ?_ | (refine X.ite rfl rfl (fun hc => ?_); (first | (with_reducible refine Xb.f hc ?_)) <;> clear hc))
      all_goals try (exfalso; contradiction)
      exact ret_two (by first | exact .inr rfl | exact .inl rfl) Try.results45 rfl rfl (H' := H) (by (repeat (first | exact List.Sublist.refl _ | apply List.Sublist.cons_cons | apply List.Sublist.cons)); done) ⟨none, 0, [], rfl, sleNil, rfl⟩
  · have hrs : ∀ r1, Fc Try.prog 47 [.agg (cRm R p).toArray] (r1 :: H) (fun v H' => v = .bool false ∧ H' = r1 :: H) := fun r1 => by
      have := room_spec R p (r1 :: H) (hR.sub (fun _ h => List.Mem.tail _ h))
      rwa [decide_eq_false hok] at this
    have hF : wrgF R = ([], 10) := by unfold wrgF; rw [if_neg hok]
    rw [hF]
    refine Fc.mk (callable Try.call45) Try.func45 rfl Try.ntmps45 rfl ?_; dsimp only [fr]
    repeat' (first | (refine XO.op rfl ?_; (first | ((first | refine Xo.ng rfl ?_); (first | (refine Xg.ev (EvF.loadV rfl rfl (LoadV.whole (T := 26) (cs := cRm R p) (te rfl) rfl (by repeat (first | exact List.Mem.head _ | apply List.Mem.tail)) rfl)) rfl rfl ?_) | (refine Xg.call (EnF.st rfl (Args.cons rfl Args.nil)) rfl rfl (hrs _) ?_; rintro _ H9 ⟨rfl, hH9⟩; subst H9) | (refine Xg.ev (EvF.assign rfl rfl) rfl rfl ?_) | (refine Xg.ev (EvF.not rfl rfl) rfl rfl ?_) | (refine Xg.st (StF.boxAgg rfl rfl) rfl rfl ?_; rintro _ _ ⟨bx, rfl, rfl⟩))))) | (refine XO.done rfl ?_; refine hK _ _ ?_; clear hK K) | refine X.seq rfl ?_ | refine X.region rfl (fun K hK => ?_) | refine X.block rfl ?_ | refine X.skip rfl ?_ | refine X.ret rfl ?_ | (refine X.ite rfl rfl (fun hc => ?_); (first | (with_reducible refine Xb.caseB hc (fun h => ?_) (fun h => ?_))) <;> clear hc))
    all_goals try (exfalso; contradiction)
    exact ret_two (by first | exact .inr rfl | exact .inl rfl) Try.results45 rfl rfl (H' := H) (by (repeat (first | exact List.Sublist.refl _ | apply List.Sublist.cons_cons | apply List.Sublist.cons)); done) ⟨none, 0, [], rfl, sleNil, rfl⟩
end Go.Proofs.Ytblehgpfddmggaa
end
section
set_option linter.unusedVariables false
set_option linter.unusedSimpArgs false
namespace Go.Proofs.Ytblehgpfddmggaa
open Go Go.Fw
set_option maxRecDepth 10000
/-- a chart that tells the spans of all places -/
structure Fq9 (R : Rm) (M : List Mt) (l : List Sp) : Prop where
  len : l.length = 48
  ex : ∀ b m, there R b m → ExR R M ⟨b.id, m⟩ zp (sat l (cel R ⟨b.id, m⟩))
theorem fq9_ex {R : Rm} {M : List Mt} (hr : okRm R) (hm : matsThere R M) (hT : hasT R M) : ∃ l, Fq9 R M l := by
  obtain ⟨x, hx⟩ := fd_ex (R := wM R M) (wM_ok M hr) hm
  have h2 : x.2 = true := by
    cases q : x.2 with
    | true => rfl
    | false => exact absurd (wM_has.2 hT) (hx.no q)
  obtain ⟨_, _, h3⟩ := hx.yes h2
  exact ⟨x.1, hx.len, fun b m ht => wM_ex.1 (h3 b m ht)⟩
def tsRq : List TOp := [⟨some 14, [], [], []⟩, ⟨some 15, [], [], []⟩, ⟨some 16, [], [], []⟩, ⟨some 17, [2], [2], []⟩, ⟨some 18, [0, 1, 2, 3], [0, 1, 3], []⟩, ⟨some 13, [0, 1, 2, 3, 4], [4], []⟩, ⟨some 19, [0, 1, 2, 3, 4, 5], [5], []⟩, ⟨some 20, [0, 1, 2, 3, 4, 5], [5], []⟩, ⟨some 11, [], [], []⟩, ⟨none, [0, 1, 2, 3, 4, 5, 6, 8], [8, 6], [8]⟩, ⟨some 12, [0, 1, 2, 3, 4, 5, 6, 7, 8, 9], [7], []⟩]
def valRq (b5 b9 : Nat) (R : Rm) (p : Pl) (v1 v2 v3 : Value) (dc dl : Nat → List Sp) (k : Nat) (env : Env) : Value :=
  match k with
  | 0 => .agg (cRm R p).toArray
  | 1 => v1
  | 2 => .agg (cRm R p).toArray
  | 3 => .agg ((dc (env 3).1).flatMap cSp).toArray
  | 4 => .tuple #[.agg ((dl (env 4).1).flatMap cSp).toArray, .bool true]
  | 5 => .tuple #[.agg ((dl (env 4).1).flatMap cSp).toArray, .bool true]
  | 6 => .agg ((dl (env 4).1).flatMap cSp).toArray
  | 7 => .bool true
  | 8 => .pointer (some ⟨(env 8).1, 0, none⟩)
  | 9 => undef
  | 10 => .bool true
  | _ => undef
def rowsRq (b5 b9 : Nat) (R : Rm) (p : Pl) (v1 v2 v3 : Value) (dc dl : Nat → List Sp) (k : Nat) (env : Env) : List Row :=
  match k with
  | 8 => [⟨(env 8).1, 0, zRc.flatMap cSp, some 107, 96⟩]
  | 9 => [⟨(env 8).1, 0, (dl (env 4).1).flatMap cSp, some 107, 96⟩]
  | _ => []
theorem locRq (b5 b9 : Nat) (R : Rm) (p : Pl) (v1 v2 v3 : Value) (dc dl : Nat → List Sp) : ∀ k env i q9, i ≠ k → (tAt tsRq k).sup.contains i = false → valRq b5 b9 R p v1 v2 v3 dc dl k (upd env i q9) = valRq b5 b9 R p v1 v2 v3 dc dl k env ∧ rowsRq b5 b9 R p v1 v2 v3 dc dl k (upd env i q9) = rowsRq b5 b9 R p v1 v2 v3 dc dl k env := by
  intro k env i q hk hs
  have hu : ∀ j, j ≠ i → upd env i q j = env j := fun j hj => by unfold upd; rw [if_neg hj]
  match k, hk, hs with
  | 0, _, _ => exact ⟨rfl, rfl⟩
  | 1, _, _ => exact ⟨rfl, rfl⟩
  | 2, _, _ => exact ⟨rfl, rfl⟩
  | 3, hk, hs => exact ⟨by simp only [valRq, hu 3 (fun e => hk e.symm)], by simp only [rowsRq, hu 3 (fun e => hk e.symm)]⟩
  | 4, hk, hs => exact ⟨by simp only [valRq, hu 4 (fun e => hk e.symm)], by simp only [rowsRq, hu 4 (fun e => hk e.symm)]⟩
  | 5, hk, hs => exact ⟨by simp only [valRq, hu 4 (by rintro rfl; cases hs)], by simp only [rowsRq, hu 4 (by rintro rfl; cases hs)]⟩
  | 6, hk, hs => exact ⟨by simp only [valRq, hu 4 (by rintro rfl; cases hs)], by simp only [rowsRq, hu 4 (by rintro rfl; cases hs)]⟩
  | 7, _, _ => exact ⟨rfl, rfl⟩
  | 8, hk, hs => exact ⟨by simp only [valRq, hu 8 (fun e => hk e.symm)], by simp only [rowsRq, hu 8 (fun e => hk e.symm)]⟩
  | 9, hk, hs => exact ⟨by simp only [valRq, hu 4 (by rintro rfl; cases hs), hu 8 (by rintro rfl; cases hs)], by simp only [rowsRq, hu 4 (by rintro rfl; cases hs), hu 8 (by rintro rfl; cases hs)]⟩
  | 10, _, _ => exact ⟨rfl, rfl⟩
  | _ + 11, _, _ => exact ⟨rfl, rfl⟩
def tsRs : List TOp := [⟨some 21, [], [], []⟩, ⟨some 22, [0], [0], []⟩, ⟨some 23, [0, 1], [], []⟩, ⟨some 24, [0, 1], [], []⟩, ⟨some 25, [0, 1, 2], [2], []⟩, ⟨some 26, [0, 1, 2, 3, 4], [4, 3], []⟩, ⟨some 27, [0, 1, 2, 3, 4, 5], [5], []⟩, ⟨some 28, [0, 1], [], []⟩, ⟨some 29, [0, 1, 2, 3, 4, 5, 6, 7], [6, 7], []⟩, ⟨some 30, [0, 1, 2, 3, 4, 5, 6, 7, 8], [1, 8], []⟩, ⟨some 10, [0, 1, 2, 3, 4, 5, 6, 7, 8, 9], [9], []⟩]
def valRs (b11 b9 ii : Nat) (m : Int) (t u : Sp) (w : Bool) (k : Nat) (env : Env) : Value :=
  match k with
  | 0 => .bool true
  | 1 => .bool true
  | 2 => gt (!true) (.int .i64 (ii : Nat))
  | 3 => gt (!true) (.int .i64 m)
  | 4 => gt (!true) (.pointer (some ⟨b11, 0 + ii * 24, none⟩))
  | 5 => gt (!true) (.pointer (some ⟨b11, 0 + ii * 24 + m.toNat * 2, none⟩))
  | 6 => gt (!true) (.agg (cSp t).toArray)
  | 7 => gt (!true) (.agg (cSp u).toArray)
  | 8 => gt (!true) (.bool w)
  | 9 => .bool (true && w)
  | 10 => .bool (true && w)
  | _ => undef
def rowsRs (b11 b9 ii : Nat) (m : Int) (t u : Sp) (w : Bool) (k : Nat) (env : Env) : List Row :=
  match k with
  | _ => []
theorem locRs (b11 b9 ii : Nat) (m : Int) (t u : Sp) (w : Bool) : ∀ k env i q9, i ≠ k → (tAt tsRs k).sup.contains i = false → valRs b11 b9 ii m t u w k (upd env i q9) = valRs b11 b9 ii m t u w k env ∧ rowsRs b11 b9 ii m t u w k (upd env i q9) = rowsRs b11 b9 ii m t u w k env := by
  intro k env i q hk hs
  have hu : ∀ j, j ≠ i → upd env i q j = env j := fun j hj => by unfold upd; rw [if_neg hj]
  match k, hk, hs with
  | 0, _, _ => exact ⟨rfl, rfl⟩
  | 1, _, _ => exact ⟨rfl, rfl⟩
  | 2, _, _ => exact ⟨rfl, rfl⟩
  | 3, _, _ => exact ⟨rfl, rfl⟩
  | 4, _, _ => exact ⟨rfl, rfl⟩
  | 5, _, _ => exact ⟨rfl, rfl⟩
  | 6, _, _ => exact ⟨rfl, rfl⟩
  | 7, _, _ => exact ⟨rfl, rfl⟩
  | 8, _, _ => exact ⟨rfl, rfl⟩
  | 9, _, _ => exact ⟨rfl, rfl⟩
  | 10, _, _ => exact ⟨rfl, rfl⟩
  | _ + 11, _, _ => exact ⟨rfl, rfl⟩
set_option maxHeartbeats 8000000 in
theorem rproves_spec (R : Rm) (p : Pl) (M : List Mt) (am : Option Addr) (cm i : Nat) (e : Bx) (m : Int) (want : Sp) (H : List Row) (hr : okRm R) (hm : matsThere R M) (hML : M.length ≤ 100) (hT : hasT R M) (he : R.boxes[i]? = some e) (ht : there R e m) (hR : RmOk H R p) (hM : SlE H am cMt 6 M) :
    Fc Try.prog 93 [.agg (cRm R p).toArray, .slice am M.length cm, .int .i64 i, .int .i64 m, .agg (cSp want).toArray] H (fun v H' => v = .bool (prvM R ⟨e.id, m⟩ want M) ∧ H' = H) := by
  obtain ⟨dc, hdc1, hdc2⟩ := drawn eLs eLs_inj (FirstC R) (first_ex hr)
  obtain ⟨dl, hdl1, hdl2⟩ := drawn eLs eLs_inj (Fq9 R M) (fq9_ex hr hm hT)
  have hl96 : ∀ n, ((dl n).flatMap cSp).length = 96 := fun n => by rw [sp_len, (hdl1 n).len]
  have hb4 := hr.b4
  have hil := (List.getElem?_eq_some_iff.1 he).1
  have hm0 := there_bd hr ht
  have hfs : ∀ S, RmOk S R p → Fc Try.prog 121 [.agg (cRm R p).toArray] S (fun v H' => ∃ n, v = .agg ((dc n).flatMap cSp).toArray ∧ H' = S) := fun S hS => (first_spec R p S hr hS).mono fun v H' ⟨l, hl, hv, hH⟩ => by
    obtain ⟨n, hn⟩ := hdc2 l hl
    exact ⟨n, by rw [hn]; exact hv, hH⟩
  have hcs : ∀ n S, RmOk S R p → SlE S am cMt 6 M → Fc Try.prog 84 [.agg (cRm R p).toArray, .slice am M.length cm, .agg ((dc n).flatMap cSp).toArray] S (fun v H' => ∃ n, v = .tuple #[.agg ((dl n).flatMap cSp).toArray, .bool true] ∧ H' = S) := fun n S hS hM' => (closed_spec R p M am cm (dc n) S hr hS hM' hML hm (hdc1 _).len (hdc1 _).ok).mono fun v H' ⟨l, hH, h⟩ => by
    rcases h with ⟨h1, hv⟩ | ⟨h1, h2, hv⟩
    · obtain ⟨n', hn'⟩ := hdl2 l ⟨h1.len, fun b q hq => h1.ex hr hm ((hdc1 n).ages hr) (hdc1 n).inn hq⟩
      exact ⟨n', by rw [hn']; exact hv, hH⟩
    · obtain ⟨z, hz⟩ := hT
      exact absurd ((hdc1 n).inn z hz) (h2 z hz)
  refine Fc.mk (callable Try.call93) Try.func93 rfl Try.ntmps93 rfl ?_; dsimp only [fr]
  repeat' (first | (refine XO.op rfl ?_; (first | ((first | refine Xo.ng rfl ?_); (first | (refine Xg.ev (EvF.assign rfl rfl) rfl rfl ?_) | (refine Xg.st (StF.boxAgg rfl rfl) rfl rfl ?_; rintro _ _ ⟨bx, rfl, rfl⟩))))) | (refine XO.done rfl ?_; refine hK _ _ ?_; clear hK K) | refine X.seq rfl ?_ | refine X.region rfl (fun K hK => ?_))
  rename_i b5
  generalize bx = b9
  refine X.regionOb tsRq [1, 2, 3, 5, 9] [(1, (.slice am M.length cm)), (2, (.int .i64 i)), (3, (.int .i64 m)), (5, .pointer (some ⟨b5, 0, none⟩)), (9, .pointer (some ⟨b9, 0, none⟩))] (valRq b5 b9 R p (.slice am M.length cm) (.int .i64 i) (.int .i64 m) dc dl) (rowsRq b5 b9 R p (.slice am M.length cm) (.int .i64 i) (.int .i64 m) dc dl) (fun _ => (0, 0)) (⟨b9, 0, cSp want, some 35, 2⟩ :: ⟨b5, 0, cRm R p, some 26, 5⟩ :: H) rfl mixed (by (repeat (first | exact Sub.nil _ | refine Sub.cons rfl ?_)); done) rfl (by kernel_rfl) (locRq b5 b9 R p (.slice am M.length cm) (.int .i64 i) (.int .i64 m) dc dl) (List.Sublist.refl _) ?_ ?_
  · repeat' (first | exact AllF.done rfl | (refine AllF.step rfl ?_ ?_; · (first | fail | ((first | refine Ob.ng rfl ?_); (first | exact ObK.pure (fun env R hR => by exact ⟨_, EvF.move rfl rfl, rfl⟩) rfl (fun _ => rfl) | exact ObK.pure (fun env R hR => by exact ⟨_, EvF.assign rfl rfl, rfl⟩) rfl (fun _ => rfl) | exact ObK.pure (fun env R hR => by exact ⟨_, EvF.loadV rfl rfl (LoadV.whole (te rfl) rfl (hR _ (List.Mem.tail _ (List.Mem.head _))) rfl), rfl⟩) rfl (fun _ => rfl) | (exact fun env S hS => (OpF.call (EnF.st rfl (Args.cons rfl Args.nil)) (hfs S (hR.sub (fun r h => hS r (List.Mem.tail _ (List.Mem.tail _ h)))))).mono (fun v H' ⟨n, hv, hH⟩ => ⟨(n, 0), fun _ => hv, by rw [hH]; exact List.Perm.refl _⟩)) | (exact fun env S hS => (OpF.call (EnF.st rfl (Args.cons rfl (Args.cons rfl (Args.cons rfl Args.nil)))) (hcs (env 3).1 S (hR.sub (fun r h => hS r (List.Mem.tail _ (List.Mem.tail _ h)))) (hM.sub (fun r h => hS r (List.Mem.tail _ (List.Mem.tail _ h)))))).mono (fun v H' ⟨n, hv, hH⟩ => ⟨(n, 0), fun _ => hv, by rw [hH]; exact List.Perm.refl _⟩)) | (exact fun env S hS => (StF.alloc rfl Try.zeroValue107 rfl).op.mono (fun v H' ⟨b, hv, hH⟩ => ⟨(b, 0), fun _ => hv, by rw [hH]; exact List.Perm.refl _⟩)) | (exact fun env S hS => (StF.storeAll (i := 0) (vs := (dl (env 4).1).flatMap cSp) (cs := zRc.flatMap cSp) rfl rfl rfl (te rfl) rfl (hl96 _) (sp_one _) (by rw [hl96, sp_len]; rfl)).op.mono (fun v H' ⟨hv, hH⟩ => ⟨(0, 0), fun h => absurd rfl h, by rw [hH]; exact List.Perm.refl _⟩)) | (exact ObK.pure (fun env S hS => ⟨_, EvF.extract rfl rfl rfl, rfl⟩) rfl (fun _ => rfl)))))))
  intro env t ha2 hv; refine ⟨_, (ha2.cons (hv 8 11 (Nat.le_of_ble_eq_true rfl) rfl)).cons (hv 10 12 (Nat.le_of_ble_eq_true rfl) rfl), ?_⟩; clear hv ha2
  show X _ _ _ [(12, .bool true), (11, .pointer (some ⟨(env 8).1, 0, none⟩)), (1, .slice am M.length cm), (2, .int .i64 i), (3, .int .i64 m), (5, .pointer (some ⟨b5, 0, none⟩)), (9, .pointer (some ⟨b9, 0, none⟩))] (⟨(env 8).1, 0, (dl (env 4).1).flatMap cSp, some 107, 96⟩ :: ⟨b9, 0, cSp want, some 35, 2⟩ :: ⟨b5, 0, cRm R p, some 26, 5⟩ :: H) _
  have hx := hdl1 (env 4).1
  generalize dl (env 4).1 = l9 at hx ⊢
  generalize (env 8).1 = b11
  clear env
  have hxl := hx.len
  have hrg : rng R M ⟨e.id, m⟩ zp = sat l9 (i * 12 + m.toNat) := by
    have h1 := hx.ex e m ht
    rw [cel_box hr.bx he] at h1
    exact rng_eq h1
  have hsat := sp_at (l := l9) (k := i * 12 + m.toNat) (j := 0 + i * 24 + m.toNat * 2) (by omega) (by omega)
  have hres : prvM R ⟨e.id, m⟩ want M = decide (rng R M ⟨e.id, m⟩ zp = want) := by
    unfold prvM
    try exact decide_eq_decide.2 Iff.rfl
  rw [hres, hrg]
  clear hres hrg
  obtain ⟨u9, hu⟩ : ∃ u9, u9 = sat l9 (i * 12 + m.toNat) := ⟨_, rfl⟩
  rw [← hu] at hsat ⊢
  repeat' (first | refine X.seq rfl ?_)
  refine X.regionOb tsRs [2, 3, 9, 11, 12] [(2, .int .i64 (i : Nat)), (3, .int .i64 m), (9, .pointer (some ⟨b9, 0, none⟩)), (11, .pointer (some ⟨b11, 0, none⟩)), (12, .bool true)] (valRs b11 b9 i m u9 want (decide (u9 = want))) (rowsRs b11 b9 i m u9 want (decide (u9 = want))) (fun _ => (0, 0)) (⟨b11, 0, l9.flatMap cSp, some 107, 96⟩ :: ⟨b9, 0, cSp want, some 35, 2⟩ :: ⟨b5, 0, cRm R p, some 26, 5⟩ :: H) rfl mixed (by (repeat (first | exact Sub.nil _ | refine Sub.cons rfl ?_)); done) rfl (by kernel_rfl) (locRs b11 b9 i m u9 want (decide (u9 = want))) (List.Sublist.refl _) ?_ ?_
  · repeat' (first | exact AllF.done rfl | (refine AllF.step rfl ?_ ?_; · (first | fail | ((first | refine Ob.ng rfl ?_ | refine Ob.g rfl rfl (fun _ => rfl) ?_); (first | exact ObK.pure (fun env R hR => by exact ⟨_, EvF.move rfl rfl, rfl⟩) rfl (fun _ => rfl) | exact ObK.pure (fun env R hR => by exact ⟨_, EvF.assign rfl rfl, rfl⟩) rfl (fun _ => rfl) | exact ObK.pure (fun env R hR => by exact ⟨_, EvF.pickT rfl rfl rfl, rfl⟩) rfl (fun _ => rfl) | exact ObK.pure (fun env R hR => by exact ⟨_, EvF.loadV rfl rfl (LoadV.whole (te rfl) rfl (hR _ (List.Mem.tail _ (List.Mem.head _))) rfl), rfl⟩) rfl (fun _ => rfl) | ((refine ObK.pure (fun env S hS => ⟨.pointer (some ⟨b11, 0 + i * 24, none⟩), ?_, rfl⟩) rfl (fun _ => rfl); exact EvF.indexArray (i := (i : Int)) (off := 0) (b := b11) (T := 107) (e := 105) (len := 4) rfl rfl rfl (te rfl) (te rfl) (by omega) (by omega))) | ((refine ObK.pure (fun env S hS => ⟨.pointer (some ⟨b11, 0 + i * 24 + m.toNat * 2, none⟩), ?_, rfl⟩) rfl (fun _ => rfl); exact EvF.indexArray (i := m) (off := 0 + i * 24) (b := b11) (T := 105) (e := 35) (len := 12) rfl rfl rfl (te rfl) (te rfl) (by omega) (by omega))) | (exact ObK.pure (fun env S hS => ⟨.agg (cSp u9).toArray, EvF.loadV rfl rfl (LoadV.ownAgg (te rfl) rfl (hS _ (List.Mem.head _)) hsat rfl), rfl⟩) rfl (fun _ => rfl)) | (exact ObK.pure (fun env S hS => ⟨.bool (decide (u9 = want)), EvF.eqSt rfl rfl rfl (by kernel_rfl) (fun w => eqSp 9998 u9 want w) rfl, rfl⟩) rfl (fun _ => rfl)))))))
  intro env t ha2 hv; refine ⟨_, ha2.cons (hv 10 10 (Nat.le_of_ble_eq_true rfl) rfl), ?_⟩; clear hv ha2
  repeat' (first | refine X.ret rfl ?_)
  exact ret_one (v := .bool (decide (u9 = want))) (by first | exact .inr rfl | exact .inl rfl) Try.results93 rfl (H' := H) (by (repeat (first | exact List.Sublist.refl _ | apply List.Sublist.cons_cons | apply List.Sublist.cons)); done) ⟨rfl, rfl⟩
end Go.Proofs.Ytblehgpfddmggaa
end
section
set_option linter.unusedVariables false
set_option linter.unusedSimpArgs false
namespace Go.Proofs.Ytblehgpfddmggaa
open Go Go.Fw
set_option maxRecDepth 10000
def ChR (ok : List Mt → Bool) (t : List Mt) (m : Nat) (ns : List Mt) (a : Option Addr) (c : Nat) (H : List Row) (v : Value) (H' : List Row) : Prop :=
  (m = 0 ∧ v = .tuple #[.slice a ns.length c, .bool (ok ns)] ∧ H' = H) ∨ (0 < m ∧ ((∃ r b k, lonG ok t m ns = some r ∧ v = .tuple #[.slice (some ⟨b, 0, none⟩) r.length k, .bool true] ∧ H' = ⟨b, 0, r.flatMap cMt, some 114, k * 6⟩ :: H) ∨ (lonG ok t m ns = none ∧ v = .tuple #[.slice none 0 0, .bool false] ∧ H' = H)))
def tsKch : List TOp := [⟨some 37, [], [], []⟩, ⟨some 38, [], [], []⟩, ⟨some 39, [], [], []⟩, ⟨some 40, [1, 2], [1, 2], [1]⟩, ⟨some 41, [], [], []⟩, ⟨some 42, [4], [4], []⟩, ⟨some 43, [], [], []⟩, ⟨some 44, [4, 5, 6], [5, 6], []⟩, ⟨some 45, [4, 5, 6, 7], [7], []⟩, ⟨some 46, [4, 5, 6, 7, 8], [8], []⟩, ⟨some 47, [1, 2, 3, 4, 5, 6, 7, 8, 9], [3, 9], [3, 9]⟩, ⟨some 48, [], [], []⟩, ⟨some 49, [11], [11], []⟩, ⟨some 50, [], [], []⟩, ⟨some 51, [13], [13], []⟩, ⟨some 52, [], [], []⟩, ⟨some 53, [], [], []⟩, ⟨some 54, [], [], []⟩, ⟨some 55, [0, 1, 2, 3, 4, 5, 6, 7, 8, 9, 10, 11, 12, 13, 14, 15, 16, 17], [0, 10, 12, 14, 15, 16, 17], []⟩, ⟨some 36, [0, 1, 2, 3, 4, 5, 6, 7, 8, 9, 10, 11, 12, 13, 14, 15, 16, 17, 18], [18], []⟩, ⟨some 56, [0, 1, 2, 3, 4, 5, 6, 7, 8, 9, 10, 11, 12, 13, 14, 15, 16, 17, 18, 19], [19], []⟩, ⟨some 57, [0, 1, 2, 3, 4, 5, 6, 7, 8, 9, 10, 11, 12, 13, 14, 15, 16, 17, 18, 19], [19], []⟩, ⟨some 17, [0, 1, 2, 3, 4, 5, 6, 7, 8, 9, 10, 11, 12, 13, 14, 15, 16, 17, 18, 19, 20], [20], []⟩, ⟨some 18, [0, 1, 2, 3, 4, 5, 6, 7, 8, 9, 10, 11, 12, 13, 14, 15, 16, 17, 18, 19, 20, 21, 22], [21], []⟩]
def valKch (b7 b13 db doff : Nat) (R : Rm) (p : Pl) (ns : List Mt) (a : Option Addr) (c dc9 jj mm ii : Nat) (mo : Int) (x : Mt) (w : Sp) (cv : Nat × Nat → Nat × Nat → Value) (bv : Bool) (cr : Nat × Nat → List Row) (k : Nat) (env : Env) : Value :=
  match k with
  | 0 => .agg (cRm R p).toArray
  | 1 => .slice (some ⟨(env 1).1, 0, none⟩) 0 0
  | 2 => .slice a ns.length c
  | 3 => .slice (some ⟨(env 3).1, 0, none⟩) ns.length (env 3).2
  | 4 => .pointer (some ⟨b7, 4, none⟩)
  | 5 => .slice (some ⟨db, doff, none⟩) R.mats.length dc9
  | 6 => .int .i64 (jj : Nat)
  | 7 => .pointer (some ⟨db, doff + jj * 6, none⟩)
  | 8 => .agg (cMt x).toArray
  | 9 => .slice (some ⟨(env 9).1, 0, none⟩) 1 1
  | 10 => .slice (some ⟨(env 10).1, 0, none⟩) (ns.length + 1) (env 10).2
  | 11 => .int .i64 (jj : Nat)
  | 12 => .int .i64 (jj + 1)
  | 13 => .int .i64 (mm + 1 : Nat)
  | 14 => .int .i64 ((mm + 1 : Nat) - 1)
  | 15 => .int .i64 (ii : Nat)
  | 16 => .int .i64 mo
  | 17 => .agg (cSp w).toArray
  | 18 => .tuple #[cv (env 10) (env 18), .bool bv]
  | 19 => .tuple #[cv (env 10) (env 18), .bool bv]
  | 20 => cv (env 10) (env 18)
  | 21 => .bool bv
  | 22 => cv (env 10) (env 18)
  | 23 => .bool bv
  | _ => undef
def rowsKch (b7 b13 db doff : Nat) (R : Rm) (p : Pl) (ns : List Mt) (a : Option Addr) (c dc9 jj mm ii : Nat) (mo : Int) (x : Mt) (w : Sp) (cv : Nat × Nat → Nat × Nat → Value) (bv : Bool) (cr : Nat × Nat → List Row) (k : Nat) (env : Env) : List Row :=
  match k with
  | 1 => [⟨(env 1).1, 0, [], some 114, 0 * 6⟩]
  | 3 => [⟨(env 3).1, 0, ns.flatMap cMt, some 114, (env 3).2 * 6⟩]
  | 9 => [⟨(env 9).1, 0, cMt x, some 114, 1 * 6⟩]
  | 10 => [⟨(env 10).1, 0, ns.flatMap cMt ++ cMt x, some 114, (env 10).2 * 6⟩]
  | 18 => cr (env 18)
  | _ => []
theorem locKch (b7 b13 db doff : Nat) (R : Rm) (p : Pl) (ns : List Mt) (a : Option Addr) (c dc9 jj mm ii : Nat) (mo : Int) (x : Mt) (w : Sp) (cv : Nat × Nat → Nat × Nat → Value) (bv : Bool) (cr : Nat × Nat → List Row) : ∀ k env i q9, i ≠ k → (tAt tsKch k).sup.contains i = false → valKch b7 b13 db doff R p ns a c dc9 jj mm ii mo x w cv bv cr k (upd env i q9) = valKch b7 b13 db doff R p ns a c dc9 jj mm ii mo x w cv bv cr k env ∧ rowsKch b7 b13 db doff R p ns a c dc9 jj mm ii mo x w cv bv cr k (upd env i q9) = rowsKch b7 b13 db doff R p ns a c dc9 jj mm ii mo x w cv bv cr k env := by
  intro k env i q hk hs
  have hu : ∀ j, j ≠ i → upd env i q j = env j := fun j hj => by unfold upd; rw [if_neg hj]
  match k, hk, hs with
  | 0, _, _ => exact ⟨rfl, rfl⟩
  | 1, hk, hs => exact ⟨by simp only [valKch, hu 1 (fun e => hk e.symm)], by simp only [rowsKch, hu 1 (fun e => hk e.symm)]⟩
  | 2, _, _ => exact ⟨rfl, rfl⟩
  | 3, hk, hs => exact ⟨by simp only [valKch, hu 3 (fun e => hk e.symm)], by simp only [rowsKch, hu 3 (fun e => hk e.symm)]⟩
  | 4, _, _ => exact ⟨rfl, rfl⟩
  | 5, _, _ => exact ⟨rfl, rfl⟩
  | 6, _, _ => exact ⟨rfl, rfl⟩
  | 7, _, _ => exact ⟨rfl, rfl⟩
  | 8, _, _ => exact ⟨rfl, rfl⟩
  | 9, hk, hs => exact ⟨by simp only [valKch, hu 9 (fun e => hk e.symm)], by simp only [rowsKch, hu 9 (fun e => hk e.symm)]⟩
  | 10, hk, hs => exact ⟨by simp only [valKch, hu 10 (fun e => hk e.symm)], by simp only [rowsKch, hu 10 (fun e => hk e.symm)]⟩
  | 11, _, _ => exact ⟨rfl, rfl⟩
  | 12, _, _ => exact ⟨rfl, rfl⟩
  | 13, _, _ => exact ⟨rfl, rfl⟩
  | 14, _, _ => exact ⟨rfl, rfl⟩
  | 15, _, _ => exact ⟨rfl, rfl⟩
  | 16, _, _ => exact ⟨rfl, rfl⟩
  | 17, _, _ => exact ⟨rfl, rfl⟩
  | 18, hk, hs => exact ⟨by simp only [valKch, hu 10 (by rintro rfl; cases hs), hu 18 (fun e => hk e.symm)], by simp only [rowsKch, hu 10 (by rintro rfl; cases hs), hu 18 (fun e => hk e.symm)]⟩
  | 19, hk, hs => exact ⟨by simp only [valKch, hu 10 (by rintro rfl; cases hs), hu 18 (by rintro rfl; cases hs)], by simp only [rowsKch, hu 10 (by rintro rfl; cases hs), hu 18 (by rintro rfl; cases hs)]⟩
  | 20, hk, hs => exact ⟨by simp only [valKch, hu 10 (by rintro rfl; cases hs), hu 18 (by rintro rfl; cases hs)], by simp only [rowsKch, hu 10 (by rintro rfl; cases hs), hu 18 (by rintro rfl; cases hs)]⟩
  | 21, _, _ => exact ⟨rfl, rfl⟩
  | 22, hk, hs => exact ⟨by simp only [valKch, hu 10 (by rintro rfl; cases hs), hu 18 (by rintro rfl; cases hs)], by simp only [rowsKch, hu 10 (by rintro rfl; cases hs), hu 18 (by rintro rfl; cases hs)]⟩
  | 23, _, _ => exact ⟨rfl, rfl⟩
  | _ + 24, _, _ => exact ⟨rfl, rfl⟩
def rdKch (k : Nat) : List Nat := match k with
  | 18 => [10]
  | _ => []
set_option maxHeartbeats 8000000 in
theorem chosen_spec (R : Rm) (p : Pl) (ii : Nat) (e0 : Bx) (mo : Int) (w : Sp) (H0 : List Row) (hR0 : RmOk H0 R p) (hr : okRm R) (hm : matsThere R R.mats) (hlm : R.mats.length ≤ 50) (hT : hasT R R.mats) (he0 : R.boxes[ii]? = some e0) (ht : there R e0 mo) :
    ∀ (m f : Nat) (mi fi : Int) (ns : List Mt) (a : Option Addr) (c : Nat) (H : List Row), mi = m → fi = f → f ≤ R.mats.length → ns.length + m ≤ 90 → (∀ x ∈ ns, x ∈ R.mats) → (∀ r ∈ H0, r ∈ H) → SlE H a cMt 6 ns →
    Fc Try.prog 90 [.agg (cRm R p).toArray, .slice a ns.length c, .int .i64 fi, .int .i64 mi, .int .i64 ii, .int .i64 mo, .agg (cSp w).toArray] H (ChR (prvM R ⟨e0.id, mo⟩ w) (R.mats.drop f) m ns a c H) := by
  obtain ⟨ok, hok⟩ : ∃ ok, ok = prvM R ⟨e0.id, mo⟩ w := ⟨_, rfl⟩
  have hpr := fun ns am cm S (hs : ∀ x ∈ ns, x ∈ R.mats) hl hS hM => rproves_spec R p ns am cm ii e0 mo w S hr (mats_sub hm hs) hl (hT.mono hs) he0 ht hS hM
  rw [← hok]
  simp only [← hok] at hpr
  clear hok
  intro m
  induction m with
  | zero =>
    intro f mi fi ns a c H hmi hfi hfr hacc hns hH0 hs
    subst hmi
    have hR : RmOk H R p := hR0.sub hH0
    show Fc Try.prog 90 [.agg (cRm R p).toArray, .slice a ns.length c, .int .i64 fi, .int .i64 ((0 : Nat) : Int), .int .i64 ii, .int .i64 mo, .agg (cSp w).toArray] H _
    refine Fc.mk (callable Try.call90) Try.func90 rfl Try.ntmps90 rfl ?_; dsimp only [fr]
    repeat' (first | (refine XO.op rfl ?_; (first | ((first | refine Xo.ng rfl ?_); (first | (refine Xg.ev (EvF.cmp (b := true) rfl rfl rfl (congrArg some (decide_eq_true (by omega)))) rfl rfl ?_) | (refine Xg.ev (EvF.loadV rfl rfl (LoadV.whole (T := 26) (cs := cRm R p) (te rfl) rfl (by repeat (first | exact List.Mem.head _ | apply List.Mem.tail)) rfl)) rfl rfl ?_) | (refine Xg.ev (EvF.loadV rfl rfl (LoadV.whole (T := 35) (cs := cSp w) (te rfl) rfl (by repeat (first | exact List.Mem.head _ | apply List.Mem.tail)) rfl)) rfl rfl ?_) | (refine Xg.call (EnF.st rfl (by (repeat (first | exact Args.nil | refine Args.cons rfl ?_)); done)) rfl rfl (hpr ns a c _ hns (by omega) (hR.sub (fun _ h => by repeat (first | exact h | apply List.Mem.tail))) (hs.sub (fun _ h => by repeat (first | exact h | apply List.Mem.tail)))) ?_; rintro _ H9 ⟨rfl, hH9⟩; subst H9) | (refine Xg.ev (EvF.move rfl rfl) rfl rfl ?_) | (refine Xg.ev (EvF.assign rfl rfl) rfl rfl ?_) | (refine Xg.st (StF.boxAgg rfl rfl) rfl rfl ?_; rintro _ _ ⟨bx, rfl, rfl⟩))))) | (refine XO.done rfl ?_; refine hK _ _ ?_; clear hK K) | refine X.seq rfl ?_ | refine X.region rfl (fun K hK => ?_) | refine X.ret rfl ?_ | (refine X.ite rfl rfl (fun hc => ?_); (first | (with_reducible refine Xb.t hc ?_)) <;> clear hc))
    all_goals try (exfalso; contradiction)
    exact ret_two (by first | exact .inr rfl | exact .inl rfl) Try.results90 rfl rfl (H' := H) (by (repeat (first | exact List.Sublist.refl _ | apply List.Sublist.cons_cons | apply List.Sublist.cons)); done) (.inl ⟨rfl, rfl, rfl⟩)
  | succ m ih =>
    intro f mi fi ns a c H hmi hfi hfr hacc hns hH0 hs
    subst hfi hmi
    have hR : RmOk H R p := hR0.sub hH0
    obtain ⟨a1, c1, a2, c2, a3, c3⟩ := p
    show Fc Try.prog 90 [.agg (cRm R ⟨a1, c1, a2, c2, a3, c3⟩).toArray, .slice a ns.length c, .int .i64 (f : Int), .int .i64 ((m + 1 : Nat) : Int), .int .i64 ii, .int .i64 mo, .agg (cSp w).toArray] H _
    refine Fc.mk (callable Try.call90) Try.func90 rfl Try.ntmps90 rfl ?_; dsimp only [fr]
    repeat' (first | (refine XO.op rfl ?_; (first | ((first | refine Xo.ng rfl ?_); (first | (refine Xg.ev (EvF.cmp (b := false) rfl rfl rfl (congrArg some (decide_eq_false (by omega)))) rfl rfl ?_) | (refine Xg.ev (EvF.move rfl rfl) rfl rfl ?_) | (refine Xg.ev (EvF.assign rfl rfl) rfl rfl ?_) | (refine Xg.st (StF.boxAgg rfl rfl) rfl rfl ?_; rintro _ _ ⟨bx, rfl, rfl⟩))))) | (refine XO.done rfl ?_; refine hK _ _ ?_; clear hK K) | refine X.seq rfl ?_ | refine X.region rfl (fun K hK => ?_) | refine X.block rfl ?_ | refine X.skip rfl ?_ | (refine X.ite rfl rfl (fun hc => ?_); (first | (with_reducible refine Xb.f hc ?_)) <;> clear hc))
    all_goals try (exfalso; contradiction)
    rename_i b7
    generalize bx = b13
    refine X.lp rfl (fun q F' H' => ∃ j : Nat, q = R.mats.length - j ∧ j ≤ R.mats.length ∧ lonG ok (R.mats.drop f) (m + 1) ns = lonG ok (R.mats.drop j) (m + 1) ns ∧ ⟨b13, 0, cSp w, some 35, 2⟩ :: ⟨b7, 0, cRm R ⟨a1, c1, a2, c2, a3, c3⟩, some 26, 5⟩ :: H = H' ∧ F' = [(1, .slice a ns.length c), (3, .int .i64 (m + 1 : Nat)), (4, .int .i64 ii), (5, .int .i64 mo), (7, .pointer (some ⟨b7, 0, none⟩)), (13, .pointer (some ⟨b13, 0, none⟩)), (16, .int .i64 j)])
      (R.mats.length - f) [(1, .slice a ns.length c), (3, .int .i64 (m + 1 : Nat)), (4, .int .i64 ii), (5, .int .i64 mo), (7, .pointer (some ⟨b7, 0, none⟩)), (13, .pointer (some ⟨b13, 0, none⟩)), (16, .int .i64 f)] _ (by (repeat (first | exact Sub.nil _ | refine Sub.cons rfl ?_)); done) (List.Sublist.refl _) ⟨f, rfl, hfr, rfl, rfl, rfl⟩ ?_
    rintro _ _ H2 ⟨j, rfl, hj, hst, hH, rfl⟩
    subst hH
    by_cases hlt : j < R.mats.length
    · obtain ⟨db, doff, e, hq, he⟩ := hR.mats.elem (i := j) hlt
      have hq : a3 = some ⟨db, doff, none⟩ := hq
      subst hq
      have hle : (ns ++ [e]).length = ns.length + 1 := by rw [List.length_append]; rfl
      have hfm : ns.flatMap cMt ++ cMt e = (ns ++ [e]).flatMap cMt := by rw [List.flatMap_append, List.flatMap_singleton]
      have hal : (ns.flatMap cMt).length = ns.length * 6 := lenMt ns
      have hns' : ∀ x ∈ ns ++ [e], x ∈ R.mats := fun x hx => by
        rcases List.mem_append.1 hx with hx | hx
        · exact hns x hx
        · rw [List.mem_singleton.1 hx]; exact List.mem_of_getElem? he
      repeat' (first | (refine XO.op rfl ?_; (first | ((first | refine Xo.ng rfl ?_); (first | (refine Xg.ev (EvF.cmp (b := true) rfl rfl rfl (congrArg some (decide_eq_true (by omega)))) rfl rfl ?_) | (refine Xg.ev (EvF.move rfl rfl) rfl rfl ?_) | (refine Xg.ev (EvF.fieldAddr rfl rfl (te rfl) rfl (te rfl) (by decide)) rfl rfl ?_) | (refine Xg.ev (EvF.lenSlice rfl rfl (te rfl)) rfl rfl ?_) | (refine Xg.ev (EvF.loadV rfl rfl (LoadV.own (te rfl) rfl (List.Mem.tail _ (List.Mem.head _)) rfl)) rfl rfl ?_))))) | (refine XO.done rfl ?_; refine hK _ _ ?_; clear hK K) | refine X.seq rfl ?_ | refine X.region rfl (fun K hK => ?_) | refine X.block rfl ?_ | refine X.skip rfl ?_ | (refine X.ite rfl rfl (fun hc => ?_); (first | (with_reducible refine Xb.t hc ?_)) <;> clear hc))
      all_goals try (exfalso; contradiction)
      rw [drop_cons he] at hst
      obtain ⟨cv, bv, cr, hcall, hres⟩ : ∃ (cv : Nat × Nat → Nat × Nat → Value) (bv : Bool) (cr : Nat × Nat → List Row),
          (∀ (q11 : Nat × Nat) (S : List Row), (∀ r ∈ H0, r ∈ S) → SlE S (some ⟨q11.1, 0, none⟩) cMt 6 (ns ++ [e]) → Fc Try.prog 90 [.agg (cRm R ⟨a1, c1, a2, c2, some ⟨db, doff, none⟩, c3⟩).toArray, .slice (some ⟨q11.1, 0, none⟩) (ns.length + 1) q11.2, .int .i64 (j + 1), .int .i64 ((m + 1 : Nat) - 1), .int .i64 ii, .int .i64 mo, .agg (cSp w).toArray] S (fun v H' => ∃ q, v = .tuple #[cv q11 q, .bool bv] ∧ H' = cr q ++ S)) ∧
          ((bv = true ∧ ∃ r, lonG ok (R.mats.drop (j + 1)) m (ns ++ [e]) = some r ∧ ∀ q11 q : Nat × Nat, ∃ b k, cv q11 q = .slice (some ⟨b, 0, none⟩) r.length k ∧ ∀ Z, List.Sublist (⟨b, 0, r.flatMap cMt, some 114, k * 6⟩ :: Z) (⟨q11.1, 0, ns.flatMap cMt ++ cMt e, some 114, q11.2 * 6⟩ :: (cr q ++ Z))) ∨
            (bv = false ∧ lonG ok (R.mats.drop (j + 1)) m (ns ++ [e]) = none)) := by
        rw [← hle]
        rcases Nat.eq_zero_or_pos m with rfl | hmp
        · refine ⟨fun q11 _ => .slice (some ⟨q11.1, 0, none⟩) (ns ++ [e]).length q11.2, ok (ns ++ [e]), fun _ => [], fun q11 S hS hs' => (ih (j + 1) _ _ (ns ++ [e]) _ _ S (by omega) (by omega) (by omega) (by omega) hns' hS hs').mono (fun v H' h => ?_), ?_⟩
          · rcases h with ⟨_, hv, hH⟩ | ⟨h0, _⟩
            · exact ⟨(0, 0), hv, hH⟩
            · omega
          · rw [lonG_zero]
            by_cases hk : ok (ns ++ [e]) = true
            · exact .inl ⟨hk, ns ++ [e], by rw [if_pos hk], fun q11 q => ⟨q11.1, q11.2, rfl, fun Z => by rw [hfm]; exact List.Sublist.refl _⟩⟩
            · exact .inr ⟨Bool.eq_false_iff.2 hk, by rw [if_neg hk]⟩
        · cases hq : lonG ok (R.mats.drop (j + 1)) m (ns ++ [e]) with
          | some r =>
            refine ⟨fun _ q => .slice (some ⟨q.1, 0, none⟩) r.length q.2, true, fun q => [⟨q.1, 0, r.flatMap cMt, some 114, q.2 * 6⟩], fun q11 S hS hs' => (ih (j + 1) _ _ (ns ++ [e]) _ _ S (by omega) (by omega) (by omega) (by omega) hns' hS hs').mono (fun v H' h => ?_), .inl ⟨rfl, r, rfl, fun q11 q => ⟨q.1, q.2, rfl, fun Z => List.Sublist.cons _ (List.Sublist.refl _)⟩⟩⟩
            rcases h with ⟨h0, _⟩ | ⟨_, ⟨r', b, k, hr', hv, hH⟩ | ⟨hn, _⟩⟩
            · omega
            · rw [hq] at hr'
              cases hr'
              exact ⟨(b, k), hv, hH⟩
            · rw [hq] at hn; cases hn
          | none =>
            refine ⟨fun _ _ => .slice none 0 0, false, fun _ => [], fun q11 S hS hs' => (ih (j + 1) _ _ (ns ++ [e]) _ _ S (by omega) (by omega) (by omega) (by omega) hns' hS hs').mono (fun v H' h => ?_), .inr ⟨rfl, rfl⟩⟩
            rcases h with ⟨h0, _⟩ | ⟨_, ⟨r', b, k, hr', hv, hH⟩ | ⟨hn, hv, hH⟩⟩
            · omega
            · rw [hq] at hr'; cases hr'
            · exact ⟨(0, 0), hv, hH⟩
      refine X.regionRd tsKch rdKch [1, 3, 4, 5, 7, 13, 16] [(1, .slice a ns.length c), (3, .int .i64 (m + 1 : Nat)), (4, .int .i64 (ii : Nat)), (5, .int .i64 mo), (7, .pointer (some ⟨b7, 0, none⟩)), (13, .pointer (some ⟨b13, 0, none⟩)), (16, .int .i64 (j : Nat))] (valKch b7 b13 db doff R ⟨a1, c1, a2, c2, some ⟨db, doff, none⟩, c3⟩ ns a c c3 j m ii mo e w cv bv cr) (rowsKch b7 b13 db doff R ⟨a1, c1, a2, c2, some ⟨db, doff, none⟩, c3⟩ ns a c c3 j m ii mo e w cv bv cr) (fun _ => (0, 0)) (⟨b13, 0, cSp w, some 35, 2⟩ :: ⟨b7, 0, cRm R ⟨a1, c1, a2, c2, some ⟨db, doff, none⟩, c3⟩, some 26, 5⟩ :: H) rfl mixed (by (repeat (first | exact Sub.nil _ | refine Sub.cons rfl ?_)); done) rfl (by kernel_rfl) (by kernel_rfl) (locKch b7 b13 db doff R ⟨a1, c1, a2, c2, some ⟨db, doff, none⟩, c3⟩ ns a c c3 j m ii mo e w cv bv cr) (List.Sublist.refl _) ?_ ?_
      · repeat' (first | exact AllF.done rfl | (refine AllF.step rfl ?_ ?_; · (first | exact (Ob.ng rfl (ObK.pure (fun env R hR => by exact ⟨_, EvF.move rfl rfl, rfl⟩) rfl (fun _ => rfl))).toR | exact (Ob.ng rfl (ObK.pure (fun env R hR => by exact ⟨_, EvF.assign rfl rfl, rfl⟩) rfl (fun _ => rfl))).toR | exact (Ob.ng rfl (ObK.pure (fun env R hR => by exact ⟨_, EvF.fieldAddr rfl rfl (te rfl) rfl (te rfl) (by decide), rfl⟩) rfl (fun _ => rfl))).toR | exact (Ob.ng rfl (ObK.pure (fun env R hR => by exact ⟨_, EvF.loadV rfl rfl (LoadV.own (te rfl) rfl (hR _ (List.Mem.tail _ (List.Mem.head _))) rfl), rfl⟩) rfl (fun _ => rfl))).toR | exact (Ob.ng rfl (ObK.pure (fun env R hR => by exact ⟨_, EvF.loadV rfl rfl (LoadV.whole (te rfl) rfl (hR _ (List.Mem.head _)) rfl), rfl⟩) rfl (fun _ => rfl))).toR | exact (Ob.ng rfl (ObK.pure (fun env R hR => by exact ⟨_, EvF.loadV rfl rfl (LoadV.whole (te rfl) rfl (hR _ (List.Mem.tail _ (List.Mem.head _))) rfl), rfl⟩) rfl (fun _ => rfl))).toR | (refine ObR.ng rfl ?_; (first | (exact fun env S hS hrd => (StF.buildNil rfl el24).op.mono (fun v H' ⟨b, hv, hH⟩ => ⟨(b, 0), fun _ => hv, by rw [hH]; exact List.Perm.refl _⟩)) | ((refine fun env S hS hrd => (StF.ofEv (v := .pointer (some ⟨db, doff + j * 6, none⟩)) ?_).op.mono (fun v H' ⟨hv, hH⟩ => ⟨(0, 0), fun _ => hv, by rw [hH]; exact List.Perm.refl _⟩); refine EvF.indexSlice (T := 24) (e := 114) (i := (j : Int)) (off := doff) (b := db) (len := R.mats.length) (ti := ⟨.st [(0, 3), (1, 3), (2, 3), (3, 3), (4, 35)], 6, 48⟩) rfl rfl rfl (te rfl) (te rfl) ?_ ?_ <;> omega)) | (exact fun env S hS hrd => (StF.ofEv (v := .agg (cMt e).toArray) (EvF.loadV rfl rfl (LoadV.elA0 (n := j) hR.mats he (te rfl) rfl (fun _ h => hS _ (List.Mem.tail _ (List.Mem.tail _ h))) rfl))).op.mono (fun v H' ⟨hv, hH⟩ => ⟨(0, 0), fun _ => hv, by rw [hH]; exact List.Perm.refl _⟩)) | (exact fun env S hS hrd => (StF.buildOne rfl el24 rfl rfl rfl (by decide) (by decide)).op.mono (fun v H' ⟨b, hv, hH⟩ => ⟨(b, 0), fun _ => hv, by rw [hH]; exact List.Perm.refl _⟩)) | (exact fun env S hS hrd => (StF.appendSl (i := 0) (l := ns) rfl el24 rfl rfl rfl (hs.sub (fun r hr => List.mem_append_right _ (hS r (List.Mem.tail _ (List.Mem.tail _ hr))))) (fun e _ => one_mt e) rfl (by decide) (by omega)).op.mono (fun v H' ⟨b, c, hv, hH⟩ => ⟨(b, c), fun _ => by rw [hv, Nat.zero_add]; rfl, by rw [hH]; exact List.Perm.refl _⟩)) | (exact fun env S hS hrd => (StF.appendOwn (i := 0) rfl el24 rfl rfl rfl hal rfl (Rd.own (List.Mem.tail _ (List.Mem.head _))) rfl (by omega)).op.drop (fun v H' ⟨b, c, hv, hH⟩ => ⟨_, by rw [hH]; exact List.Sublist.cons_cons _ (List.Sublist.cons _ (List.Sublist.refl _)), (b, c), fun _ => hv, List.Perm.refl _⟩)) | (exact fun env S hS hrd => (StF.ofEv (v := .int .i64 ((j : Int) + 1)) (EvF.add64 (p := (j : Int)) (q := 1) rfl rfl rfl (by omega) (by omega))).op.mono (fun v H' ⟨hv, hH⟩ => ⟨(0, 0), fun _ => hv, by rw [hH]; exact List.Perm.refl _⟩)) | (exact fun env S hS hrd => (StF.ofEv (v := .int .i64 (((m + 1 : Nat) : Int) - 1)) (EvF.sub64 (p := ((m + 1 : Nat) : Int)) (q := 1) rfl rfl rfl (by omega) (by omega))).op.mono (fun v H' ⟨hv, hH⟩ => ⟨(0, 0), fun _ => hv, by rw [hH]; exact List.Perm.refl _⟩)) | (exact fun env S hS hrd => (StF.ofEv (v := .bool bv) (EvF.extract rfl rfl rfl)).op.mono (fun v H' ⟨hv, hH⟩ => ⟨(0, 0), fun _ => hv, by rw [hH]; exact List.Perm.refl _⟩)) | (exact fun env S hS hrd => (StF.ofEv (v := cv (env 10) (env 18)) (EvF.extract rfl rfl rfl)).op.mono (fun v H' ⟨hv, hH⟩ => ⟨(0, 0), fun _ => hv, by rw [hH]; exact List.Perm.refl _⟩)) | (exact fun env S hS hrd => (OpF.call (EnF.st rfl (by (repeat (first | exact Args.nil | refine Args.cons rfl ?_)); done)) (hcall (env 10) S (fun r hr => hS r (List.Mem.tail _ (List.Mem.tail _ (hH0 r hr)))) (SlE.ofRow (by rw [← hfm]; exact hrd 10 (List.Mem.head _) _ (List.Mem.head _)) (fun _ _ => rfl)))).mono (fun v H' ⟨q, hv, hH⟩ => ⟨q, fun _ => hv, by rw [hH]; exact List.Perm.refl _⟩)))))))
      · intro env t ha2 hv; refine ⟨_, (ha2.cons (hv 22 17 (Nat.le_of_ble_eq_true rfl) rfl)).cons (hv 23 18 (Nat.le_of_ble_eq_true rfl) rfl), ?_⟩; clear hv ha2
        show X _ _ _ _ (⟨(env 10).1, 0, ns.flatMap cMt ++ cMt e, some 114, (env 10).2 * 6⟩ :: (cr (env 18) ++ []) ++ ⟨b13, 0, cSp w, some 35, 2⟩ :: ⟨b7, 0, cRm R ⟨a1, c1, a2, c2, some ⟨db, doff, none⟩, c3⟩, some 26, 5⟩ :: H) _
        rw [List.append_nil, List.cons_append]
        show X _ _ _ [(18, .bool bv), (17, cv (env 10) (env 18)), (1, .slice a ns.length c), (3, .int .i64 (m + 1 : Nat)), (4, .int .i64 ii), (5, .int .i64 mo), (7, .pointer (some ⟨b7, 0, none⟩)), (13, .pointer (some ⟨b13, 0, none⟩)), (16, .int .i64 j)] _ _
        generalize env 10 = q11
        generalize env 18 = q16
        rcases hres with ⟨rfl, r, hr9, hc⟩ | ⟨rfl, hn⟩
        · obtain ⟨b, k, hcv, hsub⟩ := hc q11 q16
          rw [hcv]
          repeat' (first | (refine XO.op rfl ?_; (first | ((first | refine Xo.ng rfl ?_); (first | (refine Xg.ev (EvF.move rfl rfl) rfl rfl ?_) | (refine Xg.ev (EvF.assign rfl rfl) rfl rfl ?_))))) | (refine XO.done rfl ?_; refine hK _ _ ?_; clear hK K) | refine X.seq rfl ?_ | refine X.region rfl (fun K hK => ?_) | refine X.ret rfl ?_ | (refine X.ite rfl rfl (fun hc => ?_); (first | (with_reducible refine Xb.t hc ?_)) <;> clear hc))
          all_goals try (exfalso; contradiction)
          refine ret_two (by first | exact .inr rfl | exact .inl rfl) Try.results90 rfl rfl (H' := ⟨b, 0, r.flatMap cMt, some 114, k * 6⟩ :: H) ((List.Sublist.cons_cons _ (List.Sublist.cons _ (List.sublist_cons_self _ _))).trans (hsub _)) (.inr ⟨by omega, .inl ⟨r, b, k, ?_, rfl, rfl⟩⟩)
          rw [hst]; simp only [lonG, hr9]
        · repeat' (first | (refine XO.op rfl ?_; (first | ((first | refine Xo.ng rfl ?_); (first | (refine Xg.ev (EvF.move rfl rfl) rfl rfl ?_) | (refine Xg.ev (EvF.assign rfl rfl) rfl rfl ?_) | (refine Xg.ev (EvF.add64 rfl rfl rfl (by omega) (by omega)) rfl rfl ?_))))) | (refine XO.done rfl ?_; refine hK _ _ ?_; clear hK K) | refine X.seq rfl ?_ | refine X.region rfl (fun K hK => ?_) | refine X.skip rfl ?_ | (refine X.ite rfl rfl (fun hc => ?_); (first | (with_reducible refine Xb.f hc ?_)) <;> clear hc))
          all_goals try (exfalso; contradiction)
          refine ⟨_, _, _, (by (repeat (first | exact Sub.nil _ | refine Sub.cons rfl ?_)); done), (List.sublist_append_right _ _).trans (List.sublist_cons_self _ _), ⟨j + 1, rfl, by omega, ?_, rfl, rfl⟩, by omega⟩
          rw [hst]; simp only [lonG, hn]
    · have hj' : j = R.mats.length := by omega
      repeat' (first | (refine XO.op rfl ?_; (first | ((first | refine Xo.ng rfl ?_); (first | (refine Xg.ev (EvF.cmp (b := false) rfl rfl rfl (congrArg some (decide_eq_false (by omega)))) rfl rfl ?_) | (refine Xg.ev (EvF.move rfl rfl) rfl rfl ?_) | (refine Xg.ev (EvF.assign rfl rfl) rfl rfl ?_) | (refine Xg.ev (EvF.fieldAddr rfl rfl (te rfl) rfl (te rfl) (by decide)) rfl rfl ?_) | (refine Xg.ev (EvF.lenSlice rfl rfl (te rfl)) rfl rfl ?_) | (refine Xg.ev (EvF.loadV rfl rfl (LoadV.own (te rfl) rfl (List.Mem.tail _ (List.Mem.head _)) rfl)) rfl rfl ?_))))) | (refine XO.done rfl ?_; refine hK _ _ ?_; clear hK K) | refine X.seq rfl ?_ | refine X.region rfl (fun K hK => ?_) | (refine X.brk rfl ?_; repeat (first | refine blockX_hit rfl ?_ | refine blockX_miss (by decide) ?_)) | refine X.ret rfl ?_ | (refine X.ite rfl rfl (fun hc => ?_); (first | (with_reducible refine Xb.f hc ?_)) <;> clear hc))
      all_goals try (exfalso; contradiction)
      refine ret_two (by first | exact .inr rfl | exact .inl rfl) Try.results90 rfl rfl (H' := H) (by (repeat (first | exact List.Sublist.refl _ | apply List.Sublist.cons)); done) (.inr ⟨by omega, .inr ⟨?_, rfl, rfl⟩⟩)
      rw [hst, hj', List.drop_length]; rfl
end Go.Proofs.Ytblehgpfddmggaa
end
section
set_option linter.unusedVariables false
set_option linter.unusedSimpArgs false
namespace Go.Proofs.Ytblehgpfddmggaa
open Go Go.Fw
set_option maxRecDepth 10000
theorem okMats_lo (R : Rm) : ∀ (l : List Mt) (p : Int), okMats R p l → ∀ x ∈ l, p < x.number
  | [], _, _, _, hx => absurd hx List.not_mem_nil
  | c :: l, p, h, x, hx => by
    have h1 : p + 1 ≤ c.number := h.1
    rcases List.mem_cons.1 hx with rfl | hx
    · omega
    · have := okMats_lo R l c.number h.2.2.2 x hx
      omega
theorem okMats_pw (R : Rm) : ∀ (l : List Mt) (p : Int), okMats R p l → l.Pairwise (fun a b => a.number < b.number)
  | [], _, _ => List.Pairwise.nil
  | c :: l, p, h => List.Pairwise.cons (fun b hb => okMats_lo R l c.number h.2.2.2 b hb) (okMats_pw R l c.number h.2.2.2)
theorem roomOk.nums {R : Rm} (h : roomOk R) : (R.mats.map (·.number)).Nodup :=
  List.pairwise_map.2 ((okMats_pw R R.mats 0 h.2.2.2).imp (fun q e => by
    have e : _ = _ := e
    omega))
theorem ChR.top {ok : List Mt → Bool} {t : List Mt} {m : Nat} {H : List Row} {v : Value} {H' : List Row} (h : ChR ok t m [] none 0 H v H') :
    (∃ r a c Z, lonG ok t m [] = some r ∧ v = .tuple #[.slice a r.length c, .bool true] ∧ (∀ H0, SlE (Z ++ H0) a cMt 6 r) ∧ H' = Z ++ H) ∨ (lonG ok t m [] = none ∧ v = .tuple #[.slice none 0 0, .bool false] ∧ H' = H) := by
  rcases h with ⟨rfl, rfl, rfl⟩ | ⟨_, ⟨r, b, k, hr, rfl, rfl⟩ | h⟩
  · rw [lonG_zero]
    by_cases hk : ok [] = true
    · exact .inl ⟨[], none, 0, [], by rw [if_pos hk], by rw [hk]; (try rfl), fun _ => sleNil, rfl⟩
    · exact .inr ⟨by rw [if_neg hk], by rw [Bool.eq_false_iff.2 hk]; (try rfl), rfl⟩
  · exact .inl ⟨r, _, _, [⟨b, 0, r.flatMap cMt, some 114, k * 6⟩], hr, rfl, fun _ => SlE.ofRow (List.Mem.head _) (fun _ _ => rfl), rfl⟩
  · exact .inr h
/-- what Why tells, by the first list of matches that is right -/
def whyO : Option (List Mt) → List Int
  | some r => r.map (·.number)
  | none => []
def tsKwh : List TOp := [⟨some 36, [], [], []⟩, ⟨some 37, [], [], []⟩, ⟨some 38, [], [], []⟩, ⟨some 39, [], [], []⟩, ⟨some 40, [], [], []⟩, ⟨some 41, [], [], []⟩, ⟨some 42, [4], [4], []⟩, ⟨some 43, [4, 5, 6], [6, 5], []⟩, ⟨some 44, [4, 5, 6, 7], [7], []⟩, ⟨some 45, [0, 1, 2, 3, 4, 5, 6, 7, 8], [0, 1, 2, 3, 8], []⟩, ⟨some 35, [0, 1, 2, 3, 4, 5, 6, 7, 8, 9], [9], []⟩, ⟨some 46, [0, 1, 2, 3, 4, 5, 6, 7, 8, 9, 10], [10], []⟩, ⟨some 47, [0, 1, 2, 3, 4, 5, 6, 7, 8, 9, 10], [10], []⟩, ⟨some 12, [0, 1, 2, 3, 4, 5, 6, 7, 8, 9, 10, 11], [11], []⟩, ⟨some 13, [0, 1, 2, 3, 4, 5, 6, 7, 8, 9, 10, 11, 12, 13], [12], []⟩]
def valKwh (b3 b8 ii n : Nat) (R : Rm) (p : Pl) (mo : Int) (u : Sp) (cv : Nat × Nat → Value) (bv : Bool) (cr : Nat × Nat → List Row) (k : Nat) (env : Env) : Value :=
  match k with
  | 0 => .agg (cRm R p).toArray
  | 1 => .int .i64 (n : Nat)
  | 2 => .int .i64 (ii : Nat)
  | 3 => .int .i64 mo
  | 4 => .int .i64 (ii : Nat)
  | 5 => .int .i64 mo
  | 6 => .pointer (some ⟨b8, 0 + ii * 24, none⟩)
  | 7 => .pointer (some ⟨b8, 0 + ii * 24 + mo.toNat * 2, none⟩)
  | 8 => .agg (cSp u).toArray
  | 9 => .tuple #[cv (env 9), .bool bv]
  | 10 => .tuple #[cv (env 9), .bool bv]
  | 11 => cv (env 9)
  | 12 => .bool bv
  | 13 => cv (env 9)
  | 14 => .bool bv
  | _ => undef
def rowsKwh (b3 b8 ii n : Nat) (R : Rm) (p : Pl) (mo : Int) (u : Sp) (cv : Nat × Nat → Value) (bv : Bool) (cr : Nat × Nat → List Row) (k : Nat) (env : Env) : List Row :=
  match k with
  | 9 => cr (env 9)
  | _ => []
theorem locKwh (b3 b8 ii n : Nat) (R : Rm) (p : Pl) (mo : Int) (u : Sp) (cv : Nat × Nat → Value) (bv : Bool) (cr : Nat × Nat → List Row) : ∀ k env i q9, i ≠ k → (tAt tsKwh k).sup.contains i = false → valKwh b3 b8 ii n R p mo u cv bv cr k (upd env i q9) = valKwh b3 b8 ii n R p mo u cv bv cr k env ∧ rowsKwh b3 b8 ii n R p mo u cv bv cr k (upd env i q9) = rowsKwh b3 b8 ii n R p mo u cv bv cr k env := by
  intro k env i q hk hs
  have hu : ∀ j, j ≠ i → upd env i q j = env j := fun j hj => by unfold upd; rw [if_neg hj]
  match k, hk, hs with
  | 0, _, _ => exact ⟨rfl, rfl⟩
  | 1, _, _ => exact ⟨rfl, rfl⟩
  | 2, _, _ => exact ⟨rfl, rfl⟩
  | 3, _, _ => exact ⟨rfl, rfl⟩
  | 4, _, _ => exact ⟨rfl, rfl⟩
  | 5, _, _ => exact ⟨rfl, rfl⟩
  | 6, _, _ => exact ⟨rfl, rfl⟩
  | 7, _, _ => exact ⟨rfl, rfl⟩
  | 8, _, _ => exact ⟨rfl, rfl⟩
  | 9, hk, hs => exact ⟨by simp only [valKwh, hu 9 (fun e => hk e.symm)], by simp only [rowsKwh, hu 9 (fun e => hk e.symm)]⟩
  | 10, hk, hs => exact ⟨by simp only [valKwh, hu 9 (by rintro rfl; cases hs)], by simp only [rowsKwh, hu 9 (by rintro rfl; cases hs)]⟩
  | 11, hk, hs => exact ⟨by simp only [valKwh, hu 9 (by rintro rfl; cases hs)], by simp only [rowsKwh, hu 9 (by rintro rfl; cases hs)]⟩
  | 12, _, _ => exact ⟨rfl, rfl⟩
  | 13, hk, hs => exact ⟨by simp only [valKwh, hu 9 (by rintro rfl; cases hs)], by simp only [rowsKwh, hu 9 (by rintro rfl; cases hs)]⟩
  | 14, _, _ => exact ⟨rfl, rfl⟩
  | _ + 15, _, _ => exact ⟨rfl, rfl⟩
set_option maxHeartbeats 8000000 in
theorem rWhy_spec (R : Rm) (p : Pl) (a m : Int) (H : List Row) (hR : RmOk H R p) : Fc Try.prog 41 [.agg (cRm R p).toArray, .int .i64 a, .int .i64 m] H (LstR (whyF R a m).1 (whyF R a m).2 H) := by
  obtain ⟨e, he⟩ : ∃ e, openE R [a] [m] = e := ⟨_, rfl⟩
  have has : ∀ (H' : List Row) (b1 : Nat), RmOk H' R p → ⟨b1, 0, [.int .i64 a], some 3, 1 * 1⟩ ∈ H' → Fc Try.prog 61 [.agg (cRm R p).toArray, .slice (some ⟨b1, 0, none⟩) 1 1, .int .i64 m] H' (fun v H'' => ∃ c, c.length = 48 ∧ (e = 0 → As R 0 c) ∧ v = .tuple #[.agg (c.flatMap cSp).toArray, .int .i64 e] ∧ H'' = H') := fun H' b1 q1 q2 => by
    have := rAsked_spec R p [a] (some ⟨b1, 0, none⟩) 1 m H' q1 (SlE.ofRow (l := [a]) q2 (fun _ _ => rfl)) (Nat.le_of_ble_eq_true rfl)
    rw [he] at this
    exact this
  by_cases h0 : e = 0
  · subst h0
    obtain ⟨hok, _, _, hT⟩ := openE_ok he
    have hr := hok.ok
    have hb4 := hr.b4
    have hml : R.mats.length ≤ 8 := hok.1.2.2.2.2.2.2
    have hnd := hok.nums
    obtain ⟨b, ia, ht, hba, hia, hix, hil, hm0, hm1, hce⟩ := there_ix hr he (List.mem_singleton.2 rfl)
    obtain ⟨f, hf⟩ : ∃ f, f = fewG (prvM R ⟨a, m⟩ (rng R R.mats ⟨a, m⟩ zp)) R.mats (R.mats.length + 1) 0 := ⟨_, rfl⟩
    have hy : whyF R a m = (whyO f, 0) := by
      unfold whyF whyL
      rw [if_pos he, why_mats hnd, ← hf]
      cases f <;> rfl
    have hixs := fun H' hH' => index_spec R p a H' hH'
    rw [hix] at hixs
    rw [hy]
    clear hy
    refine Fc.mk (callable Try.call41) Try.func41 rfl Try.ntmps41 rfl ?_; dsimp only [fr]
    repeat' (first | (refine XO.op rfl ?_; (first | ((first | refine Xo.ng rfl ?_); (first | (refine Xg.st (StF.buildOne (v0 := .int .i64 a) rfl el55 rfl rfl rfl (by decide) (by decide)) rfl rfl ?_; rintro _ _ ⟨b1, rfl, rfl⟩) | (refine Xg.ev (EvF.loadV rfl rfl (LoadV.whole (T := 26) (cs := cRm R p) (te rfl) rfl (by repeat (first | exact List.Mem.head _ | apply List.Mem.tail)) rfl)) rfl rfl ?_) | (refine Xg.call (EnF.st rfl (by (repeat (first | exact Args.nil | refine Args.cons rfl ?_)); done)) rfl rfl (has _ b1 (hR.sub (fun _ h => by repeat (first | exact h | apply List.Mem.tail))) (List.Mem.head _)) ?_; rintro _ _ ⟨c, hc, hA, rfl, rfl⟩) | (refine Xg.ev (EvF.extract rfl rfl rfl) rfl rfl ?_) | (refine Xg.st (StF.alloc rfl Try.zeroValue107 rfl) rfl rfl ?_; rintro _ _ ⟨b8, rfl, rfl⟩) | (refine Xg.st0 (StF.storeAll (i := 0) (vs := c.flatMap cSp) (cs := zRc.flatMap cSp) rfl rfl rfl (te rfl) rfl (sp_len96 hc) (sp_one _) (by rw [sp_len96 hc, sp_len]; rfl)) rfl ?_; rintro _ _ ⟨rfl, rfl⟩; dsimp only [List.set]) | (refine Xg.call (EnF.st rfl (Args.cons rfl (Args.cons rfl Args.nil))) rfl rfl (hixs _ (hR.sub (fun _ h => by repeat (first | exact h | apply List.Mem.tail)))) ?_; rintro _ H9 ⟨rfl, hH9⟩; subst H9) | (refine Xg.ev (EvF.move rfl rfl) rfl rfl ?_) | (refine Xg.ev (EvF.assign rfl rfl) rfl rfl ?_) | (refine Xg.ev (EvF.cmp rfl rfl rfl rfl) rfl rfl ?_) | (refine Xg.st (StF.boxAgg rfl rfl) rfl rfl ?_; rintro _ _ ⟨bx, rfl, rfl⟩))))) | (refine XO.done rfl ?_; refine hK _ _ ?_; clear hK K) | refine X.seq rfl ?_ | refine X.region rfl (fun K hK => ?_) | refine X.block rfl ?_ | refine X.skip rfl ?_ | refine X.ret rfl ?_ | (refine X.ite rfl rfl (fun hc => ?_); (first | (with_reducible refine Xb.caseN hc (fun h => ?_) (fun h => ?_))) <;> clear hc))
    all_goals try (exfalso; omega)
    generalize bx = b3
    have hx := (hA rfl).ex b m ht
    rw [hba, hce] at hx
    have hsat := sp_at (l := c) (k := ia * 12 + m.toNat) (j := 0 + ia * 24 + m.toNat * 2) (by omega) (by omega)
    have hrg := rng_eq hx
    rw [hrg] at hf
    obtain ⟨u9, hu⟩ : ∃ u9, u9 = sat c (ia * 12 + m.toNat) := ⟨_, rfl⟩
    rw [← hu] at hsat hf
    obtain ⟨ok, hok'⟩ : ∃ ok, ok = prvM R ⟨a, m⟩ u9 := ⟨_, rfl⟩
    have hch : ∀ (n : Nat) (S : List Row), (∀ r ∈ H, r ∈ S) → n ≤ 50 → Fc Try.prog 90 [.agg (cRm R p).toArray, .slice none 0 0, .int .i64 0, .int .i64 n, .int .i64 ia, .int .i64 m, .agg (cSp u9).toArray] S (ChR ok R.mats n [] none 0 S) := fun n S hS hn => by
      have h := chosen_spec R p ia b m u9 H hR hr hok.mats (by omega) hT hia ht n 0 (n : Int) 0 [] none 0 S rfl rfl (Nat.zero_le _) (by simp only [List.length_nil]; omega) (fun x hx => absurd hx List.not_mem_nil) hS sleNil
      rw [hba, ← hok', List.drop_zero] at h
      exact h
    rw [← hok'] at hf
    clear hok' hx hrg hu hA hixs has
    refine X.lp rfl (fun q F' H' => ∃ n : Nat, q = R.mats.length + 1 - n ∧ n ≤ R.mats.length + 1 ∧ fewG ok R.mats (R.mats.length + 1 - n) n = f ∧ ⟨b8, 0, c.flatMap cSp, some 107, 96⟩ :: ⟨b3, 0, cRm R p, some 26, 5⟩ :: H = H' ∧ F' = [(2, .int .i64 m), (3, .pointer (some ⟨b3, 0, none⟩)), (8, .pointer (some ⟨b8, 0, none⟩)), (10, .int .i64 (ia : Nat)), (11, .int .i64 (n : Nat))])
      (R.mats.length + 1) [(2, .int .i64 m), (3, .pointer (some ⟨b3, 0, none⟩)), (8, .pointer (some ⟨b8, 0, none⟩)), (10, .int .i64 (ia : Nat)), (11, .int .i64 (0 : Nat))] (⟨b8, 0, c.flatMap cSp, some 107, 96⟩ :: ⟨b3, 0, cRm R p, some 26, 5⟩ :: H) (by (repeat (first | exact Sub.nil _ | refine Sub.cons rfl ?_)); done) (by (repeat (first | exact List.Sublist.refl _ | apply List.Sublist.cons_cons | apply List.Sublist.cons)); done) ⟨0, rfl, by omega, hf.symm, rfl, rfl⟩ ?_
    rintro _ _ _ ⟨n, rfl, hn, hfn, rfl, rfl⟩
    by_cases hlt : n < R.mats.length + 1
    · obtain ⟨q, hq⟩ : ∃ q, R.mats.length + 1 - n = q + 1 := ⟨R.mats.length - n, by omega⟩
      rw [hq] at hfn
      unfold fewG at hfn
      obtain ⟨cv, bv, cr, hcall, hres⟩ : ∃ (cv : Nat × Nat → Value) (bv : Bool) (cr : Nat × Nat → List Row),
          (∀ (S : List Row), (∀ r ∈ H, r ∈ S) → Fc Try.prog 90 [.agg (cRm R p).toArray, .slice none 0 0, .int .i64 0, .int .i64 n, .int .i64 ia, .int .i64 m, .agg (cSp u9).toArray] S (fun v H' => ∃ q, v = .tuple #[cv q, .bool bv] ∧ H' = cr q ++ S)) ∧
          ((bv = true ∧ ∃ r, lonG ok R.mats n [] = some r ∧ ∀ q : Nat × Nat, ∃ a k, cv q = .slice a r.length k ∧ ∀ Z, SlE (cr q ++ Z) a cMt 6 r) ∨ (bv = false ∧ lonG ok R.mats n [] = none)) := by
        cases hl : lonG ok R.mats n [] with
        | none =>
          refine ⟨fun _ => .slice none 0 0, false, fun _ => [], fun S hS => (hch n S hS (by omega)).mono (fun v H' h => ?_), .inr ⟨rfl, rfl⟩⟩
          rcases h.top with ⟨r, _, _, _, hr', _⟩ | ⟨_, hv, hH⟩
          · rw [hl] at hr'; cases hr'
          · exact ⟨(0, 0), hv, hH⟩
        | some r =>
          rcases Nat.eq_zero_or_pos n with rfl | hnp
          · have hl' := hl
            rw [lonG_zero] at hl'
            split at hl'
            · rename_i hk
              cases hl'
              refine ⟨fun _ => .slice none 0 0, true, fun _ => [], fun S hS => (hch 0 S hS (by omega)).mono (fun v H' h => ?_), .inl ⟨rfl, [], rfl, fun _ => ⟨none, 0, rfl, fun _ => sleNil⟩⟩⟩
              rcases h with ⟨_, hv, hH⟩ | ⟨h9, _⟩
              · rw [hk] at hv
                exact ⟨(0, 0), hv, hH⟩
              · omega
            · cases hl'
          · refine ⟨fun q => .slice (some ⟨q.1, 0, none⟩) r.length q.2, true, fun q => [⟨q.1, 0, r.flatMap cMt, some 114, q.2 * 6⟩], fun S hS => (hch n S hS (by omega)).mono (fun v H' h => ?_), .inl ⟨rfl, r, rfl, fun q => ⟨some ⟨q.1, 0, none⟩, q.2, rfl, fun Z => SlE.ofRow (List.Mem.head _) (fun _ _ => rfl)⟩⟩⟩
            rcases h with ⟨h9, _⟩ | ⟨_, ⟨r', b9, k, hr', hv, hH⟩ | ⟨h9, _⟩⟩
            · omega
            · rw [hl] at hr'
              cases hr'
              exact ⟨(b9, k), hv, hH⟩
            · rw [hl] at h9; cases h9
      repeat' (first | (refine XO.op rfl ?_; (first | ((first | refine Xo.ng rfl ?_); (first | (refine Xg.ev (EvF.cmp (b := true) rfl rfl rfl (congrArg some (decide_eq_true (by omega)))) rfl rfl ?_) | (refine Xg.ev (EvF.move rfl rfl) rfl rfl ?_) | (refine Xg.ev (EvF.fieldAddr rfl rfl (te rfl) rfl (te rfl) (by decide)) rfl rfl ?_) | (refine Xg.ev (EvF.lenSlice rfl rfl (te rfl)) rfl rfl ?_) | (refine Xg.ev (EvF.loadV rfl rfl (LoadV.own (te rfl) rfl (List.Mem.tail _ (List.Mem.head _)) rfl)) rfl rfl ?_))))) | (refine XO.done rfl ?_; refine hK _ _ ?_; clear hK K) | refine X.seq rfl ?_ | refine X.region rfl (fun K hK => ?_) | refine X.block rfl ?_ | refine X.skip rfl ?_ | (refine X.ite rfl rfl (fun hc => ?_); (first | (with_reducible refine Xb.t hc ?_)) <;> clear hc))
      all_goals try (exfalso; contradiction)
      refine X.regionOb tsKwh [2, 3, 8, 10, 11] [(2, .int .i64 m), (3, .pointer (some ⟨b3, 0, none⟩)), (8, .pointer (some ⟨b8, 0, none⟩)), (10, .int .i64 (ia : Nat)), (11, .int .i64 (n : Nat))] (valKwh b3 b8 ia n R p m u9 cv bv cr) (rowsKwh b3 b8 ia n R p m u9 cv bv cr) (fun _ => (0, 0)) (⟨b8, 0, c.flatMap cSp, some 107, 96⟩ :: ⟨b3, 0, cRm R p, some 26, 5⟩ :: H) rfl mixed (by (repeat (first | exact Sub.nil _ | refine Sub.cons rfl ?_)); done) rfl (by kernel_rfl) (locKwh b3 b8 ia n R p m u9 cv bv cr) (List.Sublist.refl _) ?_ ?_
      · repeat' (first | exact AllF.done rfl | (refine AllF.step rfl ?_ ?_; · (first | fail | ((first | refine Ob.ng rfl ?_); (first | exact ObK.pure (fun env R hR => by exact ⟨_, EvF.move rfl rfl, rfl⟩) rfl (fun _ => rfl) | exact ObK.pure (fun env R hR => by exact ⟨_, EvF.assign rfl rfl, rfl⟩) rfl (fun _ => rfl) | exact ObK.pure (fun env R hR => by exact ⟨_, EvF.loadV rfl rfl (LoadV.whole (te rfl) rfl (hR _ (List.Mem.tail _ (List.Mem.head _))) rfl), rfl⟩) rfl (fun _ => rfl) | ((refine ObK.pure (fun env S hS => ⟨.pointer (some ⟨b8, 0 + ia * 24, none⟩), ?_, rfl⟩) rfl (fun _ => rfl); exact EvF.indexArray (i := (ia : Int)) (off := 0) (b := b8) (T := 107) (e := 105) (len := 4) rfl rfl rfl (te rfl) (te rfl) (by omega) (by omega))) | ((refine ObK.pure (fun env S hS => ⟨.pointer (some ⟨b8, 0 + ia * 24 + m.toNat * 2, none⟩), ?_, rfl⟩) rfl (fun _ => rfl); exact EvF.indexArray (i := m) (off := 0 + ia * 24) (b := b8) (T := 105) (e := 35) (len := 12) rfl rfl rfl (te rfl) (te rfl) (by omega) (by omega))) | (exact ObK.pure (fun env S hS => ⟨.agg (cSp u9).toArray, EvF.loadV rfl rfl (LoadV.ownAgg (te rfl) rfl (hS _ (List.Mem.head _)) hsat rfl), rfl⟩) rfl (fun _ => rfl)) | (exact fun env S hS => (OpF.call (EnF.st rfl (by (repeat (first | exact Args.nil | refine Args.cons rfl ?_)); done)) (hcall S (fun r h => hS r (List.Mem.tail _ (List.Mem.tail _ h))))).mono (fun v H' ⟨q, hv, hH⟩ => ⟨q, fun _ => hv, by rw [hH]; exact List.Perm.refl _⟩)) | (exact ObK.pure (fun env S hS => ⟨_, EvF.extract rfl rfl rfl, rfl⟩) rfl (fun _ => rfl)))))))
      · intro env t ha2 hv; refine ⟨_, (ha2.cons (hv 13 12 (Nat.le_of_ble_eq_true rfl) rfl)).cons (hv 14 13 (Nat.le_of_ble_eq_true rfl) rfl), ?_⟩; clear hv ha2
        show X _ _ _ [(13, .bool bv), (12, cv (env 9)), (2, .int .i64 m), (3, .pointer (some ⟨b3, 0, none⟩)), (8, .pointer (some ⟨b8, 0, none⟩)), (10, .int .i64 (ia : Nat)), (11, .int .i64 (n : Nat))] ((cr (env 9) ++ []) ++ ⟨b8, 0, c.flatMap cSp, some 107, 96⟩ :: ⟨b3, 0, cRm R p, some 26, 5⟩ :: H) _
        rw [List.append_nil]
        generalize env 9 = q9
        rcases hres with ⟨rfl, r, hr9, hc9⟩ | ⟨rfl, hn9⟩
        · obtain ⟨ar, kr, hcv, hsr⟩ := hc9 q9
          rw [hcv]
          rw [hr9] at hfn
          have hfn : some r = f := hfn
          rw [← hfn]
          have hrl : r.length ≤ 1000000 := by
            obtain ⟨s, h1, h2, h3, _⟩ := lonG_sub ok R.mats n [] r hr9
            have := h1.length_le
            rw [h2, List.nil_append]; omega
          repeat' (first | (refine XO.op rfl ?_; (first | ((first | refine Xo.ng rfl ?_); (first | (refine Xg.call (EnF.st rfl (by (repeat (first | exact Args.nil | refine Args.cons rfl ?_)); done)) rfl rfl (numbers_spec r ar kr _ (hsr _) hrl) ?_; rintro _ _ (⟨hr0, rfl, rfl⟩ | ⟨bn, kn, rfl, rfl⟩)) | (refine Xg.ev (EvF.move rfl rfl) rfl rfl ?_) | (refine Xg.ev (EvF.assign rfl rfl) rfl rfl ?_))))) | (refine XO.done rfl ?_; refine hK _ _ ?_; clear hK K) | refine X.seq rfl ?_ | refine X.region rfl (fun K hK => ?_) | refine X.ret rfl ?_ | (refine X.ite rfl rfl (fun hc => ?_); (first | (with_reducible refine Xb.t hc ?_)) <;> clear hc))
          all_goals try (exfalso; contradiction)
          · subst hr0
            exact ret_two (by first | exact .inr rfl | exact .inl rfl) Try.results41 rfl rfl (H' := H) (List.Sublist.trans (by (repeat (first | exact List.Sublist.refl _ | apply List.Sublist.cons)); done) (List.sublist_append_right _ _)) ⟨none, 0, [], rfl, sleNil, rfl⟩
          · exact ret_two (by first | exact .inr rfl | exact .inl rfl) Try.results41 rfl rfl (H' := ⟨bn, 0, (r.map (·.number)).flatMap cI, some 3, kn * 1⟩ :: H) (List.Sublist.cons_cons _ (List.Sublist.trans (by (repeat (first | exact List.Sublist.refl _ | apply List.Sublist.cons)); done) (List.sublist_append_right _ _))) ⟨some ⟨bn, 0, none⟩, kn, [⟨bn, 0, (r.map (·.number)).flatMap cI, some 3, kn * 1⟩], by rw [show (whyO (some r)).length = r.length from List.length_map ..], SlE.ofRow (List.Mem.head _) (fun _ _ => rfl), rfl⟩
        · rw [hn9] at hfn
          have hfn : fewG ok R.mats q (n + 1) = f := hfn
          repeat' (first | (refine XO.op rfl ?_; (first | ((first | refine Xo.ng rfl ?_); (first | (refine Xg.ev (EvF.add64 (p := (n : Int)) (q := 1) rfl rfl rfl (by omega) (by omega)) rfl rfl ?_) | (refine Xg.ev (EvF.move rfl rfl) rfl rfl ?_) | (refine Xg.ev (EvF.assign rfl rfl) rfl rfl ?_))))) | (refine XO.done rfl ?_; refine hK _ _ ?_; clear hK K) | refine X.seq rfl ?_ | refine X.region rfl (fun K hK => ?_) | refine X.skip rfl ?_ | (refine X.ite rfl rfl (fun hc => ?_); (first | (with_reducible refine Xb.f hc ?_)) <;> clear hc))
          all_goals try (exfalso; contradiction)
          exact ⟨_, _, ⟨b8, 0, c.flatMap cSp, some 107, 96⟩ :: ⟨b3, 0, cRm R p, some 26, 5⟩ :: H, (by (repeat (first | exact Sub.nil _ | refine Sub.cons rfl ?_)); done), List.sublist_append_right _ _, ⟨n + 1, rfl, by omega, by rw [show R.mats.length + 1 - (n + 1) = q by omega]; exact hfn, rfl, rfl⟩, by omega⟩
    · obtain rfl : n = R.mats.length + 1 := by omega
      rw [Nat.sub_self] at hfn
      have hfn : none = f := hfn
      rw [← hfn]
      repeat' (first | (refine XO.op rfl ?_; (first | ((first | refine Xo.ng rfl ?_); (first | (refine Xg.ev (EvF.cmp (b := false) rfl rfl rfl (congrArg some (decide_eq_false (by omega)))) rfl rfl ?_) | (refine Xg.ev (EvF.move rfl rfl) rfl rfl ?_) | (refine Xg.ev (EvF.assign rfl rfl) rfl rfl ?_) | (refine Xg.ev (EvF.fieldAddr rfl rfl (te rfl) rfl (te rfl) (by decide)) rfl rfl ?_) | (refine Xg.ev (EvF.lenSlice rfl rfl (te rfl)) rfl rfl ?_) | (refine Xg.ev (EvF.loadV rfl rfl (LoadV.own (te rfl) rfl (List.Mem.tail _ (List.Mem.head _)) rfl)) rfl rfl ?_))))) | (refine XO.done rfl ?_; refine hK _ _ ?_; clear hK K) | refine X.seq rfl ?_ | refine X.region rfl (fun K hK => ?_) | (refine X.brk rfl ?_; repeat (first | refine blockX_hit rfl ?_ | refine blockX_miss (by decide) ?_)) | refine X.ret rfl ?_ | (refine X.ite rfl rfl (fun hc => ?_); (first | (with_reducible refine Xb.f hc ?_)) <;> clear hc))
      all_goals try (exfalso; contradiction)
      exact ret_two (by first | exact .inr rfl | exact .inl rfl) Try.results41 rfl rfl (H' := H) (by (repeat (first | exact List.Sublist.refl _ | apply List.Sublist.cons)); done) ⟨none, 0, [], rfl, sleNil, rfl⟩
  · have hy : whyF R a m = ([], e) := by unfold whyF; rw [if_neg (by rw [he]; exact h0), he]
    rw [hy]
    refine Fc.mk (callable Try.call41) Try.func41 rfl Try.ntmps41 rfl ?_; dsimp only [fr]
    repeat' (first | (refine XO.op rfl ?_; (first | ((first | refine Xo.ng rfl ?_); (first | (refine Xg.st (StF.buildOne (v0 := .int .i64 a) rfl el55 rfl rfl rfl (by decide) (by decide)) rfl rfl ?_; rintro _ _ ⟨b1, rfl, rfl⟩) | (refine Xg.ev (EvF.loadV rfl rfl (LoadV.whole (T := 26) (cs := cRm R p) (te rfl) rfl (by repeat (first | exact List.Mem.head _ | apply List.Mem.tail)) rfl)) rfl rfl ?_) | (refine Xg.call (EnF.st rfl (by (repeat (first | exact Args.nil | refine Args.cons rfl ?_)); done)) rfl rfl (has _ b1 (hR.sub (fun _ h => by repeat (first | exact h | apply List.Mem.tail))) (List.Mem.head _)) ?_; rintro _ _ ⟨c, hc, hA, rfl, rfl⟩) | (refine Xg.ev (EvF.extract rfl rfl rfl) rfl rfl ?_) | (refine Xg.st (StF.alloc rfl Try.zeroValue107 rfl) rfl rfl ?_; rintro _ _ ⟨b8, rfl, rfl⟩) | (refine Xg.st0 (StF.storeAll (i := 0) (vs := c.flatMap cSp) (cs := zRc.flatMap cSp) rfl rfl rfl (te rfl) rfl (sp_len96 hc) (sp_one _) (by rw [sp_len96 hc, sp_len]; rfl)) rfl ?_; rintro _ _ ⟨rfl, rfl⟩; dsimp only [List.set]) | (refine Xg.call (EnF.st rfl (Args.cons rfl (Args.cons rfl Args.nil))) rfl rfl (index_spec R p a _ (hR.sub (fun _ h => by repeat (first | exact h | apply List.Mem.tail)))) ?_; rintro _ H9 ⟨rfl, hH9⟩; subst H9) | (refine Xg.ev (EvF.move rfl rfl) rfl rfl ?_) | (refine Xg.ev (EvF.assign rfl rfl) rfl rfl ?_) | (refine Xg.ev (EvF.cmp rfl rfl rfl rfl) rfl rfl ?_) | (refine Xg.st (StF.boxAgg rfl rfl) rfl rfl ?_; rintro _ _ ⟨bx, rfl, rfl⟩))))) | (refine XO.done rfl ?_; refine hK _ _ ?_; clear hK K) | refine X.seq rfl ?_ | refine X.region rfl (fun K hK => ?_) | refine X.block rfl ?_ | refine X.skip rfl ?_ | refine X.ret rfl ?_ | (refine X.ite rfl rfl (fun hc => ?_); (first | (with_reducible refine Xb.caseN hc (fun h => ?_) (fun h => ?_))) <;> clear hc))
    all_goals try (exfalso; simp_all; done)
    exact ret_two (by first | exact .inr rfl | exact .inl rfl) Try.results41 rfl rfl (H' := H) (by (repeat (first | exact List.Sublist.refl _ | apply List.Sublist.cons)); done) ⟨none, 0, [], rfl, sleNil, rfl⟩
end Go.Proofs.Ytblehgpfddmggaa
end
section
set_option linter.unusedVariables false
set_option linter.unusedSimpArgs false
namespace Go.Proofs.Ytblehgpfddmggaa
open Go Go.Fw
set_option maxRecDepth 10000
def eN2 (a b : Nat) : Nat := 2 ^ a * (2 * b + 1)
def eT6 (t : Nat × Nat × Nat × Nat × Nat × Nat) : Nat := eN2 t.1 (eN2 t.2.1 (eN2 t.2.2.1 (eN2 t.2.2.2.1 (eN2 t.2.2.2.2.1 t.2.2.2.2.2))))
theorem eT6_inj (s t : Nat × Nat × Nat × Nat × Nat × Nat) (h : eT6 s = eT6 t) : s = t := by
  obtain ⟨a1, a2, a3, a4, a5, a6⟩ := s
  obtain ⟨b1, b2, b3, b4, b5, b6⟩ := t
  obtain ⟨rfl, h⟩ := inj2 _ _ _ _ h
  obtain ⟨rfl, h⟩ := inj2 _ _ _ _ h
  obtain ⟨rfl, h⟩ := inj2 _ _ _ _ h
  obtain ⟨rfl, h⟩ := inj2 _ _ _ _ h
  obtain ⟨rfl, h⟩ := inj2 _ _ _ _ h
  have h : a6 = b6 := h
  rw [h]
def adO (n : Nat) : Option Addr := match n with
  | 0 => none
  | n + 1 => some ⟨n, 0, none⟩
def plO (t : Nat × Nat × Nat × Nat × Nat × Nat) : Pl := ⟨some ⟨t.1, 0, none⟩, t.2.1, some ⟨t.2.2.1, 0, none⟩, t.2.2.2.1, adO t.2.2.2.2.1, t.2.2.2.2.2⟩
def rwO (M : List Mt) (t : Nat × Nat × Nat × Nat × Nat × Nat) : List Row := match t.2.2.2.2.1 with
  | 0 => []
  | n + 1 => [⟨n, 0, M.flatMap cMt, some 114, t.2.2.2.2.2 * 6⟩]
theorem rwO_sle {M : List Mt} {t : Nat × Nat × Nat × Nat × Nat × Nat} {S : List Row} (h0 : t.2.2.2.2.1 = 0 → M = []) (hr : ∀ r ∈ rwO M t, r ∈ S) : SlE S (plO t).a3 cMt 6 M := by
  unfold rwO at hr
  unfold plO
  show SlE S (adO t.2.2.2.2.1) cMt 6 M
  cases q : t.2.2.2.2.1 with
  | zero => rw [h0 q]; exact sleNil
  | succ n =>
    rw [q] at hr
    exact SlE.ofRow (hr _ (List.Mem.head _)) (fun _ _ => rfl)
theorem rwithout_draw (R : Rm) (p : Pl) (l : List Int) (a : Option Addr) (c : Nat) (H : List Row) (hR : RmOk H R p) (hl : SlE H a cI 1 l) (hb : l.length ≤ 1000000) (h1 : R.ages.length ≤ 1000000) (h2 : R.boxes.length ≤ 1000000) (h3 : R.mats.length ≤ 1000000) : Fc Try.prog 94 [.agg (cRm R p).toArray, .slice a l.length c] H (fun v H' =>
    ∃ t, (t.2.2.2.2.1 = 0 → outM R.mats l = []) ∧ v = .agg (cRm (wM R (outM R.mats l)) (plO t)).toArray ∧ (rwO (outM R.mats l) t ++ H).Sublist H') := by
  refine (without_spec R p l a c H hR hl hb h1 h2 h3).mono fun v H' h => ?_
  obtain ⟨t1, k1, t2, k2, ao, co, Z, hv, hH, hz⟩ := h
  rw [wout_outM] at hv hz
  rcases hz with ⟨rfl, rfl, rfl, h0⟩ | ⟨t3, rfl, rfl⟩
  · exact ⟨(t1, k1, t2, k2, 0, 0), fun _ => h0, hv, by rw [hH]; exact List.Sublist.cons _ (List.Sublist.cons _ (List.Sublist.refl _))⟩
  · exact ⟨(t1, k1, t2, k2, t3 + 1, co), (fun h => by cases h), hv, by rw [hH]; exact List.Sublist.cons_cons _ (List.Sublist.cons _ (List.Sublist.cons _ (List.Sublist.refl _)))⟩
def rsG (ok : List Mt → Bool) (R : Rm) (M : List Mt) : List Int := (M.filter (fun x => !ok (outM R.mats [x.number]))).map (·.number)
theorem rsG_snoc (ok : List Mt → Bool) (R : Rm) {l : List Mt} {k : Nat} {x : Mt} (he : l[k]? = some x) : rsG ok R (l.take (k + 1)) = rsG ok R (l.take k) ++ (if ok (outM R.mats [x.number]) = true then [] else [x.number]) := by
  unfold rsG
  rw [take_snoc he, List.filter_append, List.map_append]
  by_cases h : ok (outM R.mats [x.number]) = true
  · rw [if_pos h]; simp [List.filter, h]
  · rw [if_neg h]; simp [List.filter, h]
theorem rsG_len (ok : List Mt → Bool) (R : Rm) (M : List Mt) : (rsG ok R M).length ≤ M.length := by
  unfold rsG; rw [List.length_map]; exact List.length_filter_le _ _
def tsKrs : List TOp := [⟨some 35, [], [], []⟩, ⟨some 36, [], [], []⟩, ⟨some 37, [], [], []⟩, ⟨some 38, [2], [2], []⟩, ⟨some 39, [2, 3], [3], []⟩, ⟨some 40, [1, 2, 3, 4], [1, 4], []⟩, ⟨some 41, [1, 2, 3, 4, 5], [5], []⟩, ⟨some 42, [], [], []⟩, ⟨some 43, [], [], []⟩, ⟨some 44, [], [], []⟩, ⟨some 45, [], [], []⟩, ⟨some 46, [9], [9], []⟩, ⟨some 47, [9, 10, 11], [11, 10], []⟩, ⟨some 48, [9, 10, 11, 12], [12], []⟩, ⟨some 49, [0, 1, 2, 3, 4, 5, 6, 7, 8, 9, 10, 11, 12, 13], [0, 6, 7, 8, 13], []⟩, ⟨some 50, [0, 1, 2, 3, 4, 5, 6, 7, 8, 9, 10, 11, 12, 13, 14], [14], []⟩]
def valKrs (b3 b8 b13 ii : Nat) (R : Rm) (p : Pl) (mo : Int) (x : Mt) (u : Sp) (M : List Mt) (w : Bool) (v11 v29 v30 v31 : Value) (dn : Nat → Nat × Nat × Nat × Nat × Nat × Nat) (k : Nat) (env : Env) : Value :=
  match k with
  | 0 => .agg (cRm R p).toArray
  | 1 => .agg (cRm R p).toArray
  | 2 => .pointer (some ⟨b13, 0, none⟩)
  | 3 => .int .i64 x.number
  | 4 => .slice (some ⟨(env 4).1, 0, none⟩) 1 1
  | 5 => .agg (cRm (wM R M) (plO (dn (env 5).1))).toArray
  | 6 => .slice (plO (dn (env 5).1)).a3 M.length (plO (dn (env 5).1)).c3
  | 7 => .int .i64 (ii : Nat)
  | 8 => .int .i64 mo
  | 9 => .int .i64 (ii : Nat)
  | 10 => .int .i64 mo
  | 11 => .pointer (some ⟨b8, 0 + ii * 24, none⟩)
  | 12 => .pointer (some ⟨b8, 0 + ii * 24 + mo.toNat * 2, none⟩)
  | 13 => .agg (cSp u).toArray
  | 14 => .bool w
  | 15 => .bool (!w)
  | _ => undef
def rowsKrs (b3 b8 b13 ii : Nat) (R : Rm) (p : Pl) (mo : Int) (x : Mt) (u : Sp) (M : List Mt) (w : Bool) (v11 v29 v30 v31 : Value) (dn : Nat → Nat × Nat × Nat × Nat × Nat × Nat) (k : Nat) (env : Env) : List Row :=
  match k with
  | 4 => [⟨(env 4).1, 0, [.int .i64 x.number], some 3, 1 * 1⟩]
  | 5 => rwO M (dn (env 5).1)
  | _ => []
theorem locKrs (b3 b8 b13 ii : Nat) (R : Rm) (p : Pl) (mo : Int) (x : Mt) (u : Sp) (M : List Mt) (w : Bool) (v11 v29 v30 v31 : Value) (dn : Nat → Nat × Nat × Nat × Nat × Nat × Nat) : ∀ k env i q9, i ≠ k → (tAt tsKrs k).sup.contains i = false → valKrs b3 b8 b13 ii R p mo x u M w v11 v29 v30 v31 dn k (upd env i q9) = valKrs b3 b8 b13 ii R p mo x u M w v11 v29 v30 v31 dn k env ∧ rowsKrs b3 b8 b13 ii R p mo x u M w v11 v29 v30 v31 dn k (upd env i q9) = rowsKrs b3 b8 b13 ii R p mo x u M w v11 v29 v30 v31 dn k env := by
  intro k env i q hk hs
  have hu : ∀ j, j ≠ i → upd env i q j = env j := fun j hj => by unfold upd; rw [if_neg hj]
  match k, hk, hs with
  | 0, _, _ => exact ⟨rfl, rfl⟩
  | 1, _, _ => exact ⟨rfl, rfl⟩
  | 2, _, _ => exact ⟨rfl, rfl⟩
  | 3, _, _ => exact ⟨rfl, rfl⟩
  | 4, hk, hs => exact ⟨by simp only [valKrs, hu 4 (fun e => hk e.symm)], by simp only [rowsKrs, hu 4 (fun e => hk e.symm)]⟩
  | 5, hk, hs => exact ⟨by simp only [valKrs, hu 5 (fun e => hk e.symm)], by simp only [rowsKrs, hu 5 (fun e => hk e.symm)]⟩
  | 6, hk, hs => exact ⟨by simp only [valKrs, hu 5 (by rintro rfl; cases hs)], by simp only [rowsKrs, hu 5 (by rintro rfl; cases hs)]⟩
  | 7, _, _ => exact ⟨rfl, rfl⟩
  | 8, _, _ => exact ⟨rfl, rfl⟩
  | 9, _, _ => exact ⟨rfl, rfl⟩
  | 10, _, _ => exact ⟨rfl, rfl⟩
  | 11, _, _ => exact ⟨rfl, rfl⟩
  | 12, _, _ => exact ⟨rfl, rfl⟩
  | 13, _, _ => exact ⟨rfl, rfl⟩
  | 14, _, _ => exact ⟨rfl, rfl⟩
  | 15, _, _ => exact ⟨rfl, rfl⟩
  | _ + 16, _, _ => exact ⟨rfl, rfl⟩
def rdKrs (k : Nat) : List Nat := match k with
  | 5 => [4]
  | 14 => [5]
  | _ => []
set_option maxHeartbeats 8000000 in
theorem rRests_spec (R : Rm) (p : Pl) (a m : Int) (H : List Row) (hR : RmOk H R p) : Fc Try.prog 43 [.agg (cRm R p).toArray, .int .i64 a, .int .i64 m] H (LstR (rstF R a m).1 (rstF R a m).2 H) := by
  obtain ⟨e, he⟩ : ∃ e, openE R [a] [m] = e := ⟨_, rfl⟩
  have has : ∀ (H' : List Row) (b1 : Nat), RmOk H' R p → ⟨b1, 0, [.int .i64 a], some 3, 1 * 1⟩ ∈ H' → Fc Try.prog 61 [.agg (cRm R p).toArray, .slice (some ⟨b1, 0, none⟩) 1 1, .int .i64 m] H' (fun v H'' => ∃ c, c.length = 48 ∧ (e = 0 → As R 0 c) ∧ v = .tuple #[.agg (c.flatMap cSp).toArray, .int .i64 e] ∧ H'' = H') := fun H' b1 q1 q2 => by
    have := rAsked_spec R p [a] (some ⟨b1, 0, none⟩) 1 m H' q1 (SlE.ofRow (l := [a]) q2 (fun _ _ => rfl)) (Nat.le_of_ble_eq_true rfl)
    rw [he] at this
    exact this
  by_cases h0 : e = 0
  · subst h0
    obtain ⟨hok, _, _, hT⟩ := openE_ok he
    have hr := hok.ok
    have hb4 := hr.b4
    have hml : R.mats.length ≤ 8 := hok.1.2.2.2.2.2.2
    have hla := hok.lens.ages
    obtain ⟨b, ia, ht, hba, hia, hix, hil, hm0, hm1, hce⟩ := there_ix hr he (List.mem_singleton.2 rfl)
    have hixs := fun H' hH' => index_spec R p a H' hH'
    rw [hix] at hixs
    have hy : rstF R a m = (rsG (prvM R ⟨a, m⟩ (rng R R.mats ⟨a, m⟩ zp)) R R.mats, 0) := by
      unfold rstF
      rw [if_pos he]
      rfl
    rw [hy]
    clear hy
    refine Fc.mk (callable Try.call43) Try.func43 rfl Try.ntmps43 rfl ?_; dsimp only [fr]
    repeat' (first | (refine XO.op rfl ?_; (first | ((first | refine Xo.ng rfl ?_); (first | (refine Xg.st (StF.buildOne (v0 := .int .i64 a) rfl el55 rfl rfl rfl (by decide) (by decide)) rfl rfl ?_; rintro _ _ ⟨b1, rfl, rfl⟩) | (refine Xg.ev (EvF.loadV rfl rfl (LoadV.whole (T := 26) (cs := cRm R p) (te rfl) rfl (by repeat (first | exact List.Mem.head _ | apply List.Mem.tail)) rfl)) rfl rfl ?_) | (refine Xg.call (EnF.st rfl (by (repeat (first | exact Args.nil | refine Args.cons rfl ?_)); done)) rfl rfl (has _ b1 (hR.sub (fun _ h => by repeat (first | exact h | apply List.Mem.tail))) (List.Mem.head _)) ?_; rintro _ _ ⟨c, hc, hA, rfl, rfl⟩) | (refine Xg.ev (EvF.extract rfl rfl rfl) rfl rfl ?_) | (refine Xg.st (StF.alloc rfl Try.zeroValue107 rfl) rfl rfl ?_; rintro _ _ ⟨b8, rfl, rfl⟩) | (refine Xg.st0 (StF.storeAll (i := 0) (vs := c.flatMap cSp) (cs := zRc.flatMap cSp) rfl rfl rfl (te rfl) rfl (sp_len96 hc) (sp_one _) (by rw [sp_len96 hc, sp_len]; rfl)) rfl ?_; rintro _ _ ⟨rfl, rfl⟩; dsimp only [List.set]) | (refine Xg.call (EnF.st rfl (Args.cons rfl (Args.cons rfl Args.nil))) rfl rfl (hixs _ (hR.sub (fun _ h => by repeat (first | exact h | apply List.Mem.tail)))) ?_; rintro _ H9 ⟨rfl, hH9⟩; subst H9) | (refine Xg.ev (EvF.move rfl rfl) rfl rfl ?_) | (refine Xg.ev (EvF.assign rfl rfl) rfl rfl ?_) | (refine Xg.ev (EvF.cmp rfl rfl rfl rfl) rfl rfl ?_) | (refine Xg.ev (EvF.fieldAddr rfl rfl (te rfl) rfl (te rfl) (by decide)) rfl rfl ?_) | (refine Xg.ev (EvF.lenSlice rfl rfl (te rfl)) rfl rfl ?_) | (refine Xg.ev (EvF.loadV rfl rfl (LoadV.own (te rfl) rfl (List.Mem.tail _ (List.Mem.tail _ (List.Mem.head _))) rfl)) rfl rfl ?_) | (refine Xg.st (StF.boxAgg rfl rfl) rfl rfl ?_; rintro _ _ ⟨bx, rfl, rfl⟩))))) | (refine XO.done rfl ?_; refine hK _ _ ?_; clear hK K) | refine X.seq rfl ?_ | refine X.region rfl (fun K hK => ?_) | refine X.block rfl ?_ | refine X.skip rfl ?_ | refine X.ret rfl ?_ | (refine X.ite rfl rfl (fun hc => ?_); (first | (with_reducible refine Xb.caseN hc (fun h => ?_) (fun h => ?_))) <;> clear hc))
    all_goals try (exfalso; omega)
    generalize bx = b3
    have hx := (hA rfl).ex b m ht
    rw [hba, hce] at hx
    have hsat := sp_at (l := c) (k := ia * 12 + m.toNat) (j := 0 + ia * 24 + m.toNat * 2) (by omega) (by omega)
    have hrg := rng_eq hx
    rw [hrg]
    obtain ⟨u9, hu⟩ : ∃ u9, u9 = sat c (ia * 12 + m.toNat) := ⟨_, rfl⟩
    rw [← hu] at hsat ⊢
    have hpr : ∀ (M : List Mt) (am : Option Addr) (cm : Nat) (S : List Row), (∀ x ∈ M, x ∈ R.mats) → M.length ≤ 100 → RmOk S R p → SlE S am cMt 6 M → Fc Try.prog 93 [.agg (cRm R p).toArray, .slice am M.length cm, .int .i64 ia, .int .i64 m, .agg (cSp u9).toArray] S (fun v H' => v = .bool (prvM R ⟨a, m⟩ u9 M) ∧ H' = S) := fun M am cm S hs hl hS hM => by
      have h := rproves_spec R p M am cm ia b m u9 S hr (mats_sub hok.mats hs) hl (hT.mono hs) hia ht hS hM
      rw [hba] at h
      exact h
    obtain ⟨ok, hok'⟩ : ∃ ok, ok = prvM R ⟨a, m⟩ u9 := ⟨_, rfl⟩
    simp only [← hok'] at hpr
    rw [← hok']
    clear hok' hx hrg hu hA hixs has
    refine X.lp rfl (fun q F' H' => ∃ (k : Nat) (out : Value) (Z : List Row), q = R.mats.length - k ∧ k ≤ R.mats.length ∧ ((rsG ok R (R.mats.take k) = [] ∧ out = .slice none 0 0 ∧ Z = []) ∨ ∃ bn kn, out = .slice (some ⟨bn, 0, none⟩) (rsG ok R (R.mats.take k)).length kn ∧ Z = [⟨bn, 0, (rsG ok R (R.mats.take k)).flatMap cI, some 3, kn * 1⟩]) ∧ Z ++ ⟨b8, 0, c.flatMap cSp, some 107, 96⟩ :: ⟨b3, 0, cRm R p, some 26, 5⟩ :: H = H' ∧ F' = [(2, .int .i64 m), (3, .pointer (some ⟨b3, 0, none⟩)), (8, .pointer (some ⟨b8, 0, none⟩)), (10, .int .i64 (ia : Nat)), (11, out), (29, .slice p.a3 R.mats.length p.c3), (30, .int .i64 R.mats.length), (31, .int .i64 (k : Nat))])
      R.mats.length [(2, .int .i64 m), (3, .pointer (some ⟨b3, 0, none⟩)), (8, .pointer (some ⟨b8, 0, none⟩)), (10, .int .i64 (ia : Nat)), (11, .slice none 0 0), (29, .slice p.a3 R.mats.length p.c3), (30, .int .i64 R.mats.length), (31, .int .i64 (0 : Nat))] (⟨b8, 0, c.flatMap cSp, some 107, 96⟩ :: ⟨b3, 0, cRm R p, some 26, 5⟩ :: H) (by (repeat (first | exact Sub.nil _ | refine Sub.cons rfl ?_)); done) (by (repeat (first | exact List.Sublist.refl _ | apply List.Sublist.cons_cons | apply List.Sublist.cons)); done) ⟨0, _, [], rfl, by omega, .inl ⟨rfl, rfl, rfl⟩, rfl, rfl⟩ ?_
    rintro _ _ _ ⟨k, out, Z, rfl, hk, hTz, rfl, rfl⟩
    have hzl := rsG_len ok R (R.mats.take k)
    have hlT := List.length_take (i := k) (l := R.mats)
    by_cases hlt : k < R.mats.length
    · obtain ⟨G, hG⟩ : ∃ G : List Row, Z ++ ⟨b8, 0, c.flatMap cSp, some 107, 96⟩ :: ⟨b3, 0, cRm R p, some 26, 5⟩ :: H = G := ⟨_, rfl⟩
      have hg8 : (⟨b8, 0, c.flatMap cSp, some 107, 96⟩ : Row) ∈ G := by rw [← hG]; exact List.mem_append_right _ (List.Mem.head _)
      have hg3 : (⟨b3, 0, cRm R p, some 26, 5⟩ : Row) ∈ G := by rw [← hG]; exact List.mem_append_right _ (List.Mem.tail _ (List.Mem.head _))
      have hGR : RmOk G R p := hR.sub (fun r h => by rw [← hG]; exact List.mem_append_right _ (List.Mem.tail _ (List.Mem.tail _ h)))
      obtain ⟨bm, off, x, hq3, hxk⟩ := hR.mats.elem (i := k) hlt
      have hsn := rsG_snoc ok R hxk
      rw [hG]
      obtain ⟨a1, c1, a2, c2, a3, c3⟩ := p
      have hq3 : a3 = some ⟨bm, off, none⟩ := hq3
      subst hq3
      have hGm : SlE G (some ⟨bm, off, none⟩) cMt 6 R.mats := hGR.mats
      obtain ⟨p, hp⟩ : ∃ p : Pl, p = ⟨a1, c1, a2, c2, some ⟨bm, off, none⟩, c3⟩ := ⟨_, rfl⟩
      rw [← hp] at hR hGR hG hg3 hpr ⊢
      rw [show p.a3 = some ⟨bm, off, none⟩ by rw [hp]]
      obtain ⟨M, hM⟩ : ∃ M, M = outM R.mats [x.number] := ⟨_, rfl⟩
      have hMs : ∀ y ∈ M, y ∈ R.mats := fun y hy => by rw [hM] at hy; exact (List.mem_filter.1 hy).1
      have hMl : M.length ≤ 100 := by rw [hM]; exact Nat.le_trans (List.length_filter_le _ _) (by omega)
      have hwo : ∀ (b9 : Nat) (S : List Row), RmOk S R p → (⟨b9, 0, [.int .i64 x.number], some 3, 1 * 1⟩ : Row) ∈ S → Fc Try.prog 94 [.agg (cRm R p).toArray, .slice (some ⟨b9, 0, none⟩) 1 1] S (fun v H' => ∃ t, (t.2.2.2.2.1 = 0 → M = []) ∧ v = .agg (cRm (wM R M) (plO t)).toArray ∧ (rwO M t ++ S).Sublist H') := fun b9 S hS h9 => by
        rw [hM]
        exact rwithout_draw R p [x.number] (some ⟨b9, 0, none⟩) 1 S hS (SlE.ofRow (l := [x.number]) h9 (fun _ _ => rfl)) (by show 1 ≤ _; omega) (by omega) (by omega) (by omega)
      obtain ⟨dn, hd1, hd2⟩ := drawn eT6 eT6_inj (fun t => t.2.2.2.2.1 = 0 → M = []) ⟨(0, 0, 0, 0, 1, 0), fun h => by cases h⟩
      obtain ⟨w, hw⟩ : ∃ w, w = ok M := ⟨_, rfl⟩
      have hpm := fun t S hS h1 => hpr M (plO t).a3 (plO t).c3 S hMs hMl hS h1
      rw [← hw] at hpm
      rw [← hM, ← hw] at hsn
      repeat' (first | (refine XO.op rfl ?_; (first | ((first | refine Xo.ng rfl ?_); (first | (refine Xg.ev (EvF.cmp (b := true) rfl rfl rfl (congrArg some (decide_eq_true (by omega)))) rfl rfl ?_) | (refine Xg.ev (EvF.loadV rfl rfl (LoadV.elA0 (hGm) hxk (te rfl) rfl (fun _ hm => hm) rfl)) rfl rfl ?_) | (refine Xg.st (StF.alloc rfl Try.zeroValue114 rfl) rfl rfl ?_; rintro _ _ ⟨b13, rfl, rfl⟩) | (refine Xg.st0 (StF.storeAll (i := 0) (vs := cMt x) rfl rfl rfl (te rfl) rfl rfl rfl rfl) rfl ?_; rintro _ _ ⟨rfl, rfl⟩; dsimp only [List.set]) | (refine Xg.ev (EvF.indexSlice rfl rfl rfl (te rfl) (te rfl) (by omega) (by omega)) rfl rfl ?_))))) | (refine XO.done rfl ?_; refine hK _ _ ?_; clear hK K) | refine X.seq rfl ?_ | refine X.region rfl (fun K hK => ?_) | refine X.block rfl ?_ | refine X.skip rfl ?_ | (refine X.ite rfl rfl (fun hc => ?_); (first | (with_reducible refine Xb.t hc ?_)) <;> clear hc))
      all_goals try (exfalso; contradiction)
      refine X.regionRd tsKrs rdKrs [2, 3, 8, 10, 11, 13, 29, 30, 31] [(2, .int .i64 m), (3, .pointer (some ⟨b3, 0, none⟩)), (8, .pointer (some ⟨b8, 0, none⟩)), (10, .int .i64 (ia : Nat)), (11, out), (13, .pointer (some ⟨b13, 0, none⟩)), (29, (.slice (some ⟨bm, off, none⟩) R.mats.length p.c3)), (30, (.int .i64 R.mats.length)), (31, (.int .i64 (k : Nat)))] (valKrs b3 b8 b13 ia R p m x u9 M w out (.slice (some ⟨bm, off, none⟩) R.mats.length p.c3) (.int .i64 R.mats.length) (.int .i64 (k : Nat)) dn) (rowsKrs b3 b8 b13 ia R p m x u9 M w out (.slice (some ⟨bm, off, none⟩) R.mats.length p.c3) (.int .i64 R.mats.length) (.int .i64 (k : Nat)) dn) (fun _ => (0, 0)) (⟨b13, 0, cMt x, some 114, 6⟩ :: G) rfl mixed (by (repeat (first | exact Sub.nil _ | refine Sub.cons rfl ?_)); done) rfl (by kernel_rfl) (by kernel_rfl) (locKrs b3 b8 b13 ia R p m x u9 M w out (.slice (some ⟨bm, off, none⟩) R.mats.length p.c3) (.int .i64 R.mats.length) (.int .i64 (k : Nat)) dn) (List.Sublist.refl _) ?_ ?_
      · repeat' (first | exact AllF.done rfl | (refine AllF.step rfl ?_ ?_; · (first | exact (Ob.ng rfl (ObK.pure (fun env R hR => by exact ⟨_, EvF.move rfl rfl, rfl⟩) rfl (fun _ => rfl))).toR | exact (Ob.ng rfl (ObK.pure (fun env R hR => by exact ⟨_, EvF.fieldAddr rfl rfl (te rfl) rfl (te rfl) (by decide), rfl⟩) rfl (fun _ => rfl))).toR | exact (Ob.ng rfl (ObK.pure (fun env R hR => by exact ⟨_, EvF.not rfl rfl, rfl⟩) rfl (fun _ => rfl))).toR | exact (Ob.ng rfl (ObK.pure (fun env R hR => by exact ⟨_, EvF.loadV rfl rfl (LoadV.own (te rfl) rfl (hR _ (List.Mem.head _)) rfl), rfl⟩) rfl (fun _ => rfl))).toR | (refine ObR.ng rfl ?_; (first | (exact fun env S hS hrd => (StF.ofEv (v := .pointer (some ⟨b8, 0 + ia * 24, none⟩)) (EvF.indexArray (i := (ia : Int)) (off := 0) (b := b8) (T := 107) (e := 105) (len := 4) rfl rfl rfl (te rfl) (te rfl) (by omega) (by omega))).op.mono (fun v H' ⟨hv, hH⟩ => ⟨(0, 0), fun _ => hv, by rw [hH]; exact List.Perm.refl _⟩)) | (exact fun env S hS hrd => (StF.ofEv (v := .pointer (some ⟨b8, 0 + ia * 24 + m.toNat * 2, none⟩)) (EvF.indexArray (i := m) (off := 0 + ia * 24) (b := b8) (T := 105) (e := 35) (len := 12) rfl rfl rfl (te rfl) (te rfl) (by omega) (by omega))).op.mono (fun v H' ⟨hv, hH⟩ => ⟨(0, 0), fun _ => hv, by rw [hH]; exact List.Perm.refl _⟩)) | (exact fun env S hS hrd => (StF.ofEv (EvF.loadV rfl rfl (LoadV.whole (T := 26) (cs := cRm R p) (te rfl) rfl (hS _ (List.Mem.tail _ hg3)) rfl))).op.mono (fun v H' ⟨hv, hH⟩ => ⟨(0, 0), fun _ => hv, by rw [hH]; exact List.Perm.refl _⟩)) | (exact fun env S hS hrd => (StF.ofEv (v := .agg (cSp u9).toArray) (EvF.loadV rfl rfl (LoadV.ownAgg (te rfl) rfl (hS _ (List.Mem.tail _ hg8)) hsat rfl))).op.mono (fun v H' ⟨hv, hH⟩ => ⟨(0, 0), fun _ => hv, by rw [hH]; exact List.Perm.refl _⟩)) | (exact fun env S hS hrd => (StF.buildOne rfl el55 rfl rfl rfl (by decide) (by decide)).op.mono (fun v H' ⟨b, hv, hH⟩ => ⟨(b, 0), fun _ => hv, by rw [hH]; exact List.Perm.refl _⟩)) | (exact fun env S hS hrd => (StF.ofEv (EvF.field rfl rfl (te rfl) rfl (te rfl) rfl rfl)).op.mono (fun v H' ⟨hv, hH⟩ => ⟨(0, 0), fun _ => hv, by rw [hH]; exact List.Perm.refl _⟩)) | (exact fun env S hS hrd => (OpF.call (EnF.st rfl (Args.cons rfl (Args.cons rfl Args.nil))) (hwo (env 4).1 S (hGR.sub (fun r h => hS r (List.Mem.tail _ h))) (hrd 4 (List.Mem.head _) _ (List.Mem.head _)))).drop (fun v H' ⟨t, ht9, hv, hH⟩ => by obtain ⟨n, hn⟩ := hd2 t ht9; exact ⟨_, hH, (n, 0), fun _ => by rw [hv, ← hn]; rfl, by rw [← hn]; exact List.Perm.refl _⟩)) | (exact fun env S hS hrd => (OpF.call (EnF.st rfl (by (repeat (first | exact Args.nil | refine Args.cons rfl ?_)); done)) (hpm (dn (env 5).1) S (hGR.sub (fun r h => hS r (List.Mem.tail _ h))) (rwO_sle (hd1 _) (hrd 5 (List.Mem.head _))))).mono (fun v H' ⟨hv, hH⟩ => ⟨(0, 0), fun _ => hv, by rw [hH]; exact List.Perm.refl _⟩)))))))
      intro env t ha2 hv; refine ⟨_, ha2.cons (hv 15 50 (Nat.le_of_ble_eq_true rfl) rfl), ?_⟩; clear hv ha2
      show X _ _ _ _ (⟨(env 4).1, 0, [.int .i64 x.number], some 3, 1 * 1⟩ :: (rwO M (dn (env 5).1) ++ []) ++ ⟨b13, 0, cMt x, some 114, 6⟩ :: G) _
      refine X.weak (F' := [(50, .bool (!w)), (2, .int .i64 m), (3, .pointer (some ⟨b3, 0, none⟩)), (8, .pointer (some ⟨b8, 0, none⟩)), (10, .int .i64 (ia : Nat)), (11, out), (13, .pointer (some ⟨b13, 0, none⟩)), (29, .slice (some ⟨bm, off, none⟩) R.mats.length p.c3), (30, .int .i64 R.mats.length), (31, .int .i64 (k : Nat))]) (H' := ⟨b13, 0, cMt x, some 114, 6⟩ :: G) (by (repeat (first | exact Sub.nil _ | refine Sub.cons rfl ?_)); done) (List.sublist_append_right _ _) ?_
      clear env
      cases w with
      | true =>
        rw [if_pos rfl, List.append_nil] at hsn
        repeat' (first | (refine XO.op rfl ?_; (first | ((first | refine Xo.ng rfl ?_); (first | (refine Xg.ev (EvF.add64 (p := (k : Int)) (q := 1) rfl rfl rfl (by omega) (by omega)) rfl rfl ?_) | (refine Xg.ev (EvF.move rfl rfl) rfl rfl ?_) | (refine Xg.ev (EvF.fieldAddr rfl rfl (te rfl) rfl (te rfl) (by decide)) rfl rfl ?_) | (refine Xg.ev (EvF.loadV rfl rfl (LoadV.own (te rfl) rfl (List.Mem.head _) rfl)) rfl rfl ?_))))) | (refine XO.done rfl ?_; refine hK _ _ ?_; clear hK K) | refine X.region rfl (fun K hK => ?_) | refine X.skip rfl ?_ | (refine X.ite rfl rfl (fun hc => ?_); (first | (with_reducible refine Xb.caseB hc (fun h => ?_) (fun h => ?_))) <;> clear hc))
        all_goals try (exfalso; contradiction)
        exact ⟨_, [(2, .int .i64 m), (3, .pointer (some ⟨b3, 0, none⟩)), (8, .pointer (some ⟨b8, 0, none⟩)), (10, .int .i64 (ia : Nat)), (11, out), (29, .slice (some ⟨bm, off, none⟩) R.mats.length p.c3), (30, .int .i64 R.mats.length), (31, .int .i64 (k + 1 : Nat))], G, (by (repeat (first | exact Sub.nil _ | refine Sub.cons rfl ?_)); done), (by (repeat (first | exact List.Sublist.refl _ | apply List.Sublist.cons_cons | apply List.Sublist.cons)); done), ⟨k + 1, out, Z, rfl, by omega, by rw [hsn]; exact hTz, hG, rfl⟩, by omega⟩
      | false =>
        rw [if_neg (fun q => by cases q)] at hsn
        rcases hTz with ⟨h9, rfl, rfl⟩ | ⟨bo, ko, rfl, rfl⟩
        · rw [h9, List.nil_append] at hsn
          rw [List.nil_append] at hG
          subst hG
          repeat' (first | (refine XO.op rfl ?_; (first | ((first | refine Xo.ng rfl ?_); (first | (refine Xg.ev (EvF.add64 (p := (k : Int)) (q := 1) rfl rfl rfl (by omega) (by omega)) rfl rfl ?_) | (refine Xg.st (StF.buildOne rfl el55 rfl rfl rfl (by decide) (by decide)) rfl rfl ?_; rintro _ _ ⟨bs, rfl, rfl⟩) | (refine Xg.st (StF.appendNew rfl el55 rfl rfl (by decide) rfl (Rd.own (List.Mem.head _)) (by decide)) rfl rfl ?_; rintro _ _ ⟨bn, kn, rfl, rfl⟩) | (refine Xg.ev (EvF.move rfl rfl) rfl rfl ?_) | (refine Xg.ev (EvF.assign rfl rfl) rfl rfl ?_) | (refine Xg.ev (EvF.fieldAddr rfl rfl (te rfl) rfl (te rfl) (by decide)) rfl rfl ?_) | (refine Xg.ev (EvF.loadV rfl rfl (LoadV.own (te rfl) rfl (List.Mem.head _) rfl)) rfl rfl ?_))))) | (refine XO.done rfl ?_; refine hK _ _ ?_; clear hK K) | refine X.region rfl (fun K hK => ?_) | refine X.skip rfl ?_ | (refine X.ite rfl rfl (fun hc => ?_); (first | (with_reducible refine Xb.caseB hc (fun h => ?_) (fun h => ?_))) <;> clear hc))
          all_goals try (exfalso; contradiction)
          refine ⟨_, [(2, .int .i64 m), (3, .pointer (some ⟨b3, 0, none⟩)), (8, .pointer (some ⟨b8, 0, none⟩)), (10, .int .i64 (ia : Nat)), (11, .slice (some ⟨bn, 0, none⟩) 1 kn), (29, .slice (some ⟨bm, off, none⟩) R.mats.length p.c3), (30, .int .i64 R.mats.length), (31, .int .i64 (k + 1 : Nat))], ⟨bn, 0, (rsG ok R (R.mats.take (k + 1))).flatMap cI, some 3, kn * 1⟩ :: ⟨b8, 0, c.flatMap cSp, some 107, 96⟩ :: ⟨b3, 0, cRm R p, some 26, 5⟩ :: H, (by (repeat (first | exact Sub.nil _ | refine Sub.cons rfl ?_)); done), ?_, ⟨k + 1, _, [_], rfl, by omega, .inr ⟨bn, kn, by rw [hsn]; rfl, rfl⟩, rfl, rfl⟩, by omega⟩
          rw [hsn]
          exact (by (repeat (first | exact List.Sublist.refl _ | apply List.Sublist.cons_cons | apply List.Sublist.cons)); done)
        · simp only [List.cons_append, List.nil_append] at hG
          subst hG
          have hlen9 : ((rsG ok R (R.mats.take k)).flatMap cI).length = (rsG ok R (R.mats.take k)).length * 1 := lenI _
          repeat' (first | (refine XO.op rfl ?_; (first | ((first | refine Xo.ng rfl ?_); (first | (refine Xg.ev (EvF.add64 (p := (k : Int)) (q := 1) rfl rfl rfl (by omega) (by omega)) rfl rfl ?_) | (refine Xg.st (StF.buildOne rfl el55 rfl rfl rfl (by decide) (by decide)) rfl rfl ?_; rintro _ _ ⟨bs, rfl, rfl⟩) | (refine Xg.st (StF.appendOwn (i := 2) rfl el55 rfl rfl rfl hlen9 rfl (Rd.own (List.Mem.head _)) rfl (by omega)) rfl rfl ?_; rintro _ _ ⟨bn, kn, rfl, rfl⟩; dsimp only [List.eraseIdx]) | (refine Xg.ev (EvF.move rfl rfl) rfl rfl ?_) | (refine Xg.ev (EvF.assign rfl rfl) rfl rfl ?_) | (refine Xg.ev (EvF.fieldAddr rfl rfl (te rfl) rfl (te rfl) (by decide)) rfl rfl ?_) | (refine Xg.ev (EvF.loadV rfl rfl (LoadV.own (te rfl) rfl (List.Mem.head _) rfl)) rfl rfl ?_))))) | (refine XO.done rfl ?_; refine hK _ _ ?_; clear hK K) | refine X.region rfl (fun K hK => ?_) | refine X.skip rfl ?_ | (refine X.ite rfl rfl (fun hc => ?_); (first | (with_reducible refine Xb.caseB hc (fun h => ?_) (fun h => ?_))) <;> clear hc))
          all_goals try (exfalso; contradiction)
          refine ⟨_, [(2, .int .i64 m), (3, .pointer (some ⟨b3, 0, none⟩)), (8, .pointer (some ⟨b8, 0, none⟩)), (10, .int .i64 (ia : Nat)), (11, .slice (some ⟨bn, 0, none⟩) ((rsG ok R (R.mats.take k)).length + 1) kn), (29, .slice (some ⟨bm, off, none⟩) R.mats.length p.c3), (30, .int .i64 R.mats.length), (31, .int .i64 (k + 1 : Nat))], ⟨bn, 0, (rsG ok R (R.mats.take (k + 1))).flatMap cI, some 3, kn * 1⟩ :: ⟨b8, 0, c.flatMap cSp, some 107, 96⟩ :: ⟨b3, 0, cRm R p, some 26, 5⟩ :: H, (by (repeat (first | exact Sub.nil _ | refine Sub.cons rfl ?_)); done), ?_, ⟨k + 1, _, [_], rfl, by omega, .inr ⟨bn, kn, by rw [hsn, List.length_append]; rfl, rfl⟩, rfl, rfl⟩, by omega⟩
          rw [hsn, List.flatMap_append]
          exact (by (repeat (first | exact List.Sublist.refl _ | apply List.Sublist.cons_cons | apply List.Sublist.cons)); done)
    · obtain rfl : k = R.mats.length := by omega
      rw [List.take_length] at hTz
      repeat' (first | (refine XO.op rfl ?_; (first | ((first | refine Xo.ng rfl ?_); (first | (refine Xg.ev (EvF.cmp (b := false) rfl rfl rfl (congrArg some (decide_eq_false (by omega)))) rfl rfl ?_) | (refine Xg.ev (EvF.move rfl rfl) rfl rfl ?_) | (refine Xg.ev (EvF.assign rfl rfl) rfl rfl ?_))))) | (refine XO.done rfl ?_; refine hK _ _ ?_; clear hK K) | refine X.seq rfl ?_ | refine X.region rfl (fun K hK => ?_) | (refine X.brk rfl ?_; repeat (first | refine blockX_hit rfl ?_ | refine blockX_miss (by decide) ?_)) | refine X.ret rfl ?_ | (refine X.ite rfl rfl (fun hc => ?_); (first | (with_reducible refine Xb.f hc ?_)) <;> clear hc))
      all_goals try (exfalso; contradiction)
      rcases hTz with ⟨h9, rfl, rfl⟩ | ⟨bo, ko, rfl, rfl⟩
      · rw [h9]
        exact ret_two (by first | exact .inr rfl | exact .inl rfl) Try.results43 rfl rfl (H' := H) (by (repeat (first | exact List.Sublist.refl _ | apply List.Sublist.cons)); done) ⟨none, 0, [], rfl, sleNil, rfl⟩
      · exact ret_two (by first | exact .inr rfl | exact .inl rfl) Try.results43 rfl rfl (H' := ⟨bo, 0, (rsG ok R R.mats).flatMap cI, some 3, ko * 1⟩ :: H) (List.Sublist.cons_cons _ (by (repeat (first | exact List.Sublist.refl _ | apply List.Sublist.cons)); done)) ⟨some ⟨bo, 0, none⟩, ko, [⟨bo, 0, (rsG ok R R.mats).flatMap cI, some 3, ko * 1⟩], rfl, SlE.ofRow (List.Mem.head _) (fun _ _ => rfl), rfl⟩
  · have hy : rstF R a m = ([], e) := by unfold rstF; rw [if_neg (by rw [he]; exact h0), he]
    rw [hy]
    refine Fc.mk (callable Try.call43) Try.func43 rfl Try.ntmps43 rfl ?_; dsimp only [fr]
    repeat' (first | (refine XO.op rfl ?_; (first | ((first | refine Xo.ng rfl ?_); (first | (refine Xg.st (StF.buildOne (v0 := .int .i64 a) rfl el55 rfl rfl rfl (by decide) (by decide)) rfl rfl ?_; rintro _ _ ⟨b1, rfl, rfl⟩) | (refine Xg.ev (EvF.loadV rfl rfl (LoadV.whole (T := 26) (cs := cRm R p) (te rfl) rfl (by repeat (first | exact List.Mem.head _ | apply List.Mem.tail)) rfl)) rfl rfl ?_) | (refine Xg.call (EnF.st rfl (by (repeat (first | exact Args.nil | refine Args.cons rfl ?_)); done)) rfl rfl (has _ b1 (hR.sub (fun _ h => by repeat (first | exact h | apply List.Mem.tail))) (List.Mem.head _)) ?_; rintro _ _ ⟨c, hc, hA, rfl, rfl⟩) | (refine Xg.ev (EvF.extract rfl rfl rfl) rfl rfl ?_) | (refine Xg.st (StF.alloc rfl Try.zeroValue107 rfl) rfl rfl ?_; rintro _ _ ⟨b8, rfl, rfl⟩) | (refine Xg.st0 (StF.storeAll (i := 0) (vs := c.flatMap cSp) (cs := zRc.flatMap cSp) rfl rfl rfl (te rfl) rfl (sp_len96 hc) (sp_one _) (by rw [sp_len96 hc, sp_len]; rfl)) rfl ?_; rintro _ _ ⟨rfl, rfl⟩; dsimp only [List.set]) | (refine Xg.call (EnF.st rfl (Args.cons rfl (Args.cons rfl Args.nil))) rfl rfl (index_spec R p a _ (hR.sub (fun _ h => by repeat (first | exact h | apply List.Mem.tail)))) ?_; rintro _ H9 ⟨rfl, hH9⟩; subst H9) | (refine Xg.ev (EvF.move rfl rfl) rfl rfl ?_) | (refine Xg.ev (EvF.assign rfl rfl) rfl rfl ?_) | (refine Xg.ev (EvF.cmp rfl rfl rfl rfl) rfl rfl ?_) | (refine Xg.ev (EvF.fieldAddr rfl rfl (te rfl) rfl (te rfl) (by decide)) rfl rfl ?_) | (refine Xg.ev (EvF.lenSlice rfl rfl (te rfl)) rfl rfl ?_) | (refine Xg.ev (EvF.loadV rfl rfl (LoadV.own (te rfl) rfl (List.Mem.tail _ (List.Mem.tail _ (List.Mem.head _))) rfl)) rfl rfl ?_) | (refine Xg.st (StF.boxAgg rfl rfl) rfl rfl ?_; rintro _ _ ⟨bx, rfl, rfl⟩))))) | (refine XO.done rfl ?_; refine hK _ _ ?_; clear hK K) | refine X.seq rfl ?_ | refine X.region rfl (fun K hK => ?_) | refine X.block rfl ?_ | refine X.skip rfl ?_ | refine X.ret rfl ?_ | (refine X.ite rfl rfl (fun hc => ?_); (first | (with_reducible refine Xb.caseN hc (fun h => ?_) (fun h => ?_))) <;> clear hc))
    all_goals try (exfalso; simp_all; done)
    exact ret_two (by first | exact .inr rfl | exact .inl rfl) Try.results43 rfl rfl (H' := H) (by (repeat (first | exact List.Sublist.refl _ | apply List.Sublist.cons)); done) ⟨none, 0, [], rfl, sleNil, rfl⟩
end Go.Proofs.Ytblehgpfddmggaa
end
section
set_option linter.unusedVariables false
set_option linter.unusedSimpArgs false
namespace Go.Proofs.Ytblehgpfddmggaa
open Go Go.Fw
set_option maxRecDepth 10000
/-- a list of numbers, told in one of its ways, drawn -/
theorem slDraw (L : List Int) : ∃ (nv : Nat × Nat → Value) (rn : Nat × Nat → List Row),
    (∀ v Z, TrvI L v Z → ∃ q, v = nv q ∧ Z = rn q) ∧ (∀ q S, (∀ r ∈ rn q, r ∈ S) → ∃ a c, nv q = .slice a L.length c ∧ SlE S a cI 1 L) := by
  by_cases h0 : L = []
  · subst h0
    refine ⟨fun q => match q.1 with
      | 0 => .slice none 0 0
      | n + 1 => .slice (some ⟨n, 0, none⟩) 0 q.2, fun q => match q.1 with
      | 0 => []
      | n + 1 => [⟨n, 0, [], some 3, q.2 * 1⟩], ?_, ?_⟩
    · rintro v Z (⟨_, rfl, rfl⟩ | ⟨b, q, rfl, rfl⟩)
      · exact ⟨(0, 0), rfl, rfl⟩
      · exact ⟨(b + 1, q), rfl, rfl⟩
    · rintro ⟨n, c⟩ S hS
      cases n with
      | zero => exact ⟨none, 0, rfl, sleNil⟩
      | succ n => exact ⟨some ⟨n, 0, none⟩, c, rfl, SlE.ofRow (l := []) (hS _ (List.Mem.head _)) (fun _ _ => rfl)⟩
  · refine ⟨fun q => .slice (some ⟨q.1, 0, none⟩) L.length q.2, fun q => [⟨q.1, 0, L.flatMap cI, some 3, q.2 * 1⟩], ?_, ?_⟩
    · rintro v Z (⟨h, _, _⟩ | ⟨b, q, rfl, rfl⟩)
      · exact absurd h h0
      · exact ⟨(b, q), rfl, rfl⟩
    · rintro ⟨n, c⟩ S hS
      exact ⟨some ⟨n, 0, none⟩, c, rfl, SlE.ofRow (hS _ (List.Mem.head _)) (fun _ _ => rfl)⟩
theorem numsTr (R : Rm) (p : Pl) (H : List Row) (hM : SlE H p.a3 cMt 6 R.mats) (hl : R.mats.length ≤ 1000000) : Fc Try.prog 87 [.slice p.a3 R.mats.length p.c3, .func (.func 88) #[] #[]] H (fun v H' => ∃ Z, TrvI (R.mats.map (·.number)) v Z ∧ H' = Z ++ H) :=
  (numsMt R p H hM hl).mono fun v H' h => by
    rcases h with ⟨h0, hv, hH⟩ | ⟨b, q, _, hv, hH⟩
    · exact ⟨[], .inl ⟨by rw [h0]; rfl, hv, rfl⟩, hH⟩
    · exact ⟨[_], .inr ⟨b, q, hv, rfl⟩, hH⟩
def tsKwy : List TOp := [⟨some 23, [], [], []⟩, ⟨some 24, [0], [0], []⟩, ⟨some 25, [0, 1], [1], []⟩, ⟨some 26, [], [], []⟩, ⟨some 27, [3], [3], []⟩, ⟨some 28, [3, 4], [4], []⟩, ⟨some 29, [], [], []⟩, ⟨some 30, [6], [6], []⟩, ⟨some 31, [0, 1, 2, 3, 4, 5, 6, 7], [2, 5, 7], []⟩, ⟨some 22, [0, 1, 2, 3, 4, 5, 6, 7, 8], [8], []⟩, ⟨some 32, [0, 1, 2, 3, 4, 5, 6, 7, 8, 9], [9], []⟩, ⟨some 33, [0, 1, 2, 3, 4, 5, 6, 7, 8, 9], [9], []⟩, ⟨some 10, [0, 1, 2, 3, 4, 5, 6, 7, 8, 9, 10], [10], []⟩, ⟨some 11, [0, 1, 2, 3, 4, 5, 6, 7, 8, 9, 10, 11, 12], [11], []⟩]
def valKwy (b3 b8 : Nat) (R : Rm) (p : Pl) (a : Option Addr) (c : Nat) (q : Pk) (s : Sp) (nv fv : Nat × Nat → Value) (rn rf : Nat × Nat → List Row) (bb : Bool) (k : Nat) (env : Env) : Value :=
  match k with
  | 0 => .pointer (some ⟨b3, 4, none⟩)
  | 1 => .slice p.a3 R.mats.length p.c3
  | 2 => nv (env 2)
  | 3 => .pointer (some ⟨b3, 4, none⟩)
  | 4 => .slice p.a3 R.mats.length p.c3
  | 5 => .int .i64 R.mats.length
  | 6 => .agg (cCm R p a c q s).toArray
  | 7 => .func (.func 89) #[.agg (cCm R p a c q s).toArray] #[]
  | 8 => .tuple #[fv (env 8), .bool bb]
  | 9 => .tuple #[fv (env 8), .bool bb]
  | 10 => fv (env 8)
  | 11 => .bool bb
  | 12 => fv (env 8)
  | 13 => .bool bb
  | _ => undef
def rowsKwy (b3 b8 : Nat) (R : Rm) (p : Pl) (a : Option Addr) (c : Nat) (q : Pk) (s : Sp) (nv fv : Nat × Nat → Value) (rn rf : Nat × Nat → List Row) (bb : Bool) (k : Nat) (env : Env) : List Row :=
  match k with
  | 2 => rn (env 2)
  | 8 => rf (env 8)
  | _ => []
theorem locKwy (b3 b8 : Nat) (R : Rm) (p : Pl) (a : Option Addr) (c : Nat) (q : Pk) (s : Sp) (nv fv : Nat × Nat → Value) (rn rf : Nat × Nat → List Row) (bb : Bool) : ∀ k env i q9, i ≠ k → (tAt tsKwy k).sup.contains i = false → valKwy b3 b8 R p a c q s nv fv rn rf bb k (upd env i q9) = valKwy b3 b8 R p a c q s nv fv rn rf bb k env ∧ rowsKwy b3 b8 R p a c q s nv fv rn rf bb k (upd env i q9) = rowsKwy b3 b8 R p a c q s nv fv rn rf bb k env := by
  intro k env i q hk hs
  have hu : ∀ j, j ≠ i → upd env i q j = env j := fun j hj => by unfold upd; rw [if_neg hj]
  match k, hk, hs with
  | 0, _, _ => exact ⟨rfl, rfl⟩
  | 1, _, _ => exact ⟨rfl, rfl⟩
  | 2, hk, hs => exact ⟨by simp only [valKwy, hu 2 (fun e => hk e.symm)], by simp only [rowsKwy, hu 2 (fun e => hk e.symm)]⟩
  | 3, _, _ => exact ⟨rfl, rfl⟩
  | 4, _, _ => exact ⟨rfl, rfl⟩
  | 5, _, _ => exact ⟨rfl, rfl⟩
  | 6, _, _ => exact ⟨rfl, rfl⟩
  | 7, _, _ => exact ⟨rfl, rfl⟩
  | 8, hk, hs => exact ⟨by simp only [valKwy, hu 8 (fun e => hk e.symm)], by simp only [rowsKwy, hu 8 (fun e => hk e.symm)]⟩
  | 9, hk, hs => exact ⟨by simp only [valKwy, hu 8 (by rintro rfl; cases hs)], by simp only [rowsKwy, hu 8 (by rintro rfl; cases hs)]⟩
  | 10, hk, hs => exact ⟨by simp only [valKwy, hu 8 (by rintro rfl; cases hs)], by simp only [rowsKwy, hu 8 (by rintro rfl; cases hs)]⟩
  | 11, _, _ => exact ⟨rfl, rfl⟩
  | 12, hk, hs => exact ⟨by simp only [valKwy, hu 8 (by rintro rfl; cases hs)], by simp only [rowsKwy, hu 8 (by rintro rfl; cases hs)]⟩
  | 13, _, _ => exact ⟨rfl, rfl⟩
  | _ + 14, _, _ => exact ⟨rfl, rfl⟩
def rdKwy (k : Nat) : List Nat := match k with
  | 8 => [2]
  | _ => []
set_option maxHeartbeats 8000000 in
theorem kWhy_spec (R : Rm) (p : Pl) (x m : Int) (H : List Row) (hR : RmOk H R p) (h2 : R.boxes.length ≤ 1000000) : Fc Try.prog 40 [.agg (cRm R p).toArray, .int .i64 x, .int .i64 m] H (LstR (whyF R x m).1 (whyF R x m).2 H) := by
  obtain ⟨e, he⟩ : ∃ e, openE R [x] [m] = e := ⟨_, rfl⟩
  by_cases h0 : e = 0
  · subst h0
    obtain ⟨hok, _, _, hT⟩ := openE_ok he
    have hml : R.mats.length ≤ 8 := hok.1.2.2.2.2.2.2
    have hpq := plcs_of he (List.mem_singleton.2 rfl) (List.mem_singleton.2 rfl)
    have hcm := fun S hS => claimedY R p x m S hS h2 he
    obtain ⟨s, hs⟩ : ∃ s, s = rng R R.mats ⟨x, m⟩ zp := ⟨_, rfl⟩
    obtain ⟨L, hL⟩ : ∃ L, L = R.mats.map (·.number) := ⟨_, rfl⟩
    have hLl : L.length = R.mats.length := by rw [hL, List.length_map]
    obtain ⟨fo, hfo⟩ : ∃ fo, fo = fewG (prvN R ⟨x, m⟩ s) L (R.mats.length + 1) 0 := ⟨_, rfl⟩
    obtain ⟨W, hW⟩ : ∃ W, W = fo.getD [] := ⟨_, rfl⟩
    have hy : whyF R x m = (W, 0) := by
      unfold whyF whyL
      rw [if_pos he, ← hs, ← hL, ← hfo, ← hW]
    rw [← hs] at hcm
    rw [hy]
    clear hy hs
    have hnt := fun S hS => numsTr R p S hS (by omega)
    rw [← hL] at hnt
    have hft := fun al cl b k S (hl : SlE S al cI 1 L) (hC : CtOk S R p (some ⟨b, 0, none⟩)) (hk : (plcs R).length ≤ k) => fewest_specJ (prvN R ⟨x, m⟩ s) L al cl R.mats.length 89 [.agg (cCm R p (some ⟨b, 0, none⟩) k ⟨x, m⟩ s).toArray] [] S hl (by omega) (by omega) (fun acc a' c' H' hs' hacc hal => kproves_spec R p (some ⟨b, 0, none⟩) k ⟨x, m⟩ s acc a' c' H' hok.ok hok.mats (CtOk.sub hC hs') hok.lens.ages hok.lens.mats hk hT hpq hacc hal)
    rw [show min R.mats.length L.length + 1 = R.mats.length + 1 by omega, ← hfo, ← hW] at hft
    obtain ⟨nv, rn, hn1, hn2⟩ := slDraw L
    obtain ⟨fv, rf, hf1, hf2⟩ := slDraw W
    refine Fc.mk (callable Try.call40) Try.func40 rfl Try.ntmps40 rfl ?_; dsimp only [fr]
    repeat' (first | (refine XO.op rfl ?_; (first | ((first | refine Xo.ng rfl ?_); (first | (refine Xg.ev (EvF.cmp (b := false) rfl rfl rfl (congrArg some (nd_f (by omega)))) rfl rfl ?_) | (refine Xg.ev (EvF.loadV rfl rfl (LoadV.whole (T := 26) (cs := cRm R p) (te rfl) rfl (by repeat (first | exact List.Mem.head _ | apply List.Mem.tail)) rfl)) rfl rfl ?_) | (refine Xg.call (EnF.st rfl (by (repeat (first | exact Args.nil | refine Args.cons rfl ?_)); done)) rfl rfl (hcm _ (hR.sub (fun _ h => by repeat (first | exact h | apply List.Mem.tail)))) ?_; rintro _ _ ⟨b, k, hbk, rfl, rfl⟩) | (refine Xg.ev (EvF.extract rfl rfl rfl) rfl rfl ?_) | (refine Xg.st (StF.alloc rfl Try.zeroValue132 rfl) rfl rfl ?_; rintro _ _ ⟨b8, rfl, rfl⟩) | (refine Xg.st0 (StF.storeAll (i := 0) (vs := cCm R p (some ⟨b, 0, none⟩) k ⟨x, m⟩ s) rfl rfl rfl (te rfl) rfl rfl rfl rfl) rfl ?_; rintro _ _ ⟨rfl, rfl⟩; dsimp only [List.set]) | (refine Xg.ev (EvF.move rfl rfl) rfl rfl ?_) | (refine Xg.ev (EvF.assign rfl rfl) rfl rfl ?_) | (refine Xg.st (StF.boxAgg rfl rfl) rfl rfl ?_; rintro _ _ ⟨bx, rfl, rfl⟩))))) | (refine XO.done rfl ?_; refine hK _ _ ?_; clear hK K) | refine X.seq rfl ?_ | refine X.region rfl (fun K hK => ?_) | refine X.skip rfl ?_ | (refine X.ite rfl rfl (fun hc => ?_); (first | (with_reducible refine Xb.f hc ?_)) <;> clear hc))
    all_goals try (exfalso; contradiction)
    generalize bx = b3
    refine X.regionRd tsKwy rdKwy [3, 8] [(3, .pointer (some ⟨b3, 0, none⟩)), (8, .pointer (some ⟨b8, 0, none⟩))] (valKwy b3 b8 R p (some ⟨b, 0, none⟩) k ⟨x, m⟩ s nv fv rn rf fo.isSome) (rowsKwy b3 b8 R p (some ⟨b, 0, none⟩) k ⟨x, m⟩ s nv fv rn rf fo.isSome) (fun _ => (0, 0)) (⟨b8, 0, cCm R p (some ⟨b, 0, none⟩) k ⟨x, m⟩ s, some 132, 10⟩ :: ⟨b, 0, (plcs R).flatMap cPk, some 104, k * 2⟩ :: ⟨b3, 0, cRm R p, some 26, 5⟩ :: H) rfl mixed (by (repeat (first | exact Sub.nil _ | refine Sub.cons rfl ?_)); done) rfl (by kernel_rfl) (by kernel_rfl) (locKwy b3 b8 R p (some ⟨b, 0, none⟩) k ⟨x, m⟩ s nv fv rn rf fo.isSome) (List.Sublist.refl _) ?_ ?_
    · repeat' (first | exact AllF.done rfl | (refine AllF.step rfl ?_ ?_; · (first | exact (Ob.ng rfl (ObK.pure (fun env R hR => by exact ⟨_, EvF.move rfl rfl, rfl⟩) rfl (fun _ => rfl))).toR | exact (Ob.ng rfl (ObK.pure (fun env R hR => by exact ⟨_, EvF.assign rfl rfl, rfl⟩) rfl (fun _ => rfl))).toR | exact (Ob.ng rfl (ObK.pure (fun env R hR => by exact ⟨_, EvF.fieldAddr rfl rfl (te rfl) rfl (te rfl) (by decide), rfl⟩) rfl (fun _ => rfl))).toR | exact (Ob.ng rfl (ObK.pure (fun env R hR => by exact ⟨_, EvF.lenSlice rfl rfl (te rfl), rfl⟩) rfl (fun _ => rfl))).toR | exact (Ob.ng rfl (ObK.pure (fun env R hR => by exact ⟨_, EvF.loadV rfl rfl (LoadV.own (te rfl) rfl (hR _ (List.Mem.tail _ (List.Mem.tail _ (List.Mem.head _)))) rfl), rfl⟩) rfl (fun _ => rfl))).toR | exact (Ob.ng rfl (ObK.pure (fun env R hR => by exact ⟨_, EvF.loadV rfl rfl (LoadV.whole (te rfl) rfl (hR _ (List.Mem.head _)) rfl), rfl⟩) rfl (fun _ => rfl))).toR | (refine ObR.ng rfl ?_; (first | (exact fun env S hS hrd => (StF.ofEv (EvF.makeFunc (fl := [.tmp 29]) rfl (Args.cons rfl Args.nil) Args.nil)).op.mono (fun v H' ⟨hv, hH⟩ => ⟨(0, 0), fun _ => hv, by rw [hH]; exact List.Perm.refl _⟩)) | (exact fun env S hS hrd => (StF.ofEv (v := .bool fo.isSome) (EvF.extract rfl rfl rfl)).op.mono (fun v H' ⟨hv, hH⟩ => ⟨(0, 0), fun _ => hv, by rw [hH]; exact List.Perm.refl _⟩)) | (exact fun env S hS hrd => (StF.ofEv (v := fv (env 8)) (EvF.extract rfl rfl rfl)).op.mono (fun v H' ⟨hv, hH⟩ => ⟨(0, 0), fun _ => hv, by rw [hH]; exact List.Perm.refl _⟩)) | (exact fun env S hS hrd => (OpF.call (EnF.st rfl (Args.cons rfl (Args.cons rfl Args.nil))) (hnt S (hR.mats.sub (fun r h => hS r (List.Mem.tail _ (List.Mem.tail _ (List.Mem.tail _ h))))))).mono (fun v H' ⟨Z, hZ, hH⟩ => by obtain ⟨q, h1, h3⟩ := hn1 _ _ hZ; exact ⟨q, fun _ => h1, by rw [hH, h3]; exact List.Perm.refl _⟩)) | ((refine fun env S hS hrd => ?_; obtain ⟨al, cl, hal, hsl⟩ := hn2 (env 2) S (hrd 2 (List.Mem.head _)); have hca := hft al cl b k S hsl ⟨hR.sub (fun r h => hS r (List.Mem.tail _ (List.Mem.tail _ (List.Mem.tail _ h)))), SlE.ofRow (hS _ (List.Mem.tail _ (List.Mem.head _))) (fun _ _ => rfl)⟩ hbk; rw [← hal] at hca; exact (OpF.call (EnF.st rfl (Args.cons rfl (Args.cons rfl (Args.cons rfl Args.nil)))) hca).mono (fun v H' ⟨out, Z, hZ, hv, hH⟩ => by obtain ⟨q, h1, h3⟩ := hf1 _ _ hZ; exact ⟨q, fun _ => by rw [hv, h1]; rfl, by rw [hH, h3]; exact List.Perm.refl _⟩))))))))
    · intro env t ha2 hv; refine ⟨_, (ha2.cons (hv 12 10 (Nat.le_of_ble_eq_true rfl) rfl)).cons (hv 13 11 (Nat.le_of_ble_eq_true rfl) rfl), ?_⟩; clear hv ha2
      show X _ _ _ _ ((rn (env 2) ++ (rf (env 8) ++ [])) ++ ⟨b8, 0, cCm R p (some ⟨b, 0, none⟩) k ⟨x, m⟩ s, some 132, 10⟩ :: ⟨b, 0, (plcs R).flatMap cPk, some 104, k * 2⟩ :: ⟨b3, 0, cRm R p, some 26, 5⟩ :: H) _
      obtain ⟨aw, cw, hvw, hsw⟩ := hf2 (env 8) (rf (env 8) ++ H) (fun r h => List.mem_append_left _ h)
      rw [List.append_nil, List.append_assoc]
      refine X.weak (F' := [(10, .slice aw W.length cw)]) (H' := rf (env 8) ++ H) (by rw [← hvw]; exact (by (repeat (first | exact Sub.nil _ | refine Sub.cons rfl ?_)); done)) ((List.Sublist.append (List.Sublist.refl _) (by (repeat (first | exact List.Sublist.refl _ | apply List.Sublist.cons)); done)).trans (List.sublist_append_right _ _)) ?_
      generalize rf (env 8) = Zw at hsw
      clear hvw env
      repeat' (first | (refine XO.op rfl ?_; (first | ((first | refine Xo.ng rfl ?_); (first | (refine Xg.ev (EvF.move rfl rfl) rfl rfl ?_) | (refine Xg.ev (EvF.assign rfl rfl) rfl rfl ?_))))) | (refine XO.done rfl ?_; refine hK _ _ ?_; clear hK K) | refine X.seq rfl ?_ | refine X.region rfl (fun K hK => ?_) | refine X.ret rfl ?_)
      exact ret_two (by first | exact .inr rfl | exact .inl rfl) Try.results40 rfl rfl (H' := Zw ++ H) (List.Sublist.refl _) ⟨aw, cw, Zw, rfl, hsw, rfl⟩
  · have hy : whyF R x m = ([], e) := by unfold whyF; rw [if_neg (by rw [he]; exact h0), he]
    rw [hy]
    refine Fc.mk (callable Try.call40) Try.func40 rfl Try.ntmps40 rfl ?_; dsimp only [fr]
    repeat' (first | (refine XO.op rfl ?_; (first | ((first | refine Xo.ng rfl ?_); (first | (refine Xg.ev (EvF.loadV rfl rfl (LoadV.whole (T := 26) (cs := cRm R p) (te rfl) rfl (by repeat (first | exact List.Mem.head _ | apply List.Mem.tail)) rfl)) rfl rfl ?_) | (refine Xg.call (EnF.st rfl (Args.cons rfl (Args.cons rfl (Args.cons rfl Args.nil)))) rfl rfl (claimedN R p x m e _ (hR.sub (fun _ h => by repeat (first | exact h | apply List.Mem.tail))) h2 he h0) ?_; rintro _ H9 ⟨rfl, hH9⟩; subst H9) | (refine Xg.ev (EvF.extract rfl rfl rfl) rfl rfl ?_) | (refine Xg.st (StF.alloc rfl Try.zeroValue132 rfl) rfl rfl ?_; rintro _ _ ⟨b8, rfl, rfl⟩) | (refine Xg.st0 (StF.storeAll (i := 0) (vs := zCm) rfl rfl rfl (te rfl) rfl rfl rfl rfl) rfl ?_; rintro _ _ ⟨rfl, rfl⟩; dsimp only [List.set]) | (refine Xg.ev (EvF.move rfl rfl) rfl rfl ?_) | (refine Xg.ev (EvF.assign rfl rfl) rfl rfl ?_) | (refine Xg.ev (EvF.cmp rfl rfl rfl rfl) rfl rfl ?_) | (refine Xg.st (StF.boxAgg rfl rfl) rfl rfl ?_; rintro _ _ ⟨bx, rfl, rfl⟩))))) | (refine XO.done rfl ?_; refine hK _ _ ?_; clear hK K) | refine X.seq rfl ?_ | refine X.region rfl (fun K hK => ?_) | refine X.skip rfl ?_ | refine X.ret rfl ?_ | (refine X.ite rfl rfl (fun hc => ?_); (first | (with_reducible refine Xb.caseN hc (fun h => ?_) (fun h => ?_))) <;> clear hc))
    all_goals try (exfalso; simp_all; done)
    exact ret_two (by first | exact .inr rfl | exact .inl rfl) Try.results40 rfl rfl (H' := H) (by (repeat (first | exact List.Sublist.refl _ | apply List.Sublist.cons)); done) ⟨none, 0, [], rfl, sleNil, rfl⟩
end Go.Proofs.Ytblehgpfddmggaa
end
section
set_option linter.unusedVariables false
set_option linter.unusedSimpArgs false
namespace Go.Proofs.Ytblehgpfddmggaa
open Go Go.Fw
set_option maxRecDepth 10000
/-- onto a part of a row of one's own, where there is room: what stood behind is written over -/
theorem appendRoom {P : Program} {n : Nat} {H : List Row} {F : FS} {o : Oper} {α : Type} {enc : α → List Value} {l : List α} {a : Option Addr} {T e : TypeId} {x y : Operand} {sz by' q b k cap c : Nat} {xs old : List Value} (h : isAppend o x y T) (hT : ElT P T e sz by') (hx : evF F x = some (.slice (some ⟨b, 0, none⟩) k cap)) (hy : evF F y = some (.slice a l.length c))
    (hi : H[q]? = some ⟨b, 0, xs ++ old, some e, cap * sz⟩) (hs : SlE H a enc sz l) (h1 : ∀ e ∈ l, (enc e).all (·.oneCell') = true) (hxs : xs.length = k * sz) (hz : 0 < sz) (ho : l.length * sz ≤ old.length) :
    StF P n H F o (fun v H' => v = .slice (some ⟨b, 0, none⟩) (k + l.length) cap ∧ H' = ⟨b, 0, xs ++ l.flatMap enc ++ old.drop (l.length * sz), some e, cap * sz⟩ :: H.eraseIdx q) := by
  unfold StF StepOp
  intro t ha B w0 w hS
  have hr := hS.ok _ (List.mem_of_getElem? hi)
  obtain ⟨hB, _, rest, hg, hlen⟩ := hr
  dsimp only at hg hlen hB
  have hroom : k + l.length ≤ cap := by
    simp only [List.length_append, hxs] at hlen
    refine Nat.le_of_mul_le_mul_right (?_ : (k + l.length) * sz ≤ cap * sz) hz
    rw [Nat.add_mul]; omega
  cases hl0 : l with
  | nil =>
    subst hl0
    refine ⟨.slice (some ⟨b, 0, none⟩) k cap, w, _, .inl ?_, hS.turn (cs' := xs ++ old) (rest := rest) hi ⟨rfl, rfl, rfl, Nat.le_refl _, fun _ _ => rfl⟩ (Nat.le_refl _) (fun _ _ _ => rfl) hg hlen, rfl, ?_⟩
    · exact run_append_op h (by rw [ha.ev hx, ha.ev hy]; exact Fw.appendNone hT (by omega))
    · simp
  | cons q0 l0 =>
    rw [← hl0]
    obtain ⟨b1, o1, rfl, _⟩ := hs.2 (by rw [hl0]; simp)
    obtain ⟨ht, inf, z, hinf, hz', rfl, rfl, hzs⟩ := hT
    have hl : (l.flatMap enc).length = l.length * inf.size := flat_len hs.1
    have hnews := hs.rd.cell hS
    have h1' : ∀ u ∈ l.flatMap enc, u.oneCell' = true := fun u hu => by
      obtain ⟨e', he, hv⟩ := List.mem_flatMap.1 hu
      exact List.all_eq_true.1 (h1 e' he) u hv
    have hfit : k * inf.size + (l.flatMap enc).length ≤ (xs ++ old ++ rest).toArray.size := by
      rw [List.size_toArray, hlen, hl, ← Nat.add_mul]; exact Nat.mul_le_mul_right _ hroom
    have hrun := run_append_room (P := P) w T o.type e inf ht hinf b k cap _ hg ⟨b1, o1, none⟩ l.length c (l.flatMap enc) hl hnews h1' hroom hfit
    refine ⟨.slice (some ⟨b, 0, none⟩) (k + l.length) cap, _, _, .inl (run_append_op h (by rw [ha.ev hx, ha.ev hy]; exact hrun)), ?_, rfl, rfl⟩
    refine hS.turn (rest := rest) hi ⟨rfl, rfl, rfl, by simp, fun q hq => setRow_other w b q _ (by omega)⟩ (by simp) (fun q _ hq => setRow_other w b q _ hq) ?_ ?_
    · rw [setRow_heap w b _ _ e _ hg]
      congr 3
      have e1 : (xs ++ old ++ rest).take (k * inf.size) = xs := by rw [← hxs, List.append_assoc]; exact List.take_left
      have e2 : (xs ++ old ++ rest).drop (k * inf.size + (l.flatMap enc).length) = old.drop (l.length * inf.size) ++ rest := by
        rw [← hxs, ← List.drop_drop, List.append_assoc, List.drop_left, hl, List.drop_append_of_le_length ho]
      simp only [e1, e2]
      simp
    · simp only [List.length_append, List.length_drop] at hlen ⊢
      rw [hl]
      omega
theorem sliceLoHi {P : Program} {n : Nat} {H : List Row} {F : FS} {o : Oper} {T e : TypeId} {x q r : Operand} {b off len cap lo hh s y : Nat} {kk kk' : IntKind} {ti : TI} (h : o.op = .slice T x (some q) (some r) none) (hx : evF F x = some (.slice (some ⟨b, off, none⟩) len cap)) (hT : tiOf P T = some ⟨.sl e, s, y⟩) (he : tiOf P e = some ti) (hq : evF F q = some (.int kk (lo : Int))) (hr : evF F r = some (.int kk' (hh : Int))) (h1 : lo ≤ hh) (h2 : hh ≤ cap) (h3 : lo < cap) :
    EvF P n H F o (.slice (some ⟨b, off + lo * ti.size, none⟩) (hh - lo) (cap - lo)) := by
  have := EvF.slice (P := P) (n := n) (H := H) h hx hT he (m := cap) rfl (hh := hh) ⟨kk', hr⟩ (l := lo) ⟨kk, hq⟩ h1 h2 (Nat.le_refl _)
  rwa [if_neg (by omega)] at this
def tsKdl : List TOp := [⟨some 20, [], [], []⟩, ⟨some 21, [], [], []⟩, ⟨some 22, [0, 1], [0, 1], []⟩, ⟨some 23, [], [], []⟩, ⟨some 24, [], [], []⟩, ⟨some 25, [3, 4], [3, 4], []⟩, ⟨some 26, [0, 1, 2, 3, 4, 5], [2, 5], [8]⟩, ⟨some 0, [0, 1, 2, 3, 4, 5, 6], [6], []⟩, ⟨none, [], [], []⟩]
def valKdl (b ii nn cc : Nat) (P0 P1 : List Value) (k : Nat) (env : Env) : Value :=
  match k with
  | 0 => .slice (some ⟨b, 0, none⟩) nn cc
  | 1 => .int .i64 (ii : Nat)
  | 2 => .slice (some ⟨b, 0, none⟩) ii cc
  | 3 => .slice (some ⟨b, 0, none⟩) nn cc
  | 4 => .int .i64 (ii + 1 : Nat)
  | 5 => .slice (sfrom (some ⟨b, 0, none⟩) cc (ii + 1) 1) (nn - (ii + 1)) (cc - (ii + 1))
  | 6 => .slice (some ⟨b, 0, none⟩) (ii + (nn - (ii + 1))) cc
  | 7 => .slice (some ⟨b, 0, none⟩) (ii + (nn - (ii + 1))) cc
  | _ => undef
def rowsKdl (b ii nn cc : Nat) (P0 P1 : List Value) (k : Nat) (env : Env) : List Row :=
  match k with
  | 6 => [⟨b, 0, P1, some 3, cc * 1⟩]
  | 8 => [⟨b, 0, P0, some 3, cc * 1⟩]
  | _ => []
theorem locKdl (b ii nn cc : Nat) (P0 P1 : List Value) : ∀ k env i q9, i ≠ k → (tAt tsKdl k).sup.contains i = false → valKdl b ii nn cc P0 P1 k (upd env i q9) = valKdl b ii nn cc P0 P1 k env ∧ rowsKdl b ii nn cc P0 P1 k (upd env i q9) = rowsKdl b ii nn cc P0 P1 k env := by
  intro k env i q hk hs
  have hu : ∀ j, j ≠ i → upd env i q j = env j := fun j hj => by unfold upd; rw [if_neg hj]
  match k, hk, hs with
  | 0, _, _ => exact ⟨rfl, rfl⟩
  | 1, _, _ => exact ⟨rfl, rfl⟩
  | 2, _, _ => exact ⟨rfl, rfl⟩
  | 3, _, _ => exact ⟨rfl, rfl⟩
  | 4, _, _ => exact ⟨rfl, rfl⟩
  | 5, _, _ => exact ⟨rfl, rfl⟩
  | 6, _, _ => exact ⟨rfl, rfl⟩
  | 7, _, _ => exact ⟨rfl, rfl⟩
  | 8, _, _ => exact ⟨rfl, rfl⟩
  | _ + 9, _, _ => exact ⟨rfl, rfl⟩
def rdKdl (_ : Nat) : List Nat := []
set_option maxHeartbeats 4000000 in
theorem delete_spec (L : List Int) (b c i : Nat) (H : List Row) (hi : i < L.length) (hb : L.length ≤ 1000000) :
    Fc Try.prog 92 [.slice (some ⟨b, 0, none⟩) L.length c, .int .i64 (i : Nat), .int .i64 (i + 1 : Nat)] (⟨b, 0, L.flatMap cI, some 3, c * 1⟩ :: H)
      (fun v H' => v = .slice (some ⟨b, 0, none⟩) (L.take i ++ L.drop (i + 1)).length c ∧ H' = ⟨b, 0, (L.take i ++ L.drop (i + 1)).flatMap cI, some 3, c * 1⟩ :: H) := by
  have hlA : (L.take i).length = i := by rw [List.length_take]; omega
  have hlB : (L.drop (i + 1)).length = L.length - (i + 1) := List.length_drop
  have hfA : ((L.take i).flatMap cI).length = i * 1 := by rw [lenI, hlA]
  have hfB : ((L.drop (i + 1)).flatMap cI).length = (L.length - (i + 1)) * 1 := by rw [lenI, hlB]
  have hfD : ((L.drop i).flatMap cI).length = (L.length - i) * 1 := by rw [lenI, List.length_drop]
  have hsp : L.flatMap cI = (L.take i).flatMap cI ++ (L.drop i).flatMap cI := by rw [← List.flatMap_append, List.take_append_drop]
  obtain ⟨E, hE⟩ : ∃ E, E = ((L.drop i).flatMap cI).drop ((L.drop (i + 1)).length * 1) := ⟨_, rfl⟩
  have hEl : E.length = 1 := by rw [hE, List.length_drop, hfD, hlB]; omega
  refine Fc.mk (callable Try.call92) Try.func92 rfl Try.ntmps92 rfl ?_; dsimp only [fr]
  refine X.reveal (q := 0) rfl (fun rest hrest => ?_)
  refine X.forget (q := 0) (cs := L.flatMap cI) (cs' := rest) rfl ?_
  have hc : L.length ≤ c := by rw [List.length_append, lenI] at hrest; omega
  clear hrest
  dsimp only [List.set]
  repeat' (first | (refine XO.op rfl ?_; (first | ((first | refine Xo.ng rfl ?_); (first | (refine Xg.ev (EvF.cmp (b := false) rfl rfl rfl (congrArg some (decide_eq_false (by omega)))) rfl rfl ?_) | (refine Xg.ev (EvF.slice (l := i) (hh := i + 1) (m := L.length) rfl rfl (te rfl) (te rfl) ⟨_, rfl⟩ ⟨_, rfl⟩ ⟨_, rfl⟩ (by omega) (by omega) (by omega)) rfl rfl ?_) | (refine Xg.ev (EvF.move rfl rfl) rfl rfl ?_) | (refine Xg.ev (EvF.assign rfl rfl) rfl rfl ?_) | (refine Xg.ev (EvF.lenSlice rfl rfl (te rfl)) rfl rfl ?_))))) | (refine XO.done rfl ?_; refine hK _ _ ?_; clear hK K) | refine X.seq rfl ?_ | refine X.region rfl (fun K hK => ?_) | refine X.skip rfl ?_ | (refine X.ite rfl rfl (fun hc => ?_); (first | (with_reducible refine Xb.f hc ?_)) <;> clear hc))
  all_goals try (exfalso; contradiction)
  all_goals try (exfalso; omega)
  have hsl : ∀ S, SlE (⟨b, 0, L.flatMap cI, some 3, c * 1⟩ :: S) (sfrom (some ⟨b, 0, none⟩) c (i + 1) 1) cI 1 (L.drop (i + 1)) := fun S => by
    have h0 : SlE (⟨b, 0, L.flatMap cI, some 3, c * 1⟩ :: S) (some ⟨b, 0, none⟩) cI 1 L := SlE.ofRow (List.Mem.head _) (fun _ _ => rfl)
    exact sleFrom h0 hc (i + 1)
  refine X.regionRs [] tsKdl rdKdl [1, 2, 7] [(1, .int .i64 (i : Nat)), (2, .int .i64 (i + 1 : Nat)), (7, .int .i64 (L.length : Nat))] (valKdl b i L.length c (L.flatMap cI) ((L.take i).flatMap cI ++ (L.drop (i + 1)).flatMap cI ++ E)) (rowsKdl b i L.length c (L.flatMap cI) ((L.take i).flatMap cI ++ (L.drop (i + 1)).flatMap cI ++ E)) (fun _ => (0, 0)) (H) rfl mixed (by (repeat (first | exact Sub.nil _ | refine Sub.cons rfl ?_)); done) rfl (by kernel_rfl) (by kernel_rfl) (locKdl b i L.length c (L.flatMap cI) ((L.take i).flatMap cI ++ (L.drop (i + 1)).flatMap cI ++ E)) (fun i d hi => by cases hi) (List.Sublist.refl _) [(7, 0, .slice (some ⟨b, 0, none⟩) L.length c)] (by intro e he; simp only [List.mem_cons, List.not_mem_nil, or_false] at he; rcases he with rfl <;> exact ⟨rfl, Nat.le_of_ble_eq_true rfl⟩) (by intro e he; simp only [List.mem_cons, List.not_mem_nil, or_false] at he; rcases he with rfl <;> exact rfl) ?_ ?_
  · repeat' (first | exact AllF.done rfl | (refine AllF.step rfl ?_ ?_; · (first | fail | (refine Ob.toR ?_; ((first | refine Ob.ng rfl ?_); (first | exact ObK.pure (fun env R hR => by exact ⟨_, EvF.move rfl rfl, rfl⟩) rfl (fun _ => rfl) | exact ObK.pure (fun env R hR => by exact ⟨_, EvF.assign rfl rfl, rfl⟩) rfl (fun _ => rfl) | (exact ObK.pure (fun env S hS => ⟨_, EvF.sliceTo (hh := i) rfl rfl (te rfl) (te rfl) rfl (by omega), rfl⟩) rfl (fun _ => rfl)) | (exact ObK.pure (fun env S hS => ⟨_, EvF.sliceFrom (lo := i + 1) rfl rfl (te rfl) (te rfl) rfl (by omega) (by omega), rfl⟩) rfl (fun _ => rfl)) | (exact fun env S hS => (appendRoom (enc := cI) (q := 0) (l := L.drop (i + 1)) (xs := (L.take i).flatMap cI) (old := (L.drop i).flatMap cI) rfl el55 rfl (by rw [hlB]; rfl) (by rw [← hsp]; rfl) (hsl S) (fun _ _ => rfl) hfA (by decide) (by rw [hlB, hfD]; omega)).op.mono (fun v H' ⟨hv, hH⟩ => ⟨(0, 0), fun _ => by rw [hv, hlB]; rfl, by rw [hH, ← hE]; exact List.Perm.refl _⟩))))))))
  · intro env t ha2 hv; refine ⟨_, ha2.cons (hv 7 0 (Nat.le_of_ble_eq_true rfl) rfl), ?_⟩; clear hv ha2
    show X _ _ _ [(0, .slice (some ⟨b, 0, none⟩) (i + (L.length - (i + 1))) c), (1, .int .i64 (i : Nat)), (2, .int .i64 (i + 1 : Nat)), (7, .int .i64 L.length)] (⟨b, 0, (L.take i).flatMap cI ++ (L.drop (i + 1)).flatMap cI ++ E, some 3, c * 1⟩ :: H) _
    clear env
    rw [← List.flatMap_append, show i + (L.length - (i + 1)) = L.length - 1 by omega]
    have hPl : ((L.take i ++ L.drop (i + 1)).flatMap cI).length = (L.length - 1) * 1 := by rw [lenI, List.length_append, hlA, hlB]; omega
    have hPn : (L.take i ++ L.drop (i + 1)).length = L.length - 1 := by rw [List.length_append, hlA, hlB]; omega
    rw [hPn]
    have e2 : ∀ zs : List Value, zs.length = (L.length - (L.length - 1)) * 1 → splice ((L.take i ++ L.drop (i + 1)).flatMap cI ++ E) (0 + (L.length - 1) * 1) zs = (L.take i ++ L.drop (i + 1)).flatMap cI ++ zs := fun zs hzs => by
      have := splice_at (xs := (L.take i ++ L.drop (i + 1)).flatMap cI) (ys := E) (zs := []) (vs := zs) (j := 0 + (L.length - 1) * 1) (by rw [hPl]; omega) (by rw [hzs, hEl]; omega)
      rwa [List.append_nil, List.append_nil] at this
    repeat' (first | (refine XO.op rfl ?_; (first | ((first | refine Xo.ng rfl ?_); (first | (refine Xg.ev (sliceLoHi (lo := L.length - 1) (hh := L.length) rfl rfl (te rfl) (te rfl) rfl rfl (by omega) (by omega) (by omega)) rfl rfl ?_) | (refine Xg.st0 (StF.clear (q := 0) rfl el55 rfl rfl (by rw [List.length_append, hPl, hEl]; show 0 + (L.length - 1) * 1 + (L.length - (L.length - 1)) * 1 ≤ _; omega) honeInt) rfl ?_; rintro _ _ ⟨zs, hzs, rfl⟩; dsimp only [List.set]; rw [e2 zs hzs]; refine XO.forget (q := 0) rfl ?_; dsimp only [List.set]) | (refine Xg.ev (EvF.move rfl rfl) rfl rfl ?_) | (refine Xg.ev (EvF.assign rfl rfl) rfl rfl ?_) | (refine Xg.ev (EvF.lenSlice rfl rfl (te rfl)) rfl rfl ?_))))) | (refine XO.done rfl ?_; refine hK _ _ ?_; clear hK K) | refine X.seq rfl ?_ | refine X.region rfl (fun K hK => ?_) | refine X.ret rfl ?_)
    exact ret_one (by first | exact .inr rfl | exact .inl rfl) Try.results92 rfl (H' := ⟨b, 0, (L.take i ++ L.drop (i + 1)).flatMap cI, some 3, c * 1⟩ :: H) (List.Sublist.refl _) ⟨rfl, rfl⟩
end Go.Proofs.Ytblehgpfddmggaa
end
