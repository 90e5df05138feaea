/- The reference: Twin copies a room. -/
import Derived.Test.YtmljpmcipcoaaaaB3
set_option linter.unusedSimpArgs false
namespace Go.Proofs.Ytmljpmcipcoaaaa
open Go Go.Fw
set_option maxRecDepth 10000
def ts12 : List TOp := [⟨some 3, [], [], []⟩, ⟨some 4, [0], [0], []⟩, ⟨some 5, [], [], []⟩, ⟨some 6, [2], [2], []⟩, ⟨some 7, [], [], []⟩, ⟨some 8, [], [], []⟩, ⟨some 9, [5], [5], []⟩, ⟨some 10, [4, 5, 6], [4, 6], [4]⟩,
  ⟨some 11, [], [], []⟩, ⟨some 12, [], [], []⟩, ⟨some 13, [9], [9], []⟩, ⟨some 14, [8, 9, 10], [8, 10], [8]⟩, ⟨some 15, [], [], []⟩, ⟨some 16, [], [], []⟩, ⟨some 17, [13], [13], []⟩, ⟨some 18, [12, 13, 14], [12, 14], [12]⟩,
  ⟨some 19, [0, 1, 2, 3, 4, 5, 6, 7, 8, 9, 10, 11, 12, 13, 14, 15], [1, 3, 7, 11, 15], []⟩, ⟨none, [0, 1, 2, 3, 4, 5, 6, 7, 8, 9, 10, 11, 12, 13, 14, 15, 16], [16], [18]⟩, ⟨none, [], [], []⟩]
theorem ok12 : okReg (cops (cfst (csnd (cof Try.f12)))) ts12 [1, 2] 20 = true := by kernel_rfl
def pl12 (env : Env) : Pl := ⟨some ⟨(env 7).1, 0, none⟩, (env 7).2, some ⟨(env 11).1, 0, none⟩, (env 11).2, some ⟨(env 15).1, 0, none⟩, (env 15).2⟩
def val12 (bx : Nat) (R : Rm) (p : Pl) (k : Nat) (env : Env) : Value :=
  match k with
  | 0 => .pointer (some ⟨bx, 0, none⟩)
  | 1 => .int .i64 R.months
  | 2 => .pointer (some ⟨bx, 1, none⟩)
  | 3 => .int .i64 R.step
  | 4 => .slice (some ⟨(env 4).1, 0, none⟩) 0 0
  | 5 => .pointer (some ⟨bx, 2, none⟩)
  | 6 => .slice p.a1 R.ages.length p.c1
  | 7 => .slice (some ⟨(env 7).1, 0, none⟩) R.ages.length (env 7).2
  | 8 => .slice (some ⟨(env 8).1, 0, none⟩) 0 0
  | 9 => .pointer (some ⟨bx, 3, none⟩)
  | 10 => .slice p.a2 R.boxes.length p.c2
  | 11 => .slice (some ⟨(env 11).1, 0, none⟩) R.boxes.length (env 11).2
  | 12 => .slice (some ⟨(env 12).1, 0, none⟩) 0 0
  | 13 => .pointer (some ⟨bx, 4, none⟩)
  | 14 => .slice p.a3 R.mats.length p.c3
  | 15 => .slice (some ⟨(env 15).1, 0, none⟩) R.mats.length (env 15).2
  | 16 => .agg (cRm R (pl12 env)).toArray
  | _ => undef
def rows12 (b2 : Nat) (R : Rm) (k : Nat) (env : Env) : List Row :=
  match k with
  | 4 => [⟨(env 4).1, 0, [], some 35, 0⟩]
  | 7 => [⟨(env 7).1, 0, R.ages.flatMap cSp, some 35, (env 7).2 * 2⟩]
  | 8 => [⟨(env 8).1, 0, [], some 77, 0⟩]
  | 11 => [⟨(env 11).1, 0, R.boxes.flatMap cBx, some 77, (env 11).2 * 2⟩]
  | 12 => [⟨(env 12).1, 0, [], some 75, 0⟩]
  | 15 => [⟨(env 15).1, 0, R.mats.flatMap cMt, some 75, (env 15).2 * 6⟩]
  | 17 => [⟨b2, 0, cRm R (pl12 env), some 26, 5⟩]
  | 18 => [⟨b2, 0, [.int .i64 0, .int .i64 0, .slice none 0 0, .slice none 0 0, .slice none 0 0], some 26, 5⟩]
  | _ => []
theorem loc12 (bx b2 : Nat) (R : Rm) (p : Pl) : ∀ k env i q, i ≠ k → (tAt ts12 k).sup.contains i = false → val12 bx R p k (upd env i q) = val12 bx R p k env ∧ rows12 b2 R k (upd env i q) = rows12 b2 R k env := by
  intro k env i q hk hs
  have hu : ∀ j, j ≠ i → upd env i q j = env j := fun j hj => by unfold upd; rw [if_neg hj]
  by_cases h16 : k = 16 ∨ k = 17
  · have h1 : pl12 (upd env i q) = pl12 env := by
      unfold pl12
      rw [hu 7 (by rintro rfl; rcases h16 with rfl | rfl <;> cases hs), hu 11 (by rintro rfl; rcases h16 with rfl | rfl <;> cases hs), hu 15 (by rintro rfl; rcases h16 with rfl | rfl <;> cases hs)]
    rcases h16 with rfl | rfl <;> simp [val12, rows12, h1]
  · unfold val12 rows12
    have h2 := hu k (fun e => hk e.symm)
    constructor
    · split <;> first | rfl | (rw [h2]) | (exfalso; omega)
    · split <;> first | rfl | (rw [h2]) | (exfalso; omega)
theorem one_sp (e : Sp) : (cSp e).all (·.oneCell') = true := rfl
theorem one_bx (e : Bx) : (cBx e).all (·.oneCell') = true := rfl
theorem one_mt (e : Mt) : (cMt e).all (·.oneCell') = true := rfl
theorem twin_spec (R : Rm) (p : Pl) (H : List Row) (hR : RmOk H R p) (h1 : R.ages.length ≤ 1000000) (h2 : R.boxes.length ≤ 1000000) (h3 : R.mats.length ≤ 1000000) : Fc Try.prog 12 [.agg (cRm R p).toArray] H (fun v H' => ∃ b1 k1 b2 k2 b3 k3, v = .agg (cRm R ⟨some ⟨b1, 0, none⟩, k1, some ⟨b2, 0, none⟩, k2, some ⟨b3, 0, none⟩, k3⟩).toArray ∧
    H' = ⟨b1, 0, R.ages.flatMap cSp, some 35, k1 * 2⟩ :: ⟨b2, 0, R.boxes.flatMap cBx, some 77, k2 * 2⟩ :: ⟨b3, 0, R.mats.flatMap cMt, some 75, k3 * 6⟩ :: H) := by
  refine Fc.mk (callable Try.call12) Try.func12 rfl Try.ntmps12 rfl ?_; dsimp only [fr]
  refine X.seq rfl ?_; refine X.region rfl (fun K hK => ?_); repeat' (first | (refine XO.op rfl ?_; (first | ((first | refine Xo.ng rfl ?_); (first | (refine Xg.st (StF.boxAgg rfl rfl) rfl rfl ?_; rintro _ _ ⟨bx, rfl, rfl⟩) | (refine Xg.st (StF.alloc rfl Try.zeroValue26 rfl) rfl rfl ?_; rintro _ _ ⟨bx, rfl, rfl⟩))))) | (refine XO.done rfl ?_; refine hK _ _ ?_; clear hK K))
  rename_i b1; rename Nat => b2
  refine X.seq rfl ?_
  refine X.regionOwn ts12 [1, 2] [(1, .pointer (some ⟨b1, 0, none⟩)), (2, .pointer (some ⟨b2, 0, none⟩))] (val12 b1 R p) (rows12 b2 R) (fun _ => (0, 0)) (⟨b1, 0, cRm R p, some 26, 5⟩ :: H) rfl mixed (by (repeat (first | exact Sub.nil _ | refine Sub.cons rfl ?_)); done) rfl ok12 (loc12 b1 b2 R p) (List.Sublist.refl _) ?_ ?_
  · have hs : ∀ {α : Type} {a : Option Addr} {enc : α → List Value} {sz : Nat} {l : List α} (S Z : List Row), (∀ r ∈ ⟨b1, 0, cRm R p, some 26, 5⟩ :: H, r ∈ S) → SlE H a enc sz l → SlE (Z ++ S) a enc sz l :=
      fun S Z hS h => h.sub (fun r hr => List.mem_append_right _ (hS r (List.mem_cons_of_mem _ hr)))
    refine AllF.step rfl (fun env S hS => by first | exact StF.pure (EvF.fieldAddr rfl rfl (te rfl) rfl (te rfl) (by decide)) rfl rfl | exact StF.pure (EvF.move rfl rfl) rfl rfl | exact StF.pure (EvF.assign rfl rfl) rfl rfl | exact StF.pure (EvF.loadV rfl rfl (LoadV.own (te rfl) rfl (hS _ (List.Mem.head _)) rfl)) rfl rfl | exact StF.pure (EvF.loadV rfl rfl (LoadV.own (te rfl) rfl (hS _ (List.Mem.tail _ (List.Mem.head _))) rfl)) rfl rfl | exact StF.pure (EvF.loadV rfl rfl (LoadV.own (te rfl) rfl (hS _ (List.Mem.tail _ (List.Mem.tail _ (List.Mem.head _)))) rfl)) rfl rfl | exact StF.pure (EvF.loadV rfl rfl (LoadV.whole (te rfl) rfl (hS _ (List.Mem.head _)) rfl)) rfl rfl | exact StF.pure (EvF.loadV rfl rfl (LoadV.whole (te rfl) rfl (hS _ (List.Mem.tail _ (List.Mem.head _))) rfl)) rfl rfl | exact StF.pure (EvF.loadV rfl rfl (LoadV.whole (te rfl) rfl (hS _ (List.Mem.tail _ (List.Mem.tail _ (List.Mem.head _)))) rfl)) rfl rfl | exact StF.pure (EvF.lenSlice rfl rfl (te rfl)) rfl rfl) ?_
    refine AllF.step rfl (fun env S hS => by first | exact StF.pure (EvF.fieldAddr rfl rfl (te rfl) rfl (te rfl) (by decide)) rfl rfl | exact StF.pure (EvF.move rfl rfl) rfl rfl | exact StF.pure (EvF.assign rfl rfl) rfl rfl | exact StF.pure (EvF.loadV rfl rfl (LoadV.own (te rfl) rfl (hS _ (List.Mem.head _)) rfl)) rfl rfl | exact StF.pure (EvF.loadV rfl rfl (LoadV.own (te rfl) rfl (hS _ (List.Mem.tail _ (List.Mem.head _))) rfl)) rfl rfl | exact StF.pure (EvF.loadV rfl rfl (LoadV.own (te rfl) rfl (hS _ (List.Mem.tail _ (List.Mem.tail _ (List.Mem.head _)))) rfl)) rfl rfl | exact StF.pure (EvF.loadV rfl rfl (LoadV.whole (te rfl) rfl (hS _ (List.Mem.head _)) rfl)) rfl rfl | exact StF.pure (EvF.loadV rfl rfl (LoadV.whole (te rfl) rfl (hS _ (List.Mem.tail _ (List.Mem.head _))) rfl)) rfl rfl | exact StF.pure (EvF.loadV rfl rfl (LoadV.whole (te rfl) rfl (hS _ (List.Mem.tail _ (List.Mem.tail _ (List.Mem.head _)))) rfl)) rfl rfl | exact StF.pure (EvF.lenSlice rfl rfl (te rfl)) rfl rfl) ?_
    refine AllF.step rfl (fun env S hS => by first | exact StF.pure (EvF.fieldAddr rfl rfl (te rfl) rfl (te rfl) (by decide)) rfl rfl | exact StF.pure (EvF.move rfl rfl) rfl rfl | exact StF.pure (EvF.assign rfl rfl) rfl rfl | exact StF.pure (EvF.loadV rfl rfl (LoadV.own (te rfl) rfl (hS _ (List.Mem.head _)) rfl)) rfl rfl | exact StF.pure (EvF.loadV rfl rfl (LoadV.own (te rfl) rfl (hS _ (List.Mem.tail _ (List.Mem.head _))) rfl)) rfl rfl | exact StF.pure (EvF.loadV rfl rfl (LoadV.own (te rfl) rfl (hS _ (List.Mem.tail _ (List.Mem.tail _ (List.Mem.head _)))) rfl)) rfl rfl | exact StF.pure (EvF.loadV rfl rfl (LoadV.whole (te rfl) rfl (hS _ (List.Mem.head _)) rfl)) rfl rfl | exact StF.pure (EvF.loadV rfl rfl (LoadV.whole (te rfl) rfl (hS _ (List.Mem.tail _ (List.Mem.head _))) rfl)) rfl rfl | exact StF.pure (EvF.loadV rfl rfl (LoadV.whole (te rfl) rfl (hS _ (List.Mem.tail _ (List.Mem.tail _ (List.Mem.head _)))) rfl)) rfl rfl | exact StF.pure (EvF.lenSlice rfl rfl (te rfl)) rfl rfl) ?_
    refine AllF.step rfl (fun env S hS => by first | exact StF.pure (EvF.fieldAddr rfl rfl (te rfl) rfl (te rfl) (by decide)) rfl rfl | exact StF.pure (EvF.move rfl rfl) rfl rfl | exact StF.pure (EvF.assign rfl rfl) rfl rfl | exact StF.pure (EvF.loadV rfl rfl (LoadV.own (te rfl) rfl (hS _ (List.Mem.head _)) rfl)) rfl rfl | exact StF.pure (EvF.loadV rfl rfl (LoadV.own (te rfl) rfl (hS _ (List.Mem.tail _ (List.Mem.head _))) rfl)) rfl rfl | exact StF.pure (EvF.loadV rfl rfl (LoadV.own (te rfl) rfl (hS _ (List.Mem.tail _ (List.Mem.tail _ (List.Mem.head _)))) rfl)) rfl rfl | exact StF.pure (EvF.loadV rfl rfl (LoadV.whole (te rfl) rfl (hS _ (List.Mem.head _)) rfl)) rfl rfl | exact StF.pure (EvF.loadV rfl rfl (LoadV.whole (te rfl) rfl (hS _ (List.Mem.tail _ (List.Mem.head _))) rfl)) rfl rfl | exact StF.pure (EvF.loadV rfl rfl (LoadV.whole (te rfl) rfl (hS _ (List.Mem.tail _ (List.Mem.tail _ (List.Mem.head _)))) rfl)) rfl rfl | exact StF.pure (EvF.lenSlice rfl rfl (te rfl)) rfl rfl) ?_
    refine AllF.step rfl (fun env S hS => (StF.buildNil rfl el22).mono (fun v H' ⟨b, hv, hH⟩ => ⟨(b, 0), fun _ => hv, by rw [hH]; exact List.Perm.refl _⟩)) ?_
    refine AllF.step rfl (fun env S hS => by first | exact StF.pure (EvF.fieldAddr rfl rfl (te rfl) rfl (te rfl) (by decide)) rfl rfl | exact StF.pure (EvF.move rfl rfl) rfl rfl | exact StF.pure (EvF.assign rfl rfl) rfl rfl | exact StF.pure (EvF.loadV rfl rfl (LoadV.own (te rfl) rfl (hS _ (List.Mem.head _)) rfl)) rfl rfl | exact StF.pure (EvF.loadV rfl rfl (LoadV.own (te rfl) rfl (hS _ (List.Mem.tail _ (List.Mem.head _))) rfl)) rfl rfl | exact StF.pure (EvF.loadV rfl rfl (LoadV.own (te rfl) rfl (hS _ (List.Mem.tail _ (List.Mem.tail _ (List.Mem.head _)))) rfl)) rfl rfl | exact StF.pure (EvF.loadV rfl rfl (LoadV.whole (te rfl) rfl (hS _ (List.Mem.head _)) rfl)) rfl rfl | exact StF.pure (EvF.loadV rfl rfl (LoadV.whole (te rfl) rfl (hS _ (List.Mem.tail _ (List.Mem.head _))) rfl)) rfl rfl | exact StF.pure (EvF.loadV rfl rfl (LoadV.whole (te rfl) rfl (hS _ (List.Mem.tail _ (List.Mem.tail _ (List.Mem.head _)))) rfl)) rfl rfl | exact StF.pure (EvF.lenSlice rfl rfl (te rfl)) rfl rfl) ?_
    refine AllF.step rfl (fun env S hS => by first | exact StF.pure (EvF.fieldAddr rfl rfl (te rfl) rfl (te rfl) (by decide)) rfl rfl | exact StF.pure (EvF.move rfl rfl) rfl rfl | exact StF.pure (EvF.assign rfl rfl) rfl rfl | exact StF.pure (EvF.loadV rfl rfl (LoadV.own (te rfl) rfl (hS _ (List.Mem.head _)) rfl)) rfl rfl | exact StF.pure (EvF.loadV rfl rfl (LoadV.own (te rfl) rfl (hS _ (List.Mem.tail _ (List.Mem.head _))) rfl)) rfl rfl | exact StF.pure (EvF.loadV rfl rfl (LoadV.own (te rfl) rfl (hS _ (List.Mem.tail _ (List.Mem.tail _ (List.Mem.head _)))) rfl)) rfl rfl | exact StF.pure (EvF.loadV rfl rfl (LoadV.whole (te rfl) rfl (hS _ (List.Mem.head _)) rfl)) rfl rfl | exact StF.pure (EvF.loadV rfl rfl (LoadV.whole (te rfl) rfl (hS _ (List.Mem.tail _ (List.Mem.head _))) rfl)) rfl rfl | exact StF.pure (EvF.loadV rfl rfl (LoadV.whole (te rfl) rfl (hS _ (List.Mem.tail _ (List.Mem.tail _ (List.Mem.head _)))) rfl)) rfl rfl | exact StF.pure (EvF.lenSlice rfl rfl (te rfl)) rfl rfl) ?_
    refine AllF.step rfl (fun env S hS => (StF.appendSl (i := 0) rfl el22 rfl rfl rfl (hs S _ hS hR.ages) (fun e _ => one_sp e) rfl (by decide) (by omega)).mono (fun v H' ⟨b, c, hv, hH⟩ => ⟨(b, c), fun _ => by rw [hv, Nat.zero_add]; rfl, by rw [hH]; exact List.Perm.refl _⟩)) ?_
    refine AllF.step rfl (fun env S hS => (StF.buildNil rfl el23).mono (fun v H' ⟨b, hv, hH⟩ => ⟨(b, 0), fun _ => hv, by rw [hH]; exact List.Perm.refl _⟩)) ?_
    refine AllF.step rfl (fun env S hS => by first | exact StF.pure (EvF.fieldAddr rfl rfl (te rfl) rfl (te rfl) (by decide)) rfl rfl | exact StF.pure (EvF.move rfl rfl) rfl rfl | exact StF.pure (EvF.assign rfl rfl) rfl rfl | exact StF.pure (EvF.loadV rfl rfl (LoadV.own (te rfl) rfl (hS _ (List.Mem.head _)) rfl)) rfl rfl | exact StF.pure (EvF.loadV rfl rfl (LoadV.own (te rfl) rfl (hS _ (List.Mem.tail _ (List.Mem.head _))) rfl)) rfl rfl | exact StF.pure (EvF.loadV rfl rfl (LoadV.own (te rfl) rfl (hS _ (List.Mem.tail _ (List.Mem.tail _ (List.Mem.head _)))) rfl)) rfl rfl | exact StF.pure (EvF.loadV rfl rfl (LoadV.whole (te rfl) rfl (hS _ (List.Mem.head _)) rfl)) rfl rfl | exact StF.pure (EvF.loadV rfl rfl (LoadV.whole (te rfl) rfl (hS _ (List.Mem.tail _ (List.Mem.head _))) rfl)) rfl rfl | exact StF.pure (EvF.loadV rfl rfl (LoadV.whole (te rfl) rfl (hS _ (List.Mem.tail _ (List.Mem.tail _ (List.Mem.head _)))) rfl)) rfl rfl | exact StF.pure (EvF.lenSlice rfl rfl (te rfl)) rfl rfl) ?_
    refine AllF.step rfl (fun env S hS => by first | exact StF.pure (EvF.fieldAddr rfl rfl (te rfl) rfl (te rfl) (by decide)) rfl rfl | exact StF.pure (EvF.move rfl rfl) rfl rfl | exact StF.pure (EvF.assign rfl rfl) rfl rfl | exact StF.pure (EvF.loadV rfl rfl (LoadV.own (te rfl) rfl (hS _ (List.Mem.head _)) rfl)) rfl rfl | exact StF.pure (EvF.loadV rfl rfl (LoadV.own (te rfl) rfl (hS _ (List.Mem.tail _ (List.Mem.head _))) rfl)) rfl rfl | exact StF.pure (EvF.loadV rfl rfl (LoadV.own (te rfl) rfl (hS _ (List.Mem.tail _ (List.Mem.tail _ (List.Mem.head _)))) rfl)) rfl rfl | exact StF.pure (EvF.loadV rfl rfl (LoadV.whole (te rfl) rfl (hS _ (List.Mem.head _)) rfl)) rfl rfl | exact StF.pure (EvF.loadV rfl rfl (LoadV.whole (te rfl) rfl (hS _ (List.Mem.tail _ (List.Mem.head _))) rfl)) rfl rfl | exact StF.pure (EvF.loadV rfl rfl (LoadV.whole (te rfl) rfl (hS _ (List.Mem.tail _ (List.Mem.tail _ (List.Mem.head _)))) rfl)) rfl rfl | exact StF.pure (EvF.lenSlice rfl rfl (te rfl)) rfl rfl) ?_
    refine AllF.step rfl (fun env S hS => (StF.appendSl (i := 0) rfl el23 rfl rfl rfl (hs S _ hS hR.boxes) (fun e _ => one_bx e) rfl (by decide) (by omega)).mono (fun v H' ⟨b, c, hv, hH⟩ => ⟨(b, c), fun _ => by rw [hv, Nat.zero_add]; rfl, by rw [hH]; exact List.Perm.refl _⟩)) ?_
    refine AllF.step rfl (fun env S hS => (StF.buildNil rfl el24).mono (fun v H' ⟨b, hv, hH⟩ => ⟨(b, 0), fun _ => hv, by rw [hH]; exact List.Perm.refl _⟩)) ?_
    refine AllF.step rfl (fun env S hS => by first | exact StF.pure (EvF.fieldAddr rfl rfl (te rfl) rfl (te rfl) (by decide)) rfl rfl | exact StF.pure (EvF.move rfl rfl) rfl rfl | exact StF.pure (EvF.assign rfl rfl) rfl rfl | exact StF.pure (EvF.loadV rfl rfl (LoadV.own (te rfl) rfl (hS _ (List.Mem.head _)) rfl)) rfl rfl | exact StF.pure (EvF.loadV rfl rfl (LoadV.own (te rfl) rfl (hS _ (List.Mem.tail _ (List.Mem.head _))) rfl)) rfl rfl | exact StF.pure (EvF.loadV rfl rfl (LoadV.own (te rfl) rfl (hS _ (List.Mem.tail _ (List.Mem.tail _ (List.Mem.head _)))) rfl)) rfl rfl | exact StF.pure (EvF.loadV rfl rfl (LoadV.whole (te rfl) rfl (hS _ (List.Mem.head _)) rfl)) rfl rfl | exact StF.pure (EvF.loadV rfl rfl (LoadV.whole (te rfl) rfl (hS _ (List.Mem.tail _ (List.Mem.head _))) rfl)) rfl rfl | exact StF.pure (EvF.loadV rfl rfl (LoadV.whole (te rfl) rfl (hS _ (List.Mem.tail _ (List.Mem.tail _ (List.Mem.head _)))) rfl)) rfl rfl | exact StF.pure (EvF.lenSlice rfl rfl (te rfl)) rfl rfl) ?_
    refine AllF.step rfl (fun env S hS => by first | exact StF.pure (EvF.fieldAddr rfl rfl (te rfl) rfl (te rfl) (by decide)) rfl rfl | exact StF.pure (EvF.move rfl rfl) rfl rfl | exact StF.pure (EvF.assign rfl rfl) rfl rfl | exact StF.pure (EvF.loadV rfl rfl (LoadV.own (te rfl) rfl (hS _ (List.Mem.head _)) rfl)) rfl rfl | exact StF.pure (EvF.loadV rfl rfl (LoadV.own (te rfl) rfl (hS _ (List.Mem.tail _ (List.Mem.head _))) rfl)) rfl rfl | exact StF.pure (EvF.loadV rfl rfl (LoadV.own (te rfl) rfl (hS _ (List.Mem.tail _ (List.Mem.tail _ (List.Mem.head _)))) rfl)) rfl rfl | exact StF.pure (EvF.loadV rfl rfl (LoadV.whole (te rfl) rfl (hS _ (List.Mem.head _)) rfl)) rfl rfl | exact StF.pure (EvF.loadV rfl rfl (LoadV.whole (te rfl) rfl (hS _ (List.Mem.tail _ (List.Mem.head _))) rfl)) rfl rfl | exact StF.pure (EvF.loadV rfl rfl (LoadV.whole (te rfl) rfl (hS _ (List.Mem.tail _ (List.Mem.tail _ (List.Mem.head _)))) rfl)) rfl rfl | exact StF.pure (EvF.lenSlice rfl rfl (te rfl)) rfl rfl) ?_
    refine AllF.step rfl (fun env S hS => (StF.appendSl (i := 0) rfl el24 rfl rfl rfl (hs S _ hS hR.mats) (fun e _ => one_mt e) rfl (by decide) (by omega)).mono (fun v H' ⟨b, c, hv, hH⟩ => ⟨(b, c), fun _ => by rw [hv, Nat.zero_add]; rfl, by rw [hH]; exact List.Perm.refl _⟩)) ?_
    refine AllF.step rfl (fun env S hS => StF.pure (EvF.build (cs := cRm R (pl12 (upd env 16 (0, 0)))) rfl (ArgsP.cons rfl (ArgsP.cons rfl (ArgsP.cons rfl (ArgsP.cons rfl (ArgsP.cons rfl ArgsP.nil))))) (te rfl) (Places.cons (te rfl) (Places.cons (te rfl) (Places.cons (te rfl) (Places.cons (te rfl) (Places.cons (te rfl) Places.nil))))) Try.zeroValue26 rfl) rfl rfl) ?_
    refine AllF.step rfl (fun env S hS => StF.mono (StF.storeAll (i := 0) (vs := cRm R (pl12 env)) (cs := [.int .i64 0, .int .i64 0, .slice none 0 0, .slice none 0 0, .slice none 0 0]) rfl rfl rfl (te rfl) rfl rfl rfl rfl) (fun v H' ⟨hv, hH⟩ => ⟨(0, 0), fun h => absurd rfl h, by rw [hH]; exact List.Perm.refl _⟩)) ?_
    exact AllF.done rfl
  · intro env t ha hv
    refine ⟨[(2, .pointer (some ⟨b2, 0, none⟩))], ha.sub (by (repeat (first | exact Sub.nil _ | refine Sub.cons rfl ?_)); done), ?_⟩
    repeat' (first | refine X.ret rfl ?_)
    refine ret_one (.inr rfl) Try.results12 ⟨_, rfl, LoadV.whole (te rfl) rfl (List.Mem.tail _ (List.Mem.tail _ (List.Mem.tail _ (List.Mem.head _)))) rfl⟩ (H' := ⟨(env 7).1, 0, R.ages.flatMap cSp, some 35, (env 7).2 * 2⟩ :: ⟨(env 11).1, 0, R.boxes.flatMap cBx, some 77, (env 11).2 * 2⟩ :: ⟨(env 15).1, 0, R.mats.flatMap cMt, some 75, (env 15).2 * 6⟩ :: H) ?_ ⟨_, _, _, _, _, _, rfl, rfl⟩
    exact List.Sublist.cons_cons _ (List.Sublist.cons_cons _ (List.Sublist.cons_cons _ (List.Sublist.cons _ (List.Sublist.cons _ (List.Sublist.refl _)))))
end Go.Proofs.Ytmljpmcipcoaaaa
