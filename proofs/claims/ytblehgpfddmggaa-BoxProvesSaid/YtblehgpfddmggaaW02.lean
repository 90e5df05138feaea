/- Own work: The reference: Twin copies a room.; The reference: Great.; The reference: has and SameInts.; Own work: structs that are compared. No condition.; Structs of this translation that are compared.; The reference: Same tells equal rooms.; The reference: without.; Own work: operations that are skipped since their guard was. No condition.; The reference: Strike.; The program: Rising and anyPoints.; Own work: regions that draw their order, with guards and calls. No condition.; Own work: copy, clear, append of a make, literals of two, slices held against nil. No condition.; The program: number, id, Within, anyMonth, IndexFunc.; The program: Index, Contains, ContainsFunc, closures, Clone.; contracts of functions, from rows of what is known of the memory; The program: Numbers. -/
import Derived.Test.YtblehgpfddmggaaW01
import Derived.Laws.StructEq
import Derived.Test.YtblehgpfddmggaaChecked
import Derived.Tactics2
import Derived.Lib.Overlaps
import Derived.Lib.AppendZerosOnto
section
set_option linter.unusedVariables false
set_option linter.unusedSimpArgs false
namespace Go.Proofs.Ytblehgpfddmggaa
open Go Go.Fw
set_option maxRecDepth 10000
def ts12 : List TOp := [⟨some 3, [], [], []⟩, ⟨some 4, [0], [0], []⟩, ⟨some 5, [], [], []⟩, ⟨some 6, [2], [2], []⟩, ⟨some 7, [], [], []⟩, ⟨some 8, [], [], []⟩, ⟨some 9, [5], [5], []⟩, ⟨some 10, [4, 5, 6], [4, 6], [4]⟩,
  ⟨some 11, [], [], []⟩, ⟨some 12, [], [], []⟩, ⟨some 13, [9], [9], []⟩, ⟨some 14, [8, 9, 10], [8, 10], [8]⟩, ⟨some 15, [], [], []⟩, ⟨some 16, [], [], []⟩, ⟨some 17, [13], [13], []⟩, ⟨some 18, [12, 13, 14], [12, 14], [12]⟩,
  ⟨some 19, [0, 1, 2, 3, 4, 5, 6, 7, 8, 9, 10, 11, 12, 13, 14, 15], [1, 3, 7, 11, 15], []⟩, ⟨none, [0, 1, 2, 3, 4, 5, 6, 7, 8, 9, 10, 11, 12, 13, 14, 15, 16], [16], [18]⟩, ⟨none, [], [], []⟩]
theorem ok12 : okReg (cops (cfst (csnd (cof Try.f15)))) ts12 [1, 2] 20 = true := by kernel_rfl
def pl12 (env : Env) : Pl := ⟨some ⟨(env 7).1, 0, none⟩, (env 7).2, some ⟨(env 11).1, 0, none⟩, (env 11).2, some ⟨(env 15).1, 0, none⟩, (env 15).2⟩
def val12 (bx : Nat) (R : Rm) (p : Pl) (k : Nat) (env : Env) : Value :=
  match k with
  | 0 => .pointer (some ⟨bx, 0, none⟩)
  | 1 => .int .i64 R.months
  | 2 => .pointer (some ⟨bx, 1, none⟩)
  | 3 => .int .i64 R.step
  | 4 => .slice (some ⟨(env 4).1, 0, none⟩) 0 0
  | 5 => .pointer (some ⟨bx, 2, none⟩)
  | 6 => .slice p.a1 R.ages.length p.c1
  | 7 => .slice (some ⟨(env 7).1, 0, none⟩) R.ages.length (env 7).2
  | 8 => .slice (some ⟨(env 8).1, 0, none⟩) 0 0
  | 9 => .pointer (some ⟨bx, 3, none⟩)
  | 10 => .slice p.a2 R.boxes.length p.c2
  | 11 => .slice (some ⟨(env 11).1, 0, none⟩) R.boxes.length (env 11).2
  | 12 => .slice (some ⟨(env 12).1, 0, none⟩) 0 0
  | 13 => .pointer (some ⟨bx, 4, none⟩)
  | 14 => .slice p.a3 R.mats.length p.c3
  | 15 => .slice (some ⟨(env 15).1, 0, none⟩) R.mats.length (env 15).2
  | 16 => .agg (cRm R (pl12 env)).toArray
  | _ => undef
def rows12 (b2 : Nat) (R : Rm) (k : Nat) (env : Env) : List Row :=
  match k with
  | 4 => [⟨(env 4).1, 0, [], some 35, 0⟩]
  | 7 => [⟨(env 7).1, 0, R.ages.flatMap cSp, some 35, (env 7).2 * 2⟩]
  | 8 => [⟨(env 8).1, 0, [], some 81, 0⟩]
  | 11 => [⟨(env 11).1, 0, R.boxes.flatMap cBx, some 81, (env 11).2 * 2⟩]
  | 12 => [⟨(env 12).1, 0, [], some 114, 0⟩]
  | 15 => [⟨(env 15).1, 0, R.mats.flatMap cMt, some 114, (env 15).2 * 6⟩]
  | 17 => [⟨b2, 0, cRm R (pl12 env), some 26, 5⟩]
  | 18 => [⟨b2, 0, [.int .i64 0, .int .i64 0, .slice none 0 0, .slice none 0 0, .slice none 0 0], some 26, 5⟩]
  | _ => []
theorem loc12 (bx b2 : Nat) (R : Rm) (p : Pl) : ∀ k env i q, i ≠ k → (tAt ts12 k).sup.contains i = false → val12 bx R p k (upd env i q) = val12 bx R p k env ∧ rows12 b2 R k (upd env i q) = rows12 b2 R k env := by
  intro k env i q hk hs
  have hu : ∀ j, j ≠ i → upd env i q j = env j := fun j hj => by unfold upd; rw [if_neg hj]
  by_cases h16 : k = 16 ∨ k = 17
  · have h1 : pl12 (upd env i q) = pl12 env := by
      unfold pl12
      rw [hu 7 (by rintro rfl; rcases h16 with rfl | rfl <;> cases hs), hu 11 (by rintro rfl; rcases h16 with rfl | rfl <;> cases hs), hu 15 (by rintro rfl; rcases h16 with rfl | rfl <;> cases hs)]
    rcases h16 with rfl | rfl <;> simp [val12, rows12, h1]
  · unfold val12 rows12
    have h2 := hu k (fun e => hk e.symm)
    constructor
    · split <;> first | rfl | (rw [h2]) | (exfalso; omega)
    · split <;> first | rfl | (rw [h2]) | (exfalso; omega)
theorem one_sp (e : Sp) : (cSp e).all (·.oneCell') = true := rfl
theorem one_bx (e : Bx) : (cBx e).all (·.oneCell') = true := rfl
theorem one_mt (e : Mt) : (cMt e).all (·.oneCell') = true := rfl
theorem twin_spec (R : Rm) (p : Pl) (H : List Row) (hR : RmOk H R p) (h1 : R.ages.length ≤ 1000000) (h2 : R.boxes.length ≤ 1000000) (h3 : R.mats.length ≤ 1000000) : Fc Try.prog 15 [.agg (cRm R p).toArray] H (fun v H' => ∃ b1 k1 b2 k2 b3 k3, v = .agg (cRm R ⟨some ⟨b1, 0, none⟩, k1, some ⟨b2, 0, none⟩, k2, some ⟨b3, 0, none⟩, k3⟩).toArray ∧
    H' = ⟨b1, 0, R.ages.flatMap cSp, some 35, k1 * 2⟩ :: ⟨b2, 0, R.boxes.flatMap cBx, some 81, k2 * 2⟩ :: ⟨b3, 0, R.mats.flatMap cMt, some 114, k3 * 6⟩ :: H) := by
  refine Fc.mk (callable Try.call15) Try.func15 rfl Try.ntmps15 rfl ?_; dsimp only [fr]
  refine X.seq rfl ?_; refine X.region rfl (fun K hK => ?_); repeat' (first | (refine XO.op rfl ?_; (first | ((first | refine Xo.ng rfl ?_); (first | (refine Xg.st (StF.boxAgg rfl rfl) rfl rfl ?_; rintro _ _ ⟨bx, rfl, rfl⟩) | (refine Xg.st (StF.alloc rfl Try.zeroValue26 rfl) rfl rfl ?_; rintro _ _ ⟨bx, rfl, rfl⟩))))) | (refine XO.done rfl ?_; refine hK _ _ ?_; clear hK K))
  rename_i b1; rename Nat => b2
  refine X.seq rfl ?_
  refine X.regionOwn ts12 [1, 2] [(1, .pointer (some ⟨b1, 0, none⟩)), (2, .pointer (some ⟨b2, 0, none⟩))] (val12 b1 R p) (rows12 b2 R) (fun _ => (0, 0)) (⟨b1, 0, cRm R p, some 26, 5⟩ :: H) rfl mixed (by (repeat (first | exact Sub.nil _ | refine Sub.cons rfl ?_)); done) rfl ok12 (loc12 b1 b2 R p) (List.Sublist.refl _) ?_ ?_
  · have hs : ∀ {α : Type} {a : Option Addr} {enc : α → List Value} {sz : Nat} {l : List α} (S Z : List Row), (∀ r ∈ ⟨b1, 0, cRm R p, some 26, 5⟩ :: H, r ∈ S) → SlE H a enc sz l → SlE (Z ++ S) a enc sz l :=
      fun S Z hS h => h.sub (fun r hr => List.mem_append_right _ (hS r (List.mem_cons_of_mem _ hr)))
    refine AllF.step rfl (fun env S hS => by first | exact StF.pure (EvF.fieldAddr rfl rfl (te rfl) rfl (te rfl) (by decide)) rfl rfl | exact StF.pure (EvF.move rfl rfl) rfl rfl | exact StF.pure (EvF.assign rfl rfl) rfl rfl | exact StF.pure (EvF.loadV rfl rfl (LoadV.own (te rfl) rfl (hS _ (List.Mem.head _)) rfl)) rfl rfl | exact StF.pure (EvF.loadV rfl rfl (LoadV.own (te rfl) rfl (hS _ (List.Mem.tail _ (List.Mem.head _))) rfl)) rfl rfl | exact StF.pure (EvF.loadV rfl rfl (LoadV.own (te rfl) rfl (hS _ (List.Mem.tail _ (List.Mem.tail _ (List.Mem.head _)))) rfl)) rfl rfl | exact StF.pure (EvF.loadV rfl rfl (LoadV.whole (te rfl) rfl (hS _ (List.Mem.head _)) rfl)) rfl rfl | exact StF.pure (EvF.loadV rfl rfl (LoadV.whole (te rfl) rfl (hS _ (List.Mem.tail _ (List.Mem.head _))) rfl)) rfl rfl | exact StF.pure (EvF.loadV rfl rfl (LoadV.whole (te rfl) rfl (hS _ (List.Mem.tail _ (List.Mem.tail _ (List.Mem.head _)))) rfl)) rfl rfl | exact StF.pure (EvF.lenSlice rfl rfl (te rfl)) rfl rfl) ?_
    refine AllF.step rfl (fun env S hS => by first | exact StF.pure (EvF.fieldAddr rfl rfl (te rfl) rfl (te rfl) (by decide)) rfl rfl | exact StF.pure (EvF.move rfl rfl) rfl rfl | exact StF.pure (EvF.assign rfl rfl) rfl rfl | exact StF.pure (EvF.loadV rfl rfl (LoadV.own (te rfl) rfl (hS _ (List.Mem.head _)) rfl)) rfl rfl | exact StF.pure (EvF.loadV rfl rfl (LoadV.own (te rfl) rfl (hS _ (List.Mem.tail _ (List.Mem.head _))) rfl)) rfl rfl | exact StF.pure (EvF.loadV rfl rfl (LoadV.own (te rfl) rfl (hS _ (List.Mem.tail _ (List.Mem.tail _ (List.Mem.head _)))) rfl)) rfl rfl | exact StF.pure (EvF.loadV rfl rfl (LoadV.whole (te rfl) rfl (hS _ (List.Mem.head _)) rfl)) rfl rfl | exact StF.pure (EvF.loadV rfl rfl (LoadV.whole (te rfl) rfl (hS _ (List.Mem.tail _ (List.Mem.head _))) rfl)) rfl rfl | exact StF.pure (EvF.loadV rfl rfl (LoadV.whole (te rfl) rfl (hS _ (List.Mem.tail _ (List.Mem.tail _ (List.Mem.head _)))) rfl)) rfl rfl | exact StF.pure (EvF.lenSlice rfl rfl (te rfl)) rfl rfl) ?_
    refine AllF.step rfl (fun env S hS => by first | exact StF.pure (EvF.fieldAddr rfl rfl (te rfl) rfl (te rfl) (by decide)) rfl rfl | exact StF.pure (EvF.move rfl rfl) rfl rfl | exact StF.pure (EvF.assign rfl rfl) rfl rfl | exact StF.pure (EvF.loadV rfl rfl (LoadV.own (te rfl) rfl (hS _ (List.Mem.head _)) rfl)) rfl rfl | exact StF.pure (EvF.loadV rfl rfl (LoadV.own (te rfl) rfl (hS _ (List.Mem.tail _ (List.Mem.head _))) rfl)) rfl rfl | exact StF.pure (EvF.loadV rfl rfl (LoadV.own (te rfl) rfl (hS _ (List.Mem.tail _ (List.Mem.tail _ (List.Mem.head _)))) rfl)) rfl rfl | exact StF.pure (EvF.loadV rfl rfl (LoadV.whole (te rfl) rfl (hS _ (List.Mem.head _)) rfl)) rfl rfl | exact StF.pure (EvF.loadV rfl rfl (LoadV.whole (te rfl) rfl (hS _ (List.Mem.tail _ (List.Mem.head _))) rfl)) rfl rfl | exact StF.pure (EvF.loadV rfl rfl (LoadV.whole (te rfl) rfl (hS _ (List.Mem.tail _ (List.Mem.tail _ (List.Mem.head _)))) rfl)) rfl rfl | exact StF.pure (EvF.lenSlice rfl rfl (te rfl)) rfl rfl) ?_
    refine AllF.step rfl (fun env S hS => by first | exact StF.pure (EvF.fieldAddr rfl rfl (te rfl) rfl (te rfl) (by decide)) rfl rfl | exact StF.pure (EvF.move rfl rfl) rfl rfl | exact StF.pure (EvF.assign rfl rfl) rfl rfl | exact StF.pure (EvF.loadV rfl rfl (LoadV.own (te rfl) rfl (hS _ (List.Mem.head _)) rfl)) rfl rfl | exact StF.pure (EvF.loadV rfl rfl (LoadV.own (te rfl) rfl (hS _ (List.Mem.tail _ (List.Mem.head _))) rfl)) rfl rfl | exact StF.pure (EvF.loadV rfl rfl (LoadV.own (te rfl) rfl (hS _ (List.Mem.tail _ (List.Mem.tail _ (List.Mem.head _)))) rfl)) rfl rfl | exact StF.pure (EvF.loadV rfl rfl (LoadV.whole (te rfl) rfl (hS _ (List.Mem.head _)) rfl)) rfl rfl | exact StF.pure (EvF.loadV rfl rfl (LoadV.whole (te rfl) rfl (hS _ (List.Mem.tail _ (List.Mem.head _))) rfl)) rfl rfl | exact StF.pure (EvF.loadV rfl rfl (LoadV.whole (te rfl) rfl (hS _ (List.Mem.tail _ (List.Mem.tail _ (List.Mem.head _)))) rfl)) rfl rfl | exact StF.pure (EvF.lenSlice rfl rfl (te rfl)) rfl rfl) ?_
    refine AllF.step rfl (fun env S hS => (StF.buildNil rfl el22).mono (fun v H' ⟨b, hv, hH⟩ => ⟨(b, 0), fun _ => hv, by rw [hH]; exact List.Perm.refl _⟩)) ?_
    refine AllF.step rfl (fun env S hS => by first | exact StF.pure (EvF.fieldAddr rfl rfl (te rfl) rfl (te rfl) (by decide)) rfl rfl | exact StF.pure (EvF.move rfl rfl) rfl rfl | exact StF.pure (EvF.assign rfl rfl) rfl rfl | exact StF.pure (EvF.loadV rfl rfl (LoadV.own (te rfl) rfl (hS _ (List.Mem.head _)) rfl)) rfl rfl | exact StF.pure (EvF.loadV rfl rfl (LoadV.own (te rfl) rfl (hS _ (List.Mem.tail _ (List.Mem.head _))) rfl)) rfl rfl | exact StF.pure (EvF.loadV rfl rfl (LoadV.own (te rfl) rfl (hS _ (List.Mem.tail _ (List.Mem.tail _ (List.Mem.head _)))) rfl)) rfl rfl | exact StF.pure (EvF.loadV rfl rfl (LoadV.whole (te rfl) rfl (hS _ (List.Mem.head _)) rfl)) rfl rfl | exact StF.pure (EvF.loadV rfl rfl (LoadV.whole (te rfl) rfl (hS _ (List.Mem.tail _ (List.Mem.head _))) rfl)) rfl rfl | exact StF.pure (EvF.loadV rfl rfl (LoadV.whole (te rfl) rfl (hS _ (List.Mem.tail _ (List.Mem.tail _ (List.Mem.head _)))) rfl)) rfl rfl | exact StF.pure (EvF.lenSlice rfl rfl (te rfl)) rfl rfl) ?_
    refine AllF.step rfl (fun env S hS => by first | exact StF.pure (EvF.fieldAddr rfl rfl (te rfl) rfl (te rfl) (by decide)) rfl rfl | exact StF.pure (EvF.move rfl rfl) rfl rfl | exact StF.pure (EvF.assign rfl rfl) rfl rfl | exact StF.pure (EvF.loadV rfl rfl (LoadV.own (te rfl) rfl (hS _ (List.Mem.head _)) rfl)) rfl rfl | exact StF.pure (EvF.loadV rfl rfl (LoadV.own (te rfl) rfl (hS _ (List.Mem.tail _ (List.Mem.head _))) rfl)) rfl rfl | exact StF.pure (EvF.loadV rfl rfl (LoadV.own (te rfl) rfl (hS _ (List.Mem.tail _ (List.Mem.tail _ (List.Mem.head _)))) rfl)) rfl rfl | exact StF.pure (EvF.loadV rfl rfl (LoadV.whole (te rfl) rfl (hS _ (List.Mem.head _)) rfl)) rfl rfl | exact StF.pure (EvF.loadV rfl rfl (LoadV.whole (te rfl) rfl (hS _ (List.Mem.tail _ (List.Mem.head _))) rfl)) rfl rfl | exact StF.pure (EvF.loadV rfl rfl (LoadV.whole (te rfl) rfl (hS _ (List.Mem.tail _ (List.Mem.tail _ (List.Mem.head _)))) rfl)) rfl rfl | exact StF.pure (EvF.lenSlice rfl rfl (te rfl)) rfl rfl) ?_
    refine AllF.step rfl (fun env S hS => (StF.appendSl (i := 0) rfl el22 rfl rfl rfl (hs S _ hS hR.ages) (fun e _ => one_sp e) rfl (by decide) (by omega)).mono (fun v H' ⟨b, c, hv, hH⟩ => ⟨(b, c), fun _ => by rw [hv, Nat.zero_add]; rfl, by rw [hH]; exact List.Perm.refl _⟩)) ?_
    refine AllF.step rfl (fun env S hS => (StF.buildNil rfl el23).mono (fun v H' ⟨b, hv, hH⟩ => ⟨(b, 0), fun _ => hv, by rw [hH]; exact List.Perm.refl _⟩)) ?_
    refine AllF.step rfl (fun env S hS => by first | exact StF.pure (EvF.fieldAddr rfl rfl (te rfl) rfl (te rfl) (by decide)) rfl rfl | exact StF.pure (EvF.move rfl rfl) rfl rfl | exact StF.pure (EvF.assign rfl rfl) rfl rfl | exact StF.pure (EvF.loadV rfl rfl (LoadV.own (te rfl) rfl (hS _ (List.Mem.head _)) rfl)) rfl rfl | exact StF.pure (EvF.loadV rfl rfl (LoadV.own (te rfl) rfl (hS _ (List.Mem.tail _ (List.Mem.head _))) rfl)) rfl rfl | exact StF.pure (EvF.loadV rfl rfl (LoadV.own (te rfl) rfl (hS _ (List.Mem.tail _ (List.Mem.tail _ (List.Mem.head _)))) rfl)) rfl rfl | exact StF.pure (EvF.loadV rfl rfl (LoadV.whole (te rfl) rfl (hS _ (List.Mem.head _)) rfl)) rfl rfl | exact StF.pure (EvF.loadV rfl rfl (LoadV.whole (te rfl) rfl (hS _ (List.Mem.tail _ (List.Mem.head _))) rfl)) rfl rfl | exact StF.pure (EvF.loadV rfl rfl (LoadV.whole (te rfl) rfl (hS _ (List.Mem.tail _ (List.Mem.tail _ (List.Mem.head _)))) rfl)) rfl rfl | exact StF.pure (EvF.lenSlice rfl rfl (te rfl)) rfl rfl) ?_
    refine AllF.step rfl (fun env S hS => by first | exact StF.pure (EvF.fieldAddr rfl rfl (te rfl) rfl (te rfl) (by decide)) rfl rfl | exact StF.pure (EvF.move rfl rfl) rfl rfl | exact StF.pure (EvF.assign rfl rfl) rfl rfl | exact StF.pure (EvF.loadV rfl rfl (LoadV.own (te rfl) rfl (hS _ (List.Mem.head _)) rfl)) rfl rfl | exact StF.pure (EvF.loadV rfl rfl (LoadV.own (te rfl) rfl (hS _ (List.Mem.tail _ (List.Mem.head _))) rfl)) rfl rfl | exact StF.pure (EvF.loadV rfl rfl (LoadV.own (te rfl) rfl (hS _ (List.Mem.tail _ (List.Mem.tail _ (List.Mem.head _)))) rfl)) rfl rfl | exact StF.pure (EvF.loadV rfl rfl (LoadV.whole (te rfl) rfl (hS _ (List.Mem.head _)) rfl)) rfl rfl | exact StF.pure (EvF.loadV rfl rfl (LoadV.whole (te rfl) rfl (hS _ (List.Mem.tail _ (List.Mem.head _))) rfl)) rfl rfl | exact StF.pure (EvF.loadV rfl rfl (LoadV.whole (te rfl) rfl (hS _ (List.Mem.tail _ (List.Mem.tail _ (List.Mem.head _)))) rfl)) rfl rfl | exact StF.pure (EvF.lenSlice rfl rfl (te rfl)) rfl rfl) ?_
    refine AllF.step rfl (fun env S hS => (StF.appendSl (i := 0) rfl el23 rfl rfl rfl (hs S _ hS hR.boxes) (fun e _ => one_bx e) rfl (by decide) (by omega)).mono (fun v H' ⟨b, c, hv, hH⟩ => ⟨(b, c), fun _ => by rw [hv, Nat.zero_add]; rfl, by rw [hH]; exact List.Perm.refl _⟩)) ?_
    refine AllF.step rfl (fun env S hS => (StF.buildNil rfl el24).mono (fun v H' ⟨b, hv, hH⟩ => ⟨(b, 0), fun _ => hv, by rw [hH]; exact List.Perm.refl _⟩)) ?_
    refine AllF.step rfl (fun env S hS => by first | exact StF.pure (EvF.fieldAddr rfl rfl (te rfl) rfl (te rfl) (by decide)) rfl rfl | exact StF.pure (EvF.move rfl rfl) rfl rfl | exact StF.pure (EvF.assign rfl rfl) rfl rfl | exact StF.pure (EvF.loadV rfl rfl (LoadV.own (te rfl) rfl (hS _ (List.Mem.head _)) rfl)) rfl rfl | exact StF.pure (EvF.loadV rfl rfl (LoadV.own (te rfl) rfl (hS _ (List.Mem.tail _ (List.Mem.head _))) rfl)) rfl rfl | exact StF.pure (EvF.loadV rfl rfl (LoadV.own (te rfl) rfl (hS _ (List.Mem.tail _ (List.Mem.tail _ (List.Mem.head _)))) rfl)) rfl rfl | exact StF.pure (EvF.loadV rfl rfl (LoadV.whole (te rfl) rfl (hS _ (List.Mem.head _)) rfl)) rfl rfl | exact StF.pure (EvF.loadV rfl rfl (LoadV.whole (te rfl) rfl (hS _ (List.Mem.tail _ (List.Mem.head _))) rfl)) rfl rfl | exact StF.pure (EvF.loadV rfl rfl (LoadV.whole (te rfl) rfl (hS _ (List.Mem.tail _ (List.Mem.tail _ (List.Mem.head _)))) rfl)) rfl rfl | exact StF.pure (EvF.lenSlice rfl rfl (te rfl)) rfl rfl) ?_
    refine AllF.step rfl (fun env S hS => by first | exact StF.pure (EvF.fieldAddr rfl rfl (te rfl) rfl (te rfl) (by decide)) rfl rfl | exact StF.pure (EvF.move rfl rfl) rfl rfl | exact StF.pure (EvF.assign rfl rfl) rfl rfl | exact StF.pure (EvF.loadV rfl rfl (LoadV.own (te rfl) rfl (hS _ (List.Mem.head _)) rfl)) rfl rfl | exact StF.pure (EvF.loadV rfl rfl (LoadV.own (te rfl) rfl (hS _ (List.Mem.tail _ (List.Mem.head _))) rfl)) rfl rfl | exact StF.pure (EvF.loadV rfl rfl (LoadV.own (te rfl) rfl (hS _ (List.Mem.tail _ (List.Mem.tail _ (List.Mem.head _)))) rfl)) rfl rfl | exact StF.pure (EvF.loadV rfl rfl (LoadV.whole (te rfl) rfl (hS _ (List.Mem.head _)) rfl)) rfl rfl | exact StF.pure (EvF.loadV rfl rfl (LoadV.whole (te rfl) rfl (hS _ (List.Mem.tail _ (List.Mem.head _))) rfl)) rfl rfl | exact StF.pure (EvF.loadV rfl rfl (LoadV.whole (te rfl) rfl (hS _ (List.Mem.tail _ (List.Mem.tail _ (List.Mem.head _)))) rfl)) rfl rfl | exact StF.pure (EvF.lenSlice rfl rfl (te rfl)) rfl rfl) ?_
    refine AllF.step rfl (fun env S hS => (StF.appendSl (i := 0) rfl el24 rfl rfl rfl (hs S _ hS hR.mats) (fun e _ => one_mt e) rfl (by decide) (by omega)).mono (fun v H' ⟨b, c, hv, hH⟩ => ⟨(b, c), fun _ => by rw [hv, Nat.zero_add]; rfl, by rw [hH]; exact List.Perm.refl _⟩)) ?_
    refine AllF.step rfl (fun env S hS => StF.pure (EvF.build (cs := cRm R (pl12 (upd env 16 (0, 0)))) rfl (ArgsP.cons rfl (ArgsP.cons rfl (ArgsP.cons rfl (ArgsP.cons rfl (ArgsP.cons rfl ArgsP.nil))))) (te rfl) (Places.cons (te rfl) (Places.cons (te rfl) (Places.cons (te rfl) (Places.cons (te rfl) (Places.cons (te rfl) Places.nil))))) Try.zeroValue26 rfl) rfl rfl) ?_
    refine AllF.step rfl (fun env S hS => StF.mono (StF.storeAll (i := 0) (vs := cRm R (pl12 env)) (cs := [.int .i64 0, .int .i64 0, .slice none 0 0, .slice none 0 0, .slice none 0 0]) rfl rfl rfl (te rfl) rfl rfl rfl rfl) (fun v H' ⟨hv, hH⟩ => ⟨(0, 0), fun h => absurd rfl h, by rw [hH]; exact List.Perm.refl _⟩)) ?_
    exact AllF.done rfl
  · intro env t ha hv
    refine ⟨[(2, .pointer (some ⟨b2, 0, none⟩))], ha.sub (by (repeat (first | exact Sub.nil _ | refine Sub.cons rfl ?_)); done), ?_⟩
    repeat' (first | refine X.ret rfl ?_)
    refine ret_one (.inr rfl) Try.results15 ⟨_, rfl, LoadV.whole (te rfl) rfl (List.Mem.tail _ (List.Mem.tail _ (List.Mem.tail _ (List.Mem.head _)))) rfl⟩ (H' := ⟨(env 7).1, 0, R.ages.flatMap cSp, some 35, (env 7).2 * 2⟩ :: ⟨(env 11).1, 0, R.boxes.flatMap cBx, some 81, (env 11).2 * 2⟩ :: ⟨(env 15).1, 0, R.mats.flatMap cMt, some 114, (env 15).2 * 6⟩ :: H) ?_ ⟨_, _, _, _, _, _, rfl, rfl⟩
    exact List.Sublist.cons_cons _ (List.Sublist.cons_cons _ (List.Sublist.cons_cons _ (List.Sublist.cons _ (List.Sublist.cons _ (List.Sublist.refl _)))))
end Go.Proofs.Ytblehgpfddmggaa
end
section
set_option linter.unusedVariables false
set_option linter.unusedSimpArgs false
namespace Go.Proofs.Ytblehgpfddmggaa
open Go Go.Fw
set_option maxRecDepth 10000
def great (R : Rm) : Prop := R.ages.length > 20 ∨ R.boxes.length > 8 ∨ R.mats.length > 16
instance (R : Rm) : Decidable (great R) := by unfold great; infer_instance
theorem great_spec (R : Rm) (p : Pl) (H : List Row) : Fc Try.prog 14 [.agg (cRm R p).toArray] H (fun v H' => v = .bool (decide (great R)) ∧ H' = H) := by
  obtain ⟨a1, c1, a2, c2, a3, c3⟩ := p
  refine Fc.mk (callable Try.call14) Try.func14 rfl Try.ntmps14 rfl ?_; dsimp only [fr]
  repeat' (first | (refine XO.op rfl ?_; (first | ((first | refine Xo.ng rfl ?_ | (refine Xo.g rfl rfl ?_; with_reducible refine Xw.ff ?_)); (first | (refine Xg.ev (EvF.move rfl rfl) rfl rfl ?_) | (refine Xg.ev (EvF.assign rfl rfl) rfl rfl ?_) | (refine Xg.ev (EvF.pickT rfl rfl rfl) rfl rfl ?_) | (refine Xg.ev (EvF.pickF rfl rfl rfl) rfl rfl ?_) | (refine Xg.ev (EvF.cmp rfl rfl rfl rfl) rfl rfl ?_) | (refine Xg.ev (EvF.fieldAddr rfl rfl (te rfl) rfl (te rfl) (by decide)) rfl rfl ?_) | (refine Xg.ev (EvF.lenSlice rfl rfl (te rfl)) rfl rfl ?_) | (refine Xg.ev (EvF.loadV rfl rfl (LoadV.own (te rfl) rfl (List.Mem.head _) rfl)) rfl rfl ?_) | (refine Xg.st (StF.boxAgg rfl rfl) rfl rfl ?_; rintro _ _ ⟨bx, rfl, rfl⟩))) | (refine Xo.g rfl rfl ?_; (first | (with_reducible refine Xw.tf rfl rfl ?_) | (with_reducible refine Xw.case (fun h => ?_) (fun h => ?_) <;> simp only [h, decide_true, decide_false, Bool.not_true, Bool.not_false, and_self, and_true, true_and, and_false, false_and]))))) | (refine XO.done rfl ?_; refine hK _ _ ?_; clear hK K) | refine X.seq rfl ?_ | refine X.region rfl (fun K hK => ?_) | refine X.block rfl ?_ | (refine X.brk rfl ?_; repeat (first | refine blockX_hit rfl ?_ | refine blockX_miss (by decide) ?_)) | refine X.skip rfl ?_ | refine X.ret rfl ?_ | (refine X.ite rfl rfl (fun hc => ?_); (first | (with_reducible refine Xb.case hc (fun h => ?_) (fun h => ?_))) <;> clear hc))
  all_goals (refine ret_one (by first | exact .inr rfl | exact .inl rfl) Try.results14 rfl (H' := H) (by (repeat (first | exact List.Sublist.refl _ | apply List.Sublist.cons)); done) ?_; simp only [and_true, true_and])
  all_goals (congr 1; symm; unfold great)
  all_goals first | exact decide_eq_true (by omega) | exact decide_eq_false (by omega) | exact decide_eq_decide.2 (by omega)

def cI (x : Int) : List Value := [.int .i64 x]
theorem has_spec (l : List Int) (a : Option Addr) (c : Nat) (x : Int) (H : List Row) (hl : SlE H a cI 1 l) (hb : l.length ≤ 9223372036854775807) : Fc Try.prog 126 [.slice a l.length c, .int .i64 x] H (fun v H' => v = .bool (decide (x ∈ l)) ∧ H' = H) := by
  refine Fc.mk (callable Try.call126) Try.func126 rfl Try.ntmps126 rfl ?_; dsimp only [fr]
  repeat' (first | (refine XO.op rfl ?_; (first | ((first | refine Xo.ng rfl ?_ | (refine Xo.g rfl rfl ?_; with_reducible refine Xw.ff ?_)); (first | (refine Xg.ev (EvF.move rfl rfl) rfl rfl ?_) | (refine Xg.ev (EvF.assign rfl rfl) rfl rfl ?_) | (refine Xg.ev (EvF.pickT rfl rfl rfl) rfl rfl ?_) | (refine Xg.ev (EvF.pickF rfl rfl rfl) rfl rfl ?_) | (refine Xg.ev (EvF.cmp rfl rfl rfl rfl) rfl rfl ?_) | (refine Xg.ev (EvF.fieldAddr rfl rfl (te rfl) rfl (te rfl) (by decide)) rfl rfl ?_) | (refine Xg.ev (EvF.lenSlice rfl rfl (te rfl)) rfl rfl ?_) | (refine Xg.ev (EvF.loadV rfl rfl (LoadV.own (te rfl) rfl (List.Mem.head _) rfl)) rfl rfl ?_) | (refine Xg.st (StF.boxAgg rfl rfl) rfl rfl ?_; rintro _ _ ⟨bx, rfl, rfl⟩))) | (refine Xo.g rfl rfl ?_; (first | (with_reducible refine Xw.tf rfl rfl ?_) | (with_reducible refine Xw.case (fun h => ?_) (fun h => ?_) <;> simp only [h, decide_true, decide_false, Bool.not_true, Bool.not_false, and_self, and_true, true_and, and_false, false_and]))))) | (refine XO.done rfl ?_; refine hK _ _ ?_; clear hK K) | refine X.seq rfl ?_ | refine X.region rfl (fun K hK => ?_) | refine X.block rfl ?_ | (refine X.brk rfl ?_; repeat (first | refine blockX_hit rfl ?_ | refine blockX_miss (by decide) ?_)) | refine X.skip rfl ?_ | refine X.ret rfl ?_ | (refine X.ite rfl rfl (fun hc => ?_); (first | (with_reducible refine Xb.case hc (fun h => ?_) (fun h => ?_))) <;> clear hc))
  refine X.lp rfl (fun m F' H' => ∃ k : Nat, m = l.length - k ∧ k ≤ l.length ∧ (x ∈ l ↔ x ∈ l.drop k) ∧ H = H' ∧ F' = [(1, .int .i64 x), (7, .slice a l.length c), (8, .int .i64 l.length), (9, .int .i64 k)])
    l.length [(1, .int .i64 x), (7, .slice a l.length c), (8, .int .i64 l.length), (9, .int .i64 (0 : Nat))] _ (by (repeat (first | exact Sub.nil _ | refine Sub.cons rfl ?_)); done) (List.Sublist.refl _) ⟨0, by omega, by omega, by simp, rfl, rfl⟩ ?_
  rintro _ _ _ ⟨k, rfl, hk, hn, rfl, rfl⟩
  repeat' (first | (refine XO.op rfl ?_; (first | ((first | refine Xo.ng rfl ?_ | (refine Xo.g rfl rfl ?_; with_reducible refine Xw.ff ?_)); (first | (refine Xg.ev (EvF.move rfl rfl) rfl rfl ?_) | (refine Xg.ev (EvF.assign rfl rfl) rfl rfl ?_) | (refine Xg.ev (EvF.pickT rfl rfl rfl) rfl rfl ?_) | (refine Xg.ev (EvF.pickF rfl rfl rfl) rfl rfl ?_) | (refine Xg.ev (EvF.cmp rfl rfl rfl rfl) rfl rfl ?_) | (refine Xg.ev (EvF.fieldAddr rfl rfl (te rfl) rfl (te rfl) (by decide)) rfl rfl ?_) | (refine Xg.ev (EvF.lenSlice rfl rfl (te rfl)) rfl rfl ?_) | (refine Xg.ev (EvF.loadV rfl rfl (LoadV.own (te rfl) rfl (List.Mem.head _) rfl)) rfl rfl ?_) | (refine Xg.st (StF.boxAgg rfl rfl) rfl rfl ?_; rintro _ _ ⟨bx, rfl, rfl⟩))) | (refine Xo.g rfl rfl ?_; (first | (with_reducible refine Xw.tf rfl rfl ?_) | (with_reducible refine Xw.case (fun h => ?_) (fun h => ?_) <;> simp only [h, decide_true, decide_false, Bool.not_true, Bool.not_false, and_self, and_true, true_and, and_false, false_and]))))) | (refine XO.done rfl ?_; refine hK _ _ ?_; clear hK K) | refine X.seq rfl ?_ | refine X.region rfl (fun K hK => ?_) | refine X.block rfl ?_ | (refine X.brk rfl ?_; repeat (first | refine blockX_hit rfl ?_ | refine blockX_miss (by decide) ?_)) | refine X.skip rfl ?_ | refine X.ret rfl ?_ | (refine X.ite rfl rfl (fun hc => ?_); (first | (with_reducible refine Xb.case hc (fun h => ?_) (fun h => ?_))) <;> clear hc))
  · obtain ⟨b, off, e, rfl, he⟩ := hl.elem (i := k) (by omega)
    rw [drop_cons he, List.mem_cons] at hn
    repeat' (first | (refine XO.op rfl ?_; (first | ((first | refine Xo.ng rfl ?_); (first | (refine Xg.ev (EvF.loadV rfl rfl (LoadV.el0 hl he (te rfl) rfl (fun _ hm => hm) rfl)) rfl rfl ?_) | (refine Xg.ev (EvF.move rfl rfl) rfl rfl ?_) | (refine Xg.ev (EvF.assign rfl rfl) rfl rfl ?_) | (refine Xg.ev (EvF.cmp rfl rfl rfl rfl) rfl rfl ?_) | (refine Xg.ev (EvF.add64 rfl rfl rfl (by omega) (by omega)) rfl rfl ?_) | (refine Xg.ev (EvF.indexSlice rfl rfl rfl (te rfl) (te rfl) (by omega) (by omega)) rfl rfl ?_))))) | (refine XO.done rfl ?_; refine hK _ _ ?_; clear hK K) | refine X.seq rfl ?_ | refine X.region rfl (fun K hK => ?_) | refine X.skip rfl ?_ | refine X.ret rfl ?_ | (refine X.ite rfl rfl (fun hc => ?_); (first | (with_reducible refine Xb.case hc (fun h => ?_) (fun h => ?_))) <;> clear hc))
    · refine ret_one (by first | exact .inr rfl | exact .inl rfl) Try.results126 rfl (H' := H) (by (repeat (first | exact List.Sublist.refl _ | apply List.Sublist.cons)); done) ?_; simp only [and_true, true_and]
      congr 1; symm; exact decide_eq_true (hn.2 (.inl (by omega)))
    · refine ⟨_, _, _, (by (repeat (first | exact Sub.nil _ | refine Sub.cons rfl ?_)); done), (by (repeat (first | exact List.Sublist.refl _ | apply List.Sublist.cons)); done), ⟨k + 1, rfl, by omega, hn.trans ⟨fun h => h.resolve_left (by omega), .inr⟩, rfl, rfl⟩, by omega⟩
  · refine ret_one (by first | exact .inr rfl | exact .inl rfl) Try.results126 rfl (H' := H) (by (repeat (first | exact List.Sublist.refl _ | apply List.Sublist.cons)); done) ?_; simp only [and_true, true_and]
    congr 1; symm; refine decide_eq_false (fun h => ?_)
    have := hn.1 h
    rw [List.drop_eq_nil_of_le (by omega)] at this; cases this
end Go.Proofs.Ytblehgpfddmggaa
end
section
set_option linter.unusedVariables false
set_option linter.unusedSimpArgs false
namespace Go.Proofs.Ytblehgpfddmggaa
open Go Go.Fw
set_option maxRecDepth 10000
/-- two lists of numbers are compared -/
theorem sameInts_spec (l m : List Int) (a a' : Option Addr) (c c' : Nat) (H : List Row) (hl : SlE H a cI 1 l) (hm : SlE H a' cI 1 m) (hb : l.length ≤ 9223372036854775807) : Fc Try.prog 39 [.slice a l.length c, .slice a' m.length c'] H (fun v H' => v = .bool (decide (l = m)) ∧ H' = H) := by
  refine Fc.mk (callable Try.call39) Try.func39 rfl Try.ntmps39 rfl ?_; dsimp only [fr]
  repeat' (first | (refine XO.op rfl ?_; (first | ((first | refine Xo.ng rfl ?_); (first | (refine Xg.ev (EvF.move rfl rfl) rfl rfl ?_) | (refine Xg.ev (EvF.assign rfl rfl) rfl rfl ?_) | (refine Xg.ev (EvF.cmp rfl rfl rfl rfl) rfl rfl ?_) | (refine Xg.ev (EvF.lenSlice rfl rfl (te rfl)) rfl rfl ?_))))) | (refine XO.done rfl ?_; refine hK _ _ ?_; clear hK K) | (refine XQ.op rfl ?_; (first | ((first | refine Yo.ng rfl ?_); (first | (refine Yg.ev (EvF.move rfl rfl) rfl rfl ?_))))) | refine X.seq rfl ?_ | refine X.region rfl (fun K hK => ?_) | refine X.regionD rfl mixed (by kernel_rfl) (fun K hK => ?_) | refine X.block rfl ?_ | (refine X.brk rfl ?_; repeat (first | refine blockX_hit rfl ?_ | refine blockX_miss (by decide) ?_)) | refine X.skip rfl ?_ | refine X.ret rfl ?_ | (refine X.ite rfl rfl (fun hc => ?_); (first | (with_reducible refine Xb.case hc (fun h => ?_) (fun h => ?_)) | (with_reducible refine Xb.caseN hc (fun h => ?_) (fun h => ?_))) <;> clear hc))
  · refine ret_one (by first | exact .inr rfl | exact .inl rfl) Try.results39 rfl (H' := H) (by (repeat (first | exact List.Sublist.refl _ | apply List.Sublist.cons)); done) ?_; simp only [and_true, true_and]
    congr 1; symm; exact decide_eq_false (fun e => by subst e; omega)
  · refine X.lp rfl (fun q F' H' => ∃ k : Nat, q = l.length - k ∧ k ≤ l.length ∧ (l = m ↔ l.drop k = m.drop k) ∧ H = H' ∧ F' = [(0, .slice a l.length c), (1, .slice a' m.length c'), (5, .int .i64 k)])
      l.length [(0, .slice a l.length c), (1, .slice a' m.length c'), (5, .int .i64 (0 : Nat))] _ (by (repeat (first | exact Sub.nil _ | refine Sub.cons rfl ?_)); done) (List.Sublist.refl _) ⟨0, by omega, by omega, by simp, rfl, rfl⟩ ?_
    rintro _ _ _ ⟨k, rfl, hk, hn, rfl, rfl⟩
    repeat' (first | (refine XO.op rfl ?_; (first | ((first | refine Xo.ng rfl ?_); (first | (refine Xg.ev (EvF.move rfl rfl) rfl rfl ?_) | (refine Xg.ev (EvF.assign rfl rfl) rfl rfl ?_) | (refine Xg.ev (EvF.cmp rfl rfl rfl rfl) rfl rfl ?_) | (refine Xg.ev (EvF.lenSlice rfl rfl (te rfl)) rfl rfl ?_))))) | (refine XO.done rfl ?_; refine hK _ _ ?_; clear hK K) | (refine XQ.op rfl ?_; (first | ((first | refine Yo.ng rfl ?_); (first | (refine Yg.ev (EvF.move rfl rfl) rfl rfl ?_))))) | refine X.seq rfl ?_ | refine X.region rfl (fun K hK => ?_) | refine X.regionD rfl mixed (by kernel_rfl) (fun K hK => ?_) | refine X.block rfl ?_ | (refine X.brk rfl ?_; repeat (first | refine blockX_hit rfl ?_ | refine blockX_miss (by decide) ?_)) | refine X.skip rfl ?_ | refine X.ret rfl ?_ | (refine X.ite rfl rfl (fun hc => ?_); (first | (with_reducible refine Xb.case hc (fun h => ?_) (fun h => ?_)) | (with_reducible refine Xb.caseN hc (fun h => ?_) (fun h => ?_))) <;> clear hc))
    · obtain ⟨b, off, e, rfl, he⟩ := hl.elem (i := k) (by omega)
      obtain ⟨b', off', f, rfl, hf⟩ := hm.elem (i := k) (by omega)
      rw [drop_cons he, drop_cons hf, List.cons.injEq] at hn
      repeat' (first | (refine XO.op rfl ?_; (first | ((first | refine Xo.ng rfl ?_); (first | (refine Xg.ev (EvF.move rfl rfl) rfl rfl ?_) | (refine Xg.ev (EvF.assign rfl rfl) rfl rfl ?_) | (refine Xg.ev (EvF.add64 rfl rfl rfl (by omega) (by omega)) rfl rfl ?_))))) | (refine XO.done rfl ?_; refine hK _ _ ?_; clear hK K) | (refine XQ.op rfl ?_; (first | ((first | refine Yo.ng rfl ?_); (first | (refine Yg.ev (EvF.loadV rfl rfl (LoadV.el0 hl he (te rfl) rfl (fun _ hm => hm) rfl)) rfl rfl ?_) | (refine Yg.ev (EvF.loadV rfl rfl (LoadV.el0 hm hf (te rfl) rfl (fun _ hm => hm) rfl)) rfl rfl ?_) | (refine Yg.ev (EvF.move rfl rfl) rfl rfl ?_) | (refine Yg.ev (EvF.cmp rfl rfl rfl rfl) rfl rfl ?_) | (refine Yg.ev (EvF.indexSlice rfl rfl rfl (te rfl) (te rfl) (by omega) (by omega)) rfl rfl ?_))))) | (refine XQ.done rfl ?_; refine hK _ ?_; clear hK K) | refine X.seq rfl ?_ | refine X.region rfl (fun K hK => ?_) | refine X.skip rfl ?_ | refine X.ret rfl ?_ | (refine X.ite rfl rfl (fun hc => ?_); (first | (with_reducible refine Xb.caseN hc (fun h => ?_) (fun h => ?_))) <;> clear hc))
      · refine ret_one (by first | exact .inr rfl | exact .inl rfl) Try.results39 rfl (H' := H) (by (repeat (first | exact List.Sublist.refl _ | apply List.Sublist.cons)); done) ?_; simp only [and_true, true_and]
        congr 1; symm; exact decide_eq_false (fun q => by have := (hn.1 q).1; omega)
      · refine ⟨_, _, _, (by (repeat (first | exact Sub.nil _ | refine Sub.cons rfl ?_)); done), (by (repeat (first | exact List.Sublist.refl _ | apply List.Sublist.cons)); done), ⟨k + 1, rfl, by omega, hn.trans (and_iff_right (by assumption)), rfl, rfl⟩, by omega⟩
    · refine ret_one (by first | exact .inr rfl | exact .inl rfl) Try.results39 rfl (H' := H) (by (repeat (first | exact List.Sublist.refl _ | apply List.Sublist.cons)); done) ?_; simp only [and_true, true_and]
      congr 1; symm; refine decide_eq_true (hn.2 ?_)
      rw [List.drop_eq_nil_of_le (by omega), List.drop_eq_nil_of_le (by omega)]
theorem take_snoc {α : Type} {l : List α} {k : Nat} {e : α} (h : l[k]? = some e) : l.take (k + 1) = l.take k ++ [e] := by
  rw [List.take_add_one, h]; rfl
theorem lenI (l : List Int) : (l.flatMap cI).length = l.length * 1 := flat_len (fun _ _ => rfl)
theorem numbers_spec (l : List Mt) (a : Option Addr) (c : Nat) (H : List Row) (hl : SlE H a cMt 6 l) (hb : l.length ≤ 1000000) : Fc Try.prog 91 [.slice a l.length c] H (fun v H' =>
    (l = [] ∧ v = .slice none 0 0 ∧ H' = H) ∨ ∃ b k, v = .slice (some ⟨b, 0, none⟩) l.length k ∧ H' = ⟨b, 0, (l.map (·.number)).flatMap cI, some 3, k * 1⟩ :: H) := by
  refine Fc.mk (callable Try.call91) Try.func91 rfl Try.ntmps91 rfl ?_; dsimp only [fr]
  repeat' (first | (refine XO.op rfl ?_; (first | ((first | refine Xo.ng rfl ?_); (first | (refine Xg.ev (EvF.move rfl rfl) rfl rfl ?_) | (refine Xg.ev (EvF.assign rfl rfl) rfl rfl ?_) | (refine Xg.ev (EvF.cmp rfl rfl rfl rfl) rfl rfl ?_) | (refine Xg.ev (EvF.lenSlice rfl rfl (te rfl)) rfl rfl ?_))))) | (refine XO.done rfl ?_; refine hK _ _ ?_; clear hK K) | (refine XQ.op rfl ?_; (first | ((first | refine Yo.ng rfl ?_); (first | (refine Yg.ev (EvF.move rfl rfl) rfl rfl ?_))))) | refine X.seq rfl ?_ | refine X.region rfl (fun K hK => ?_) | refine X.regionD rfl mixed (by kernel_rfl) (fun K hK => ?_) | refine X.block rfl ?_ | (refine X.brk rfl ?_; repeat (first | refine blockX_hit rfl ?_ | refine blockX_miss (by decide) ?_)) | refine X.skip rfl ?_ | refine X.ret rfl ?_ | (refine X.ite rfl rfl (fun hc => ?_); (first | (with_reducible refine Xb.case hc (fun h => ?_) (fun h => ?_)) | (with_reducible refine Xb.caseN hc (fun h => ?_) (fun h => ?_))) <;> clear hc))
  refine X.lp rfl (fun q F' H' => ∃ (k : Nat) (out : Value), q = l.length - k ∧ k ≤ l.length ∧ ((k = 0 ∧ out = .slice none 0 0 ∧ H = H') ∨ ∃ b q, out = .slice (some ⟨b, 0, none⟩) k q ∧ ⟨b, 0, ((l.take k).map (·.number)).flatMap cI, some 3, q * 1⟩ :: H = H') ∧
      F' = [(3, out), (6, .slice a l.length c), (7, .int .i64 l.length), (8, .int .i64 k)])
    l.length [(3, .slice none 0 0), (6, .slice a l.length c), (7, .int .i64 l.length), (8, .int .i64 (0 : Nat))] _ (by (repeat (first | exact Sub.nil _ | refine Sub.cons rfl ?_)); done) (List.Sublist.refl _) ⟨0, _, by omega, by omega, .inl ⟨rfl, rfl, rfl⟩, rfl⟩ ?_
  rintro _ _ _ ⟨k, out, rfl, hk, ⟨rfl, rfl, rfl⟩ | ⟨b0, q0, rfl, rfl⟩, rfl⟩
  · repeat' (first | (refine XO.op rfl ?_; (first | ((first | refine Xo.ng rfl ?_); (first | (refine Xg.ev (EvF.move rfl rfl) rfl rfl ?_) | (refine Xg.ev (EvF.assign rfl rfl) rfl rfl ?_) | (refine Xg.ev (EvF.cmp rfl rfl rfl rfl) rfl rfl ?_) | (refine Xg.ev (EvF.lenSlice rfl rfl (te rfl)) rfl rfl ?_))))) | (refine XO.done rfl ?_; refine hK _ _ ?_; clear hK K) | (refine XQ.op rfl ?_; (first | ((first | refine Yo.ng rfl ?_); (first | (refine Yg.ev (EvF.move rfl rfl) rfl rfl ?_))))) | refine X.seq rfl ?_ | refine X.region rfl (fun K hK => ?_) | refine X.regionD rfl mixed (by kernel_rfl) (fun K hK => ?_) | refine X.block rfl ?_ | (refine X.brk rfl ?_; repeat (first | refine blockX_hit rfl ?_ | refine blockX_miss (by decide) ?_)) | refine X.skip rfl ?_ | refine X.ret rfl ?_ | (refine X.ite rfl rfl (fun hc => ?_); (first | (with_reducible refine Xb.case hc (fun h => ?_) (fun h => ?_)) | (with_reducible refine Xb.caseN hc (fun h => ?_) (fun h => ?_))) <;> clear hc))
    · obtain ⟨b, off, e, rfl, he⟩ := hl.elem (i := 0) (by omega)
      repeat' (first | (refine XO.op rfl ?_; (first | ((first | refine Xo.ng rfl ?_); (first | (refine Xg.ev (EvF.loadV rfl rfl (LoadV.elA0 hl he (te rfl) rfl (fun _ hm => hm) rfl)) rfl rfl ?_) | (refine Xg.st (StF.buildOne rfl el55 rfl rfl rfl (by decide) (by decide)) rfl rfl ?_; rintro _ _ ⟨bs, rfl, rfl⟩) | (refine Xg.st (StF.appendNew rfl el55 rfl rfl (by decide) rfl (Rd.own (List.Mem.head _)) (by decide)) rfl rfl ?_; rintro _ _ ⟨bn, kn, rfl, rfl⟩) | (refine Xg.ev (EvF.move rfl rfl) rfl rfl ?_) | (refine Xg.ev (EvF.assign rfl rfl) rfl rfl ?_) | (refine Xg.ev (EvF.add64 rfl rfl rfl (by omega) (by omega)) rfl rfl ?_) | (refine Xg.ev (EvF.fieldAddr rfl rfl (te rfl) rfl (te rfl) (by decide)) rfl rfl ?_) | (refine Xg.ev (EvF.indexSlice rfl rfl rfl (te rfl) (te rfl) (by omega) (by omega)) rfl rfl ?_) | (refine Xg.ev (EvF.loadV rfl rfl (LoadV.own (te rfl) rfl (List.Mem.head _) rfl)) rfl rfl ?_) | (refine Xg.st (StF.alloc rfl Try.zeroValue114 rfl) rfl rfl ?_; rintro _ _ ⟨bx, rfl, rfl⟩) | (refine Xg.st0 (StF.storeAll (i := 0) rfl rfl rfl (te rfl) rfl rfl rfl rfl) rfl ?_; rintro _ _ ⟨rfl, rfl⟩; dsimp only [List.set]))))) | (refine XO.done rfl ?_; refine hK _ _ ?_; clear hK K) | refine X.region rfl (fun K hK => ?_))
      rw [show (Value.int .i64 e.number).cells.toList = ((l.take (0 + 1)).map (·.number)).flatMap cI from by rw [take_snoc he]; rfl]
      exact ⟨_, _, ⟨bn, 0, ((l.take (0 + 1)).map (·.number)).flatMap cI, some 3, kn * 1⟩ :: H, (by (repeat (first | exact Sub.nil _ | refine Sub.cons rfl ?_)); done), List.Sublist.cons_cons _ (by (repeat (first | exact List.Sublist.refl _ | apply List.Sublist.cons)); done), ⟨0 + 1, _, rfl, by omega, .inr ⟨_, _, rfl, rfl⟩, rfl⟩, by omega⟩
    · exact ret_one (by first | exact .inr rfl | exact .inl rfl) Try.results91 rfl (List.Sublist.refl _) (.inl ⟨List.eq_nil_of_length_eq_zero (by omega), rfl, rfl⟩)
  · have hlen : (((l.take k).map (·.number)).flatMap cI).length = k * 1 := by rw [lenI, List.length_map, List.length_take]; omega
    have hl1 : ∀ r, SlE (r :: H) a cMt 6 l := fun r => hl.sub (fun _ h => List.mem_cons_of_mem _ h)
    repeat' (first | (refine XO.op rfl ?_; (first | ((first | refine Xo.ng rfl ?_); (first | (refine Xg.ev (EvF.move rfl rfl) rfl rfl ?_) | (refine Xg.ev (EvF.assign rfl rfl) rfl rfl ?_) | (refine Xg.ev (EvF.cmp rfl rfl rfl rfl) rfl rfl ?_) | (refine Xg.ev (EvF.lenSlice rfl rfl (te rfl)) rfl rfl ?_))))) | (refine XO.done rfl ?_; refine hK _ _ ?_; clear hK K) | (refine XQ.op rfl ?_; (first | ((first | refine Yo.ng rfl ?_); (first | (refine Yg.ev (EvF.move rfl rfl) rfl rfl ?_))))) | refine X.seq rfl ?_ | refine X.region rfl (fun K hK => ?_) | refine X.regionD rfl mixed (by kernel_rfl) (fun K hK => ?_) | refine X.block rfl ?_ | (refine X.brk rfl ?_; repeat (first | refine blockX_hit rfl ?_ | refine blockX_miss (by decide) ?_)) | refine X.skip rfl ?_ | refine X.ret rfl ?_ | (refine X.ite rfl rfl (fun hc => ?_); (first | (with_reducible refine Xb.case hc (fun h => ?_) (fun h => ?_)) | (with_reducible refine Xb.caseN hc (fun h => ?_) (fun h => ?_))) <;> clear hc))
    · obtain ⟨b, off, e, rfl, he⟩ := hl.elem (i := k) (by omega)
      repeat' (first | (refine XO.op rfl ?_; (first | ((first | refine Xo.ng rfl ?_); (first | (refine Xg.ev (EvF.loadV rfl rfl (LoadV.elA0 (hl1 _) he (te rfl) rfl (fun _ hm => hm) rfl)) rfl rfl ?_) | (refine Xg.st (StF.buildOne rfl el55 rfl rfl rfl (by decide) (by decide)) rfl rfl ?_; rintro _ _ ⟨bs, rfl, rfl⟩) | (refine Xg.st (StF.appendOwn (i := 2) rfl el55 rfl rfl rfl hlen rfl (Rd.own (List.Mem.head _)) rfl (by omega)) rfl rfl ?_; rintro _ _ ⟨bn, kn, rfl, rfl⟩; dsimp only [List.eraseIdx]) | (refine Xg.ev (EvF.move rfl rfl) rfl rfl ?_) | (refine Xg.ev (EvF.assign rfl rfl) rfl rfl ?_) | (refine Xg.ev (EvF.add64 rfl rfl rfl (by omega) (by omega)) rfl rfl ?_) | (refine Xg.ev (EvF.fieldAddr rfl rfl (te rfl) rfl (te rfl) (by decide)) rfl rfl ?_) | (refine Xg.ev (EvF.indexSlice rfl rfl rfl (te rfl) (te rfl) (by omega) (by omega)) rfl rfl ?_) | (refine Xg.ev (EvF.loadV rfl rfl (LoadV.own (te rfl) rfl (List.Mem.head _) rfl)) rfl rfl ?_) | (refine Xg.st (StF.alloc rfl Try.zeroValue114 rfl) rfl rfl ?_; rintro _ _ ⟨bx, rfl, rfl⟩) | (refine Xg.st0 (StF.storeAll (i := 0) rfl rfl rfl (te rfl) rfl rfl rfl rfl) rfl ?_; rintro _ _ ⟨rfl, rfl⟩; dsimp only [List.set]))))) | (refine XO.done rfl ?_; refine hK _ _ ?_; clear hK K) | refine X.region rfl (fun K hK => ?_))
      rw [show ((l.take k).map (·.number)).flatMap cI ++ (Value.int .i64 e.number).cells.toList = ((l.take (k + 1)).map (·.number)).flatMap cI from by rw [take_snoc he, List.map_append, List.flatMap_append]; rfl]
      exact ⟨_, _, ⟨bn, 0, ((l.take (k + 1)).map (·.number)).flatMap cI, some 3, kn * 1⟩ :: H, (by (repeat (first | exact Sub.nil _ | refine Sub.cons rfl ?_)); done), List.Sublist.cons_cons _ (by (repeat (first | exact List.Sublist.refl _ | apply List.Sublist.cons)); done), ⟨k + 1, _, rfl, by omega, .inr ⟨_, _, rfl, rfl⟩, rfl⟩, by omega⟩
    · refine ret_one (by first | exact .inr rfl | exact .inl rfl) Try.results91 rfl (List.Sublist.refl _) (.inr ⟨b0, q0, ?_, ?_⟩)
      · rw [show k = l.length by omega]
      · rw [List.take_of_length_le (by omega)]
end Go.Proofs.Ytblehgpfddmggaa
end
section
set_option linter.unusedVariables false
namespace Go.Fw
open Go
section
variable {P : Program} {H : List Row} {n : Nat} {F : FS} {o : Oper}
theorem EvF.eqSt {op : BinOp} {T T' : TypeId} {x y : Operand} {xs ys : Array Value} {r b : Bool} (h : o.op = .binOp op T x y T') (hx : evF F x = some (.agg xs)) (hy : evF F y = some (.agg ys)) (hm : P.eqGuardType P.depth T = false)
    (hE : ∀ w, (Op.equalIn 10000 T (.agg xs) (.agg ys)).run P w = .ok r w) (hb : (match (generalizing := false) op with | .eql => some r | .neq => some (!r) | _ => none) = some b) : EvF P n H F o (.bool b) := by
  unfold EvF EvOp; intro t ha B w0 w hS
  have ex := ha.ev hx
  have ey := ha.ev hy
  cases op <;> simp only [Option.some.injEq, reduceCtorEq] at hb <;> subst hb
  · simp [execOp, h, ex, ey, run_eqGuard_agg w _ T x y xs ys hm, run_eql_struct w T xs ys, hE]
  · simp [execOp, h, ex, ey, run_eqGuard_agg w _ T x y xs ys hm, run_neq_struct w T xs ys, hE]
end
end Go.Fw
end
section
set_option linter.unusedVariables false
namespace Go.Proofs.Ytblehgpfddmggaa
open Go Go.Fw
noncomputable instance : DecidableEq Sp := fun _ _ => Classical.propDecidable _
noncomputable instance : DecidableEq Bx := fun _ _ => Classical.propDecidable _
noncomputable instance : DecidableEq Mt := fun _ _ => Classical.propDecidable _
noncomputable instance : DecidableEq Rm := fun _ _ => Classical.propDecidable _
theorem eqI (d : Nat) (a b : Int) (w : World) : (Op.equalIn (d + 1) 3 (.int .i64 a) (.int .i64 b)).run Try.prog w = .ok (decide (a = b)) w := by
  rw [run_equalIn_int w d 3 .i64 .i64 a b (by kernel_rfl)]
  by_cases h : a = b <;> simp [h]
theorem eqSp (d : Nat) (e f : Sp) (w : World) : (Op.equalIn (d + 2) 35 (.agg (cSp e).toArray) (.agg (cSp f).toArray)).run Try.prog w = .ok (decide (e = f)) w := by
  have hS : Try.prog.underlying 35 = some (.struct (Try.prog.fieldsOf 35)) := by kernel_rfl
  rw [run_equalIn_agg w (d + 1) 35 _ _ hS (by kernel_rfl)]
  simp only [Program.fieldsOf, Try.underlying35]
  go_simp
  obtain ⟨e1, e2⟩ := e
  obtain ⟨f1, f2⟩ := f
  by_cases h1 : e1 = f1 <;> by_cases h2 : e2 = f2 <;> simp [cSp, eqI, Result.andThen, h1, h2]
theorem eqBx (d : Nat) (e f : Bx) (w : World) : (Op.equalIn (d + 2) 81 (.agg (cBx e).toArray) (.agg (cBx f).toArray)).run Try.prog w = .ok (decide (e = f)) w := by
  have hS : Try.prog.underlying 81 = some (.struct (Try.prog.fieldsOf 81)) := by kernel_rfl
  rw [run_equalIn_agg w (d + 1) 81 _ _ hS (by kernel_rfl)]
  simp only [Program.fieldsOf, Try.underlying81]
  go_simp
  obtain ⟨e1, e2⟩ := e
  obtain ⟨f1, f2⟩ := f
  by_cases h1 : e1 = f1 <;> by_cases h2 : e2 = f2 <;> simp [cBx, eqI, Result.andThen, h1, h2]
theorem eqMt (d : Nat) (e f : Mt) (w : World) : (Op.equalIn (d + 3) 114 (.agg (cMt e).toArray) (.agg (cMt f).toArray)).run Try.prog w = .ok (decide (e = f)) w := by
  have hS : Try.prog.underlying 114 = some (.struct (Try.prog.fieldsOf 114)) := by kernel_rfl
  rw [run_equalIn_agg w (d + 2) 114 _ _ hS (by kernel_rfl)]
  simp only [Program.fieldsOf, Try.underlying114]
  go_simp
  obtain ⟨e1, e2, e3, e4, e5, e6⟩ := e
  obtain ⟨f1, f2, f3, f4, f5, f6⟩ := f
  by_cases h1 : e1 = f1
  · by_cases h2 : e2 = f2
    · by_cases h3 : e3 = f3
      · by_cases h4 : e4 = f4
        · by_cases h5 : e5 = f5 <;> by_cases h6 : e6 = f6 <;> simp [cMt, eqI, Result.andThen, h1, h2, h3, h4, h5, h6]
        · simp [cMt, eqI, Result.andThen, h1, h2, h3, h4]
      · simp [cMt, eqI, Result.andThen, h1, h2, h3]
    · simp [cMt, eqI, Result.andThen, h1, h2]
  · simp [cMt, eqI, Result.andThen, h1]
end Go.Proofs.Ytblehgpfddmggaa
end
section
set_option linter.unusedVariables false
set_option linter.unusedSimpArgs false
namespace Go.Proofs.Ytblehgpfddmggaa
open Go Go.Fw
set_option maxRecDepth 10000
theorem Rm.ext' {R S : Rm} (h1 : R.months = S.months) (h2 : R.step = S.step) (h3 : R.ages = S.ages) (h4 : R.boxes = S.boxes) (h5 : R.mats = S.mats) : R = S := by
  cases R; cases S; simp_all
theorem same_spec (R S : Rm) (p q : Pl) (H : List Row) (hR : RmOk H R p) (hS : RmOk H S q) : Fc Try.prog 24 [.agg (cRm R p).toArray, .agg (cRm S q).toArray] H (fun v H' => v = .bool (decide (R = S)) ∧ H' = H) := by
  have l1 := hR.l1
  have l2 := hR.l2
  have l3 := hR.l3
  have m1 := hS.l1
  have m2 := hS.l2
  have m3 := hS.l3
  obtain ⟨a1, c1, a2, c2, a3, c3⟩ := p
  obtain ⟨b1, d1, b2, d2, b3, d3⟩ := q
  refine Fc.mk (callable Try.call24) Try.func24 rfl Try.ntmps24 rfl ?_; dsimp only [fr]
  repeat' (first | (refine XO.op rfl ?_; (first | ((first | refine Xo.ng rfl ?_ | (refine Xo.g rfl rfl ?_; with_reducible refine Xw.ff ?_)); (first | (refine Xg.ev (EvF.move rfl rfl) rfl rfl ?_) | (refine Xg.ev (EvF.assign rfl rfl) rfl rfl ?_) | (refine Xg.ev (EvF.pickT rfl rfl rfl) rfl rfl ?_) | (refine Xg.ev (EvF.pickF rfl rfl rfl) rfl rfl ?_) | (refine Xg.ev (EvF.cmp rfl rfl rfl rfl) rfl rfl ?_) | (refine Xg.ev (EvF.fieldAddr rfl rfl (te rfl) rfl (te rfl) (by decide)) rfl rfl ?_) | (refine Xg.ev (EvF.lenSlice rfl rfl (te rfl)) rfl rfl ?_) | (refine Xg.ev (EvF.loadV rfl rfl (LoadV.own (te rfl) rfl (List.Mem.head _) rfl)) rfl rfl ?_) | (refine Xg.ev (EvF.loadV rfl rfl (LoadV.own (te rfl) rfl (List.Mem.tail _ (List.Mem.head _)) rfl)) rfl rfl ?_) | (refine Xg.st (StF.boxAgg rfl rfl) rfl rfl ?_; rintro _ _ ⟨bx, rfl, rfl⟩))) | (refine Xo.g rfl rfl ?_; (first | (with_reducible refine Xw.tf rfl rfl ?_) | (with_reducible refine Xw.caseN (fun h => ?_) (fun h => ?_) <;> simp only [h, decide_true, decide_false, Bool.not_true, Bool.not_false, and_self, and_true, true_and, and_false, false_and]))))) | (refine XO.done rfl ?_; refine hK _ _ ?_; clear hK K) | (refine XQ.op rfl ?_; (first | ((first | refine Yo.ng rfl ?_); (first | (refine Yg.ev (EvF.move rfl rfl) rfl rfl ?_) | (refine Yg.ev (EvF.fieldAddr rfl rfl (te rfl) rfl (te rfl) (by decide)) rfl rfl ?_) | (refine Yg.ev (EvF.loadV rfl rfl (LoadV.own (te rfl) rfl (List.Mem.tail _ (List.Mem.head _)) rfl)) rfl rfl ?_))))) | refine X.seq rfl ?_ | refine X.region rfl (fun K hK => ?_) | refine X.regionD rfl mixed (by kernel_rfl) (fun K hK => ?_) | refine X.block rfl ?_ | (refine X.brk rfl ?_; repeat (first | refine blockX_hit rfl ?_ | refine blockX_miss (by decide) ?_)) | refine X.skip rfl ?_ | refine X.ret rfl ?_ | (refine X.ite rfl rfl (fun hc => ?_); (first | (with_reducible refine Xb.t hc ?_) | (with_reducible refine Xb.case hc (fun h => ?_) (fun h => ?_)) | (with_reducible refine Xb.caseN hc (fun h => ?_) (fun h => ?_))) <;> clear hc))
  any_goals (refine ret_one (by first | exact .inr rfl | exact .inl rfl) Try.results24 rfl (H' := H) (by (repeat (first | exact List.Sublist.refl _ | apply List.Sublist.cons)); done) ?_; simp only [and_true, true_and]; congr 1; symm; exact decide_eq_false (fun hh => by subst hh; omega))
  rename_i bx1 em es e1 e2
  have e3 := h
  have hR2 : ∀ r r', RmOk (r :: r' :: H) R ⟨a1, c1, a2, c2, a3, c3⟩ := fun r r' => hR.sub (fun _ h => List.mem_cons_of_mem _ (List.mem_cons_of_mem _ h))
  have hS2 : ∀ r r', RmOk (r :: r' :: H) S ⟨b1, d1, b2, d2, b3, d3⟩ := fun r r' => hS.sub (fun _ h => List.mem_cons_of_mem _ (List.mem_cons_of_mem _ h))
  refine X.lp rfl (fun m F' H' => ∃ k : Nat, m = R.ages.length - k ∧ k ≤ R.ages.length ∧ (R.ages = S.ages ↔ R.ages.drop k = S.ages.drop k) ∧ ⟨bx, 0, cRm S ⟨b1, d1, b2, d2, b3, d3⟩, some 26, 5⟩ :: ⟨bx1, 0, cRm R ⟨a1, c1, a2, c2, a3, c3⟩, some 26, 5⟩ :: H = H' ∧
      F' = [(2, .pointer (some ⟨bx1, 0, none⟩)), (3, .pointer (some ⟨bx, 0, none⟩)), (5, .int .i64 k)])
    R.ages.length [(2, .pointer (some ⟨bx1, 0, none⟩)), (3, .pointer (some ⟨bx, 0, none⟩)), (5, .int .i64 (0 : Nat))] _ (by (repeat (first | exact Sub.nil _ | refine Sub.cons rfl ?_)); done) (List.Sublist.refl _) ⟨0, by omega, by omega, by simp, rfl, rfl⟩ ?_
  rintro _ _ _ ⟨k, rfl, hk, hn, rfl, rfl⟩
  repeat' (first | (refine XO.op rfl ?_; (first | ((first | refine Xo.ng rfl ?_ | (refine Xo.g rfl rfl ?_; with_reducible refine Xw.ff ?_)); (first | (refine Xg.ev (EvF.move rfl rfl) rfl rfl ?_) | (refine Xg.ev (EvF.assign rfl rfl) rfl rfl ?_) | (refine Xg.ev (EvF.pickT rfl rfl rfl) rfl rfl ?_) | (refine Xg.ev (EvF.pickF rfl rfl rfl) rfl rfl ?_) | (refine Xg.ev (EvF.cmp rfl rfl rfl rfl) rfl rfl ?_) | (refine Xg.ev (EvF.fieldAddr rfl rfl (te rfl) rfl (te rfl) (by decide)) rfl rfl ?_) | (refine Xg.ev (EvF.lenSlice rfl rfl (te rfl)) rfl rfl ?_) | (refine Xg.ev (EvF.loadV rfl rfl (LoadV.own (te rfl) rfl (List.Mem.head _) rfl)) rfl rfl ?_) | (refine Xg.ev (EvF.loadV rfl rfl (LoadV.own (te rfl) rfl (List.Mem.tail _ (List.Mem.head _)) rfl)) rfl rfl ?_) | (refine Xg.st (StF.boxAgg rfl rfl) rfl rfl ?_; rintro _ _ ⟨bx, rfl, rfl⟩))) | (refine Xo.g rfl rfl ?_; (first | (with_reducible refine Xw.tf rfl rfl ?_) | (with_reducible refine Xw.caseN (fun h => ?_) (fun h => ?_) <;> simp only [h, decide_true, decide_false, Bool.not_true, Bool.not_false, and_self, and_true, true_and, and_false, false_and]))))) | (refine XO.done rfl ?_; refine hK _ _ ?_; clear hK K) | (refine XQ.op rfl ?_; (first | ((first | refine Yo.ng rfl ?_); (first | (refine Yg.ev (EvF.move rfl rfl) rfl rfl ?_) | (refine Yg.ev (EvF.fieldAddr rfl rfl (te rfl) rfl (te rfl) (by decide)) rfl rfl ?_) | (refine Yg.ev (EvF.loadV rfl rfl (LoadV.own (te rfl) rfl (List.Mem.tail _ (List.Mem.head _)) rfl)) rfl rfl ?_))))) | refine X.seq rfl ?_ | refine X.region rfl (fun K hK => ?_) | refine X.regionD rfl mixed (by kernel_rfl) (fun K hK => ?_) | refine X.block rfl ?_ | (refine X.brk rfl ?_; repeat (first | refine blockX_hit rfl ?_ | refine blockX_miss (by decide) ?_)) | refine X.skip rfl ?_ | refine X.ret rfl ?_ | (refine X.ite rfl rfl (fun hc => ?_); (first | (with_reducible refine Xb.t hc ?_) | (with_reducible refine Xb.case hc (fun h => ?_) (fun h => ?_)) | (with_reducible refine Xb.caseN hc (fun h => ?_) (fun h => ?_))) <;> clear hc))
  · obtain ⟨b, off, e, rfl, he⟩ := hR.ages.elem (i := k) (by omega)
    obtain ⟨b', off', f, rfl, hf⟩ := hS.ages.elem (i := k) (by omega)
    rw [drop_cons he, drop_cons hf, List.cons.injEq] at hn
    repeat' (first | (refine XO.op rfl ?_; (first | ((first | refine Xo.ng rfl ?_); (first | (refine Xg.ev (EvF.move rfl rfl) rfl rfl ?_) | (refine Xg.ev (EvF.assign rfl rfl) rfl rfl ?_) | (refine Xg.ev (EvF.add64 rfl rfl rfl (by omega) (by omega)) rfl rfl ?_))))) | (refine XO.done rfl ?_; refine hK _ _ ?_; clear hK K) | (refine XQ.op rfl ?_; (first | ((first | refine Yo.ng rfl ?_); (first | (refine Yg.ev (EvF.loadV rfl rfl (LoadV.elA0 (hR2 _ _).ages he (te rfl) rfl (fun _ hm => hm) rfl)) rfl rfl ?_) | (refine Yg.ev (EvF.loadV rfl rfl (LoadV.elA0 (hS2 _ _).ages hf (te rfl) rfl (fun _ hm => hm) rfl)) rfl rfl ?_) | (refine Yg.ev (EvF.eqSt rfl rfl rfl (by kernel_rfl) (fun w => eqSp 9998 e f w) rfl) rfl rfl ?_) | (refine Yg.ev (EvF.move rfl rfl) rfl rfl ?_) | (refine Yg.ev (EvF.fieldAddr rfl rfl (te rfl) rfl (te rfl) (by decide)) rfl rfl ?_) | (refine Yg.ev (EvF.indexSlice rfl rfl rfl (te rfl) (te rfl) (by omega) (by omega)) rfl rfl ?_) | (refine Yg.ev (EvF.loadV rfl rfl (LoadV.own (te rfl) rfl (List.Mem.head _) rfl)) rfl rfl ?_))))) | (refine XQ.done rfl ?_; refine hK _ ?_; clear hK K) | refine X.seq rfl ?_ | refine X.region rfl (fun K hK => ?_) | refine X.skip rfl ?_ | refine X.ret rfl ?_ | (refine X.ite rfl rfl (fun hc => ?_); (first | (with_reducible refine Xb.caseN hc (fun h => ?_) (fun h => ?_))) <;> clear hc))
    · refine ret_one (by first | exact .inr rfl | exact .inl rfl) Try.results24 rfl (H' := H) (by (repeat (first | exact List.Sublist.refl _ | apply List.Sublist.cons)); done) ?_; simp only [and_true, true_and]
      congr 1; symm; exact decide_eq_false (fun q => by subst q; exact absurd (hn.1 rfl).1 (by assumption))
    · refine ⟨_, _, _, (by (repeat (first | exact Sub.nil _ | refine Sub.cons rfl ?_)); done), (by (repeat (first | exact List.Sublist.refl _ | apply List.Sublist.cons)); done), ⟨k + 1, rfl, by omega, hn.trans (and_iff_right (by assumption)), rfl, rfl⟩, by omega⟩
  have hA : R.ages = S.ages := hn.2 (by rw [List.drop_eq_nil_of_le (by omega), List.drop_eq_nil_of_le (by omega)])
  clear hn
  refine X.lp rfl (fun m F' H' => ∃ k : Nat, m = R.boxes.length - k ∧ k ≤ R.boxes.length ∧ (R.boxes = S.boxes ↔ R.boxes.drop k = S.boxes.drop k) ∧ ⟨bx, 0, cRm S ⟨b1, d1, b2, d2, b3, d3⟩, some 26, 5⟩ :: ⟨bx1, 0, cRm R ⟨a1, c1, a2, c2, a3, c3⟩, some 26, 5⟩ :: H = H' ∧
      F' = [(2, .pointer (some ⟨bx1, 0, none⟩)), (3, .pointer (some ⟨bx, 0, none⟩)), (6, .int .i64 k)])
    R.boxes.length [(2, .pointer (some ⟨bx1, 0, none⟩)), (3, .pointer (some ⟨bx, 0, none⟩)), (6, .int .i64 (0 : Nat))] _ (by (repeat (first | exact Sub.nil _ | refine Sub.cons rfl ?_)); done) (List.Sublist.refl _) ⟨0, by omega, by omega, by simp, rfl, rfl⟩ ?_
  rintro _ _ _ ⟨k, rfl, hk, hn, rfl, rfl⟩
  repeat' (first | (refine XO.op rfl ?_; (first | ((first | refine Xo.ng rfl ?_ | (refine Xo.g rfl rfl ?_; with_reducible refine Xw.ff ?_)); (first | (refine Xg.ev (EvF.move rfl rfl) rfl rfl ?_) | (refine Xg.ev (EvF.assign rfl rfl) rfl rfl ?_) | (refine Xg.ev (EvF.pickT rfl rfl rfl) rfl rfl ?_) | (refine Xg.ev (EvF.pickF rfl rfl rfl) rfl rfl ?_) | (refine Xg.ev (EvF.cmp rfl rfl rfl rfl) rfl rfl ?_) | (refine Xg.ev (EvF.fieldAddr rfl rfl (te rfl) rfl (te rfl) (by decide)) rfl rfl ?_) | (refine Xg.ev (EvF.lenSlice rfl rfl (te rfl)) rfl rfl ?_) | (refine Xg.ev (EvF.loadV rfl rfl (LoadV.own (te rfl) rfl (List.Mem.head _) rfl)) rfl rfl ?_) | (refine Xg.ev (EvF.loadV rfl rfl (LoadV.own (te rfl) rfl (List.Mem.tail _ (List.Mem.head _)) rfl)) rfl rfl ?_) | (refine Xg.st (StF.boxAgg rfl rfl) rfl rfl ?_; rintro _ _ ⟨bx, rfl, rfl⟩))) | (refine Xo.g rfl rfl ?_; (first | (with_reducible refine Xw.tf rfl rfl ?_) | (with_reducible refine Xw.caseN (fun h => ?_) (fun h => ?_) <;> simp only [h, decide_true, decide_false, Bool.not_true, Bool.not_false, and_self, and_true, true_and, and_false, false_and]))))) | (refine XO.done rfl ?_; refine hK _ _ ?_; clear hK K) | (refine XQ.op rfl ?_; (first | ((first | refine Yo.ng rfl ?_); (first | (refine Yg.ev (EvF.move rfl rfl) rfl rfl ?_) | (refine Yg.ev (EvF.fieldAddr rfl rfl (te rfl) rfl (te rfl) (by decide)) rfl rfl ?_) | (refine Yg.ev (EvF.loadV rfl rfl (LoadV.own (te rfl) rfl (List.Mem.tail _ (List.Mem.head _)) rfl)) rfl rfl ?_))))) | refine X.seq rfl ?_ | refine X.region rfl (fun K hK => ?_) | refine X.regionD rfl mixed (by kernel_rfl) (fun K hK => ?_) | refine X.block rfl ?_ | (refine X.brk rfl ?_; repeat (first | refine blockX_hit rfl ?_ | refine blockX_miss (by decide) ?_)) | refine X.skip rfl ?_ | refine X.ret rfl ?_ | (refine X.ite rfl rfl (fun hc => ?_); (first | (with_reducible refine Xb.t hc ?_) | (with_reducible refine Xb.case hc (fun h => ?_) (fun h => ?_)) | (with_reducible refine Xb.caseN hc (fun h => ?_) (fun h => ?_))) <;> clear hc))
  · obtain ⟨b, off, e, rfl, he⟩ := hR.boxes.elem (i := k) (by omega)
    obtain ⟨b', off', f, rfl, hf⟩ := hS.boxes.elem (i := k) (by omega)
    rw [drop_cons he, drop_cons hf, List.cons.injEq] at hn
    repeat' (first | (refine XO.op rfl ?_; (first | ((first | refine Xo.ng rfl ?_); (first | (refine Xg.ev (EvF.move rfl rfl) rfl rfl ?_) | (refine Xg.ev (EvF.assign rfl rfl) rfl rfl ?_) | (refine Xg.ev (EvF.add64 rfl rfl rfl (by omega) (by omega)) rfl rfl ?_))))) | (refine XO.done rfl ?_; refine hK _ _ ?_; clear hK K) | (refine XQ.op rfl ?_; (first | ((first | refine Yo.ng rfl ?_); (first | (refine Yg.ev (EvF.loadV rfl rfl (LoadV.elA0 (hR2 _ _).boxes he (te rfl) rfl (fun _ hm => hm) rfl)) rfl rfl ?_) | (refine Yg.ev (EvF.loadV rfl rfl (LoadV.elA0 (hS2 _ _).boxes hf (te rfl) rfl (fun _ hm => hm) rfl)) rfl rfl ?_) | (refine Yg.ev (EvF.eqSt rfl rfl rfl (by kernel_rfl) (fun w => eqBx 9998 e f w) rfl) rfl rfl ?_) | (refine Yg.ev (EvF.move rfl rfl) rfl rfl ?_) | (refine Yg.ev (EvF.fieldAddr rfl rfl (te rfl) rfl (te rfl) (by decide)) rfl rfl ?_) | (refine Yg.ev (EvF.indexSlice rfl rfl rfl (te rfl) (te rfl) (by omega) (by omega)) rfl rfl ?_) | (refine Yg.ev (EvF.loadV rfl rfl (LoadV.own (te rfl) rfl (List.Mem.head _) rfl)) rfl rfl ?_))))) | (refine XQ.done rfl ?_; refine hK _ ?_; clear hK K) | refine X.seq rfl ?_ | refine X.region rfl (fun K hK => ?_) | refine X.skip rfl ?_ | refine X.ret rfl ?_ | (refine X.ite rfl rfl (fun hc => ?_); (first | (with_reducible refine Xb.caseN hc (fun h => ?_) (fun h => ?_))) <;> clear hc))
    · refine ret_one (by first | exact .inr rfl | exact .inl rfl) Try.results24 rfl (H' := H) (by (repeat (first | exact List.Sublist.refl _ | apply List.Sublist.cons)); done) ?_; simp only [and_true, true_and]
      congr 1; symm; exact decide_eq_false (fun q => by subst q; exact absurd (hn.1 rfl).1 (by assumption))
    · refine ⟨_, _, _, (by (repeat (first | exact Sub.nil _ | refine Sub.cons rfl ?_)); done), (by (repeat (first | exact List.Sublist.refl _ | apply List.Sublist.cons)); done), ⟨k + 1, rfl, by omega, hn.trans (and_iff_right (by assumption)), rfl, rfl⟩, by omega⟩
  have hB : R.boxes = S.boxes := hn.2 (by rw [List.drop_eq_nil_of_le (by omega), List.drop_eq_nil_of_le (by omega)])
  clear hn
  refine X.lp rfl (fun m F' H' => ∃ k : Nat, m = R.mats.length - k ∧ k ≤ R.mats.length ∧ (R.mats = S.mats ↔ R.mats.drop k = S.mats.drop k) ∧ ⟨bx, 0, cRm S ⟨b1, d1, b2, d2, b3, d3⟩, some 26, 5⟩ :: ⟨bx1, 0, cRm R ⟨a1, c1, a2, c2, a3, c3⟩, some 26, 5⟩ :: H = H' ∧
      F' = [(2, .pointer (some ⟨bx1, 0, none⟩)), (3, .pointer (some ⟨bx, 0, none⟩)), (7, .int .i64 k)])
    R.mats.length [(2, .pointer (some ⟨bx1, 0, none⟩)), (3, .pointer (some ⟨bx, 0, none⟩)), (7, .int .i64 (0 : Nat))] _ (by (repeat (first | exact Sub.nil _ | refine Sub.cons rfl ?_)); done) (List.Sublist.refl _) ⟨0, by omega, by omega, by simp, rfl, rfl⟩ ?_
  rintro _ _ _ ⟨k, rfl, hk, hn, rfl, rfl⟩
  repeat' (first | (refine XO.op rfl ?_; (first | ((first | refine Xo.ng rfl ?_ | (refine Xo.g rfl rfl ?_; with_reducible refine Xw.ff ?_)); (first | (refine Xg.ev (EvF.move rfl rfl) rfl rfl ?_) | (refine Xg.ev (EvF.assign rfl rfl) rfl rfl ?_) | (refine Xg.ev (EvF.pickT rfl rfl rfl) rfl rfl ?_) | (refine Xg.ev (EvF.pickF rfl rfl rfl) rfl rfl ?_) | (refine Xg.ev (EvF.cmp rfl rfl rfl rfl) rfl rfl ?_) | (refine Xg.ev (EvF.fieldAddr rfl rfl (te rfl) rfl (te rfl) (by decide)) rfl rfl ?_) | (refine Xg.ev (EvF.lenSlice rfl rfl (te rfl)) rfl rfl ?_) | (refine Xg.ev (EvF.loadV rfl rfl (LoadV.own (te rfl) rfl (List.Mem.head _) rfl)) rfl rfl ?_) | (refine Xg.ev (EvF.loadV rfl rfl (LoadV.own (te rfl) rfl (List.Mem.tail _ (List.Mem.head _)) rfl)) rfl rfl ?_) | (refine Xg.st (StF.boxAgg rfl rfl) rfl rfl ?_; rintro _ _ ⟨bx, rfl, rfl⟩))) | (refine Xo.g rfl rfl ?_; (first | (with_reducible refine Xw.tf rfl rfl ?_) | (with_reducible refine Xw.caseN (fun h => ?_) (fun h => ?_) <;> simp only [h, decide_true, decide_false, Bool.not_true, Bool.not_false, and_self, and_true, true_and, and_false, false_and]))))) | (refine XO.done rfl ?_; refine hK _ _ ?_; clear hK K) | (refine XQ.op rfl ?_; (first | ((first | refine Yo.ng rfl ?_); (first | (refine Yg.ev (EvF.move rfl rfl) rfl rfl ?_) | (refine Yg.ev (EvF.fieldAddr rfl rfl (te rfl) rfl (te rfl) (by decide)) rfl rfl ?_) | (refine Yg.ev (EvF.loadV rfl rfl (LoadV.own (te rfl) rfl (List.Mem.tail _ (List.Mem.head _)) rfl)) rfl rfl ?_))))) | refine X.seq rfl ?_ | refine X.region rfl (fun K hK => ?_) | refine X.regionD rfl mixed (by kernel_rfl) (fun K hK => ?_) | refine X.block rfl ?_ | (refine X.brk rfl ?_; repeat (first | refine blockX_hit rfl ?_ | refine blockX_miss (by decide) ?_)) | refine X.skip rfl ?_ | refine X.ret rfl ?_ | (refine X.ite rfl rfl (fun hc => ?_); (first | (with_reducible refine Xb.t hc ?_) | (with_reducible refine Xb.case hc (fun h => ?_) (fun h => ?_)) | (with_reducible refine Xb.caseN hc (fun h => ?_) (fun h => ?_))) <;> clear hc))
  · obtain ⟨b, off, e, rfl, he⟩ := hR.mats.elem (i := k) (by omega)
    obtain ⟨b', off', f, rfl, hf⟩ := hS.mats.elem (i := k) (by omega)
    rw [drop_cons he, drop_cons hf, List.cons.injEq] at hn
    repeat' (first | (refine XO.op rfl ?_; (first | ((first | refine Xo.ng rfl ?_); (first | (refine Xg.ev (EvF.move rfl rfl) rfl rfl ?_) | (refine Xg.ev (EvF.assign rfl rfl) rfl rfl ?_) | (refine Xg.ev (EvF.add64 rfl rfl rfl (by omega) (by omega)) rfl rfl ?_))))) | (refine XO.done rfl ?_; refine hK _ _ ?_; clear hK K) | (refine XQ.op rfl ?_; (first | ((first | refine Yo.ng rfl ?_); (first | (refine Yg.ev (EvF.loadV rfl rfl (LoadV.elA0 (hR2 _ _).mats he (te rfl) rfl (fun _ hm => hm) rfl)) rfl rfl ?_) | (refine Yg.ev (EvF.loadV rfl rfl (LoadV.elA0 (hS2 _ _).mats hf (te rfl) rfl (fun _ hm => hm) rfl)) rfl rfl ?_) | (refine Yg.ev (EvF.eqSt rfl rfl rfl (by kernel_rfl) (fun w => eqMt 9997 e f w) rfl) rfl rfl ?_) | (refine Yg.ev (EvF.move rfl rfl) rfl rfl ?_) | (refine Yg.ev (EvF.fieldAddr rfl rfl (te rfl) rfl (te rfl) (by decide)) rfl rfl ?_) | (refine Yg.ev (EvF.indexSlice rfl rfl rfl (te rfl) (te rfl) (by omega) (by omega)) rfl rfl ?_) | (refine Yg.ev (EvF.loadV rfl rfl (LoadV.own (te rfl) rfl (List.Mem.head _) rfl)) rfl rfl ?_))))) | (refine XQ.done rfl ?_; refine hK _ ?_; clear hK K) | refine X.seq rfl ?_ | refine X.region rfl (fun K hK => ?_) | refine X.skip rfl ?_ | refine X.ret rfl ?_ | (refine X.ite rfl rfl (fun hc => ?_); (first | (with_reducible refine Xb.caseN hc (fun h => ?_) (fun h => ?_))) <;> clear hc))
    · refine ret_one (by first | exact .inr rfl | exact .inl rfl) Try.results24 rfl (H' := H) (by (repeat (first | exact List.Sublist.refl _ | apply List.Sublist.cons)); done) ?_; simp only [and_true, true_and]
      congr 1; symm; exact decide_eq_false (fun q => by subst q; exact absurd (hn.1 rfl).1 (by assumption))
    · refine ⟨_, _, _, (by (repeat (first | exact Sub.nil _ | refine Sub.cons rfl ?_)); done), (by (repeat (first | exact List.Sublist.refl _ | apply List.Sublist.cons)); done), ⟨k + 1, rfl, by omega, hn.trans (and_iff_right (by assumption)), rfl, rfl⟩, by omega⟩
  have hC : R.mats = S.mats := hn.2 (by rw [List.drop_eq_nil_of_le (by omega), List.drop_eq_nil_of_le (by omega)])
  refine ret_one (by first | exact .inr rfl | exact .inl rfl) Try.results24 rfl (H' := H) (by (repeat (first | exact List.Sublist.refl _ | apply List.Sublist.cons)); done) ?_; simp only [and_true, true_and]
  congr 1; symm; exact decide_eq_true (Rm.ext' em es hA hB hC)
end Go.Proofs.Ytblehgpfddmggaa
end
section
set_option linter.unusedVariables false
set_option linter.unusedSimpArgs false
namespace Go.Proofs.Ytblehgpfddmggaa
open Go Go.Fw
set_option maxRecDepth 10000
theorem lenMt (l : List Mt) : (l.flatMap cMt).length = l.length * 6 := flat_len (fun _ _ => rfl)
def wout (R : Rm) (l : List Int) (k : Nat) : List Mt := (R.mats.take k).filter (fun m => decide (m.number ∉ l))
theorem wout_in {R : Rm} {l : List Int} {k : Nat} {e : Mt} (he : R.mats[k]? = some e) (h : e.number ∈ l) : wout R l (k + 1) = wout R l k := by
  unfold wout; rw [take_snoc he, List.filter_append]; simp [h]
theorem wout_out {R : Rm} {l : List Int} {k : Nat} {e : Mt} (he : R.mats[k]? = some e) (h : e.number ∉ l) : wout R l (k + 1) = wout R l k ++ [e] := by
  unfold wout; rw [take_snoc he, List.filter_append]; simp [h]
theorem wout_len (R : Rm) (l : List Int) (k : Nat) : (wout R l k).length ≤ R.mats.length := by
  unfold wout; exact Nat.le_trans (List.length_filter_le _ _) (by rw [List.length_take]; omega)
theorem without_spec (R : Rm) (p : Pl) (l : List Int) (a : Option Addr) (c : Nat) (H : List Row) (hR : RmOk H R p) (hl : SlE H a cI 1 l) (hb : l.length ≤ 1000000) (h1 : R.ages.length ≤ 1000000) (h2 : R.boxes.length ≤ 1000000) (h3 : R.mats.length ≤ 1000000) : Fc Try.prog 94 [.agg (cRm R p).toArray, .slice a l.length c] H (fun v H' =>
    ∃ t1 k1 t2 k2 ao co Z, v = .agg (cRm { R with mats := wout R l R.mats.length } ⟨some ⟨t1, 0, none⟩, k1, some ⟨t2, 0, none⟩, k2, ao, co⟩).toArray ∧ H' = Z ++ ⟨t1, 0, R.ages.flatMap cSp, some 35, k1 * 2⟩ :: ⟨t2, 0, R.boxes.flatMap cBx, some 81, k2 * 2⟩ :: H ∧
      ((Z = [] ∧ ao = none ∧ co = 0 ∧ wout R l R.mats.length = []) ∨ ∃ t3, Z = [⟨t3, 0, (wout R l R.mats.length).flatMap cMt, some 114, co * 6⟩] ∧ ao = some ⟨t3, 0, none⟩)) := by
  obtain ⟨a1, c1, a2, c2, a3, c3⟩ := p
  have hR2 : ∀ r r', RmOk (r :: r' :: H) R ⟨a1, c1, a2, c2, a3, c3⟩ := fun r r' => hR.sub (fun _ h => List.mem_cons_of_mem _ (List.mem_cons_of_mem _ h))
  refine Fc.mk (callable Try.call94) Try.func94 rfl Try.ntmps94 rfl ?_; dsimp only [fr]
  repeat' (first | (refine XO.op rfl ?_; (first | ((first | refine Xo.ng rfl ?_); (first | (refine Xg.call (EnF.st rfl (by (repeat (first | exact Args.nil | refine Args.cons rfl ?_)); done)) rfl rfl (twin_spec R _ _ (hR2 _ _) h1 h2 h3) ?_; rintro _ _ ⟨t1, k1, t2, k2, t3, k3, rfl, rfl⟩) | (refine Xg.ev (EvF.move rfl rfl) rfl rfl ?_) | (refine Xg.ev (EvF.fieldAddr rfl rfl (te rfl) rfl (te rfl) (by decide)) rfl rfl ?_) | (refine Xg.ev (EvF.lenSlice rfl rfl (te rfl)) rfl rfl ?_) | (refine Xg.ev (EvF.loadV rfl rfl (LoadV.own (te rfl) rfl (List.Mem.tail _ (List.Mem.tail _ (List.Mem.tail _ (List.Mem.tail _ (List.Mem.tail _ (List.Mem.head _)))))) rfl)) rfl rfl ?_) | (refine Xg.ev (EvF.loadV rfl rfl (LoadV.whole (te rfl) rfl (List.Mem.tail _ (List.Mem.head _)) rfl)) rfl rfl ?_) | (refine Xg.st (StF.boxAgg rfl rfl) rfl rfl ?_; rintro _ _ ⟨bx, rfl, rfl⟩) | (refine Xg.st (StF.alloc rfl Try.zeroValue26 rfl) rfl rfl ?_; rintro _ _ ⟨bx, rfl, rfl⟩) | (refine Xg.st0 (StF.storeOne (i := 0) rfl rfl rfl rfl (te rfl) rfl rfl (Nat.le_of_ble_eq_true rfl)) rfl ?_; rintro _ _ ⟨rfl, rfl⟩; dsimp only [List.set]) | (refine Xg.st0 (StF.storeAll (i := 0) rfl rfl rfl (te rfl) rfl rfl rfl rfl) rfl ?_; rintro _ _ ⟨rfl, rfl⟩; dsimp only [List.set]))))) | (refine XO.done rfl ?_; refine hK _ _ ?_; clear hK K) | refine X.seq rfl ?_ | refine X.region rfl (fun K hK => ?_) | refine X.block rfl ?_)
  rename_i bz bt
  refine X.lp rfl (fun q F' H' => ∃ (k : Nat) (ao : Option Addr) (co : Nat) (Z : List Row), q = R.mats.length - k ∧ k ≤ R.mats.length ∧ ((Z = [] ∧ ao = none ∧ co = 0 ∧ wout R l k = []) ∨ ∃ t3, Z = [⟨t3, 0, (wout R l k).flatMap cMt, some 114, co * 6⟩] ∧ ao = some ⟨t3, 0, none⟩) ∧
      Z ++ (⟨bx, 0, cRm { R with mats := wout R l k } ⟨some ⟨t1, 0, none⟩, k1, some ⟨t2, 0, none⟩, k2, ao, co⟩, some 26, 5⟩ :: ⟨t1, 0, R.ages.flatMap cSp, some 35, k1 * 2⟩ :: ⟨t2, 0, R.boxes.flatMap cBx, some 81, k2 * 2⟩ :: ⟨bt, 0, [.int .i64 0, .int .i64 0, .slice none 0 0, .slice none 0 0, .slice none 0 0], some 26, 5⟩ :: H) = H' ∧
      F' = [(1, .slice a l.length c), (4, .pointer (some ⟨bt, 0, none⟩)), (5, .pointer (some ⟨bx, 0, none⟩)), (12, .slice a3 R.mats.length c3), (13, .int .i64 R.mats.length), (14, .int .i64 k)])
    R.mats.length [(1, .slice a l.length c), (4, .pointer (some ⟨bt, 0, none⟩)), (5, .pointer (some ⟨bx, 0, none⟩)), (12, .slice a3 R.mats.length c3), (13, .int .i64 R.mats.length), (14, .int .i64 (0 : Nat))] _ (by (repeat (first | exact Sub.nil _ | refine Sub.cons rfl ?_)); done) (by (repeat (first | exact List.Sublist.refl _ | apply List.Sublist.cons_cons | apply List.Sublist.cons)); done) ⟨0, none, 0, [], by omega, by omega, .inl ⟨rfl, rfl, rfl, rfl⟩, rfl, rfl⟩ ?_
  rintro _ _ _ ⟨k, ao, co, Z, rfl, hk, hz, rfl, rfl⟩
  rcases hz with ⟨rfl, rfl, rfl, hw⟩ | ⟨t3, rfl, rfl⟩
  · simp only [hw, List.nil_append]
    repeat' (first | (refine XO.op rfl ?_; (first | ((first | refine Xo.ng rfl ?_); (first | (refine Xg.ev (EvF.cmp rfl rfl rfl rfl) rfl rfl ?_) | (refine Xg.ev (EvF.loadV rfl rfl (LoadV.whole (te rfl) rfl (List.Mem.head _) rfl)) rfl rfl ?_) | (refine Xg.ev (EvF.loadV rfl rfl (LoadV.whole (te rfl) rfl (List.Mem.tail _ (List.Mem.head _)) rfl)) rfl rfl ?_) | (refine Xg.st0 (StF.storeAll (i := 3) rfl rfl rfl (te rfl) rfl rfl rfl rfl) rfl ?_; rintro _ _ ⟨rfl, rfl⟩; dsimp only [List.set]) | (refine Xg.st0 (StF.storeAll (i := 4) rfl rfl rfl (te rfl) rfl rfl rfl rfl) rfl ?_; rintro _ _ ⟨rfl, rfl⟩; dsimp only [List.set]))))) | (refine XO.done rfl ?_; refine hK _ _ ?_; clear hK K) | refine X.seq rfl ?_ | refine X.region rfl (fun K hK => ?_) | refine X.block rfl ?_ | (refine X.brk rfl ?_; repeat (first | refine blockX_hit rfl ?_ | refine blockX_miss (by decide) ?_)) | refine X.skip rfl ?_ | refine X.ret rfl ?_ | (refine X.ite rfl rfl (fun hc => ?_); (first | (with_reducible refine Xb.case hc (fun h => ?_) (fun h => ?_))) <;> clear hc))
    · obtain ⟨b, off, e, rfl, he⟩ := hR.mats.elem (i := k) (by omega)
      repeat' (first | (refine XO.op rfl ?_; (first | ((first | refine Xo.ng rfl ?_); (first | (refine Xg.ev (EvF.loadV rfl rfl (LoadV.elA0 (hR.mats.sub (fun _ hm => by repeat (first | exact hm | apply List.Mem.tail))) he (te rfl) rfl (fun _ hm => hm) rfl)) rfl rfl ?_) | (refine Xg.call (EnF.st rfl (by (repeat (first | exact Args.nil | refine Args.cons rfl ?_)); done)) rfl rfl (has_spec l a c _ _ (hl.sub (fun _ hm => by repeat (first | exact hm | apply List.Mem.tail))) (by omega)) ?_; rintro _ H9 ⟨rfl, hH9⟩; subst H9) | (refine Xg.st (StF.buildOne rfl el24 rfl rfl rfl (by decide) (by decide)) rfl rfl ?_; rintro _ _ ⟨bs, rfl, rfl⟩) | (refine Xg.st (StF.appendNew rfl el24 rfl rfl (by decide) rfl (Rd.own (List.Mem.head _)) (by decide)) rfl rfl ?_; rintro _ _ ⟨bn, kn, rfl, rfl⟩) | (refine Xg.ev (EvF.move rfl rfl) rfl rfl ?_) | (refine Xg.ev (EvF.add64 rfl rfl rfl (by omega) (by omega)) rfl rfl ?_) | (refine Xg.ev (EvF.not rfl rfl) rfl rfl ?_) | (refine Xg.ev (EvF.fieldAddr rfl rfl (te rfl) rfl (te rfl) (by decide)) rfl rfl ?_) | (refine Xg.ev (EvF.indexSlice rfl rfl rfl (te rfl) (te rfl) (by omega) (by omega)) rfl rfl ?_) | (refine Xg.ev (EvF.loadV rfl rfl (LoadV.own (te rfl) rfl (List.Mem.head _) rfl)) rfl rfl ?_) | (refine Xg.ev (EvF.loadV rfl rfl (LoadV.own (te rfl) rfl (List.Mem.tail _ (List.Mem.head _)) rfl)) rfl rfl ?_) | (refine Xg.ev (EvF.loadV rfl rfl (LoadV.whole (te rfl) rfl (List.Mem.head _) rfl)) rfl rfl ?_) | (refine Xg.st (StF.alloc rfl Try.zeroValue114 rfl) rfl rfl ?_; rintro _ _ ⟨bx, rfl, rfl⟩) | (refine Xg.st0 (StF.storeAll (i := 0) rfl rfl rfl (te rfl) rfl rfl rfl rfl) rfl ?_; rintro _ _ ⟨rfl, rfl⟩; dsimp only [List.set]) | (refine Xg.st0 (StF.storeOne (i := 3) rfl rfl rfl rfl (te rfl) rfl rfl (Nat.le_of_ble_eq_true rfl)) rfl ?_; rintro _ _ ⟨rfl, rfl⟩; dsimp only [List.set]))))) | (refine XO.done rfl ?_; refine hK _ _ ?_; clear hK K) | refine X.seq rfl ?_ | refine X.region rfl (fun K hK => ?_) | refine X.skip rfl ?_ | (refine X.ite rfl rfl (fun hc => ?_); (first | (with_reducible refine Xb.caseN hc (fun h => ?_) (fun h => ?_))) <;> clear hc))
      · have h5 := wout_out he (by assumption)
        rw [hw, List.nil_append] at h5
        refine ⟨_, _, _, (by (repeat (first | exact Sub.nil _ | refine Sub.cons rfl ?_)); done), ?_, ⟨k + 1, some ⟨bn, 0, none⟩, kn, [⟨bn, 0, (wout R l (k + 1)).flatMap cMt, some 114, kn * 6⟩], rfl, by omega, .inr ⟨bn, rfl, rfl⟩, rfl, rfl⟩, by omega⟩
        rw [h5]
        exact (by (repeat (first | exact List.Sublist.refl _ | apply List.Sublist.cons_cons | apply List.Sublist.cons)); done)
      · have h5 := wout_in he (by assumption)
        rw [hw] at h5
        refine ⟨_, _, _, (by (repeat (first | exact Sub.nil _ | refine Sub.cons rfl ?_)); done), ?_, ⟨k + 1, none, 0, [], rfl, by omega, .inl ⟨rfl, rfl, rfl, h5⟩, rfl, rfl⟩, by omega⟩
        rw [h5]
        exact (by (repeat (first | exact List.Sublist.refl _ | apply List.Sublist.cons)); done)
    · have hfull : wout R l R.mats.length = [] := by rw [show R.mats.length = k by omega]; exact hw
      refine ret_one (by first | exact .inr rfl | exact .inl rfl) Try.results94 ⟨_, rfl, LoadV.whole (te rfl) rfl (List.Mem.tail _ (List.Mem.tail _ (List.Mem.tail _ (List.Mem.head _)))) rfl⟩ (H' := ⟨t1, 0, R.ages.flatMap cSp, some 35, k1 * 2⟩ :: ⟨t2, 0, R.boxes.flatMap cBx, some 81, k2 * 2⟩ :: H) (by (repeat (first | exact List.Sublist.refl _ | apply List.Sublist.cons_cons | apply List.Sublist.cons)); done) ⟨t1, k1, t2, k2, none, 0, [], ?_, rfl, .inl ⟨rfl, rfl, rfl, hfull⟩⟩
      rw [hfull]
  · have hlen : ((wout R l k).flatMap cMt).length = (wout R l k).length * 6 := lenMt _
    have hwl := wout_len R l k
    simp only [List.cons_append, List.nil_append]
    repeat' (first | (refine XO.op rfl ?_; (first | ((first | refine Xo.ng rfl ?_); (first | (refine Xg.ev (EvF.cmp rfl rfl rfl rfl) rfl rfl ?_) | (refine Xg.ev (EvF.loadV rfl rfl (LoadV.whole (te rfl) rfl (List.Mem.head _) rfl)) rfl rfl ?_) | (refine Xg.ev (EvF.loadV rfl rfl (LoadV.whole (te rfl) rfl (List.Mem.tail _ (List.Mem.head _)) rfl)) rfl rfl ?_) | (refine Xg.st0 (StF.storeAll (i := 3) rfl rfl rfl (te rfl) rfl rfl rfl rfl) rfl ?_; rintro _ _ ⟨rfl, rfl⟩; dsimp only [List.set]) | (refine Xg.st0 (StF.storeAll (i := 4) rfl rfl rfl (te rfl) rfl rfl rfl rfl) rfl ?_; rintro _ _ ⟨rfl, rfl⟩; dsimp only [List.set]))))) | (refine XO.done rfl ?_; refine hK _ _ ?_; clear hK K) | refine X.seq rfl ?_ | refine X.region rfl (fun K hK => ?_) | refine X.block rfl ?_ | (refine X.brk rfl ?_; repeat (first | refine blockX_hit rfl ?_ | refine blockX_miss (by decide) ?_)) | refine X.skip rfl ?_ | refine X.ret rfl ?_ | (refine X.ite rfl rfl (fun hc => ?_); (first | (with_reducible refine Xb.case hc (fun h => ?_) (fun h => ?_))) <;> clear hc))
    · obtain ⟨b, off, e, rfl, he⟩ := hR.mats.elem (i := k) (by omega)
      repeat' (first | (refine XO.op rfl ?_; (first | ((first | refine Xo.ng rfl ?_); (first | (refine Xg.ev (EvF.loadV rfl rfl (LoadV.elA0 (hR.mats.sub (fun _ hm => by repeat (first | exact hm | apply List.Mem.tail))) he (te rfl) rfl (fun _ hm => hm) rfl)) rfl rfl ?_) | (refine Xg.call (EnF.st rfl (by (repeat (first | exact Args.nil | refine Args.cons rfl ?_)); done)) rfl rfl (has_spec l a c _ _ (hl.sub (fun _ hm => by repeat (first | exact hm | apply List.Mem.tail))) (by omega)) ?_; rintro _ H9 ⟨rfl, hH9⟩; subst H9) | (refine Xg.st (StF.buildOne rfl el24 rfl rfl rfl (by decide) (by decide)) rfl rfl ?_; rintro _ _ ⟨bs, rfl, rfl⟩) | (refine Xg.st (StF.appendOwn (i := 2) rfl el24 rfl rfl rfl hlen rfl (Rd.own (List.Mem.head _)) rfl (by dsimp only; omega)) rfl rfl ?_; rintro _ _ ⟨bn, kn, rfl, rfl⟩; dsimp only [List.eraseIdx]) | (refine Xg.ev (EvF.move rfl rfl) rfl rfl ?_) | (refine Xg.ev (EvF.add64 rfl rfl rfl (by omega) (by omega)) rfl rfl ?_) | (refine Xg.ev (EvF.not rfl rfl) rfl rfl ?_) | (refine Xg.ev (EvF.fieldAddr rfl rfl (te rfl) rfl (te rfl) (by decide)) rfl rfl ?_) | (refine Xg.ev (EvF.indexSlice rfl rfl rfl (te rfl) (te rfl) (by omega) (by omega)) rfl rfl ?_) | (refine Xg.ev (EvF.loadV rfl rfl (LoadV.own (te rfl) rfl (List.Mem.head _) rfl)) rfl rfl ?_) | (refine Xg.ev (EvF.loadV rfl rfl (LoadV.own (te rfl) rfl (List.Mem.tail _ (List.Mem.tail _ (List.Mem.head _))) rfl)) rfl rfl ?_) | (refine Xg.ev (EvF.loadV rfl rfl (LoadV.whole (te rfl) rfl (List.Mem.head _) rfl)) rfl rfl ?_) | (refine Xg.st (StF.alloc rfl Try.zeroValue114 rfl) rfl rfl ?_; rintro _ _ ⟨bx, rfl, rfl⟩) | (refine Xg.st0 (StF.storeAll (i := 0) rfl rfl rfl (te rfl) rfl rfl rfl rfl) rfl ?_; rintro _ _ ⟨rfl, rfl⟩; dsimp only [List.set]) | (refine Xg.st0 (StF.storeOne (i := 3) rfl rfl rfl rfl (te rfl) rfl rfl (Nat.le_of_ble_eq_true rfl)) rfl ?_; rintro _ _ ⟨rfl, rfl⟩; dsimp only [List.set]))))) | (refine XO.done rfl ?_; refine hK _ _ ?_; clear hK K) | refine X.seq rfl ?_ | refine X.region rfl (fun K hK => ?_) | refine X.skip rfl ?_ | (refine X.ite rfl rfl (fun hc => ?_); (first | (with_reducible refine Xb.caseN hc (fun h => ?_) (fun h => ?_))) <;> clear hc))
      · have h5 := wout_out he (by assumption)
        have h6 : (wout R l (k + 1)).length = (wout R l k).length + 1 := by rw [h5]; simp
        refine ⟨_, _, _, (by (repeat (first | exact Sub.nil _ | refine Sub.cons rfl ?_)); done), ?_, ⟨k + 1, some ⟨bn, 0, none⟩, kn, [⟨bn, 0, (wout R l (k + 1)).flatMap cMt, some 114, kn * 6⟩], rfl, by omega, .inr ⟨bn, rfl, rfl⟩, rfl, rfl⟩, by omega⟩
        rw [h5, List.flatMap_append]
        unfold cRm
        dsimp only
        rw [List.length_append]
        exact (by (repeat (first | exact List.Sublist.refl _ | apply List.Sublist.cons_cons | apply List.Sublist.cons)); done)
      · have h5 := wout_in he (by assumption)
        refine ⟨_, _, _, (by (repeat (first | exact Sub.nil _ | refine Sub.cons rfl ?_)); done), ?_, ⟨k + 1, some ⟨t3, 0, none⟩, co, _, rfl, by omega, .inr ⟨t3, rfl, rfl⟩, rfl, rfl⟩, by omega⟩
        rw [h5]
        exact (by (repeat (first | exact List.Sublist.refl _ | apply List.Sublist.cons)); done)
    · have hfull : wout R l R.mats.length = wout R l k := by rw [show R.mats.length = k by omega]
      rw [hfull]
      refine ret_one (by first | exact .inr rfl | exact .inl rfl) Try.results94 ⟨_, rfl, LoadV.whole (te rfl) rfl (List.Mem.tail _ (List.Mem.tail _ (List.Mem.tail _ (List.Mem.tail _ (List.Mem.head _))))) rfl⟩ (H' := ⟨t3, 0, (wout R l k).flatMap cMt, some 114, co * 6⟩ :: ⟨t1, 0, R.ages.flatMap cSp, some 35, k1 * 2⟩ :: ⟨t2, 0, R.boxes.flatMap cBx, some 81, k2 * 2⟩ :: H) (by (repeat (first | exact List.Sublist.refl _ | apply List.Sublist.cons_cons | apply List.Sublist.cons)); done) ⟨t1, k1, t2, k2, _, _, _, rfl, rfl, .inr ⟨t3, rfl, rfl⟩⟩
end Go.Proofs.Ytblehgpfddmggaa
end
section
set_option linter.unusedVariables false
namespace Go.Fw
open Go
section
variable {P : Program} {n : Nat} {ops : Array Oper} {i : Nat} {o : Oper} {F : FS} {H : List Row}
end
end Go.Fw
end
section
set_option linter.unusedVariables false
set_option linter.unusedSimpArgs false
namespace Go.Proofs.Ytblehgpfddmggaa
open Go Go.Fw
set_option maxRecDepth 10000
theorem sleNil {α : Type} {H : List Row} {a : Option Addr} {enc : α → List Value} {sz : Nat} : SlE H a enc sz [] := by
  unfold SlE
  exact ⟨fun _ h => absurd h List.not_mem_nil, fun h => absurd h (Nat.lt_irrefl 0)⟩
end Go.Proofs.Ytblehgpfddmggaa
end
section
set_option linter.unusedVariables false
set_option linter.unusedSimpArgs false
namespace Go.Proofs.Ytblehgpfddmggaa
open Go Go.Fw
set_option maxRecDepth 10000
/-- numbers that rise, from above a number -/
def rises : Int → List Int → Prop
  | _, [] => True
  | p, n :: t => p < n ∧ rises n t
def lastOf : Int → List Int → Int
  | p, [] => p
  | _, n :: t => lastOf n t
def risesOk (l : List Int) : Prop := rises 0 l ∧ lastOf 0 l ≤ 9999
noncomputable instance (l : List Int) : Decidable (risesOk l) := Classical.propDecidable _
theorem anyPoints_spec (H : List Row) : Fc Try.prog 113 [] H (fun v H' => v = .agg (cSp ⟨0, 60⟩).toArray ∧ H' = H) := by
  refine Fc.mk (callable Try.call113) Try.func113 rfl Try.ntmps113 rfl ?_; dsimp only [fr]
  repeat' (first | (refine XO.op rfl ?_; (first | ((first | refine Xo.ng rfl ?_); (first | (refine Xg.ev (EvF.build (cs := cSp ⟨0, 60⟩) rfl (ArgsP.cons rfl (ArgsP.cons rfl ArgsP.nil)) (te rfl) (Places.cons (te rfl) (Places.cons (te rfl) Places.nil)) Try.zeroValue35 rfl) rfl rfl ?_) | (refine Xg.st (StF.alloc rfl Try.zeroValue35 rfl) rfl rfl ?_; rintro _ _ ⟨bx, rfl, rfl⟩) | (refine Xg.st0 (StF.storeAll (i := 0) rfl rfl rfl (te rfl) rfl rfl rfl rfl) rfl ?_; rintro _ _ ⟨rfl, rfl⟩; dsimp only [List.set]))))) | (refine XO.done rfl ?_; refine hK _ _ ?_; clear hK K) | refine X.seq rfl ?_ | refine X.region rfl (fun K hK => ?_) | refine X.ret rfl ?_)
  exact ret_one (by first | exact .inr rfl | exact .inl rfl) Try.results113 ⟨_, rfl, LoadV.whole (te rfl) rfl (List.Mem.head _) rfl⟩ (H' := H) (by (repeat (first | exact List.Sublist.refl _ | apply List.Sublist.cons_cons | apply List.Sublist.cons)); done) ⟨rfl, rfl⟩
theorem rising_spec (l : List Int) (a : Option Addr) (c : Nat) (H : List Row) (hl : SlE H a cI 1 l) (hb : l.length ≤ 9223372036854775807) : Fc Try.prog 115 [.slice a l.length c] H (fun v H' => v = .bool (decide (risesOk l)) ∧ H' = H) := by
  refine Fc.mk (callable Try.call115) Try.func115 rfl Try.ntmps115 rfl ?_; dsimp only [fr]
  repeat' (first | (refine XO.op rfl ?_; (first | ((first | refine Xo.ng rfl ?_); (first | (refine Xg.ev (EvF.move rfl rfl) rfl rfl ?_) | (refine Xg.ev (EvF.assign rfl rfl) rfl rfl ?_) | (refine Xg.ev (EvF.cmp rfl rfl rfl rfl) rfl rfl ?_) | (refine Xg.ev (EvF.lenSlice rfl rfl (te rfl)) rfl rfl ?_))))) | (refine XO.done rfl ?_; refine hK _ _ ?_; clear hK K) | refine X.seq rfl ?_ | refine X.region rfl (fun K hK => ?_) | refine X.block rfl ?_ | (refine X.brk rfl ?_; repeat (first | refine blockX_hit rfl ?_ | refine blockX_miss (by decide) ?_)) | refine X.skip rfl ?_ | refine X.ret rfl ?_ | (refine X.ite rfl rfl (fun hc => ?_); (first | (with_reducible refine Xb.case hc (fun h => ?_) (fun h => ?_))) <;> clear hc))
  refine X.lp rfl (fun q F' H' => ∃ (k : Nat) (last : Int), q = l.length - k ∧ k ≤ l.length ∧ (risesOk l ↔ rises last (l.drop k) ∧ lastOf last (l.drop k) ≤ 9999) ∧ H = H' ∧
      F' = [(3, .int .i64 last), (6, .slice a l.length c), (7, .int .i64 l.length), (8, .int .i64 k)])
    l.length [(3, .int .i64 0), (6, .slice a l.length c), (7, .int .i64 l.length), (8, .int .i64 (0 : Nat))] _ (by (repeat (first | exact Sub.nil _ | refine Sub.cons rfl ?_)); done) (by (repeat (first | exact List.Sublist.refl _ | apply List.Sublist.cons_cons | apply List.Sublist.cons)); done) ⟨0, 0, by omega, by omega, by simp [risesOk], rfl, rfl⟩ ?_
  rintro _ _ _ ⟨k, last, rfl, hk, hn, rfl, rfl⟩
  repeat' (first | (refine XO.op rfl ?_; (first | ((first | refine Xo.ng rfl ?_); (first | (refine Xg.ev (EvF.move rfl rfl) rfl rfl ?_) | (refine Xg.ev (EvF.assign rfl rfl) rfl rfl ?_) | (refine Xg.ev (EvF.cmp rfl rfl rfl rfl) rfl rfl ?_) | (refine Xg.ev (EvF.lenSlice rfl rfl (te rfl)) rfl rfl ?_))))) | (refine XO.done rfl ?_; refine hK _ _ ?_; clear hK K) | refine X.seq rfl ?_ | refine X.region rfl (fun K hK => ?_) | refine X.block rfl ?_ | (refine X.brk rfl ?_; repeat (first | refine blockX_hit rfl ?_ | refine blockX_miss (by decide) ?_)) | refine X.skip rfl ?_ | refine X.ret rfl ?_ | (refine X.ite rfl rfl (fun hc => ?_); (first | (with_reducible refine Xb.case hc (fun h => ?_) (fun h => ?_))) <;> clear hc))
  · obtain ⟨b, off, e, rfl, he⟩ := hl.elem (i := k) (by omega)
    rw [drop_cons he] at hn
    repeat' (first | (refine XO.op rfl ?_; (first | ((first | refine Xo.ng rfl ?_); (first | (refine Xg.ev (EvF.loadV rfl rfl (LoadV.el0 hl he (te rfl) rfl (fun _ hm => hm) rfl)) rfl rfl ?_) | (refine Xg.ev (EvF.move rfl rfl) rfl rfl ?_) | (refine Xg.ev (EvF.assign rfl rfl) rfl rfl ?_) | (refine Xg.ev (EvF.cmp rfl rfl rfl rfl) rfl rfl ?_) | (refine Xg.ev (EvF.add64 rfl rfl rfl (by omega) (by omega)) rfl rfl ?_) | (refine Xg.ev (EvF.indexSlice rfl rfl rfl (te rfl) (te rfl) (by omega) (by omega)) rfl rfl ?_))))) | (refine XO.done rfl ?_; refine hK _ _ ?_; clear hK K) | refine X.seq rfl ?_ | refine X.region rfl (fun K hK => ?_) | refine X.skip rfl ?_ | refine X.ret rfl ?_ | (refine X.ite rfl rfl (fun hc => ?_); (first | (with_reducible refine Xb.case hc (fun h => ?_) (fun h => ?_))) <;> clear hc))
    · refine ret_one (by first | exact .inr rfl | exact .inl rfl) Try.results115 rfl (H' := H) (by (repeat (first | exact List.Sublist.refl _ | apply List.Sublist.cons)); done) ?_; simp only [and_true, true_and]
      congr 1; symm; exact decide_eq_false (fun q => by have := (hn.1 q).1.1; omega)
    · refine ⟨_, _, _, (by (repeat (first | exact Sub.nil _ | refine Sub.cons rfl ?_)); done), (by (repeat (first | exact List.Sublist.refl _ | apply List.Sublist.cons)); done), ⟨k + 1, e, rfl, by omega, hn.trans ⟨fun q => ⟨q.1.2, q.2⟩, fun q => ⟨⟨by omega, q.1⟩, q.2⟩⟩, rfl, rfl⟩, by omega⟩
  · rw [List.drop_eq_nil_of_le (by omega)] at hn
    refine ret_one (by first | exact .inr rfl | exact .inl rfl) Try.results115 rfl (H' := H) (by (repeat (first | exact List.Sublist.refl _ | apply List.Sublist.cons)); done) ?_; simp only [and_true, true_and]
    congr 1; symm
    exact decide_eq_decide.2 ⟨fun q => (hn.1 q).2, fun q => hn.2 ⟨trivial, q⟩⟩
end Go.Proofs.Ytblehgpfddmggaa
end
section
set_option linter.unusedVariables false
namespace Go.Fw
open Go Go.RowKit
def bv : Value → Option Bool
  | .bool b => some b
  | _ => none
theorem yielded_bv {ops : Array Oper} {t : List Value} {j d : Nat} {o : Oper} {v : Value} (ho : ops[j]? = some o) (hd : o.dst = some d) (hv : t[d]? = some v) : yielded ops t.toArray j = bv v := by
  unfold yielded
  simp only [ho, Option.bind_some, hd, List.getElem?_toArray, hv]
  cases v <;> rfl
def okOp2 (ts : List TOp) (dom : List Nat) (n m : Nat) (i : Nat) (o : Oper) : Bool :=
  let T := tAt ts i
  (match o.guard with | some (j, _) => T.sup.contains j | none => true) && (o.dst == T.dst) &&
  (match T.dst with | some d => decide (d < n) && !dom.contains d && (List.range i).all (fun j => (tAt ts j).dst != some d) | none => true) &&
  o.after.toList.all (fun e => !Region.binds .any e || decide (e.on < i)) &&
  T.sup.all (fun j => decide (j < i) && o.after.toList.any (fun e => Region.binds .any e && (e.on == j || (tAt ts e.on).sup.contains j))) &&
  T.deps.all (fun j => T.sup.contains j) && T.kills.all (fun k => T.sup.contains k || decide (m ≤ k ∧ k < ts.length))
def okReg2 (ops : Array Oper) (ts : List TOp) (dom : List Nat) (n : Nat) : Bool :=
  decide (ops.size ≤ ts.length) && ops.toList.zipIdx.all (fun p => okOp2 ts dom n ops.size p.2 p.1) && decide ((ts.flatMap (·.kills)).Nodup) && (ts.drop ops.size).all (fun T => T.kills.isEmpty && T.sup.isEmpty)


/-- An operation, whatever it does: a value, a turn of the rows, or a call. -/
def OpF (P : Program) (n : Nat) (H : List Row) (F : FS) (o : Oper) (K : Value → List Row → Prop) : Prop := ∀ t, Ag n F t → ∀ ρ ds B w0 w, St B w0 H w → ∀ (k : Act → World → Prop) (Q : Exit → Act → World → Prop),
  (∀ v w' H', St B w0 H' w' → K v H' → k ⟨(put t o.dst v).toArray, ds⟩ w') → o.wpIn (wf ρ) 0 P ⟨t.toArray, ds⟩ w k Q
theorem StF.op {P : Program} {n : Nat} {H : List Row} {F : FS} {o : Oper} {K : Value → List Row → Prop} (h : StF P n H F o K) : OpF P n H F o K := by
  intro t ha ρ ds B w0 w hS k Q hk
  unfold StF StepOp at h
  obtain ⟨v, w', H', hrun, hS', hK⟩ := h t ha B w0 w hS
  unfold Oper.wpIn
  refine ⟨fun _ _ => trivial, ?_⟩
  rw [eval_ev]
  rcases hrun with hrun | ⟨hrun, rfl⟩
  · rw [sem_value hrun, Oper.uponIn_value, put_act]; exact hk v w' H' hS' hK
  · rw [sem_skip hrun, Oper.uponIn_skip, put_act]; exact hk undef w' H' hS' hK
theorem OpF.call {P : Program} {n : Nat} {H : List Row} {F : FS} {o : Oper} {f : FuncId} {args : List Value} {R : Value → List Row → Prop} (he : Callable P f → EnF P n H F o f args) (hf : Fc P f args H R) : OpF P n H F o R := by
  intro t ha ρ ds B w0 w hS k Q hk
  unfold Fc at hf
  have h1 := he hf.1
  unfold EnF EnOp at h1
  unfold Oper.wpIn
  refine ⟨fun _ _ => trivial, ?_⟩
  rw [eval_ev, sem_enter (h1 t ha B w0 w hS), Oper.uponIn_enter]
  refine ⟨(fun h => by cases h), wf_calls.2 ((hf.2 B w0 w hS).mono ?_)⟩
  rintro e w' ⟨v, H', rfl, hR, hS'⟩
  simp only [put_act]
  exact hk v w' H' hS' hR
theorem OpF.mono {P : Program} {n : Nat} {H : List Row} {F : FS} {o : Oper} {K K' : Value → List Row → Prop} (h : OpF P n H F o K) (hk : ∀ v H', K v H' → K' v H') : OpF P n H F o K' :=
  fun t ha ρ ds B w0 w hS k Q hQ => h t ha ρ ds B w0 w hS k Q (fun v w' H' hS' hK => hQ v w' H' hS' (hk v H' hK))
theorem OpF.drop {P : Program} {n : Nat} {H : List Row} {F : FS} {o : Oper} {K K' : Value → List Row → Prop} (h : OpF P n H F o K) (hk : ∀ v H', K v H' → ∃ H'', H''.Sublist H' ∧ K' v H'') : OpF P n H F o K' :=
  fun t ha ρ ds B w0 w hS k Q hQ => h t ha ρ ds B w0 w hS k Q (fun v w' H' hS' hK => let ⟨H'', hs, hK'⟩ := hk v H' hK; hQ v w' H'' (hS'.sub hs) hK')
/-- a call whose result alone is kept -/
theorem OpF.callV {P : Program} {n : Nat} {Z R : List Row} {F : FS} {o : Oper} {f : FuncId} {args : List Value} {v0 : Value} {g : Nat × Nat → Value} {q : Prop} {rw' : Nat × Nat → List Row} (he : Callable P f → EnF P n (Z ++ R) F o f args) (hf : Fc P f args (Z ++ R) (fun v H' => v = v0 ∧ H' = Z ++ R)) (hv : v0 = g (0, 0)) (hr : rw' (0, 0) = []) :
    OpF P n (Z ++ R) F o (fun u H' => ∃ p, (q → u = g p) ∧ H'.Perm (rw' p ++ R)) :=
  (OpF.call he hf).drop fun v H' ⟨h1, h2⟩ => ⟨R, by rw [h2]; exact List.sublist_append_right _ _, (0, 0), fun _ => h1.trans hv, by rw [hr]; exact List.Perm.refl _⟩
def gt (g : Bool) (v : Value) : Value := match g with | true => undef | false => v
def gr (g : Bool) (l : List Row) : List Row := match g with | true => [] | false => l
def Ob (P : Program) (n : Nat) (ts : List TOp) (val : Nat → Env → Value) (rows : Nat → Env → List Row) (F0 : FS) (R0 : List Row) (i : Nat) (o : Oper) : Prop :=
  ((o.guard = none ∨ ∃ j w, o.guard = some (j, w) ∧ (tAt ts j).dst ≠ none ∧ ∀ env, bv (val j env) = some w) ∧
    ∀ env R, (∀ r ∈ R0, r ∈ R) → OpF P n ((tAt ts i).kills.flatMap (fun k => rows k env) ++ R) (fdeps ts val env F0 (tAt ts i).deps) o
      (fun v H' => ∃ p, ((tAt ts i).dst ≠ none → v = val i (upd env i p)) ∧ H'.Perm (rows i (upd env i p) ++ R))) ∨
  (∃ j w, o.guard = some (j, w) ∧ (tAt ts j).dst ≠ none ∧ (∀ env, bv (val j env) ≠ some w) ∧ (∀ env, (tAt ts i).kills.flatMap (fun k => rows k env) = []) ∧ (∀ env, val i env = undef) ∧ ∀ env, rows i env = [])
def ObR (P : Program) (n : Nat) (ts : List TOp) (rd : Nat → List Nat) (val : Nat → Env → Value) (rows : Nat → Env → List Row) (F0 : FS) (R0 : List Row) (i : Nat) (o : Oper) : Prop :=
  ((o.guard = none ∨ ∃ j w, o.guard = some (j, w) ∧ (tAt ts j).dst ≠ none ∧ ∀ env, bv (val j env) = some w) ∧
    ∀ env R, (∀ r ∈ R0, r ∈ R) → (∀ k ∈ rd i, ∀ r ∈ rows k env, r ∈ R) → OpF P n ((tAt ts i).kills.flatMap (fun k => rows k env) ++ R) (fdeps ts val env F0 (tAt ts i).deps) o
      (fun v H' => ∃ p, ((tAt ts i).dst ≠ none → v = val i (upd env i p)) ∧ H'.Perm (rows i (upd env i p) ++ R))) ∨
  (∃ j w, o.guard = some (j, w) ∧ (tAt ts j).dst ≠ none ∧ (∀ env, bv (val j env) ≠ some w) ∧ (∀ env, (tAt ts i).kills.flatMap (fun k => rows k env) = []) ∧ (∀ env, val i env = undef) ∧ ∀ env, rows i env = [])
theorem Ob.toR {P : Program} {n : Nat} {ts : List TOp} {rd : Nat → List Nat} {val : Nat → Env → Value} {rows : Nat → Env → List Row} {F0 : FS} {R0 : List Row} {i : Nat} {o : Oper} (h : Ob P n ts val rows F0 R0 i o) : ObR P n ts rd val rows F0 R0 i o := by
  rcases h with ⟨h1, h2⟩ | h
  · exact .inl ⟨h1, fun env R hR _ => h2 env R hR⟩
  · exact .inr h
/-- what operations read, though others take it away: these come after -/
def okRd (ts : List TOp) (rd : Nat → List Nat) (m : Nat) : Bool :=
  (List.range m).all fun i => (rd i).all fun k => ((tAt ts i).sup.contains k || decide (m ≤ k ∧ k < ts.length)) && !(tAt ts i).kills.contains k && (List.range m).all fun j => !(tAt ts j).kills.contains k || (tAt ts j).sup.contains i
theorem wpAny_ob {P : Program} {n : Nat} {ops : Array Oper} {ts : List TOp} {dom : List Nat} {F0 : FS} (hd : F0.map (·.1) = dom) (hok : okReg2 ops ts dom n = true) (rd : Nat → List Nat) (hrd : okRd ts rd ops.size = true) (val : Nat → Env → Value) (rows : Nat → Env → List Row)
    (hloc : ∀ k env i p, i ≠ k → (tAt ts k).sup.contains i = false → val k (upd env i p) = val k env ∧ rows k (upd env i p) = rows k env)
    (R0 : List Row) (hob : ∀ i o, opAt ops.toList i = some o → ObR P n ts rd val rows F0 R0 i o)
    {Q : QT} (hQ : ∀ env t, Ag n F0 t → (∀ i d, i < ops.size → (tAt ts i).dst = some d → t[d]? = some (val i env)) → Q .normal t ((alive ts).flatMap (fun k => rows k env) ++ R0))
    {ρ : Option Nat} {ds : List Deferred} {B : Nat} {w0 : World} :
    ∀ (fuel : Nat) (listed : Array Bool) (U A : List Nat) (t : List Value) (H : List Row) (w : World) (env : Env), listed.size = ops.size → U.length = fuel → U.Nodup → (∀ k, k ∈ U ↔ k < ops.size ∧ listed.getD k true = false) →
      (∀ k, k < ops.size → listed.getD k true = true → ∀ j, (tAt ts k).sup.contains j = true → listed.getD j true = true) →
      A.Nodup → (∀ k, k ∈ A ↔ k < ts.length ∧ listed.getD k true = true ∧ ∀ j, j < ops.size → listed.getD j true = true → k ∉ (tAt ts j).kills) →
      Ag n F0 t → (∀ k d, k < ops.size → listed.getD k true = true → (tAt ts k).dst = some d → t[d]? = some (val k env)) →
      St B w0 H w → H.Perm (R0 ++ A.flatMap (fun k => rows k env)) → wpAnyIn (wf ρ) 0 P .any ops (lift ds B w0 Q) fuel listed ⟨t.toArray, ds⟩ w := by
  unfold okReg2 at hok
  simp only [Bool.and_eq_true, decide_eq_true_eq] at hok
  obtain ⟨⟨⟨hlen, hops⟩, hkn⟩, hps⟩ := hok
  have hopAt : ∀ i o, ops[i]? = some o → okOp2 ts dom n ops.size i o = true := by
    intro i o hi
    have := List.all_eq_true.1 hops (o, i) (by
      rw [List.mem_zipIdx_iff_getElem?]; simpa using hi)
    exact this
  intro fuel
  induction fuel with
  | zero =>
    intro listed U A t H w env hls hUl hUn hU hcl hAn hA hag hv hS hH
    have hU0 : U = [] := List.eq_nil_of_length_eq_zero hUl
    subst hU0
    have hall : ∀ k, listed.getD k true = true := by
      intro k
      cases hk : listed.getD k true with
      | true => rfl
      | false =>
        by_cases h1 : k < ops.size
        · exact absurd ((hU k).2 ⟨h1, hk⟩) (by simp)
        · rw [Array.getD_eq_getD_getElem?, Array.getElem?_eq_none (by omega)] at hk; cases hk
    refine ⟨?_, rfl, _, ?_, hS.perm (H' := (alive ts).flatMap (fun k => rows k env) ++ R0) ?_⟩
    · unfold Region.ready
      rw [List.filter_eq_nil_iff]
      intro k _
      rw [hall]; simp
    · have := hQ env t hag (fun i d hi hd => hv i d hi (hall i) hd)
      simpa using this
    · refine List.perm_append_comm.trans ((List.Perm.append_left R0 (List.Perm.flatMap_right _ ?_)).trans hH.symm)
      refine perm_of_mem ((List.nodup_range).sublist List.filter_sublist) hAn fun k => ?_
      rw [hA, alive, List.mem_filter, List.mem_range]
      simp only [hall, true_and, Bool.not_eq_true', List.contains_eq_mem, decide_eq_false_iff_not, true_implies]
      refine and_congr_right fun _ => ⟨fun h j _ hj => h (tAt_mem hj), fun h hm => ?_⟩
      obtain ⟨T, hT, hk⟩ := List.mem_flatMap.1 hm
      obtain ⟨j, hj, rfl⟩ := List.mem_iff_getElem.1 hT
      by_cases hj' : j < ops.size
      · exact h j hj' (by unfold tAt; simp [List.getD, hj, hk])
      · have := List.all_eq_true.1 hps ts[j] (by
          rw [List.mem_iff_getElem?]
          exact ⟨j - ops.size, by rw [List.getElem?_drop, show ops.size + (j - ops.size) = j by omega, List.getElem?_eq_getElem hj]⟩)
        simp only [Bool.and_eq_true, List.isEmpty_iff] at this
        rw [this.1] at hk; cases hk
  | succ fuel ih =>
    intro listed U A t H w env hls hUl hUn hU hcl hAn hA hag hv hS hH
    have hge : ∀ k, ops.size ≤ k → listed.getD k true = true := fun k hk => by rw [Array.getD_eq_getD_getElem?, Array.getElem?_eq_none (by omega)]; rfl
    have hgd : ∀ k, k < ops.size → listed.getD k false = listed.getD k true := fun k hk => by
      rw [Array.getD_eq_getD_getElem?, Array.getD_eq_getD_getElem?, Array.getElem?_eq_getElem (by omega)]; rfl
    refine ⟨fun h0 => ?_, fun i hi => ?_⟩
    · exfalso
      have key : ∀ m, m ∈ U → False := by
        intro m
        induction m using Nat.strongRecOn with
        | _ m ihm =>
          intro hm
          obtain ⟨hms, hml⟩ := (hU m).1 hm
          obtain ⟨o, ho⟩ : ∃ o, ops[m]? = some o := ⟨ops[m], Array.getElem?_eq_getElem hms⟩
          have hc := hopAt m o ho
          unfold okOp2 at hc
          simp only [Bool.and_eq_true] at hc
          obtain ⟨⟨⟨⟨_, haf⟩, _⟩, _⟩, _⟩ := hc
          by_cases hal : o.after.all (fun e => !Region.binds .any e || listed.getD e.on false) = true
          · have : m ∈ Region.ready .any ops listed := by
              unfold Region.ready
              rw [List.mem_filter]
              refine ⟨List.mem_range.2 hms, ?_⟩
              rw [hml, ho]
              simp only [Option.map_some, Option.getD_some, Bool.not_false, Bool.true_and]
              exact hal
            rw [h0] at this; cases this
          · have : ∃ e ∈ o.after, ¬ ((!Region.binds .any e || listed.getD e.on false) = true) := by
              rw [Array.all_eq_true_iff_forall_mem] at hal
              simpa using hal
            obtain ⟨e, he, hne⟩ := this
            have h1 := List.all_eq_true.1 haf e (Array.mem_toList_iff.2 he)
            simp only [Bool.or_eq_true, Bool.not_eq_true', not_or, Bool.not_eq_false, Bool.not_eq_true] at hne h1
            have h2 : e.on < m := by
              rcases h1 with h1 | h1
              · rw [hne.1] at h1; cases h1
              · simpa using h1
            refine ihm e.on h2 ((hU e.on).2 ⟨by omega, ?_⟩)
            rw [← hgd e.on (by omega)]; exact hne.2
      cases U with
      | nil => simp at hUl
      | cons u U => exact key u (List.mem_cons_self ..)
    · unfold Region.ready at hi
      rw [List.mem_filter, List.mem_range] at hi
      obtain ⟨his, hi2⟩ := hi
      obtain ⟨o, ho⟩ : ∃ o, ops[i]? = some o := ⟨ops[i], Array.getElem?_eq_getElem his⟩
      simp only [ho, Option.map_some, Option.getD_some, Bool.and_eq_true, Bool.not_eq_true'] at hi2
      obtain ⟨hil, hia⟩ := hi2
      have hc := hopAt i o ho
      unfold okOp2 at hc
      simp only [Bool.and_eq_true] at hc
      obtain ⟨⟨⟨⟨⟨⟨hgu, hdst⟩, hds⟩, haf⟩, hsup⟩, hdeps⟩, hkil⟩ := hc
      have hdst' : o.dst = (tAt ts i).dst := by simpa using hdst
      rw [Array.all_eq_true_iff_forall_mem] at hia
      have hson : ∀ j, (tAt ts i).sup.contains j = true → j < i ∧ listed.getD j true = true := by
        intro j hj
        have h1 := List.all_eq_true.1 hsup j (by simpa using hj)
        simp only [Bool.and_eq_true, decide_eq_true_eq, List.any_eq_true] at h1
        obtain ⟨hji, e, he', hb, h2⟩ := h1
        have he := Array.mem_toList_iff.1 he'
        refine ⟨hji, ?_⟩
        have h3 := hia e he
        rw [hb] at h3
        have h4 := List.all_eq_true.1 haf e he'
        rw [hb] at h4
        simp only [Bool.not_true, Bool.false_or, decide_eq_true_eq] at h3 h4
        rw [hgd e.on (by omega)] at h3
        simp only [Bool.or_eq_true, beq_iff_eq] at h2
        rcases h2 with h2 | h2
        · rw [← h2]; exact h3
        · exact hcl e.on (by omega) h3 j h2
      have hks : ∀ k ∈ (tAt ts i).kills, k ∈ A := by
        intro k hk
        rw [hA]
        have h1 := List.all_eq_true.1 hkil k hk
        simp only [Bool.or_eq_true, decide_eq_true_eq] at h1
        refine ⟨?_, ?_, fun j hj hjl hkj => ?_⟩
        · rcases h1 with h1 | h1
          · have := (hson k h1).1; omega
          · omega
        · rcases h1 with h1 | h1
          · exact (hson k h1).2
          · exact hge k h1.1
        · have := kills_once hkn hk hkj
          subst this
          rw [hil] at hjl; cases hjl
      have hkin : (tAt ts i).kills.Nodup := by
        unfold tAt List.getD
        cases hti : ts[i]? with
        | none => simp
        | some T =>
          simp only [Option.getD_some]
          exact kills_nodup hkn (List.mem_of_getElem? hti)
      obtain ⟨A', hp, hA'n, hA'm⟩ := take_out _ A hkin hAn hks
      have hH1 : ((tAt ts i).kills.flatMap (fun k => rows k env) ++ (R0 ++ A'.flatMap (fun k => rows k env))).Perm H := by
        refine List.Perm.trans ?_ hH.symm
        refine List.Perm.trans ?_ (List.Perm.append_left R0 (List.Perm.flatMap_right _ hp.symm))
        rw [List.flatMap_append, ← List.append_assoc, ← List.append_assoc]
        exact List.Perm.append_right _ List.perm_append_comm
      have hdp : ∀ k ∈ (tAt ts i).deps, ∀ d, (tAt ts k).dst = some d → t[d]? = some (val k env) := by
        intro k hk d hd
        have h1 := List.all_eq_true.1 hdeps k hk
        obtain ⟨h2, h3⟩ := hson k h1
        exact hv k d (by omega) h3 hd
      have hst := hob i o (by rw [opAt_eq]; simpa using ho)
      have hreads : ∀ k ∈ rd i, ∀ r ∈ rows k env, r ∈ R0 ++ A'.flatMap (fun k => rows k env) := by
        intro k hk r hr
        refine List.mem_append_right _ (List.mem_flatMap.2 ⟨k, ?_, hr⟩)
        have h1 := List.all_eq_true.1 (List.all_eq_true.1 hrd i (List.mem_range.2 his)) k hk
        simp only [Bool.and_eq_true, Bool.or_eq_true, decide_eq_true_eq, Bool.not_eq_true'] at h1
        obtain ⟨⟨h1, h2⟩, h3⟩ := h1
        rw [hA'm, hA]
        refine ⟨⟨?_, ?_, fun j hj hjl hkj => ?_⟩, by simpa using h2⟩
        · rcases h1 with h1 | h1
          · have := (hson k h1).1; omega
          · omega
        · rcases h1 with h1 | h1
          · exact (hson k h1).2
          · exact hge k h1.1
        · have h4 := List.all_eq_true.1 h3 j (List.mem_range.2 hj)
          simp only [Bool.or_eq_true, Bool.not_eq_true'] at h4
          rcases h4 with h4 | h4
          · rw [List.contains_iff_mem.2 hkj] at h4; cases h4
          · have := hcl j hj hjl i h4
            rw [hil] at this; cases this
      have hyv : ∀ j ww, o.guard = some (j, ww) → (tAt ts j).dst ≠ none → yielded ops t.toArray j = bv (val j env) := by
        intro j ww hg hj
        rw [hg] at hgu
        obtain ⟨h1, h2⟩ := hson j hgu
        obtain ⟨d, hd'⟩ := Option.ne_none_iff_exists'.1 hj
        have hoj : ops[j]? = some ops[j] := Array.getElem?_eq_getElem (by omega)
        have hcj := hopAt j _ hoj
        unfold okOp2 at hcj
        simp only [Bool.and_eq_true] at hcj
        have hdj : (ops[j]).dst = (tAt ts j).dst := by simpa using hcj.1.1.1.1.1.2
        exact yielded_bv hoj (by rw [hdj, hd']) (hv j d (by omega) h2 hd')
      have hnext : ∀ (v : Value) (w' : World) (H' : List Row), St B w0 H' w' → (∃ p, ((tAt ts i).dst ≠ none → v = val i (upd env i p)) ∧ H'.Perm (rows i (upd env i p) ++ (R0 ++ A'.flatMap (fun k => rows k env)))) → wpAnyIn (wf ρ) 0 P .any ops (lift ds B w0 Q) fuel (listed.setIfInBounds i true) ⟨(put t o.dst v).toArray, ds⟩ w' := by
        rintro v w' H' hS' ⟨p, hval, hH'⟩
        have hl' : ∀ k, (listed.setIfInBounds i true).getD k true = if k = i then true else listed.getD k true := by
          intro k
          rw [Array.getD_eq_getD_getElem?, Array.getD_eq_getD_getElem?, Array.getElem?_setIfInBounds]
          by_cases hki : k = i
          · subst hki; simp; split <;> rfl
          · rw [if_neg (fun e => hki e.symm), if_neg hki]
        have hnot : ∀ k, listed.getD k true = true → (tAt ts k).sup.contains i = false := by
          intro k hk
          by_cases hks' : k < ops.size
          · cases hcs : (tAt ts k).sup.contains i with
            | false => rfl
            | true => have := hcl k hks' hk i hcs; rw [hil] at this; cases this
          · by_cases hkt : k < ts.length
            · have := List.all_eq_true.1 hps ts[k] (by
                rw [List.mem_iff_getElem?]
                exact ⟨k - ops.size, by rw [List.getElem?_drop, show ops.size + (k - ops.size) = k by omega, List.getElem?_eq_getElem hkt]⟩)
              simp only [Bool.and_eq_true, List.isEmpty_iff] at this
              have e : tAt ts k = ts[k] := by unfold tAt; simp [List.getD, hkt]
              rw [e, this.2]; rfl
            · have e : tAt ts k = ⟨none, [], [], []⟩ := by unfold tAt; simp [List.getD, List.getElem?_eq_none (by omega : ts.length ≤ k)]
              rw [e]; rfl
        have hiA : i ∉ A := fun h => by have := ((hA i).1 h).2.1; rw [hil] at this; cases this
        refine ih (listed.setIfInBounds i true) (U.erase i) (i :: A') (put t o.dst v) H' w' (upd env i p) (by simpa using hls) ?_ (hUn.sublist List.erase_sublist) ?_ ?_ ?_ ?_ ?_ ?_ hS' ?_
        · rw [List.length_erase_of_mem ((hU i).2 ⟨his, hil⟩)]; omega
        · intro k
          rw [hUn.mem_erase_iff, hU, hl']
          by_cases hki : k = i
          · simp [hki]
          · simp [hki]
        · intro k hk hkl j hj
          rw [hl'] at hkl ⊢
          split
          · rfl
          · by_cases hki : k = i
            · subst hki; exact (hson j hj).2
            · rw [if_neg hki] at hkl; exact hcl k hk hkl j hj
        · exact List.nodup_cons.2 ⟨fun h => hiA ((hA'm i).1 h).1, hA'n⟩
        · intro k
          rw [List.mem_cons, hA'm, hA, hl']
          by_cases hki : k = i
          · subst hki
            simp only [true_or, if_true, true_and, true_iff]
            refine ⟨by omega, fun j hj hjl hkj => ?_⟩
            have h1 : ops[j]? = some ops[j] := Array.getElem?_eq_getElem hj
            have hcj := hopAt j _ h1
            unfold okOp2 at hcj
            simp only [Bool.and_eq_true] at hcj
            have h2 := List.all_eq_true.1 hcj.2 k hkj
            simp only [Bool.or_eq_true, decide_eq_true_eq] at h2
            rw [hl'] at hjl
            rcases h2 with h2 | h2
            · by_cases hjk : j = k
              · subst hjk; have := (hson j h2).1; omega
              · rw [if_neg hjk] at hjl
                have := hcl j hj hjl k h2
                rw [hil] at this; cases this
            · omega
          · simp only [hki, false_or, if_false]
            constructor
            · rintro ⟨⟨h1, h2, h3⟩, h4⟩
              refine ⟨h1, h2, fun j hj hjl => ?_⟩
              rw [hl'] at hjl
              by_cases hji : j = i
              · subst hji; exact h4
              · rw [if_neg hji] at hjl; exact h3 j hj hjl
            · rintro ⟨h1, h2, h3⟩
              exact ⟨⟨h1, h2, fun j hj hjl => h3 j hj (by rw [hl']; split; rfl; exact hjl)⟩, h3 i his (by rw [hl', if_pos rfl])⟩
        · cases hdd : o.dst with
          | none => exact hag
          | some d =>
            rw [hdst'] at hdd
            rw [hdd] at hds
            simp only [Bool.and_eq_true, decide_eq_true_eq, Bool.not_eq_true'] at hds
            refine ⟨by simpa [put] using hag.1, fun s u hs => ?_⟩
            have h1 := hag.2 s u hs
            simp only [put, List.getElem?_set]
            rw [if_neg]
            · exact h1
            · rintro rfl
              have : d ∈ dom := by
                rw [← hd]
                exact lk_mem hs
              have h2 := hds.1.2
              simp [this] at h2
        · intro k d hk hkl hkd
          rw [hl'] at hkl
          by_cases hki : k = i
          · subst hki
            rw [hdst', hkd]
            rw [hkd] at hds
            simp only [Bool.and_eq_true, decide_eq_true_eq] at hds
            simp only [put, List.getElem?_set, if_true]
            rw [if_pos (by rw [hag.1]; exact hds.1.1), hval (by rw [hkd]; simp)]
          · rw [if_neg hki] at hkl
            rw [(hloc k env i p (fun e => hki e.symm) (hnot k hkl)).1]
            have h1 := hv k d hk hkl hkd
            cases hdd : o.dst with
            | none => exact h1
            | some d' =>
              simp only [put, List.getElem?_set]
              rw [if_neg]
              · exact h1
              · rintro rfl
                rw [hdst'] at hdd
                rcases Nat.lt_or_gt_of_ne hki with hlt | hlt
                · rw [hdd] at hds
                  simp only [Bool.and_eq_true] at hds
                  have := List.all_eq_true.1 hds.2 k (List.mem_range.2 hlt)
                  simp [hkd] at this
                · have hck := hopAt k _ (Array.getElem?_eq_getElem hk)
                  unfold okOp2 at hck
                  simp only [Bool.and_eq_true] at hck
                  have hdk := hck.1.1.1.1.2
                  rw [hkd] at hdk
                  simp only [Bool.and_eq_true] at hdk
                  have := List.all_eq_true.1 hdk.2 i (List.mem_range.2 hlt)
                  simp [hdd] at this
        · refine hH'.trans ?_
          have e : A'.flatMap (fun k => rows k (upd env i p)) = A'.flatMap (fun k => rows k env) := by
            have : ∀ k ∈ A', rows k (upd env i p) = rows k env := fun k hk => by
              have h1 := (hA'm k).1 hk
              have h2 := ((hA k).1 h1.1).2.1
              exact (hloc k env i p (fun e => hiA (e ▸ h1.1)) (hnot k h2)).2
            exact flatMap_congr' this
          rw [List.flatMap_cons, e, ← List.append_assoc, ← List.append_assoc]
          exact List.Perm.append_right _ List.perm_append_comm
      unfold wpOpIn
      simp only [ho]
      rcases hst with ⟨hgr, hst⟩ | ⟨j, ww, hg, hj, hbv, hki, hvi, hri⟩
      · have hwant : Region.wanted o (yielded ops t.toArray) = true := by
          unfold Region.wanted
          rcases hgr with hgr | ⟨j, ww, hg, hj, hb⟩
          · rw [hgr]
          · rw [hg]; simp only [hyv j ww hg hj, hb]; simp
        simp only [hwant, if_true]
        exact hst env (R0 ++ A'.flatMap (fun k => rows k env)) (fun r hr => List.mem_append_left _ hr) hreads t (ag_fdeps hag _ hdp) ρ ds B w0 w (hS.perm hH1) _ _ hnext
      · have hwant : Region.wanted o (yielded ops t.toArray) = false := by
          unfold Region.wanted
          rw [hg]; simp only [hyv j ww hg hj]
          simpa using hbv env
        simp only [hwant, Bool.false_eq_true, if_false]
        rw [put_act]
        refine ⟨fun _ _ => trivial, hnext undef w _ hS ⟨(0, 0), fun _ => (hvi _).symm, ?_⟩⟩
        --, fun _ => (hvi _).symm, ?_⟩
        rw [hri, List.nil_append]
        rw [hki] at hH1
        simpa using hH1.symm

theorem X.regionRd {P : Program} {n : Nat} {c : Code} {F : FS} {H : List Row} {Q : QX} (ts : List TOp) (rd : Nat → List Nat) (dom : List Nat) (F0 : FS) (val : Nat → Env → Value) (rows : Nat → Env → List Row) (env0 : Env) (R0 : List Row)
    (h : c = .region (cid c) (cops c) true) (hm : P.follows .mixedOrders = true) (hsub : Sub F0 F) (hd : F0.map (·.1) = dom) (hok : okReg2 (cops c) ts dom n = true) (hrd : okRd ts rd (cops c).size = true)
    (hloc : ∀ k env i p, i ≠ k → (tAt ts k).sup.contains i = false → val k (upd env i p) = val k env ∧ rows k (upd env i p) = rows k env)
    (hH : (((List.range ts.length).drop (cops c).size).flatMap (fun k => rows k env0) ++ R0).Sublist H)
    (hob' : AllF (cops c).toList 0 fun i o => ObR P n ts rd val rows F0 R0 i o)
    (hQ : ∀ env t, Ag n F0 t → (∀ i d, i < (cops c).size → (tAt ts i).dst = some d → t[d]? = some (val i env)) → exQ n Q .normal t ((alive ts).flatMap (fun k => rows k env) ++ R0)) : X P n c F H Q := by
  have hob := fun i o ho => hob' i o (Nat.zero_le i) ho
  unfold X W
  intro t ha ρ ds B w0 w hS
  rw [h]
  refine wpIn_region_any hm ?_
  have hlen : (cops c).size ≤ ts.length := by
    have := hok
    unfold okReg2 at this
    simp only [Bool.and_eq_true, decide_eq_true_eq] at this
    exact this.1.1.1
  have hl : ∀ k d, (Array.replicate (cops c).size false).getD k d = if k < (cops c).size then false else d := by
    intro k d
    rw [Array.getD_eq_getD_getElem?, Array.getElem?_replicate]
    split <;> rfl
  have hdm : ∀ k, k ∈ (List.range ts.length).drop (cops c).size ↔ (cops c).size ≤ k ∧ k < ts.length := by
    intro k
    rw [List.mem_iff_getElem?]
    constructor
    · rintro ⟨j, hj⟩
      rw [List.getElem?_drop] at hj
      have := List.getElem?_eq_some_iff.1 hj
      obtain ⟨h1, h2⟩ := this
      simp at h1 h2
      omega
    · rintro ⟨h1, h2⟩
      exact ⟨k - (cops c).size, by rw [List.getElem?_drop, show (cops c).size + (k - (cops c).size) = k by omega, List.getElem?_range h2]⟩
  refine wpAny_ob hd hok rd hrd val rows hloc R0 hob hQ (cops c).size _ (List.range (cops c).size) ((List.range ts.length).drop (cops c).size) t _ _ env0 (by simp) (by simp) List.nodup_range ?_ ?_ ((List.nodup_range).sublist (List.drop_sublist _ _)) ?_ (ha.sub hsub) ?_ ((hS.drewN 1).sub hH) List.perm_append_comm
  · intro k
    rw [List.mem_range, hl]
    by_cases hk : k < (cops c).size <;> simp [hk]
  · intro k hk hkl
    rw [hl, if_pos hk] at hkl
    cases hkl
  · intro k
    rw [hdm, hl]
    constructor
    · rintro ⟨h1, h2⟩
      refine ⟨h2, by rw [if_neg (by omega)], fun j hj hjl => ?_⟩
      rw [hl, if_pos hj] at hjl
      cases hjl
    · rintro ⟨h1, h2, _⟩
      refine ⟨?_, h1⟩
      by_cases hk : k < (cops c).size
      · rw [if_pos hk] at h2; cases h2
      · omega
  · intro k d hk hkl
    rw [hl, if_pos hk] at hkl
    cases hkl

theorem X.regionOb {P : Program} {n : Nat} {c : Code} {F : FS} {H : List Row} {Q : QX} (ts : List TOp) (dom : List Nat) (F0 : FS) (val : Nat → Env → Value) (rows : Nat → Env → List Row) (env0 : Env) (R0 : List Row)
    (h : c = .region (cid c) (cops c) true) (hm : P.follows .mixedOrders = true) (hsub : Sub F0 F) (hd : F0.map (·.1) = dom) (hok : okReg2 (cops c) ts dom n = true)
    (hloc : ∀ k env i p, i ≠ k → (tAt ts k).sup.contains i = false → val k (upd env i p) = val k env ∧ rows k (upd env i p) = rows k env)
    (hH : (((List.range ts.length).drop (cops c).size).flatMap (fun k => rows k env0) ++ R0).Sublist H)
    (hob' : AllF (cops c).toList 0 fun i o => Ob P n ts val rows F0 R0 i o)
    (hQ : ∀ env t, Ag n F0 t → (∀ i d, i < (cops c).size → (tAt ts i).dst = some d → t[d]? = some (val i env)) → exQ n Q .normal t ((alive ts).flatMap (fun k => rows k env) ++ R0)) : X P n c F H Q := by
  refine X.regionRd ts (fun _ => []) dom F0 val rows env0 R0 h hm hsub hd hok (by unfold okRd; simp) hloc hH (fun j o hj ho => (hob' j o hj ho).toR) hQ

section
variable {P : Program} {n : Nat} {ts : List TOp} {val : Nat → Env → Value} {rows : Nat → Env → List Row} {F0 : FS} {R0 : List Row} {i : Nat} {o : Oper}
abbrev ObK (P : Program) (n : Nat) (ts : List TOp) (val : Nat → Env → Value) (rows : Nat → Env → List Row) (F0 : FS) (R0 : List Row) (i : Nat) (o : Oper) : Prop := ∀ env R, (∀ r ∈ R0, r ∈ R) → OpF P n ((tAt ts i).kills.flatMap (fun k => rows k env) ++ R) (fdeps ts val env F0 (tAt ts i).deps) o
      (fun v H' => ∃ p, ((tAt ts i).dst ≠ none → v = val i (upd env i p)) ∧ H'.Perm (rows i (upd env i p) ++ R))
abbrev ObKR (P : Program) (n : Nat) (ts : List TOp) (rd : Nat → List Nat) (val : Nat → Env → Value) (rows : Nat → Env → List Row) (F0 : FS) (R0 : List Row) (i : Nat) (o : Oper) : Prop := ∀ env R, (∀ r ∈ R0, r ∈ R) → (∀ k ∈ rd i, ∀ r ∈ rows k env, r ∈ R) → OpF P n ((tAt ts i).kills.flatMap (fun k => rows k env) ++ R) (fdeps ts val env F0 (tAt ts i).deps) o
      (fun v H' => ∃ p, ((tAt ts i).dst ≠ none → v = val i (upd env i p)) ∧ H'.Perm (rows i (upd env i p) ++ R))
theorem ObR.ng {rd : Nat → List Nat} (hg : o.guard = none) (h : ObKR P n ts rd val rows F0 R0 i o) : ObR P n ts rd val rows F0 R0 i o := .inl ⟨.inl hg, h⟩
theorem Ob.ng (hg : o.guard = none) (h : ObK P n ts val rows F0 R0 i o) : Ob P n ts val rows F0 R0 i o := .inl ⟨.inl hg, h⟩
theorem Ob.g {j : Nat} {w : Bool} (hg : o.guard = some (j, w)) (hj : (tAt ts j).dst.isSome = true) (hb : ∀ env, bv (val j env) = some w) (h : ObK P n ts val rows F0 R0 i o) : Ob P n ts val rows F0 R0 i o :=
  .inl ⟨.inr ⟨j, w, hg, (fun e => by rw [e] at hj; cases hj), hb⟩, h⟩
theorem Ob.sk {j : Nat} {w : Bool} (hg : o.guard = some (j, w)) (hj : (tAt ts j).dst.isSome = true) (hb : ∀ env, (bv (val j env) == some w) = false) (hk : ∀ env, (tAt ts i).kills.flatMap (fun k => rows k env) = []) (hv : ∀ env, val i env = undef) (hr : ∀ env, rows i env = []) : Ob P n ts val rows F0 R0 i o :=
  .inr ⟨j, w, hg, (fun e => by rw [e] at hj; cases hj), (fun env e => by have := hb env; rw [e] at this; simp at this), hk, hv, hr⟩
/-- what only reads -/
theorem ObK.pure (he : ∀ env R, (∀ r ∈ R0, r ∈ R) → ∃ v, EvF P n ((tAt ts i).kills.flatMap (fun k => rows k env) ++ R) (fdeps ts val env F0 (tAt ts i).deps) o v ∧ v = val i (upd env i (0, 0))) (hk : (tAt ts i).kills = []) (hr : ∀ env, rows i (upd env i (0, 0)) = []) : ObK P n ts val rows F0 R0 i o := by
  intro env R hR
  obtain ⟨v, hv, he'⟩ := he env R hR
  refine (StF.ofEv hv).op.mono ?_
  rintro u H' ⟨rfl, rfl⟩
  exact ⟨(0, 0), fun _ => he', by rw [hr, hk]; exact List.Perm.refl _⟩
end
end Go.Fw
end
section
set_option linter.unusedVariables false
namespace Go.Fw
open Go Go.RowKit
section
variable {P : Program} {n : Nat} {ops : Array Oper} {i : Nat} {o : Oper} {F : FS} {H : List Row}
/-- a slice that has an address, held against nil -/
theorem EvF.eqNil {T T' e : TypeId} {x : Operand} {ad : Addr} {len cap s y : Nat} (h : o.op = .binOp .eql T x (.const (.slice none 0 0)) T') (hx : evF F x = some (.slice (some ad) len cap)) (hT : tiOf P T = some ⟨.sl e, s, y⟩) : EvF P n H F o (.bool false) := by
  unfold EvF EvOp
  intro t ha B w0 w hS
  have hu := ti_slice hT
  have h1 : (binOp .eql T (.slice (some ad) len cap) (.slice none 0 0)).run P w = .ok (.bool false) w := by
    show Sem.run P (do pure (Value.bool (← Op.equalIn 10000 T (.slice (some ad) len cap) (.slice none 0 0)))) w = _
    rw [show (10000 : Nat) = 9999 + 1 from rfl]
    unfold Op.equalIn
    simp [underlying, hu]
  have hxv := ha.ev hx
  simp [execOp, h, hxv, show Fw.ev t (.const (.slice none 0 0)) = .slice none 0 0 from rfl, eqGuard, h1]
theorem loadCells_rd {B : Nat} {w0 w : World} {a : Addr} {vs : List Value} (h : Rd H a vs) (hS : St B w0 H w) : (loadCells a vs.length).run P w = .ok vs.toArray w := run_loadCells_list (P := P) (w := w) a vs (h.cell hS)
/-- copy into a row of one's own -/
theorem StF.copyOwn {T e : TypeId} {x y : Operand} {sz by' q b j dLen dCap sLen sCap m cap : Nat} {a : Addr} {cs vs : List Value} (h : o.op = .call { callee := .builtin .copy, args := #[x, y], argTypes := #[T, T] }) (hT : ElT P T e sz by')
    (hx : evF F x = some (.slice (some ⟨b, j, none⟩) dLen dCap)) (hy : evF F y = some (.slice (some a) sLen sCap)) (hi : H[q]? = some ⟨b, 0, cs, some e, cap⟩) (hm : Nat.min sLen dLen = m) (hn : vs.length = m * sz) (hr : Rd H a vs) (h1 : vs.all (·.oneCell') = true) (hl : j + vs.length ≤ cs.length) :
    StF P n H F o (fun v H' => v = .int .i64 m ∧ H' = H.set q ⟨b, 0, splice cs j vs, some e, cap⟩) := by
  unfold StF StepOp
  intro t ha B w0 w hS
  obtain ⟨w', hst, hS'⟩ := store_cells (P := P) vs cs H w j 0 hS hi (fun v hv => List.all_eq_true.1 h1 v hv) (by omega)
  refine ⟨.int .i64 m, w', _, .inl ?_, hS', rfl, rfl⟩
  have hld := loadCells_rd (P := P) hr hS
  rw [hn] at hld
  simp [execOp, h, ha.ev hx, ha.ev hy, resolve, invoke, builtin, Builtin.copy_, hT.un, hT.sz, Builtin.lenOf, Builtin.firstCells, hm, hld, hst, goInt]
/-- what is known of a row may be forgotten from some cell on -/
theorem St.forget {B : Nat} {w0 w : World} (hS : St B w0 H w) {q b cap : Nat} {el : TypeId} {cs cs' : List Value} (hi : H[q]? = some ⟨b, 0, cs ++ cs', some el, cap⟩) : St B w0 (H.set q ⟨b, 0, cs, some el, cap⟩) w := by
  refine ⟨hS.below, hS.size, fun r hr => ?_, pairwise_set H q _ _ hi (fun s k ho => k ho) (fun s k ho => k ho) hS.sep⟩
  rcases List.mem_or_eq_of_mem_set hr with hr | rfl
  · exact hS.ok r hr
  · obtain ⟨h1, h2, rest, h3, h4⟩ := hS.ok _ (List.mem_of_getElem? hi)
    exact ⟨h1, h2, cs' ++ rest, by rw [← List.append_assoc]; exact h3, by rw [← List.append_assoc]; exact h4⟩
theorem X.forget {c : Code} {Q : QX} {q b cap : Nat} {el : TypeId} {cs cs' : List Value} (hi : H[q]? = some ⟨b, 0, cs ++ cs', some el, cap⟩) (k : X P n c F (H.set q ⟨b, 0, cs, some el, cap⟩) Q) : X P n c F H Q := by
  unfold X W at *
  intro t ha ρ ds B w0 w hS
  exact k t ha ρ ds B w0 w (hS.forget hi)
/-- all cells of a row -/
theorem St.reveal {B : Nat} {w0 w : World} (hS : St B w0 H w) {q b cap : Nat} {el : TypeId} {cs : List Value} (hi : H[q]? = some ⟨b, 0, cs, some el, cap⟩) : ∃ rest, (cs ++ rest).length = cap ∧ St B w0 (H.set q ⟨b, 0, cs ++ rest, some el, cap⟩) w := by
  obtain ⟨h1, h2, rest, h3, h4⟩ := hS.ok _ (List.mem_of_getElem? hi)
  refine ⟨rest, h4, hS.below, hS.size, fun r hr => ?_, pairwise_set H q _ _ hi (fun s k ho => k ho) (fun s k ho => k ho) hS.sep⟩
  rcases List.mem_or_eq_of_mem_set hr with hr | rfl
  · exact hS.ok r hr
  · exact ⟨h1, h2, [], by simpa using h3, by simpa using h4⟩
theorem X.reveal {c : Code} {Q : QX} {q b cap : Nat} {el : TypeId} {cs : List Value} (hi : H[q]? = some ⟨b, 0, cs, some el, cap⟩) (k : ∀ rest, (cs ++ rest).length = cap → X P n c F (H.set q ⟨b, 0, cs ++ rest, some el, cap⟩) Q) : X P n c F H Q := by
  unfold X W at *
  intro t ha ρ ds B w0 w hS
  obtain ⟨rest, hl, hS'⟩ := hS.reveal hi
  exact k rest hl t ha ρ ds B w0 w hS'
/-- a literal of two -/
theorem StF.buildTwo {T e : TypeId} {x y : Operand} {sz y' : Nat} {v0 v1 : Value} {cs ds : List Value} (h : o.op = .buildSlice T 2 #[(0, x), (1, y)]) (hT : ElT P T e sz y') (hx : evF F x = some v0) (hy : evF F y = some v1) (hc : v0.cells.toList = cs) (hd : v1.cells.toList = ds) (hl : cs.length = sz) (hl' : ds.length = sz) (hz : 0 < sz) (hz' : 2 * sz ≤ 16777216) :
    StF P n H F o (fun v H' => ∃ b, v = .slice (some ⟨b, 0, none⟩) 2 2 ∧ H' = ⟨b, 0, cs ++ ds, some e, 2 * sz⟩ :: H) := by
  unfold StF StepOp
  intro t ha B w0 w hS
  obtain ⟨z, hzs, hzr⟩ := hT.zero
  have hS' := hS.alloc (cs ++ ds) e
  refine ⟨.slice (some ⟨w.heap.size, 0, none⟩) 2 2, _, _, .inl ?_, hS', _, rfl, by rw [List.length_append, hl, hl']; congr 2; omega⟩
  have hf := fill_eq (fun i => some (i * sz, sz)) [(0, v0), (1, v1)] ((Array.range (2 * sz)).map (z.cells[· % z.cells.size]!)) (cs ++ ds) (by
    simp only [fillL, Nat.zero_mul, Nat.zero_add, Nat.one_mul, hc, hd, hl, hl', Nat.beq_refl, Array.length_toList, Array.size_map, Array.size_range]
    rw [show Nat.ble sz (2 * sz) = true by rw [Nat.ble_eq]; omega]
    simp only [splice, List.take_zero, List.nil_append, Nat.zero_add, hl]
    rw [show Nat.ble (sz + sz) (cs ++ List.drop sz (Array.map (fun x => z.cells[x % z.cells.size]!) (Array.range (2 * sz))).toList).length = true by
      rw [Nat.ble_eq]; simp [hl]; omega]
    simp only [Option.some.injEq]
    rw [show List.take sz (cs ++ List.drop sz (Array.map (fun x => z.cells[x % z.cells.size]!) (Array.range (2 * sz))).toList) = cs by rw [← hl, List.take_left]]
    rw [List.drop_eq_nil_of_le (by simp [hl, hl']; omega), List.append_nil])
  have h0 : ¬ (sz = 0) := by omega
  have h1 : ¬ (16777216 < 2 * sz) := by omega
  simp [execOp, h, Instr.buildSlice, hT.un, hT.sz, hzr, ha.ev hx, ha.ev hy, h1, hf, newRow, newObj, Sem.run, World.alloc_eq]
  intro h2; omega
theorem zero_one {z : Value} (h : z.cells.all (·.oneCell') = true) (m : Nat) : ∀ v ∈ (Builtin.zeroCells z.cells m).toList, v.oneCell' = true := by
  intro v hv
  unfold Builtin.zeroCells at hv
  simp only [Array.toList_map, List.mem_map, Array.toList_range, List.mem_range] at hv
  obtain ⟨k, hk, rfl⟩ := hv
  have h0 : 0 < z.cells.size := by
    rcases Nat.eq_zero_or_pos z.cells.size with h0 | h0
    · rw [h0, Nat.mul_zero] at hk; omega
    · exact h0
  have hlt : k % z.cells.size < z.cells.size := Nat.mod_lt _ h0
  rw [getElem!_pos z.cells _ hlt]
  exact Array.all_eq_true_iff_forall_mem.1 h _ (Array.getElem_mem hlt)
/-- clear of a part of a row of one's own -/
theorem StF.clear {T e : TypeId} {x : Operand} {sz by' q b j m c cap : Nat} {cs : List Value} (h : o.op = .call { callee := .builtin .clear, args := #[x], argTypes := #[T] }) (hT : ElT P T e sz by')
    (hx : evF F x = some (.slice (some ⟨b, j, none⟩) m c)) (hi : H[q]? = some ⟨b, 0, cs, some e, cap⟩) (hl : j + m * sz ≤ cs.length) (hone : ∀ (z : Value) (w : World), (zeroValue e).run P w = .ok z w → z.cells.all (·.oneCell') = true) :
    StF P n H F o (fun _ H' => ∃ zs, zs.length = m * sz ∧ H' = H.set q ⟨b, 0, splice cs j zs, some e, cap⟩) := by
  unfold StF StepOp
  intro t ha B w0 w hS
  obtain ⟨z, hzs, hzr⟩ := hT.zero
  have hz1 := zero_one (hone z w (hzr w)) m
  have hzl : (Builtin.zeroCells z.cells m).toList.length = m * sz := by rw [Array.length_toList, size_zeroCells, hzs]
  obtain ⟨w', hst, hS'⟩ := store_cells (P := P) (Builtin.zeroCells z.cells m).toList cs H w j 0 hS hi hz1 (by rw [hzl]; omega)
  have hxv := ha.ev hx
  refine ⟨.tuple #[], w', _, .inl ?_, hS', _, hzl, rfl⟩
  cases m with
  | zero =>
    have h0 : (Builtin.zeroCells z.cells 0).toList = [] := List.eq_nil_of_length_eq_zero (by rw [hzl, Nat.zero_mul])
    rw [h0] at hst
    simp [storeCells] at hst
    subst hst
    simp [execOp, h, hxv, resolve, invoke, builtin, Builtin.clear_, hT.un]
  | succ m =>
    simp [execOp, h, hxv, resolve, invoke, builtin, Builtin.clear_, hT.un, hzr, hst]
/-- a struct is stored in a row of one's own -/
theorem StF.storeAt {T : TypeId} {a x : Operand} {q b j cap : Nat} {el : TypeId} {cs vs : List Value} {ti : TI} (h : o.op = .store T a x) (hx : evF F a = some (.pointer (some ⟨b, j, none⟩))) (hv : evF F x = some (.agg vs.toArray)) (hT : tiOf P T = some ti) (hi : H[q]? = some ⟨b, 0, cs, some el, cap⟩)
    (hn : vs.length = ti.size) (h1 : vs.all (·.oneCell') = true) (hl : j + vs.length ≤ cs.length) : StF P n H F o (fun u H' => u = undef ∧ H' = H.set q ⟨b, 0, splice cs j vs, some el, cap⟩) := by
  unfold StF
  intro t ha
  exact StepOp.store h (ha.ev hx) hT (by rw [ha.ev hv]; rfl) hi hn h1 hl
end
end Go.Fw
end
section
set_option linter.unusedVariables false
set_option linter.unusedSimpArgs false
namespace Go.Fw
theorem EnF.dyn0 {P : Program} {n : Nat} {H : List Row} {F : FS} {o : Oper} {g : Operand} {f : FuncId} {l : List Operand} {tys : Array TypeId} {vs cap : List Value} (h : o.op = .call { callee := .value g, args := l.toArray, argTypes := tys }) (hg : evF F g = some (.func (.func f) #[] cap.toArray)) (hv : Args F l vs) (hc : Callable P f) : EnF P n H F o f (vs ++ cap) :=
  EnF.dyn (first := []) h hg hv hc
end Go.Fw
namespace Go.Proofs.Ytblehgpfddmggaa
open Go Go.Fw
set_option maxRecDepth 10000
theorem number_spec (m : Mt) (H : List Row) : Fc Try.prog 88 ([.agg (cMt m).toArray] ++ []) H (fun v H' => v = .int .i64 m.number ∧ H' = H) := by
  show Fc Try.prog 88 [.agg (cMt m).toArray] H _
  refine Fc.mk (callable Try.call88) Try.func88 rfl Try.ntmps88 rfl ?_; dsimp only [fr]
  repeat' (first | (refine XO.op rfl ?_; (first | ((first | refine Xo.ng rfl ?_); (first | (refine Xg.ev (EvF.move rfl rfl) rfl rfl ?_) | (refine Xg.ev (EvF.assign rfl rfl) rfl rfl ?_) | (refine Xg.ev (EvF.cmp rfl rfl rfl rfl) rfl rfl ?_) | (refine Xg.ev (EvF.fieldAddr rfl rfl (te rfl) rfl (te rfl) (by decide)) rfl rfl ?_) | (refine Xg.ev (EvF.lenSlice rfl rfl (te rfl)) rfl rfl ?_) | (refine Xg.ev (EvF.loadV rfl rfl (LoadV.own (te rfl) rfl (List.Mem.head _) rfl)) rfl rfl ?_) | (refine Xg.st (StF.boxAgg rfl rfl) rfl rfl ?_; rintro _ _ ⟨bx, rfl, rfl⟩))))) | (refine XO.done rfl ?_; refine hK _ _ ?_; clear hK K) | refine X.seq rfl ?_ | refine X.region rfl (fun K hK => ?_) | refine X.block rfl ?_ | (refine X.brk rfl ?_; repeat (first | refine blockX_hit rfl ?_ | refine blockX_miss (by decide) ?_)) | refine X.skip rfl ?_ | refine X.ret rfl ?_ | (refine X.ite rfl rfl (fun hc => ?_); (first | (with_reducible refine Xb.case hc (fun h => ?_) (fun h => ?_))) <;> clear hc))
  refine ret_one (by first | exact .inr rfl | exact .inl rfl) Try.results88 rfl (H' := H) (by (repeat (first | exact List.Sublist.refl _ | apply List.Sublist.cons)); done) ?_; simp only [and_true, true_and]
theorem id_spec (m : Bx) (H : List Row) : Fc Try.prog 117 ([.agg (cBx m).toArray] ++ []) H (fun v H' => v = .int .i64 m.id ∧ H' = H) := by
  show Fc Try.prog 117 [.agg (cBx m).toArray] H _
  refine Fc.mk (callable Try.call117) Try.func117 rfl Try.ntmps117 rfl ?_; dsimp only [fr]
  repeat' (first | (refine XO.op rfl ?_; (first | ((first | refine Xo.ng rfl ?_); (first | (refine Xg.ev (EvF.move rfl rfl) rfl rfl ?_) | (refine Xg.ev (EvF.assign rfl rfl) rfl rfl ?_) | (refine Xg.ev (EvF.cmp rfl rfl rfl rfl) rfl rfl ?_) | (refine Xg.ev (EvF.fieldAddr rfl rfl (te rfl) rfl (te rfl) (by decide)) rfl rfl ?_) | (refine Xg.ev (EvF.lenSlice rfl rfl (te rfl)) rfl rfl ?_) | (refine Xg.ev (EvF.loadV rfl rfl (LoadV.own (te rfl) rfl (List.Mem.head _) rfl)) rfl rfl ?_) | (refine Xg.st (StF.boxAgg rfl rfl) rfl rfl ?_; rintro _ _ ⟨bx, rfl, rfl⟩))))) | (refine XO.done rfl ?_; refine hK _ _ ?_; clear hK K) | refine X.seq rfl ?_ | refine X.region rfl (fun K hK => ?_) | refine X.block rfl ?_ | (refine X.brk rfl ?_; repeat (first | refine blockX_hit rfl ?_ | refine blockX_miss (by decide) ?_)) | refine X.skip rfl ?_ | refine X.ret rfl ?_ | (refine X.ite rfl rfl (fun hc => ?_); (first | (with_reducible refine Xb.case hc (fun h => ?_) (fun h => ?_))) <;> clear hc))
  refine ret_one (by first | exact .inr rfl | exact .inl rfl) Try.results117 rfl (H' := H) (by (repeat (first | exact List.Sublist.refl _ | apply List.Sublist.cons)); done) ?_; simp only [and_true, true_and]
theorem withinL_spec (s : Sp) (l : List Int) (a : Option Addr) (c : Nat) (H : List Row) (hl : SlE H a cI 1 l) (hb : l.length ≤ 9223372036854775807) : Fc Try.prog 112 [.agg (cSp s).toArray, .slice a l.length c] H (fun v H' => v = .bool (decide (∀ n ∈ l, s.lo ≤ n ∧ n ≤ s.hi)) ∧ H' = H) := by
  refine Fc.mk (callable Try.call112) Try.func112 rfl Try.ntmps112 rfl ?_; dsimp only [fr]
  repeat' (first | (refine XO.op rfl ?_; (first | ((first | refine Xo.ng rfl ?_); (first | (refine Xg.ev (EvF.move rfl rfl) rfl rfl ?_) | (refine Xg.ev (EvF.assign rfl rfl) rfl rfl ?_) | (refine Xg.ev (EvF.cmp rfl rfl rfl rfl) rfl rfl ?_) | (refine Xg.ev (EvF.fieldAddr rfl rfl (te rfl) rfl (te rfl) (by decide)) rfl rfl ?_) | (refine Xg.ev (EvF.lenSlice rfl rfl (te rfl)) rfl rfl ?_) | (refine Xg.ev (EvF.loadV rfl rfl (LoadV.own (te rfl) rfl (List.Mem.head _) rfl)) rfl rfl ?_) | (refine Xg.st (StF.boxAgg rfl rfl) rfl rfl ?_; rintro _ _ ⟨bx, rfl, rfl⟩))))) | (refine XO.done rfl ?_; refine hK _ _ ?_; clear hK K) | refine X.seq rfl ?_ | refine X.region rfl (fun K hK => ?_) | refine X.block rfl ?_ | (refine X.brk rfl ?_; repeat (first | refine blockX_hit rfl ?_ | refine blockX_miss (by decide) ?_)) | refine X.skip rfl ?_ | refine X.ret rfl ?_ | (refine X.ite rfl rfl (fun hc => ?_); (first | (with_reducible refine Xb.case hc (fun h => ?_) (fun h => ?_))) <;> clear hc))
  refine X.lp rfl (fun q F' H' => ∃ k : Nat, q = l.length - k ∧ k ≤ l.length ∧ ((∀ n ∈ l, s.lo ≤ n ∧ n ≤ s.hi) ↔ ∀ n ∈ l.drop k, s.lo ≤ n ∧ n ≤ s.hi) ∧ ⟨bx, 0, cSp s, some 35, 2⟩ :: H = H' ∧
      F' = [(2, .pointer (some ⟨bx, 0, none⟩)), (7, .slice a l.length c), (8, .int .i64 l.length), (9, .int .i64 k)])
    l.length [(2, .pointer (some ⟨bx, 0, none⟩)), (7, .slice a l.length c), (8, .int .i64 l.length), (9, .int .i64 (0 : Nat))] _ (by (repeat (first | exact Sub.nil _ | refine Sub.cons rfl ?_)); done) (by (repeat (first | exact List.Sublist.refl _ | apply List.Sublist.cons_cons | apply List.Sublist.cons)); done) ⟨0, by omega, by omega, by simp, rfl, rfl⟩ ?_
  rintro _ _ _ ⟨k, rfl, hk, hn, rfl, rfl⟩
  repeat' (first | (refine XO.op rfl ?_; (first | ((first | refine Xo.ng rfl ?_); (first | (refine Xg.ev (EvF.move rfl rfl) rfl rfl ?_) | (refine Xg.ev (EvF.assign rfl rfl) rfl rfl ?_) | (refine Xg.ev (EvF.cmp rfl rfl rfl rfl) rfl rfl ?_) | (refine Xg.ev (EvF.fieldAddr rfl rfl (te rfl) rfl (te rfl) (by decide)) rfl rfl ?_) | (refine Xg.ev (EvF.lenSlice rfl rfl (te rfl)) rfl rfl ?_) | (refine Xg.ev (EvF.loadV rfl rfl (LoadV.own (te rfl) rfl (List.Mem.head _) rfl)) rfl rfl ?_) | (refine Xg.st (StF.boxAgg rfl rfl) rfl rfl ?_; rintro _ _ ⟨bx, rfl, rfl⟩))))) | (refine XO.done rfl ?_; refine hK _ _ ?_; clear hK K) | refine X.seq rfl ?_ | refine X.region rfl (fun K hK => ?_) | refine X.block rfl ?_ | (refine X.brk rfl ?_; repeat (first | refine blockX_hit rfl ?_ | refine blockX_miss (by decide) ?_)) | refine X.skip rfl ?_ | refine X.ret rfl ?_ | (refine X.ite rfl rfl (fun hc => ?_); (first | (with_reducible refine Xb.case hc (fun h => ?_) (fun h => ?_))) <;> clear hc))
  · obtain ⟨b, off, e, rfl, he⟩ := hl.elem (i := k) (by omega)
    have hl1 : ∀ r, SlE (r :: H) (some ⟨b, off, none⟩) cI 1 l := fun r => hl.sub (fun _ h => List.mem_cons_of_mem _ h)
    rw [drop_cons he] at hn
    repeat' (first | (refine XO.op rfl ?_; (first | ((first | refine Xo.ng rfl ?_ | (refine Xo.g rfl rfl ?_; with_reducible refine Xw.ff ?_)); (first | (refine Xg.ev (EvF.loadV rfl rfl (LoadV.el0 (hl1 _) he (te rfl) rfl (fun _ hm => hm) rfl)) rfl rfl ?_) | (refine Xg.ev (EvF.move rfl rfl) rfl rfl ?_) | (refine Xg.ev (EvF.assign rfl rfl) rfl rfl ?_) | (refine Xg.ev (EvF.pickT rfl rfl rfl) rfl rfl ?_) | (refine Xg.ev (EvF.pickF rfl rfl rfl) rfl rfl ?_) | (refine Xg.ev (EvF.cmp rfl rfl rfl rfl) rfl rfl ?_) | (refine Xg.ev (EvF.add64 rfl rfl rfl (by omega) (by omega)) rfl rfl ?_) | (refine Xg.ev (EvF.fieldAddr rfl rfl (te rfl) rfl (te rfl) (by decide)) rfl rfl ?_) | (refine Xg.ev (EvF.indexSlice rfl rfl rfl (te rfl) (te rfl) (by omega) (by omega)) rfl rfl ?_) | (refine Xg.ev (EvF.loadV rfl rfl (LoadV.own (te rfl) rfl (List.Mem.head _) rfl)) rfl rfl ?_))) | (refine Xo.g rfl rfl ?_; (first | (with_reducible refine Xw.tf rfl rfl ?_) | (with_reducible refine Xw.case (fun h => ?_) (fun h => ?_) <;> simp only [h, decide_true, decide_false, Bool.not_true, Bool.not_false, and_self, and_true, true_and, and_false, false_and]))))) | (refine XO.done rfl ?_; refine hK _ _ ?_; clear hK K) | refine X.seq rfl ?_ | refine X.region rfl (fun K hK => ?_) | refine X.skip rfl ?_ | refine X.ret rfl ?_ | (refine X.ite rfl rfl (fun hc => ?_); (first | (with_reducible refine Xb.t hc ?_) | (with_reducible refine Xb.case hc (fun h => ?_) (fun h => ?_))) <;> clear hc))
    any_goals (refine ret_one (by first | exact .inr rfl | exact .inl rfl) Try.results112 rfl (H' := H) (by (repeat (first | exact List.Sublist.refl _ | apply List.Sublist.cons)); done) ?_; simp only [and_true, true_and]; congr 1; symm; exact decide_eq_false (fun q => by have := hn.1 q e List.mem_cons_self; omega))
    refine ⟨_, _, _, (by (repeat (first | exact Sub.nil _ | refine Sub.cons rfl ?_)); done), (by (repeat (first | exact List.Sublist.refl _ | apply List.Sublist.cons_cons | apply List.Sublist.cons)); done), ⟨k + 1, rfl, by omega, hn.trans ⟨fun q n hm => q n (List.mem_cons_of_mem _ hm), fun q n hm => ?_⟩, rfl, rfl⟩, by omega⟩
    rcases List.mem_cons.1 hm with rfl | hm
    · omega
    · exact q n hm
  · rw [List.drop_eq_nil_of_le (by omega)] at hn
    refine ret_one (by first | exact .inr rfl | exact .inl rfl) Try.results112 rfl (H' := H) (by (repeat (first | exact List.Sublist.refl _ | apply List.Sublist.cons)); done) ?_; simp only [and_true, true_and]
    congr 1; symm
    exact decide_eq_true (hn.2 (fun _ h => absurd h List.not_mem_nil))
theorem anyMonth_spec (R : Rm) (p : Pl) (H : List Row) (h0 : -1000000 ≤ R.months) (h1 : R.months ≤ 1000000) : Fc Try.prog 118 [.agg (cRm R p).toArray] H (fun v H' => v = .agg (cSp ⟨0, R.months - 1⟩).toArray ∧ H' = H) := by
  refine Fc.mk (callable Try.call118) Try.func118 rfl Try.ntmps118 rfl ?_; dsimp only [fr]
  repeat' (first | (refine XO.op rfl ?_; (first | ((first | refine Xo.ng rfl ?_); (first | (refine Xg.ev (EvF.build (cs := cSp ⟨0, R.months - 1⟩) rfl (ArgsP.cons rfl (ArgsP.cons rfl ArgsP.nil)) (te rfl) (Places.cons (te rfl) (Places.cons (te rfl) Places.nil)) Try.zeroValue35 rfl) rfl rfl ?_) | (refine Xg.ev (EvF.sub64 rfl rfl rfl (by omega) (by omega)) rfl rfl ?_) | (refine Xg.ev (EvF.fieldAddr rfl rfl (te rfl) rfl (te rfl) (by decide)) rfl rfl ?_) | (refine Xg.ev (EvF.loadV rfl rfl (LoadV.own (te rfl) rfl (List.Mem.tail _ (List.Mem.head _)) rfl)) rfl rfl ?_) | (refine Xg.st (StF.boxAgg rfl rfl) rfl rfl ?_; rintro _ _ ⟨bx, rfl, rfl⟩) | (refine Xg.st (StF.alloc rfl Try.zeroValue35 rfl) rfl rfl ?_; rintro _ _ ⟨bx, rfl, rfl⟩) | (refine Xg.st0 (StF.storeAll (i := 0) rfl rfl rfl (te rfl) rfl rfl rfl rfl) rfl ?_; rintro _ _ ⟨rfl, rfl⟩; dsimp only [List.set]))))) | (refine XO.done rfl ?_; refine hK _ _ ?_; clear hK K) | refine X.seq rfl ?_ | refine X.region rfl (fun K hK => ?_) | refine X.ret rfl ?_)
  exact ret_one (by first | exact .inr rfl | exact .inl rfl) Try.results118 ⟨_, rfl, LoadV.whole (te rfl) rfl (List.Mem.head _) rfl⟩ (H' := H) (by (repeat (first | exact List.Sublist.refl _ | apply List.Sublist.cons_cons | apply List.Sublist.cons)); done) ⟨rfl, rfl⟩
/-- the first place of which something is so -/
def IdxR {α : Type} (p : α → Bool) (l : List α) (z : Int) : Prop := (z = -1 ∧ ∀ e ∈ l, p e = false) ∨ ∃ k e, z = ((k : Nat) : Int) ∧ l[k]? = some e ∧ p e = true ∧ ∀ i e, i < k → l[i]? = some e → p e = false
theorem indexFunc_specMt (l : List Mt) (a : Option Addr) (c g : Nat) (p : Mt → Bool) (cap : List Value) (H : List Row) (hl : SlE H a cMt 6 l) (hb : l.length ≤ 9223372036854775807) (hf : ∀ e ∈ l, Fc Try.prog g ([.agg (cMt e).toArray] ++ cap) H (fun v H' => v = .bool (p e) ∧ H' = H)) :
    Fc Try.prog 142 [.slice a l.length c, .func (.func g) #[] cap.toArray] H (fun v H' => (∃ z, v = .int .i64 z ∧ IdxR p l z) ∧ H' = H) := by
  refine Fc.mk (callable Try.call142) Try.func142 rfl Try.ntmps142 rfl ?_; dsimp only [fr]
  repeat' (first | (refine XO.op rfl ?_; (first | ((first | refine Xo.ng rfl ?_); (first | (refine Xg.ev (EvF.move rfl rfl) rfl rfl ?_) | (refine Xg.ev (EvF.assign rfl rfl) rfl rfl ?_) | (refine Xg.ev (EvF.cmp rfl rfl rfl rfl) rfl rfl ?_) | (refine Xg.ev (EvF.fieldAddr rfl rfl (te rfl) rfl (te rfl) (by decide)) rfl rfl ?_) | (refine Xg.ev (EvF.lenSlice rfl rfl (te rfl)) rfl rfl ?_) | (refine Xg.ev (EvF.loadV rfl rfl (LoadV.own (te rfl) rfl (List.Mem.head _) rfl)) rfl rfl ?_) | (refine Xg.st (StF.boxAgg rfl rfl) rfl rfl ?_; rintro _ _ ⟨bx, rfl, rfl⟩))))) | (refine XO.done rfl ?_; refine hK _ _ ?_; clear hK K) | refine X.seq rfl ?_ | refine X.region rfl (fun K hK => ?_) | refine X.block rfl ?_ | (refine X.brk rfl ?_; repeat (first | refine blockX_hit rfl ?_ | refine blockX_miss (by decide) ?_)) | refine X.skip rfl ?_ | refine X.ret rfl ?_ | (refine X.ite rfl rfl (fun hc => ?_); (first | (with_reducible refine Xb.case hc (fun h => ?_) (fun h => ?_))) <;> clear hc))
  refine X.lp rfl (fun q F' H' => ∃ k : Nat, q = l.length - k ∧ k ≤ l.length ∧ (∀ i e, i < k → l[i]? = some e → p e = false) ∧ H = H' ∧
      F' = [(0, .slice a l.length c), (1, .func (.func g) #[] cap.toArray), (7, .int .i64 l.length), (8, .int .i64 k)])
    l.length [(0, .slice a l.length c), (1, .func (.func g) #[] cap.toArray), (7, .int .i64 l.length), (8, .int .i64 (0 : Nat))] _ (by (repeat (first | exact Sub.nil _ | refine Sub.cons rfl ?_)); done) (by (repeat (first | exact List.Sublist.refl _ | apply List.Sublist.cons_cons | apply List.Sublist.cons)); done) ⟨0, by omega, by omega, (fun i e hi => absurd hi (by omega)), rfl, rfl⟩ ?_
  rintro _ _ H2 ⟨k, rfl, hk, hn, hH, rfl⟩
  subst hH
  repeat' (first | (refine XO.op rfl ?_; (first | ((first | refine Xo.ng rfl ?_); (first | (refine Xg.ev (EvF.move rfl rfl) rfl rfl ?_) | (refine Xg.ev (EvF.assign rfl rfl) rfl rfl ?_) | (refine Xg.ev (EvF.cmp rfl rfl rfl rfl) rfl rfl ?_) | (refine Xg.ev (EvF.fieldAddr rfl rfl (te rfl) rfl (te rfl) (by decide)) rfl rfl ?_) | (refine Xg.ev (EvF.lenSlice rfl rfl (te rfl)) rfl rfl ?_) | (refine Xg.ev (EvF.loadV rfl rfl (LoadV.own (te rfl) rfl (List.Mem.head _) rfl)) rfl rfl ?_) | (refine Xg.st (StF.boxAgg rfl rfl) rfl rfl ?_; rintro _ _ ⟨bx, rfl, rfl⟩))))) | (refine XO.done rfl ?_; refine hK _ _ ?_; clear hK K) | refine X.seq rfl ?_ | refine X.region rfl (fun K hK => ?_) | refine X.block rfl ?_ | (refine X.brk rfl ?_; repeat (first | refine blockX_hit rfl ?_ | refine blockX_miss (by decide) ?_)) | refine X.skip rfl ?_ | refine X.ret rfl ?_ | (refine X.ite rfl rfl (fun hc => ?_); (first | (with_reducible refine Xb.case hc (fun h => ?_) (fun h => ?_))) <;> clear hc))
  · obtain ⟨b, off, e, rfl, he⟩ := hl.elem (i := k) (by omega)
    repeat' (first | (refine XO.op rfl ?_; (first | ((first | refine Xo.ng rfl ?_); (first | (refine Xg.ev (EvF.loadV rfl rfl (LoadV.elA0 hl he (te rfl) rfl (fun _ hm => hm) rfl)) rfl rfl ?_) | (refine Xg.call (EnF.dyn0 rfl rfl (by (repeat (first | exact Args.nil | refine Args.cons rfl ?_)); done)) rfl rfl (hf e (List.mem_of_getElem? he)) ?_; rintro _ H9 ⟨rfl, hH9⟩; subst H9) | (refine Xg.ev (EvF.move rfl rfl) rfl rfl ?_) | (refine Xg.ev (EvF.assign rfl rfl) rfl rfl ?_) | (refine Xg.ev (EvF.add64 rfl rfl rfl (by omega) (by omega)) rfl rfl ?_) | (refine Xg.ev (EvF.indexSlice rfl rfl rfl (te rfl) (te rfl) (by omega) (by omega)) rfl rfl ?_))))) | (refine XO.done rfl ?_; refine hK _ _ ?_; clear hK K) | refine X.seq rfl ?_ | refine X.region rfl (fun K hK => ?_) | refine X.skip rfl ?_ | refine X.ret rfl ?_ | (refine X.ite rfl rfl (fun hc => ?_); (first | (with_reducible refine Xb.caseB hc (fun h => ?_) (fun h => ?_))) <;> clear hc))
    · refine ret_one (by first | exact .inr rfl | exact .inl rfl) Try.results142 rfl (H' := H) (by (repeat (first | exact List.Sublist.refl _ | apply List.Sublist.cons)); done) ?_; simp only [and_true, true_and]
      exact ⟨_, rfl, .inr ⟨k, e, rfl, he, by assumption, hn⟩⟩
    · refine ⟨_, _, _, (by (repeat (first | exact Sub.nil _ | refine Sub.cons rfl ?_)); done), (by (repeat (first | exact List.Sublist.refl _ | apply List.Sublist.cons_cons | apply List.Sublist.cons)); done), ⟨k + 1, rfl, by omega, (fun i e' hi he' => ?_), rfl, rfl⟩, by omega⟩
      rcases Nat.lt_or_ge i k with h1 | h1
      · exact hn i e' h1 he'
      · obtain rfl : i = k := by omega
        rw [he] at he'; cases he'; assumption
  · refine ret_one (by first | exact .inr rfl | exact .inl rfl) Try.results142 rfl (H' := H) (by (repeat (first | exact List.Sublist.refl _ | apply List.Sublist.cons)); done) ?_; simp only [and_true, true_and]
    refine ⟨_, rfl, .inl ⟨rfl, fun e he => ?_⟩⟩
    obtain ⟨i, hi, rfl⟩ := List.mem_iff_getElem.1 he
    exact hn i _ (by omega) (List.getElem?_eq_getElem hi)
theorem indexFunc_specBx (l : List Bx) (a : Option Addr) (c g : Nat) (p : Bx → Bool) (cap : List Value) (H : List Row) (hl : SlE H a cBx 2 l) (hb : l.length ≤ 9223372036854775807) (hf : ∀ e ∈ l, Fc Try.prog g ([.agg (cBx e).toArray] ++ cap) H (fun v H' => v = .bool (p e) ∧ H' = H)) :
    Fc Try.prog 146 [.slice a l.length c, .func (.func g) #[] cap.toArray] H (fun v H' => (∃ z, v = .int .i64 z ∧ IdxR p l z) ∧ H' = H) := by
  refine Fc.mk (callable Try.call146) Try.func146 rfl Try.ntmps146 rfl ?_; dsimp only [fr]
  repeat' (first | (refine XO.op rfl ?_; (first | ((first | refine Xo.ng rfl ?_); (first | (refine Xg.ev (EvF.move rfl rfl) rfl rfl ?_) | (refine Xg.ev (EvF.assign rfl rfl) rfl rfl ?_) | (refine Xg.ev (EvF.cmp rfl rfl rfl rfl) rfl rfl ?_) | (refine Xg.ev (EvF.fieldAddr rfl rfl (te rfl) rfl (te rfl) (by decide)) rfl rfl ?_) | (refine Xg.ev (EvF.lenSlice rfl rfl (te rfl)) rfl rfl ?_) | (refine Xg.ev (EvF.loadV rfl rfl (LoadV.own (te rfl) rfl (List.Mem.head _) rfl)) rfl rfl ?_) | (refine Xg.st (StF.boxAgg rfl rfl) rfl rfl ?_; rintro _ _ ⟨bx, rfl, rfl⟩))))) | (refine XO.done rfl ?_; refine hK _ _ ?_; clear hK K) | refine X.seq rfl ?_ | refine X.region rfl (fun K hK => ?_) | refine X.block rfl ?_ | (refine X.brk rfl ?_; repeat (first | refine blockX_hit rfl ?_ | refine blockX_miss (by decide) ?_)) | refine X.skip rfl ?_ | refine X.ret rfl ?_ | (refine X.ite rfl rfl (fun hc => ?_); (first | (with_reducible refine Xb.case hc (fun h => ?_) (fun h => ?_))) <;> clear hc))
  refine X.lp rfl (fun q F' H' => ∃ k : Nat, q = l.length - k ∧ k ≤ l.length ∧ (∀ i e, i < k → l[i]? = some e → p e = false) ∧ H = H' ∧
      F' = [(0, .slice a l.length c), (1, .func (.func g) #[] cap.toArray), (7, .int .i64 l.length), (8, .int .i64 k)])
    l.length [(0, .slice a l.length c), (1, .func (.func g) #[] cap.toArray), (7, .int .i64 l.length), (8, .int .i64 (0 : Nat))] _ (by (repeat (first | exact Sub.nil _ | refine Sub.cons rfl ?_)); done) (by (repeat (first | exact List.Sublist.refl _ | apply List.Sublist.cons_cons | apply List.Sublist.cons)); done) ⟨0, by omega, by omega, (fun i e hi => absurd hi (by omega)), rfl, rfl⟩ ?_
  rintro _ _ H2 ⟨k, rfl, hk, hn, hH, rfl⟩
  subst hH
  repeat' (first | (refine XO.op rfl ?_; (first | ((first | refine Xo.ng rfl ?_); (first | (refine Xg.ev (EvF.move rfl rfl) rfl rfl ?_) | (refine Xg.ev (EvF.assign rfl rfl) rfl rfl ?_) | (refine Xg.ev (EvF.cmp rfl rfl rfl rfl) rfl rfl ?_) | (refine Xg.ev (EvF.fieldAddr rfl rfl (te rfl) rfl (te rfl) (by decide)) rfl rfl ?_) | (refine Xg.ev (EvF.lenSlice rfl rfl (te rfl)) rfl rfl ?_) | (refine Xg.ev (EvF.loadV rfl rfl (LoadV.own (te rfl) rfl (List.Mem.head _) rfl)) rfl rfl ?_) | (refine Xg.st (StF.boxAgg rfl rfl) rfl rfl ?_; rintro _ _ ⟨bx, rfl, rfl⟩))))) | (refine XO.done rfl ?_; refine hK _ _ ?_; clear hK K) | refine X.seq rfl ?_ | refine X.region rfl (fun K hK => ?_) | refine X.block rfl ?_ | (refine X.brk rfl ?_; repeat (first | refine blockX_hit rfl ?_ | refine blockX_miss (by decide) ?_)) | refine X.skip rfl ?_ | refine X.ret rfl ?_ | (refine X.ite rfl rfl (fun hc => ?_); (first | (with_reducible refine Xb.case hc (fun h => ?_) (fun h => ?_))) <;> clear hc))
  · obtain ⟨b, off, e, rfl, he⟩ := hl.elem (i := k) (by omega)
    repeat' (first | (refine XO.op rfl ?_; (first | ((first | refine Xo.ng rfl ?_); (first | (refine Xg.ev (EvF.loadV rfl rfl (LoadV.elA0 hl he (te rfl) rfl (fun _ hm => hm) rfl)) rfl rfl ?_) | (refine Xg.call (EnF.dyn0 rfl rfl (by (repeat (first | exact Args.nil | refine Args.cons rfl ?_)); done)) rfl rfl (hf e (List.mem_of_getElem? he)) ?_; rintro _ H9 ⟨rfl, hH9⟩; subst H9) | (refine Xg.ev (EvF.move rfl rfl) rfl rfl ?_) | (refine Xg.ev (EvF.assign rfl rfl) rfl rfl ?_) | (refine Xg.ev (EvF.add64 rfl rfl rfl (by omega) (by omega)) rfl rfl ?_) | (refine Xg.ev (EvF.indexSlice rfl rfl rfl (te rfl) (te rfl) (by omega) (by omega)) rfl rfl ?_))))) | (refine XO.done rfl ?_; refine hK _ _ ?_; clear hK K) | refine X.seq rfl ?_ | refine X.region rfl (fun K hK => ?_) | refine X.skip rfl ?_ | refine X.ret rfl ?_ | (refine X.ite rfl rfl (fun hc => ?_); (first | (with_reducible refine Xb.caseB hc (fun h => ?_) (fun h => ?_))) <;> clear hc))
    · refine ret_one (by first | exact .inr rfl | exact .inl rfl) Try.results146 rfl (H' := H) (by (repeat (first | exact List.Sublist.refl _ | apply List.Sublist.cons)); done) ?_; simp only [and_true, true_and]
      exact ⟨_, rfl, .inr ⟨k, e, rfl, he, by assumption, hn⟩⟩
    · refine ⟨_, _, _, (by (repeat (first | exact Sub.nil _ | refine Sub.cons rfl ?_)); done), (by (repeat (first | exact List.Sublist.refl _ | apply List.Sublist.cons_cons | apply List.Sublist.cons)); done), ⟨k + 1, rfl, by omega, (fun i e' hi he' => ?_), rfl, rfl⟩, by omega⟩
      rcases Nat.lt_or_ge i k with h1 | h1
      · exact hn i e' h1 he'
      · obtain rfl : i = k := by omega
        rw [he] at he'; cases he'; assumption
  · refine ret_one (by first | exact .inr rfl | exact .inl rfl) Try.results146 rfl (H' := H) (by (repeat (first | exact List.Sublist.refl _ | apply List.Sublist.cons)); done) ?_; simp only [and_true, true_and]
    refine ⟨_, rfl, .inl ⟨rfl, fun e he => ?_⟩⟩
    obtain ⟨i, hi, rfl⟩ := List.mem_iff_getElem.1 he
    exact hn i _ (by omega) (List.getElem?_eq_getElem hi)
end Go.Proofs.Ytblehgpfddmggaa
end
section
set_option linter.unusedVariables false
set_option linter.unusedSimpArgs false
namespace Go.Proofs.Ytblehgpfddmggaa
open Go Go.Fw
set_option maxRecDepth 10000
theorem IdxR.ge {α : Type} {p : α → Bool} {l : List α} {z : Int} (h : IdxR p l z) : z ≥ 0 ↔ ∃ e ∈ l, p e = true := by
  rcases h with ⟨rfl, h⟩ | ⟨k, e, rfl, he, hp, _⟩
  · exact ⟨fun q => absurd q (by decide), fun ⟨e, he, hp⟩ => by rw [h e he] at hp; cases hp⟩
  · exact ⟨fun _ => ⟨e, List.mem_of_getElem? he, hp⟩, fun _ => by omega⟩
theorem indexI_spec (l : List Int) (a : Option Addr) (c : Nat) (x : Int) (H : List Row) (hl : SlE H a cI 1 l) (hb : l.length ≤ 9223372036854775807) :
    Fc Try.prog 129 [.slice a l.length c, .int .i64 x] H (fun v H' => (∃ z, v = .int .i64 z ∧ IdxR (fun n => decide (x = n)) l z) ∧ H' = H) := by
  refine Fc.mk (callable Try.call129) Try.func129 rfl Try.ntmps129 rfl ?_; dsimp only [fr]
  repeat' (first | (refine XO.op rfl ?_; (first | ((first | refine Xo.ng rfl ?_); (first | (refine Xg.ev (EvF.move rfl rfl) rfl rfl ?_) | (refine Xg.ev (EvF.assign rfl rfl) rfl rfl ?_) | (refine Xg.ev (EvF.cmp rfl rfl rfl rfl) rfl rfl ?_) | (refine Xg.ev (EvF.lenSlice rfl rfl (te rfl)) rfl rfl ?_))))) | (refine XO.done rfl ?_; refine hK _ _ ?_; clear hK K) | refine X.seq rfl ?_ | refine X.region rfl (fun K hK => ?_) | refine X.block rfl ?_ | (refine X.brk rfl ?_; repeat (first | refine blockX_hit rfl ?_ | refine blockX_miss (by decide) ?_)) | refine X.skip rfl ?_ | refine X.ret rfl ?_ | (refine X.ite rfl rfl (fun hc => ?_); (first | (with_reducible refine Xb.case hc (fun h => ?_) (fun h => ?_))) <;> clear hc))
  refine X.lp rfl (fun q F' H' => ∃ k : Nat, q = l.length - k ∧ k ≤ l.length ∧ (∀ i e, i < k → l[i]? = some e → x ≠ e) ∧ H = H' ∧
      F' = [(0, .slice a l.length c), (1, .int .i64 x), (7, .int .i64 l.length), (8, .int .i64 k)])
    l.length [(0, .slice a l.length c), (1, .int .i64 x), (7, .int .i64 l.length), (8, .int .i64 (0 : Nat))] _ (by (repeat (first | exact Sub.nil _ | refine Sub.cons rfl ?_)); done) (by (repeat (first | exact List.Sublist.refl _ | apply List.Sublist.cons_cons | apply List.Sublist.cons)); done) ⟨0, by omega, by omega, (fun i e hi => absurd hi (by omega)), rfl, rfl⟩ ?_
  rintro _ _ H2 ⟨k, rfl, hk, hn, hH, rfl⟩
  subst hH
  repeat' (first | (refine XO.op rfl ?_; (first | ((first | refine Xo.ng rfl ?_); (first | (refine Xg.ev (EvF.move rfl rfl) rfl rfl ?_) | (refine Xg.ev (EvF.assign rfl rfl) rfl rfl ?_) | (refine Xg.ev (EvF.cmp rfl rfl rfl rfl) rfl rfl ?_) | (refine Xg.ev (EvF.lenSlice rfl rfl (te rfl)) rfl rfl ?_))))) | (refine XO.done rfl ?_; refine hK _ _ ?_; clear hK K) | refine X.seq rfl ?_ | refine X.region rfl (fun K hK => ?_) | refine X.block rfl ?_ | (refine X.brk rfl ?_; repeat (first | refine blockX_hit rfl ?_ | refine blockX_miss (by decide) ?_)) | refine X.skip rfl ?_ | refine X.ret rfl ?_ | (refine X.ite rfl rfl (fun hc => ?_); (first | (with_reducible refine Xb.case hc (fun h => ?_) (fun h => ?_))) <;> clear hc))
  · obtain ⟨b, off, e, rfl, he⟩ := hl.elem (i := k) (by omega)
    repeat' (first | (refine XO.op rfl ?_; (first | ((first | refine Xo.ng rfl ?_); (first | (refine Xg.ev (EvF.loadV rfl rfl (LoadV.el0 hl he (te rfl) rfl (fun _ hm => hm) rfl)) rfl rfl ?_) | (refine Xg.ev (EvF.move rfl rfl) rfl rfl ?_) | (refine Xg.ev (EvF.assign rfl rfl) rfl rfl ?_) | (refine Xg.ev (EvF.cmp rfl rfl rfl rfl) rfl rfl ?_) | (refine Xg.ev (EvF.add64 rfl rfl rfl (by omega) (by omega)) rfl rfl ?_) | (refine Xg.ev (EvF.indexSlice rfl rfl rfl (te rfl) (te rfl) (by omega) (by omega)) rfl rfl ?_))))) | (refine XO.done rfl ?_; refine hK _ _ ?_; clear hK K) | refine X.seq rfl ?_ | refine X.region rfl (fun K hK => ?_) | refine X.skip rfl ?_ | refine X.ret rfl ?_ | (refine X.ite rfl rfl (fun hc => ?_); (first | (with_reducible refine Xb.case hc (fun h => ?_) (fun h => ?_))) <;> clear hc))
    · refine ret_one (by first | exact .inr rfl | exact .inl rfl) Try.results129 rfl (H' := H) (by (repeat (first | exact List.Sublist.refl _ | apply List.Sublist.cons)); done) ?_; simp only [and_true, true_and]
      refine ⟨_, rfl, .inr ⟨k, e, rfl, he, decide_eq_true (by assumption), fun i e hi he => decide_eq_false (hn i e hi he)⟩⟩
    · refine ⟨_, _, _, (by (repeat (first | exact Sub.nil _ | refine Sub.cons rfl ?_)); done), (by (repeat (first | exact List.Sublist.refl _ | apply List.Sublist.cons_cons | apply List.Sublist.cons)); done), ⟨k + 1, rfl, by omega, (fun i e' hi he' => ?_), rfl, rfl⟩, by omega⟩
      rcases Nat.lt_or_ge i k with h1 | h1
      · exact hn i e' h1 he'
      · obtain rfl : i = k := by omega
        rw [he] at he'; cases he'; assumption
  · refine ret_one (by first | exact .inr rfl | exact .inl rfl) Try.results129 rfl (H' := H) (by (repeat (first | exact List.Sublist.refl _ | apply List.Sublist.cons)); done) ?_; simp only [and_true, true_and]
    refine ⟨_, rfl, .inl ⟨rfl, fun e he => ?_⟩⟩
    obtain ⟨i, hi, rfl⟩ := List.mem_iff_getElem.1 he
    exact decide_eq_false (hn i _ (by omega) (List.getElem?_eq_getElem hi))
theorem contains_spec (l : List Int) (a : Option Addr) (c : Nat) (x : Int) (H : List Row) (hl : SlE H a cI 1 l) (hb : l.length ≤ 9223372036854775807) :
    Fc Try.prog 98 [.slice a l.length c, .int .i64 x] H (fun v H' => v = .bool (decide (x ∈ l)) ∧ H' = H) := by
  refine Fc.mk (callable Try.call98) Try.func98 rfl Try.ntmps98 rfl ?_; dsimp only [fr]
  repeat' (first | (refine XO.op rfl ?_; (first | ((first | refine Xo.ng rfl ?_); (first | (refine Xg.call (EnF.st rfl (by (repeat (first | exact Args.nil | refine Args.cons rfl ?_)); done)) rfl rfl (indexI_spec l a c x H hl hb) ?_; rintro _ H9 ⟨⟨z, rfl, hz⟩, hH9⟩; subst H9) | (refine Xg.ev (EvF.move rfl rfl) rfl rfl ?_) | (refine Xg.ev (EvF.assign rfl rfl) rfl rfl ?_) | (refine Xg.ev (EvF.cmp rfl rfl rfl rfl) rfl rfl ?_))))) | (refine XO.done rfl ?_; refine hK _ _ ?_; clear hK K) | refine X.seq rfl ?_ | refine X.region rfl (fun K hK => ?_) | refine X.ret rfl ?_)
  refine ret_one (by first | exact .inr rfl | exact .inl rfl) Try.results98 rfl (H' := H) (by (repeat (first | exact List.Sublist.refl _ | apply List.Sublist.cons)); done) ?_; simp only [and_true, true_and]
  congr 1
  refine decide_eq_decide.2 (hz.ge.trans ⟨fun ⟨e, he, hp⟩ => ?_, fun h => ⟨x, h, by simp⟩⟩)
  have := of_decide_eq_true hp
  subst this; exact he
theorem containsFunc_spec (l : List Bx) (a : Option Addr) (c g : Nat) (p : Bx → Bool) (cap : List Value) (H : List Row) (hl : SlE H a cBx 2 l) (hb : l.length ≤ 9223372036854775807) (hf : ∀ e ∈ l, Fc Try.prog g ([.agg (cBx e).toArray] ++ cap) H (fun v H' => v = .bool (p e) ∧ H' = H)) :
    Fc Try.prog 141 [.slice a l.length c, .func (.func g) #[] cap.toArray] H (fun v H' => v = .bool (decide (∃ e ∈ l, p e = true)) ∧ H' = H) := by
  refine Fc.mk (callable Try.call141) Try.func141 rfl Try.ntmps141 rfl ?_; dsimp only [fr]
  repeat' (first | (refine XO.op rfl ?_; (first | ((first | refine Xo.ng rfl ?_); (first | (refine Xg.call (EnF.st rfl (by (repeat (first | exact Args.nil | refine Args.cons rfl ?_)); done)) rfl rfl (indexFunc_specBx l a c g p cap H hl hb hf) ?_; rintro _ H9 ⟨⟨z, rfl, hz⟩, hH9⟩; subst H9) | (refine Xg.ev (EvF.move rfl rfl) rfl rfl ?_) | (refine Xg.ev (EvF.assign rfl rfl) rfl rfl ?_) | (refine Xg.ev (EvF.cmp rfl rfl rfl rfl) rfl rfl ?_))))) | (refine XO.done rfl ?_; refine hK _ _ ?_; clear hK K) | refine X.seq rfl ?_ | refine X.region rfl (fun K hK => ?_) | refine X.ret rfl ?_)
  refine ret_one (by first | exact .inr rfl | exact .inl rfl) Try.results141 rfl (H' := H) (by (repeat (first | exact List.Sublist.refl _ | apply List.Sublist.cons)); done) ?_; simp only [and_true, true_and]
  congr 1
  exact decide_eq_decide.2 hz.ge
theorem areThere1_spec (b : Bx) (m : Int) (bm bq : Nat) (l : List Int) (a a' : Option Addr) (n' c c' : Nat) (ow ow' : Option Kd) (cap cap' : Nat) (H : List Row) (hm : ⟨bm, 0, [.int .i64 m], ow, cap⟩ ∈ H) (hq : ⟨bq, 0, [.slice a l.length c, .slice a' n' c'], ow', cap'⟩ ∈ H) (hl : SlE H a cI 1 l) (hb : l.length ≤ 9223372036854775807) :
    Fc Try.prog 140 ([.agg (cBx b).toArray] ++ [.pointer (some ⟨bm, 0, none⟩), .pointer (some ⟨bq, 0, none⟩)]) H (fun v H' => v = .bool (decide (b.made > m ∧ b.id ∈ l)) ∧ H' = H) := by
  show Fc Try.prog 140 [.agg (cBx b).toArray, .pointer (some ⟨bm, 0, none⟩), .pointer (some ⟨bq, 0, none⟩)] H _
  refine Fc.mk (callable Try.call140) Try.func140 rfl Try.ntmps140 rfl ?_; dsimp only [fr]
  repeat' (first | (refine XO.op rfl ?_; (first | ((first | refine Xo.ng rfl ?_ | (refine Xo.g rfl rfl ?_; with_reducible refine Xw.tt ?_)); (first | (refine Xg.ev (EvF.loadV rfl rfl (LoadV.own (te rfl) rfl (List.mem_cons_of_mem _ hm) rfl)) rfl rfl ?_) | (refine Xg.ev (EvF.loadV rfl rfl (LoadV.own (te rfl) rfl (List.mem_cons_of_mem _ hq) rfl)) rfl rfl ?_) | (refine Xg.call (EnF.st rfl (by (repeat (first | exact Args.nil | refine Args.cons rfl ?_)); done)) rfl rfl (contains_spec l a c _ _ (hl.sub (fun _ h => List.mem_cons_of_mem _ h)) hb) ?_; rintro _ H9 ⟨rfl, hH9⟩; subst H9) | (refine Xg.ev (EvF.move rfl rfl) rfl rfl ?_) | (refine Xg.ev (EvF.assign rfl rfl) rfl rfl ?_) | (refine Xg.ev (EvF.pickT rfl rfl rfl) rfl rfl ?_) | (refine Xg.ev (EvF.pickF rfl rfl rfl) rfl rfl ?_) | (refine Xg.ev (EvF.cmp rfl rfl rfl rfl) rfl rfl ?_) | (refine Xg.ev (EvF.fieldAddr rfl rfl (te rfl) rfl (te rfl) (by decide)) rfl rfl ?_) | (refine Xg.ev (EvF.loadV rfl rfl (LoadV.own (te rfl) rfl (List.Mem.head _) rfl)) rfl rfl ?_) | (refine Xg.st (StF.boxAgg rfl rfl) rfl rfl ?_; rintro _ _ ⟨bx, rfl, rfl⟩))) | (refine Xo.g rfl rfl ?_; (first | (with_reducible refine Xw.ft rfl rfl ?_) | (with_reducible refine Xw.case (fun h => ?_) (fun h => ?_) <;> simp only [h, decide_true, decide_false, Bool.not_true, Bool.not_false, and_self, and_true, true_and, and_false, false_and]))))) | (refine XO.done rfl ?_; refine hK _ _ ?_; clear hK K) | refine X.seq rfl ?_ | refine X.region rfl (fun K hK => ?_) | refine X.ret rfl ?_)
  all_goals (refine ret_one (by first | exact .inr rfl | exact .inl rfl) Try.results140 rfl (H' := H) (by (repeat (first | exact List.Sublist.refl _ | apply List.Sublist.cons)); done) ?_; simp only [and_true, true_and])
  all_goals (congr 1; simp [*])
theorem clone_specMt (l : List Mt) (ad : Addr) (c : Nat) (H : List Row) (hl : SlE H (some ad) cMt 6 l) (hb : l.length ≤ 1000000) :
    Fc Try.prog 128 [.slice (some ad) l.length c] H (fun v H' => ∃ b k, v = .slice (some ⟨b, 0, none⟩) l.length k ∧ H' = ⟨b, 0, l.flatMap cMt, some 114, k * 6⟩ :: H) := by
  refine Fc.mk (callable Try.call128) Try.func128 rfl Try.ntmps128 rfl ?_; dsimp only [fr]
  repeat' (first | (refine XO.op rfl ?_; (first | ((first | refine Xo.ng rfl ?_); (first | (refine Xg.ev (EvF.eqNil rfl rfl (te rfl)) rfl rfl ?_) | (refine Xg.st (StF.buildNil rfl el24) rfl rfl ?_; rintro _ _ ⟨bn, rfl, rfl⟩) | (refine Xg.st (StF.appendSl (i := 0) rfl el24 rfl rfl rfl (hl.sub (fun _ h => List.mem_cons_of_mem _ h)) (fun e _ => one_mt e) rfl (by decide) (by omega)) rfl rfl ?_; rintro _ _ ⟨b, k, rfl, rfl⟩; dsimp only [List.eraseIdx]) | (refine Xg.ev (EvF.move rfl rfl) rfl rfl ?_) | (refine Xg.ev (EvF.assign rfl rfl) rfl rfl ?_))))) | (refine XO.done rfl ?_; refine hK _ _ ?_; clear hK K) | refine X.seq rfl ?_ | refine X.region rfl (fun K hK => ?_) | refine X.skip rfl ?_ | refine X.ret rfl ?_ | (refine X.ite rfl rfl (fun hc => ?_); (first | (with_reducible refine Xb.f hc ?_)) <;> clear hc))
  exact ret_one (by first | exact .inr rfl | exact .inl rfl) Try.results128 rfl (H' := _) (List.Sublist.refl _) ⟨_, _, by rw [Nat.zero_add], rfl⟩
end Go.Proofs.Ytblehgpfddmggaa
end
section
set_option linter.unusedVariables false
set_option linter.unusedSimpArgs false
namespace Go.Proofs.Ytblehgpfddmggaa
open Go Go.Fw
set_option maxRecDepth 10000
theorem indexFunc_specI (l : List Int) (a : Option Addr) (c g : Nat) (p : Int → Bool) (cap : List Value) (H : List Row) (hl : SlE H a cI 1 l) (hb : l.length ≤ 9223372036854775807) (hf : ∀ e ∈ l, Fc Try.prog g ([.int .i64 e] ++ cap) H (fun v H' => v = .bool (p e) ∧ H' = H)) :
    Fc Try.prog 122 [.slice a l.length c, .func (.func g) #[] cap.toArray] H (fun v H' => (∃ z, v = .int .i64 z ∧ IdxR p l z) ∧ H' = H) := by
  refine Fc.mk (callable Try.call122) Try.func122 rfl Try.ntmps122 rfl ?_; dsimp only [fr]
  repeat' (first | (refine XO.op rfl ?_; (first | ((first | refine Xo.ng rfl ?_); (first | (refine Xg.ev (EvF.move rfl rfl) rfl rfl ?_) | (refine Xg.ev (EvF.assign rfl rfl) rfl rfl ?_) | (refine Xg.ev (EvF.cmp rfl rfl rfl rfl) rfl rfl ?_) | (refine Xg.ev (EvF.lenSlice rfl rfl (te rfl)) rfl rfl ?_))))) | (refine XO.done rfl ?_; refine hK _ _ ?_; clear hK K) | refine X.seq rfl ?_ | refine X.region rfl (fun K hK => ?_) | refine X.block rfl ?_ | (refine X.brk rfl ?_; repeat (first | refine blockX_hit rfl ?_ | refine blockX_miss (by decide) ?_)) | refine X.skip rfl ?_ | refine X.ret rfl ?_ | (refine X.ite rfl rfl (fun hc => ?_); (first | (with_reducible refine Xb.case hc (fun h => ?_) (fun h => ?_))) <;> clear hc))
  refine X.lp rfl (fun q F' H' => ∃ k : Nat, q = l.length - k ∧ k ≤ l.length ∧ (∀ i e, i < k → l[i]? = some e → p e = false) ∧ H = H' ∧
      F' = [(0, .slice a l.length c), (1, .func (.func g) #[] cap.toArray), (7, .int .i64 l.length), (8, .int .i64 k)])
    l.length [(0, .slice a l.length c), (1, .func (.func g) #[] cap.toArray), (7, .int .i64 l.length), (8, .int .i64 (0 : Nat))] _ (by (repeat (first | exact Sub.nil _ | refine Sub.cons rfl ?_)); done) (by (repeat (first | exact List.Sublist.refl _ | apply List.Sublist.cons_cons | apply List.Sublist.cons)); done) ⟨0, by omega, by omega, (fun i e hi => absurd hi (by omega)), rfl, rfl⟩ ?_
  rintro _ _ H2 ⟨k, rfl, hk, hn, hH, rfl⟩
  subst hH
  repeat' (first | (refine XO.op rfl ?_; (first | ((first | refine Xo.ng rfl ?_); (first | (refine Xg.ev (EvF.move rfl rfl) rfl rfl ?_) | (refine Xg.ev (EvF.assign rfl rfl) rfl rfl ?_) | (refine Xg.ev (EvF.cmp rfl rfl rfl rfl) rfl rfl ?_) | (refine Xg.ev (EvF.lenSlice rfl rfl (te rfl)) rfl rfl ?_))))) | (refine XO.done rfl ?_; refine hK _ _ ?_; clear hK K) | refine X.seq rfl ?_ | refine X.region rfl (fun K hK => ?_) | refine X.block rfl ?_ | (refine X.brk rfl ?_; repeat (first | refine blockX_hit rfl ?_ | refine blockX_miss (by decide) ?_)) | refine X.skip rfl ?_ | refine X.ret rfl ?_ | (refine X.ite rfl rfl (fun hc => ?_); (first | (with_reducible refine Xb.case hc (fun h => ?_) (fun h => ?_))) <;> clear hc))
  · obtain ⟨b, off, e, rfl, he⟩ := hl.elem (i := k) (by omega)
    repeat' (first | (refine XO.op rfl ?_; (first | ((first | refine Xo.ng rfl ?_); (first | (refine Xg.ev (EvF.loadV rfl rfl (LoadV.el0 hl he (te rfl) rfl (fun _ hm => hm) rfl)) rfl rfl ?_) | (refine Xg.call (EnF.dyn0 rfl rfl (by (repeat (first | exact Args.nil | refine Args.cons rfl ?_)); done)) rfl rfl (hf e (List.mem_of_getElem? he)) ?_; rintro _ H9 ⟨rfl, hH9⟩; subst H9) | (refine Xg.ev (EvF.move rfl rfl) rfl rfl ?_) | (refine Xg.ev (EvF.assign rfl rfl) rfl rfl ?_) | (refine Xg.ev (EvF.add64 rfl rfl rfl (by omega) (by omega)) rfl rfl ?_) | (refine Xg.ev (EvF.indexSlice rfl rfl rfl (te rfl) (te rfl) (by omega) (by omega)) rfl rfl ?_))))) | (refine XO.done rfl ?_; refine hK _ _ ?_; clear hK K) | refine X.seq rfl ?_ | refine X.region rfl (fun K hK => ?_) | refine X.skip rfl ?_ | refine X.ret rfl ?_ | (refine X.ite rfl rfl (fun hc => ?_); (first | (with_reducible refine Xb.caseB hc (fun h => ?_) (fun h => ?_))) <;> clear hc))
    · refine ret_one (by first | exact .inr rfl | exact .inl rfl) Try.results122 rfl (H' := H) (by (repeat (first | exact List.Sublist.refl _ | apply List.Sublist.cons)); done) ?_; simp only [and_true, true_and]
      exact ⟨_, rfl, .inr ⟨k, e, rfl, he, by assumption, hn⟩⟩
    · refine ⟨_, _, _, (by (repeat (first | exact Sub.nil _ | refine Sub.cons rfl ?_)); done), (by (repeat (first | exact List.Sublist.refl _ | apply List.Sublist.cons_cons | apply List.Sublist.cons)); done), ⟨k + 1, rfl, by omega, (fun i e' hi he' => ?_), rfl, rfl⟩, by omega⟩
      rcases Nat.lt_or_ge i k with h1 | h1
      · exact hn i e' h1 he'
      · obtain rfl : i = k := by omega
        rw [he] at he'; cases he'; assumption
  · refine ret_one (by first | exact .inr rfl | exact .inl rfl) Try.results122 rfl (H' := H) (by (repeat (first | exact List.Sublist.refl _ | apply List.Sublist.cons)); done) ?_; simp only [and_true, true_and]
    refine ⟨_, rfl, .inl ⟨rfl, fun e he => ?_⟩⟩
    obtain ⟨i, hi, rfl⟩ := List.mem_iff_getElem.1 he
    exact hn i _ (by omega) (List.getElem?_eq_getElem hi)
theorem containsFunc_specI (l : List Int) (a : Option Addr) (c g : Nat) (p : Int → Bool) (cap : List Value) (H : List Row) (hl : SlE H a cI 1 l) (hb : l.length ≤ 9223372036854775807) (hf : ∀ e ∈ l, Fc Try.prog g ([.int .i64 e] ++ cap) H (fun v H' => v = .bool (p e) ∧ H' = H)) :
    Fc Try.prog 80 [.slice a l.length c, .func (.func g) #[] cap.toArray] H (fun v H' => v = .bool (decide (∃ e ∈ l, p e = true)) ∧ H' = H) := by
  refine Fc.mk (callable Try.call80) Try.func80 rfl Try.ntmps80 rfl ?_; dsimp only [fr]
  repeat' (first | (refine XO.op rfl ?_; (first | ((first | refine Xo.ng rfl ?_); (first | (refine Xg.call (EnF.st rfl (by (repeat (first | exact Args.nil | refine Args.cons rfl ?_)); done)) rfl rfl (indexFunc_specI l a c g p cap H hl hb hf) ?_; rintro _ H9 ⟨⟨z, rfl, hz⟩, hH9⟩; subst H9) | (refine Xg.ev (EvF.move rfl rfl) rfl rfl ?_) | (refine Xg.ev (EvF.assign rfl rfl) rfl rfl ?_) | (refine Xg.ev (EvF.cmp rfl rfl rfl rfl) rfl rfl ?_))))) | (refine XO.done rfl ?_; refine hK _ _ ?_; clear hK K) | refine X.seq rfl ?_ | refine X.region rfl (fun K hK => ?_) | refine X.ret rfl ?_)
  refine ret_one (by first | exact .inr rfl | exact .inl rfl) Try.results80 rfl (H' := H) (by (repeat (first | exact List.Sublist.refl _ | apply List.Sublist.cons)); done) ?_; simp only [and_true, true_and]
  congr 1
  exact decide_eq_decide.2 hz.ge
theorem among1_spec (l : List Int) (a : Option Addr) (c : Nat) (n : Int) (b : Nat) (ow : Option Kd) (cap : Nat) (H : List Row) (hm : ⟨b, 0, [.slice a l.length c], ow, cap⟩ ∈ H) (hl : SlE H a cI 1 l) (hb : l.length ≤ 9223372036854775807) :
    Fc Try.prog 145 ([.int .i64 n] ++ [.pointer (some ⟨b, 0, none⟩)]) H (fun v H' => v = .bool (!decide (n ∈ l)) ∧ H' = H) := by
  show Fc Try.prog 145 [.int .i64 n, .pointer (some ⟨b, 0, none⟩)] H _
  refine Fc.mk (callable Try.call145) Try.func145 rfl Try.ntmps145 rfl ?_; dsimp only [fr]
  repeat' (first | (refine XO.op rfl ?_; (first | ((first | refine Xo.ng rfl ?_); (first | (refine Xg.ev (EvF.loadV rfl rfl (LoadV.own (te rfl) rfl hm rfl)) rfl rfl ?_) | (refine Xg.call (EnF.st rfl (by (repeat (first | exact Args.nil | refine Args.cons rfl ?_)); done)) rfl rfl (contains_spec l a c n _ hl hb) ?_; rintro _ H9 ⟨rfl, hH9⟩; subst H9) | (refine Xg.ev (EvF.move rfl rfl) rfl rfl ?_) | (refine Xg.ev (EvF.assign rfl rfl) rfl rfl ?_) | (refine Xg.ev (EvF.not rfl rfl) rfl rfl ?_))))) | (refine XO.done rfl ?_; refine hK _ _ ?_; clear hK K) | refine X.seq rfl ?_ | refine X.region rfl (fun K hK => ?_) | refine X.ret rfl ?_)
  refine ret_one (by first | exact .inr rfl | exact .inl rfl) Try.results145 rfl (H' := H) (by (repeat (first | exact List.Sublist.refl _ | apply List.Sublist.cons)); done) ?_; simp only [and_true, true_and]
theorem among_spec (L l : List Int) (a a' : Option Addr) (c c' : Nat) (H : List Row) (hL : SlE H a cI 1 L) (hl : SlE H a' cI 1 l) (hb : L.length ≤ 9223372036854775807) (hb' : l.length ≤ 9223372036854775807) :
    Fc Try.prog 139 [.slice a L.length c, .slice a' l.length c'] H (fun v H' => v = .bool (decide (∀ n ∈ l, n ∈ L)) ∧ H' = H) := by
  refine Fc.mk (callable Try.call139) Try.func139 rfl Try.ntmps139 rfl ?_; dsimp only [fr]
  repeat' (first | (refine XO.op rfl ?_; (first | ((first | refine Xo.ng rfl ?_); (first | (refine Xg.ev (EvF.makeFunc (fl := []) rfl Args.nil (Args.cons rfl Args.nil)) rfl rfl ?_) | (refine Xg.call (EnF.st rfl (by (repeat (first | exact Args.nil | refine Args.cons rfl ?_)); done)) rfl rfl (containsFunc_specI l a' c' 145 (fun n => !decide (n ∈ L)) [_] _ (hl.sub (fun _ h => by repeat (first | exact h | apply List.Mem.tail))) hb' (fun e _ => among1_spec L a c e _ _ _ _ (List.Mem.head _) (hL.sub (fun _ h => by repeat (first | exact h | apply List.Mem.tail))) hb)) ?_; rintro _ H9 ⟨rfl, hH9⟩; subst H9) | (refine Xg.ev (EvF.move rfl rfl) rfl rfl ?_) | (refine Xg.ev (EvF.assign rfl rfl) rfl rfl ?_) | (refine Xg.ev (EvF.not rfl rfl) rfl rfl ?_) | (refine Xg.st (StF.boxOne rfl rfl rfl) rfl rfl ?_; rintro _ _ ⟨bx, rfl, rfl⟩))))) | (refine XO.done rfl ?_; refine hK _ _ ?_; clear hK K) | refine X.seq rfl ?_ | refine X.region rfl (fun K hK => ?_) | refine X.ret rfl ?_)
  refine ret_one (by first | exact .inr rfl | exact .inl rfl) Try.results139 rfl (H' := H) (by (repeat (first | exact List.Sublist.refl _ | apply List.Sublist.cons)); done) ?_; simp only [and_true, true_and]
  congr 1
  cases hq : decide (∃ e ∈ l, (!decide (e ∈ L)) = true)
  · symm
    refine decide_eq_true (fun n hn => ?_)
    have := of_decide_eq_false hq
    by_cases h : n ∈ L
    · exact h
    · exact absurd ⟨n, hn, by rw [decide_eq_false h]; rfl⟩ this
  · symm
    refine decide_eq_false (fun h => ?_)
    obtain ⟨e, he, h2⟩ := of_decide_eq_true hq
    rw [decide_eq_true (h e he)] at h2
    cases h2
end Go.Proofs.Ytblehgpfddmggaa
end
section
set_option linter.unusedVariables false
set_option linter.unusedSimpArgs false
namespace Go.Proofs.Ytblehgpfddmggaa
open Go Go.Fw
set_option maxRecDepth 10000
theorem numbersO_specMt (g : Nat) (f : Mt → Int) (hg : ∀ e H, Fc Try.prog g ([.agg (cMt e).toArray] ++ []) H (fun v H' => v = .int .i64 (f e) ∧ H' = H)) (l : List Mt) (a : Option Addr) (c : Nat) (H : List Row) (hl : SlE H a cMt 6 l) (hb : l.length ≤ 1000000) :
    Fc Try.prog 87 [.slice a l.length c, .func (.func g) #[] #[]] H (fun v H' => (l = [] ∧ v = .slice none 0 0 ∧ H' = H) ∨ ∃ b q, l ≠ [] ∧ v = .slice (some ⟨b, 0, none⟩) (l.map f).length q ∧ H' = ⟨b, 0, (l.map f).flatMap cI, some 3, q * 1⟩ :: H) := by
  refine Fc.mk (callable Try.call87) Try.func87 rfl Try.ntmps87 rfl ?_; dsimp only [fr]
  repeat' (first | (refine XO.op rfl ?_; (first | ((first | refine Xo.ng rfl ?_); (first | (refine Xg.ev (EvF.move rfl rfl) rfl rfl ?_) | (refine Xg.ev (EvF.assign rfl rfl) rfl rfl ?_) | (refine Xg.ev (EvF.cmp rfl rfl rfl rfl) rfl rfl ?_) | (refine Xg.ev (EvF.lenSlice rfl rfl (te rfl)) rfl rfl ?_))))) | (refine XO.done rfl ?_; refine hK _ _ ?_; clear hK K) | refine X.seq rfl ?_ | refine X.region rfl (fun K hK => ?_) | refine X.block rfl ?_ | (refine X.brk rfl ?_; repeat (first | refine blockX_hit rfl ?_ | refine blockX_miss (by decide) ?_)) | refine X.skip rfl ?_ | refine X.ret rfl ?_ | (refine X.ite rfl rfl (fun hc => ?_); (first | (with_reducible refine Xb.case hc (fun h => ?_) (fun h => ?_))) <;> clear hc))
  refine X.lp rfl (fun q F' H' => ∃ (k : Nat) (out : Value) (Z : List Row), q = l.length - k ∧ k ≤ l.length ∧ ((k = 0 ∧ out = .slice none 0 0 ∧ Z = []) ∨ ∃ b q, 0 < k ∧ out = .slice (some ⟨b, 0, none⟩) k q ∧ Z = [⟨b, 0, ((l.take k).map f).flatMap cI, some 3, q * 1⟩]) ∧ Z ++ H = H' ∧
      F' = [(1, .func (.func g) #[] #[]), (5, out), (8, .slice a l.length c), (9, .int .i64 l.length), (10, .int .i64 k)])
    l.length [(1, .func (.func g) #[] #[]), (5, .slice none 0 0), (8, .slice a l.length c), (9, .int .i64 l.length), (10, .int .i64 (0 : Nat))] _ (by (repeat (first | exact Sub.nil _ | refine Sub.cons rfl ?_)); done) (by (repeat (first | exact List.Sublist.refl _ | apply List.Sublist.cons_cons | apply List.Sublist.cons)); done) ⟨0, _, [], by omega, by omega, .inl ⟨rfl, rfl, rfl⟩, rfl, rfl⟩ ?_
  rintro _ _ H2 ⟨k, out, Z, rfl, hk, ⟨rfl, rfl, rfl⟩ | ⟨b0, q0, hk0, rfl, rfl⟩, hH, rfl⟩
  · rw [List.nil_append] at hH
    subst hH
    repeat' (first | (refine XO.op rfl ?_; (first | ((first | refine Xo.ng rfl ?_); (first | (refine Xg.ev (EvF.move rfl rfl) rfl rfl ?_) | (refine Xg.ev (EvF.assign rfl rfl) rfl rfl ?_) | (refine Xg.ev (EvF.cmp rfl rfl rfl rfl) rfl rfl ?_) | (refine Xg.ev (EvF.lenSlice rfl rfl (te rfl)) rfl rfl ?_))))) | (refine XO.done rfl ?_; refine hK _ _ ?_; clear hK K) | refine X.seq rfl ?_ | refine X.region rfl (fun K hK => ?_) | refine X.block rfl ?_ | (refine X.brk rfl ?_; repeat (first | refine blockX_hit rfl ?_ | refine blockX_miss (by decide) ?_)) | refine X.skip rfl ?_ | refine X.ret rfl ?_ | (refine X.ite rfl rfl (fun hc => ?_); (first | (with_reducible refine Xb.case hc (fun h => ?_) (fun h => ?_))) <;> clear hc))
    · obtain ⟨b, off, e, rfl, he⟩ := hl.elem (i := 0) (by omega)
      repeat' (first | (refine XO.op rfl ?_; (first | ((first | refine Xo.ng rfl ?_); (first | (refine Xg.ev (EvF.loadV rfl rfl (LoadV.elA0 hl he (te rfl) rfl (fun _ hm => hm) rfl)) rfl rfl ?_) | (refine Xg.call (EnF.dyn0 rfl rfl (by (repeat (first | exact Args.nil | refine Args.cons rfl ?_)); done)) rfl rfl (hg _ _) ?_; rintro _ H9 ⟨rfl, hH9⟩; subst H9) | (refine Xg.st (StF.buildOne rfl el55 rfl rfl rfl (by decide) (by decide)) rfl rfl ?_; rintro _ _ ⟨bs, rfl, rfl⟩) | (refine Xg.st (StF.appendNew rfl el55 rfl rfl (by decide) rfl (Rd.own (List.Mem.head _)) (by decide)) rfl rfl ?_; rintro _ _ ⟨bn, kn, rfl, rfl⟩) | (refine Xg.ev (EvF.move rfl rfl) rfl rfl ?_) | (refine Xg.ev (EvF.assign rfl rfl) rfl rfl ?_) | (refine Xg.ev (EvF.add64 rfl rfl rfl (by omega) (by omega)) rfl rfl ?_) | (refine Xg.ev (EvF.indexSlice rfl rfl rfl (te rfl) (te rfl) (by omega) (by omega)) rfl rfl ?_) | (refine Xg.ev (EvF.loadV rfl rfl (LoadV.whole (te rfl) rfl (List.Mem.head _) rfl)) rfl rfl ?_) | (refine Xg.st (StF.alloc rfl Try.zeroValue114 rfl) rfl rfl ?_; rintro _ _ ⟨bx, rfl, rfl⟩) | (refine Xg.st0 (StF.storeAll (i := 0) rfl rfl rfl (te rfl) rfl rfl rfl rfl) rfl ?_; rintro _ _ ⟨rfl, rfl⟩; dsimp only [List.set]))))) | (refine XO.done rfl ?_; refine hK _ _ ?_; clear hK K) | refine X.region rfl (fun K hK => ?_))
      refine ⟨_, _, _, (by (repeat (first | exact Sub.nil _ | refine Sub.cons rfl ?_)); done), ?_, ⟨0 + 1, _, [⟨bn, 0, ((l.take (0 + 1)).map f).flatMap cI, some 3, kn * 1⟩], rfl, by omega, .inr ⟨_, _, by omega, rfl, rfl⟩, rfl, rfl⟩, by omega⟩
      rw [take_snoc he]
      exact (by (repeat (first | exact List.Sublist.refl _ | apply List.Sublist.cons_cons | apply List.Sublist.cons)); done)
    · obtain rfl : l = [] := List.eq_nil_of_length_eq_zero (by omega)
      exact ret_one (by first | exact .inr rfl | exact .inl rfl) Try.results87 rfl (H' := H) (by (repeat (first | exact List.Sublist.refl _ | apply List.Sublist.cons_cons | apply List.Sublist.cons)); done) (.inl ⟨rfl, rfl, rfl⟩)
  · have hlen : (((l.take k).map f).flatMap cI).length = k * 1 := by rw [lenI, List.length_map, List.length_take]; omega
    simp only [List.cons_append, List.nil_append] at hH
    subst hH
    repeat' (first | (refine XO.op rfl ?_; (first | ((first | refine Xo.ng rfl ?_); (first | (refine Xg.ev (EvF.move rfl rfl) rfl rfl ?_) | (refine Xg.ev (EvF.assign rfl rfl) rfl rfl ?_) | (refine Xg.ev (EvF.cmp rfl rfl rfl rfl) rfl rfl ?_) | (refine Xg.ev (EvF.lenSlice rfl rfl (te rfl)) rfl rfl ?_))))) | (refine XO.done rfl ?_; refine hK _ _ ?_; clear hK K) | refine X.seq rfl ?_ | refine X.region rfl (fun K hK => ?_) | refine X.block rfl ?_ | (refine X.brk rfl ?_; repeat (first | refine blockX_hit rfl ?_ | refine blockX_miss (by decide) ?_)) | refine X.skip rfl ?_ | refine X.ret rfl ?_ | (refine X.ite rfl rfl (fun hc => ?_); (first | (with_reducible refine Xb.case hc (fun h => ?_) (fun h => ?_))) <;> clear hc))
    · obtain ⟨b, off, e, rfl, he⟩ := hl.elem (i := k) (by omega)
      have hl1 : ∀ r, SlE (r :: H) (some ⟨b, off, none⟩) cMt 6 l := fun r => hl.sub (fun _ h => List.mem_cons_of_mem _ h)
      repeat' (first | (refine XO.op rfl ?_; (first | ((first | refine Xo.ng rfl ?_); (first | (refine Xg.ev (EvF.loadV rfl rfl (LoadV.elA0 (hl1 _) he (te rfl) rfl (fun _ hm => hm) rfl)) rfl rfl ?_) | (refine Xg.call (EnF.dyn0 rfl rfl (by (repeat (first | exact Args.nil | refine Args.cons rfl ?_)); done)) rfl rfl (hg _ _) ?_; rintro _ H9 ⟨rfl, hH9⟩; subst H9) | (refine Xg.st (StF.buildOne rfl el55 rfl rfl rfl (by decide) (by decide)) rfl rfl ?_; rintro _ _ ⟨bs, rfl, rfl⟩) | (refine Xg.st (StF.appendOwn (i := 2) rfl el55 rfl rfl rfl hlen rfl (Rd.own (List.Mem.head _)) rfl (by omega)) rfl rfl ?_; rintro _ _ ⟨bn, kn, rfl, rfl⟩; dsimp only [List.eraseIdx]) | (refine Xg.ev (EvF.move rfl rfl) rfl rfl ?_) | (refine Xg.ev (EvF.assign rfl rfl) rfl rfl ?_) | (refine Xg.ev (EvF.add64 rfl rfl rfl (by omega) (by omega)) rfl rfl ?_) | (refine Xg.ev (EvF.indexSlice rfl rfl rfl (te rfl) (te rfl) (by omega) (by omega)) rfl rfl ?_) | (refine Xg.ev (EvF.loadV rfl rfl (LoadV.whole (te rfl) rfl (List.Mem.head _) rfl)) rfl rfl ?_) | (refine Xg.st (StF.alloc rfl Try.zeroValue114 rfl) rfl rfl ?_; rintro _ _ ⟨bx, rfl, rfl⟩) | (refine Xg.st0 (StF.storeAll (i := 0) rfl rfl rfl (te rfl) rfl rfl rfl rfl) rfl ?_; rintro _ _ ⟨rfl, rfl⟩; dsimp only [List.set]))))) | (refine XO.done rfl ?_; refine hK _ _ ?_; clear hK K) | refine X.region rfl (fun K hK => ?_))
      refine ⟨_, _, _, (by (repeat (first | exact Sub.nil _ | refine Sub.cons rfl ?_)); done), ?_, ⟨k + 1, _, [⟨bn, 0, ((l.take (k + 1)).map f).flatMap cI, some 3, kn * 1⟩], rfl, by omega, .inr ⟨_, _, by omega, rfl, rfl⟩, rfl, rfl⟩, by omega⟩
      rw [take_snoc he, List.map_append, List.flatMap_append]
      exact (by (repeat (first | exact List.Sublist.refl _ | apply List.Sublist.cons_cons | apply List.Sublist.cons)); done)
    · obtain rfl : k = l.length := by omega
      rw [List.take_length]
      refine ret_one (by first | exact .inr rfl | exact .inl rfl) Try.results87 rfl (H' := ⟨b0, 0, (l.map f).flatMap cI, some 3, q0 * 1⟩ :: H) (by (repeat (first | exact List.Sublist.refl _ | apply List.Sublist.cons_cons | apply List.Sublist.cons)); done) (.inr ⟨b0, q0, (fun e => by rw [e] at hk0; exact absurd hk0 (Nat.lt_irrefl 0)), by rw [List.length_map], rfl⟩)
theorem numbersF_specMt (g : Nat) (f : Mt → Int) (hg : ∀ e H, Fc Try.prog g ([.agg (cMt e).toArray] ++ []) H (fun v H' => v = .int .i64 (f e) ∧ H' = H)) (l : List Mt) (a : Option Addr) (c : Nat) (H : List Row) (hl : SlE H a cMt 6 l) (hb : l.length ≤ 1000000) :
    Fc Try.prog 87 [.slice a l.length c, .func (.func g) #[] #[]] H (fun v H' => ∃ a' c' Z, v = .slice a' (l.map f).length c' ∧ H' = Z ++ H ∧ SlE (Z ++ H) a' cI 1 (l.map f)) := by
  refine (numbersO_specMt g f hg l a c H hl hb).mono ?_
  rintro v H' (⟨rfl, rfl, rfl⟩ | ⟨b, q, _, rfl, rfl⟩)
  · exact ⟨none, 0, [], rfl, rfl, sleNil⟩
  · exact ⟨some ⟨b, 0, none⟩, q, [_], rfl, rfl, SlE.ofRow (List.Mem.head _) (fun _ _ => rfl)⟩
theorem numbers_specMt (l : List Mt) (a : Option Addr) (c : Nat) (H : List Row) (hl : SlE H a cMt 6 l) (hb : l.length ≤ 1000000) :
    Fc Try.prog 87 [.slice a l.length c, .func (.func 88) #[] #[]] H (fun v H' => ∃ a' c' Z, v = .slice a' (l.map (·.number)).length c' ∧ H' = Z ++ H ∧ SlE (Z ++ H) a' cI 1 (l.map (·.number))) :=
  numbersF_specMt 88 (·.number) number_spec l a c H hl hb
theorem numbersO_specBx (g : Nat) (f : Bx → Int) (hg : ∀ e H, Fc Try.prog g ([.agg (cBx e).toArray] ++ []) H (fun v H' => v = .int .i64 (f e) ∧ H' = H)) (l : List Bx) (a : Option Addr) (c : Nat) (H : List Row) (hl : SlE H a cBx 2 l) (hb : l.length ≤ 1000000) :
    Fc Try.prog 116 [.slice a l.length c, .func (.func g) #[] #[]] H (fun v H' => (l = [] ∧ v = .slice none 0 0 ∧ H' = H) ∨ ∃ b q, l ≠ [] ∧ v = .slice (some ⟨b, 0, none⟩) (l.map f).length q ∧ H' = ⟨b, 0, (l.map f).flatMap cI, some 3, q * 1⟩ :: H) := by
  refine Fc.mk (callable Try.call116) Try.func116 rfl Try.ntmps116 rfl ?_; dsimp only [fr]
  repeat' (first | (refine XO.op rfl ?_; (first | ((first | refine Xo.ng rfl ?_); (first | (refine Xg.ev (EvF.move rfl rfl) rfl rfl ?_) | (refine Xg.ev (EvF.assign rfl rfl) rfl rfl ?_) | (refine Xg.ev (EvF.cmp rfl rfl rfl rfl) rfl rfl ?_) | (refine Xg.ev (EvF.lenSlice rfl rfl (te rfl)) rfl rfl ?_))))) | (refine XO.done rfl ?_; refine hK _ _ ?_; clear hK K) | refine X.seq rfl ?_ | refine X.region rfl (fun K hK => ?_) | refine X.block rfl ?_ | (refine X.brk rfl ?_; repeat (first | refine blockX_hit rfl ?_ | refine blockX_miss (by decide) ?_)) | refine X.skip rfl ?_ | refine X.ret rfl ?_ | (refine X.ite rfl rfl (fun hc => ?_); (first | (with_reducible refine Xb.case hc (fun h => ?_) (fun h => ?_))) <;> clear hc))
  refine X.lp rfl (fun q F' H' => ∃ (k : Nat) (out : Value) (Z : List Row), q = l.length - k ∧ k ≤ l.length ∧ ((k = 0 ∧ out = .slice none 0 0 ∧ Z = []) ∨ ∃ b q, 0 < k ∧ out = .slice (some ⟨b, 0, none⟩) k q ∧ Z = [⟨b, 0, ((l.take k).map f).flatMap cI, some 3, q * 1⟩]) ∧ Z ++ H = H' ∧
      F' = [(1, .func (.func g) #[] #[]), (5, out), (8, .slice a l.length c), (9, .int .i64 l.length), (10, .int .i64 k)])
    l.length [(1, .func (.func g) #[] #[]), (5, .slice none 0 0), (8, .slice a l.length c), (9, .int .i64 l.length), (10, .int .i64 (0 : Nat))] _ (by (repeat (first | exact Sub.nil _ | refine Sub.cons rfl ?_)); done) (by (repeat (first | exact List.Sublist.refl _ | apply List.Sublist.cons_cons | apply List.Sublist.cons)); done) ⟨0, _, [], by omega, by omega, .inl ⟨rfl, rfl, rfl⟩, rfl, rfl⟩ ?_
  rintro _ _ H2 ⟨k, out, Z, rfl, hk, ⟨rfl, rfl, rfl⟩ | ⟨b0, q0, hk0, rfl, rfl⟩, hH, rfl⟩
  · rw [List.nil_append] at hH
    subst hH
    repeat' (first | (refine XO.op rfl ?_; (first | ((first | refine Xo.ng rfl ?_); (first | (refine Xg.ev (EvF.move rfl rfl) rfl rfl ?_) | (refine Xg.ev (EvF.assign rfl rfl) rfl rfl ?_) | (refine Xg.ev (EvF.cmp rfl rfl rfl rfl) rfl rfl ?_) | (refine Xg.ev (EvF.lenSlice rfl rfl (te rfl)) rfl rfl ?_))))) | (refine XO.done rfl ?_; refine hK _ _ ?_; clear hK K) | refine X.seq rfl ?_ | refine X.region rfl (fun K hK => ?_) | refine X.block rfl ?_ | (refine X.brk rfl ?_; repeat (first | refine blockX_hit rfl ?_ | refine blockX_miss (by decide) ?_)) | refine X.skip rfl ?_ | refine X.ret rfl ?_ | (refine X.ite rfl rfl (fun hc => ?_); (first | (with_reducible refine Xb.case hc (fun h => ?_) (fun h => ?_))) <;> clear hc))
    · obtain ⟨b, off, e, rfl, he⟩ := hl.elem (i := 0) (by omega)
      repeat' (first | (refine XO.op rfl ?_; (first | ((first | refine Xo.ng rfl ?_); (first | (refine Xg.ev (EvF.loadV rfl rfl (LoadV.elA0 hl he (te rfl) rfl (fun _ hm => hm) rfl)) rfl rfl ?_) | (refine Xg.call (EnF.dyn0 rfl rfl (by (repeat (first | exact Args.nil | refine Args.cons rfl ?_)); done)) rfl rfl (hg _ _) ?_; rintro _ H9 ⟨rfl, hH9⟩; subst H9) | (refine Xg.st (StF.buildOne rfl el55 rfl rfl rfl (by decide) (by decide)) rfl rfl ?_; rintro _ _ ⟨bs, rfl, rfl⟩) | (refine Xg.st (StF.appendNew rfl el55 rfl rfl (by decide) rfl (Rd.own (List.Mem.head _)) (by decide)) rfl rfl ?_; rintro _ _ ⟨bn, kn, rfl, rfl⟩) | (refine Xg.ev (EvF.move rfl rfl) rfl rfl ?_) | (refine Xg.ev (EvF.assign rfl rfl) rfl rfl ?_) | (refine Xg.ev (EvF.add64 rfl rfl rfl (by omega) (by omega)) rfl rfl ?_) | (refine Xg.ev (EvF.indexSlice rfl rfl rfl (te rfl) (te rfl) (by omega) (by omega)) rfl rfl ?_) | (refine Xg.ev (EvF.loadV rfl rfl (LoadV.whole (te rfl) rfl (List.Mem.head _) rfl)) rfl rfl ?_) | (refine Xg.st (StF.alloc rfl Try.zeroValue35 rfl) rfl rfl ?_; rintro _ _ ⟨bx, rfl, rfl⟩) | (refine Xg.st0 (StF.storeAll (i := 0) rfl rfl rfl (te rfl) rfl rfl rfl rfl) rfl ?_; rintro _ _ ⟨rfl, rfl⟩; dsimp only [List.set]))))) | (refine XO.done rfl ?_; refine hK _ _ ?_; clear hK K) | refine X.region rfl (fun K hK => ?_))
      refine ⟨_, _, _, (by (repeat (first | exact Sub.nil _ | refine Sub.cons rfl ?_)); done), ?_, ⟨0 + 1, _, [⟨bn, 0, ((l.take (0 + 1)).map f).flatMap cI, some 3, kn * 1⟩], rfl, by omega, .inr ⟨_, _, by omega, rfl, rfl⟩, rfl, rfl⟩, by omega⟩
      rw [take_snoc he]
      exact (by (repeat (first | exact List.Sublist.refl _ | apply List.Sublist.cons_cons | apply List.Sublist.cons)); done)
    · obtain rfl : l = [] := List.eq_nil_of_length_eq_zero (by omega)
      exact ret_one (by first | exact .inr rfl | exact .inl rfl) Try.results116 rfl (H' := H) (by (repeat (first | exact List.Sublist.refl _ | apply List.Sublist.cons_cons | apply List.Sublist.cons)); done) (.inl ⟨rfl, rfl, rfl⟩)
  · have hlen : (((l.take k).map f).flatMap cI).length = k * 1 := by rw [lenI, List.length_map, List.length_take]; omega
    simp only [List.cons_append, List.nil_append] at hH
    subst hH
    repeat' (first | (refine XO.op rfl ?_; (first | ((first | refine Xo.ng rfl ?_); (first | (refine Xg.ev (EvF.move rfl rfl) rfl rfl ?_) | (refine Xg.ev (EvF.assign rfl rfl) rfl rfl ?_) | (refine Xg.ev (EvF.cmp rfl rfl rfl rfl) rfl rfl ?_) | (refine Xg.ev (EvF.lenSlice rfl rfl (te rfl)) rfl rfl ?_))))) | (refine XO.done rfl ?_; refine hK _ _ ?_; clear hK K) | refine X.seq rfl ?_ | refine X.region rfl (fun K hK => ?_) | refine X.block rfl ?_ | (refine X.brk rfl ?_; repeat (first | refine blockX_hit rfl ?_ | refine blockX_miss (by decide) ?_)) | refine X.skip rfl ?_ | refine X.ret rfl ?_ | (refine X.ite rfl rfl (fun hc => ?_); (first | (with_reducible refine Xb.case hc (fun h => ?_) (fun h => ?_))) <;> clear hc))
    · obtain ⟨b, off, e, rfl, he⟩ := hl.elem (i := k) (by omega)
      have hl1 : ∀ r, SlE (r :: H) (some ⟨b, off, none⟩) cBx 2 l := fun r => hl.sub (fun _ h => List.mem_cons_of_mem _ h)
      repeat' (first | (refine XO.op rfl ?_; (first | ((first | refine Xo.ng rfl ?_); (first | (refine Xg.ev (EvF.loadV rfl rfl (LoadV.elA0 (hl1 _) he (te rfl) rfl (fun _ hm => hm) rfl)) rfl rfl ?_) | (refine Xg.call (EnF.dyn0 rfl rfl (by (repeat (first | exact Args.nil | refine Args.cons rfl ?_)); done)) rfl rfl (hg _ _) ?_; rintro _ H9 ⟨rfl, hH9⟩; subst H9) | (refine Xg.st (StF.buildOne rfl el55 rfl rfl rfl (by decide) (by decide)) rfl rfl ?_; rintro _ _ ⟨bs, rfl, rfl⟩) | (refine Xg.st (StF.appendOwn (i := 2) rfl el55 rfl rfl rfl hlen rfl (Rd.own (List.Mem.head _)) rfl (by omega)) rfl rfl ?_; rintro _ _ ⟨bn, kn, rfl, rfl⟩; dsimp only [List.eraseIdx]) | (refine Xg.ev (EvF.move rfl rfl) rfl rfl ?_) | (refine Xg.ev (EvF.assign rfl rfl) rfl rfl ?_) | (refine Xg.ev (EvF.add64 rfl rfl rfl (by omega) (by omega)) rfl rfl ?_) | (refine Xg.ev (EvF.indexSlice rfl rfl rfl (te rfl) (te rfl) (by omega) (by omega)) rfl rfl ?_) | (refine Xg.ev (EvF.loadV rfl rfl (LoadV.whole (te rfl) rfl (List.Mem.head _) rfl)) rfl rfl ?_) | (refine Xg.st (StF.alloc rfl Try.zeroValue35 rfl) rfl rfl ?_; rintro _ _ ⟨bx, rfl, rfl⟩) | (refine Xg.st0 (StF.storeAll (i := 0) rfl rfl rfl (te rfl) rfl rfl rfl rfl) rfl ?_; rintro _ _ ⟨rfl, rfl⟩; dsimp only [List.set]))))) | (refine XO.done rfl ?_; refine hK _ _ ?_; clear hK K) | refine X.region rfl (fun K hK => ?_))
      refine ⟨_, _, _, (by (repeat (first | exact Sub.nil _ | refine Sub.cons rfl ?_)); done), ?_, ⟨k + 1, _, [⟨bn, 0, ((l.take (k + 1)).map f).flatMap cI, some 3, kn * 1⟩], rfl, by omega, .inr ⟨_, _, by omega, rfl, rfl⟩, rfl, rfl⟩, by omega⟩
      rw [take_snoc he, List.map_append, List.flatMap_append]
      exact (by (repeat (first | exact List.Sublist.refl _ | apply List.Sublist.cons_cons | apply List.Sublist.cons)); done)
    · obtain rfl : k = l.length := by omega
      rw [List.take_length]
      refine ret_one (by first | exact .inr rfl | exact .inl rfl) Try.results116 rfl (H' := ⟨b0, 0, (l.map f).flatMap cI, some 3, q0 * 1⟩ :: H) (by (repeat (first | exact List.Sublist.refl _ | apply List.Sublist.cons_cons | apply List.Sublist.cons)); done) (.inr ⟨b0, q0, (fun e => by rw [e] at hk0; exact absurd hk0 (Nat.lt_irrefl 0)), by rw [List.length_map], rfl⟩)
theorem numbersF_specBx (g : Nat) (f : Bx → Int) (hg : ∀ e H, Fc Try.prog g ([.agg (cBx e).toArray] ++ []) H (fun v H' => v = .int .i64 (f e) ∧ H' = H)) (l : List Bx) (a : Option Addr) (c : Nat) (H : List Row) (hl : SlE H a cBx 2 l) (hb : l.length ≤ 1000000) :
    Fc Try.prog 116 [.slice a l.length c, .func (.func g) #[] #[]] H (fun v H' => ∃ a' c' Z, v = .slice a' (l.map f).length c' ∧ H' = Z ++ H ∧ SlE (Z ++ H) a' cI 1 (l.map f)) := by
  refine (numbersO_specBx g f hg l a c H hl hb).mono ?_
  rintro v H' (⟨rfl, rfl, rfl⟩ | ⟨b, q, _, rfl, rfl⟩)
  · exact ⟨none, 0, [], rfl, rfl, sleNil⟩
  · exact ⟨some ⟨b, 0, none⟩, q, [_], rfl, rfl, SlE.ofRow (List.Mem.head _) (fun _ _ => rfl)⟩
theorem numbers_specBx (l : List Bx) (a : Option Addr) (c : Nat) (H : List Row) (hl : SlE H a cBx 2 l) (hb : l.length ≤ 1000000) :
    Fc Try.prog 116 [.slice a l.length c, .func (.func 117) #[] #[]] H (fun v H' => ∃ a' c' Z, v = .slice a' (l.map (·.id)).length c' ∧ H' = Z ++ H ∧ SlE (Z ++ H) a' cI 1 (l.map (·.id))) :=
  numbersF_specBx 117 (·.id) id_spec l a c H hl hb
end Go.Proofs.Ytblehgpfddmggaa
end
