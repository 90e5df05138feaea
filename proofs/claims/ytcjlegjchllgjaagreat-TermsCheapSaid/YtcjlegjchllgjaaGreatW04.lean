/- Own work: contracts of functions, from rows of what is known of the memory; contracts of functions, from rows of what is known of the memory; contracts of functions, from rows of what is known of the memory; contracts of functions, from rows of what is known of the memory; contracts of functions, from rows of what is known of the memory; contracts of functions, from rows of what is known of the memory; contracts of functions, from rows of what is known of the memory; contracts of functions, from rows of what is known of the memory; contracts of functions, from rows of what is known of the memory; contracts of functions, from rows of what is known of the memory; contracts of functions, from rows of what is known of the memory; contracts of functions, from rows of what is known of the memory; contract -/
import Derived.Test.YtcjlegjchllgjaaGreatW03
import Derived.ChangeKeysEq
section
set_option linter.unusedVariables false
set_option linter.unusedSimpArgs false
namespace Go.Proofs.YtcjlegjchllgjaaGreat
open Go Go.Fw
set_option maxRecDepth 10000
theorem foldl_min_le : ∀ (l : List Int) (a : Int), l.foldl min a ≤ a ∧ ∀ x ∈ l, l.foldl min a ≤ x
  | [], a => ⟨Int.le_refl _, fun _ h => absurd h List.not_mem_nil⟩
  | y :: l, a => by
    have ih := foldl_min_le l (min a y)
    refine ⟨Int.le_trans ih.1 (by omega), fun x hx => ?_⟩
    rcases List.mem_cons.1 hx with rfl | hx
    · exact Int.le_trans ih.1 (by omega)
    · exact ih.2 x hx
theorem minL_le {l : List Int} {x : Int} (h : x ∈ l) : minL l ≤ x := by
  cases l with
  | nil => exact absurd h List.not_mem_nil
  | cons y l =>
    rcases List.mem_cons.1 h with rfl | h
    · exact (foldl_min_le l x).1
    · exact (foldl_min_le l y).2 x h
theorem foldl_min_mem : ∀ (l : List Int) (a : Int), l.foldl min a = a ∨ l.foldl min a ∈ l
  | [], a => .inl rfl
  | y :: l, a => by
    rcases foldl_min_mem l (min a y) with h | h
    · rw [List.foldl_cons, h]
      by_cases q : a ≤ y
      · left; omega
      · right; rw [show min a y = y by omega]; exact List.mem_cons_self
    · right; exact List.mem_cons_of_mem _ h
theorem minL_mem {l : List Int} (h : 0 < l.length) : minL l ∈ l := by
  cases l with
  | nil => exact absurd h (Nat.lt_irrefl 0)
  | cons y l =>
    rcases foldl_min_mem l y with q | q
    · show l.foldl min y ∈ y :: l
      rw [q]; exact List.mem_cons_self
    · exact List.mem_cons_of_mem _ q
theorem at1_mem {l : List Int} (h : l.length = 9) {i : Int} (hi : 1 ≤ i ∧ i ≤ 9) : at1 l i ∈ l := List.mem_of_getElem? (at1_get hi h)
theorem mem_at1 {l : List Int} (h : l.length = 9) {x : Int} (hx : x ∈ l) : ∃ i : Int, (1 ≤ i ∧ i ≤ 9) ∧ at1 l i = x := by
  obtain ⟨k, hk, rfl⟩ := List.mem_iff_getElem.1 hx
  refine ⟨(k : Int) + 1, by omega, ?_⟩
  unfold at1
  rw [show ((k : Int) + 1 - 1).toNat = k by omega, List.getD_eq_getElem?_getD, List.getElem?_eq_getElem hk]; rfl
theorem day_least {d : Dy} (h1 : tab d.G) (h2 : tab d.S) : (∀ g s, 1 ≤ g ∧ g ≤ 9 → 1 ≤ s ∧ s ≤ 9 → 0 ≤ d.price + at1 d.G g + at1 d.S s) ↔ 0 ≤ d.price + minL d.G + minL d.S := by
  constructor
  · intro h
    obtain ⟨g, hg, e1⟩ := mem_at1 h1.1 (minL_mem (l := d.G) (by rw [h1.1]; decide))
    obtain ⟨s, hs, e2⟩ := mem_at1 h2.1 (minL_mem (l := d.S) (by rw [h2.1]; decide))
    have := h g s hg hs
    rwa [e1, e2] at this
  · intro h g s hg hs
    have := minL_le (at1_mem h1.1 hg)
    have := minL_le (at1_mem h2.1 hs)
    omega
def tsId : List TOp := [⟨some 3, [], [], []⟩, ⟨some 4, [], [], []⟩, ⟨some 5, [1], [1], []⟩, ⟨some 6, [1, 2], [2], []⟩, ⟨some 7, [0, 1, 2, 3], [0, 3], [3]⟩, ⟨some 8, [0, 1, 2, 3, 4], [4], []⟩, ⟨some 9, [0, 1, 2, 3, 4, 5], [], []⟩, ⟨some 10, [0, 1, 2, 3, 4, 5, 6], [6], []⟩, ⟨some 11, [0, 1, 2, 3, 4, 5], [], []⟩, ⟨some 12, [0, 1, 2, 3, 4, 5, 8], [8], []⟩, ⟨some 13, [0, 1, 2, 3, 4, 5, 6, 7, 8, 9], [7, 9], []⟩, ⟨some 14, [0, 1, 2, 3, 4, 5, 6, 7, 8, 9, 10], [5, 10], []⟩, ⟨some 15, [0, 1, 2, 3, 4, 5, 6, 7, 8, 9, 10, 11], [11], []⟩, ⟨some 16, [0, 1, 2, 3, 4, 5, 6, 7, 8, 9, 10, 11, 12], [], []⟩, ⟨some 17, [0, 1, 2, 3, 4, 5, 6, 7, 8, 9, 10, 11, 12, 13], [13], []⟩, ⟨some 18, [0, 1, 2, 3, 4, 5, 6, 7, 8, 9, 10, 11, 12], [], []⟩, ⟨some 19, [0, 1, 2, 3, 4, 5, 6, 7, 8, 9, 10, 11, 12, 15], [15], []⟩, ⟨some 20, [0, 1, 2, 3, 4, 5, 6, 7, 8, 9, 10, 11, 12, 15, 16], [16], []⟩, ⟨some 21, [0, 1, 2, 3, 4, 5, 6, 7, 8, 9, 10, 11, 12, 13, 14, 15, 16, 17], [14, 17], []⟩, ⟨some 22, [0, 1, 2, 3, 4, 5, 6, 7, 8, 9, 10, 11, 12], [], []⟩, ⟨some 23, [0, 1, 2, 3, 4, 5, 6, 7, 8, 9, 10, 11, 12, 19], [19], []⟩, ⟨some 24, [0, 1, 2, 3, 4, 5, 6, 7, 8, 9, 10, 11, 12, 15, 16, 17, 19, 20], [20], []⟩, ⟨some 25, [0, 1, 2, 3, 4, 5, 6, 7, 8, 9, 10, 11, 12, 13, 14, 15, 16, 17, 18, 19, 20, 21], [18, 21], []⟩, ⟨some 26, [0, 1, 2, 3, 4, 5, 6, 7, 8, 9, 10, 11, 12, 13, 14, 15, 16, 17, 18, 19, 20, 21, 22], [22], []⟩, ⟨some 27, [0, 1, 2, 3, 4, 5, 6, 7, 8, 9, 10, 11, 12, 13, 14, 15, 16, 17, 18, 19, 20, 21, 22, 23], [12, 23], []⟩, ⟨some 2, [0, 1, 2, 3, 4, 5, 6, 7, 8, 9, 10, 11, 12, 13, 14, 15, 16, 17, 18, 19, 20, 21, 22, 23, 24], [24], []⟩]
def valId (b1 : Nat) (d : Dy) (a b e : Bool) (k : Nat) (env : Env) : Value :=
  match k with
  | 0 => .agg (cSp ⟨0, 1000000⟩).toArray
  | 1 => .pointer (some ⟨b1, 0, none⟩)
  | 2 => .int .i64 d.price
  | 3 => .slice (some ⟨(env 3).1, 0, none⟩) 1 1
  | 4 => .bool a
  | 5 => .bool a
  | 6 => gt (!a) (.pointer (some ⟨b1, 1, none⟩))
  | 7 => gt (!a) (.slice d.a1 d.G.length d.c1)
  | 8 => gt (!a) (.pointer (some ⟨b1, 2, none⟩))
  | 9 => gt (!a) (.slice d.a2 d.S.length d.c2)
  | 10 => gt (!a) (.bool b)
  | 11 => .bool (a && b)
  | 12 => .bool (a && b)
  | 13 => gt (!(a && b)) (.pointer (some ⟨b1, 0, none⟩))
  | 14 => gt (!(a && b)) (.int .i64 d.price)
  | 15 => gt (!(a && b)) (.pointer (some ⟨b1, 1, none⟩))
  | 16 => gt (!(a && b)) (.slice d.a1 d.G.length d.c1)
  | 17 => gt (!(a && b)) (.int .i64 (minL d.G))
  | 18 => gt (!(a && b)) (.int .i64 (d.price + minL d.G))
  | 19 => gt (!(a && b)) (.pointer (some ⟨b1, 2, none⟩))
  | 20 => gt (!(a && b)) (.slice d.a2 d.S.length d.c2)
  | 21 => gt (!(a && b)) (.int .i64 (minL d.S))
  | 22 => gt (!(a && b)) (.int .i64 (d.price + minL d.G + minL d.S))
  | 23 => gt (!(a && b)) (.bool e)
  | 24 => .bool ((a && b) && e)
  | 25 => .bool ((a && b) && e)
  | _ => undef
def rowsId (b1 : Nat) (d : Dy) (a b e : Bool) (k : Nat) (env : Env) : List Row :=
  match k with
  | 3 => [⟨(env 3).1, 0, [.int .i64 d.price], some 3, 1 * 1⟩]
  | _ => []
theorem locId (b1 : Nat) (d : Dy) (a b e : Bool) : ∀ k env i q9, i ≠ k → (tAt tsId k).sup.contains i = false → valId b1 d a b e k (upd env i q9) = valId b1 d a b e k env ∧ rowsId b1 d a b e k (upd env i q9) = rowsId b1 d a b e k env := by
  intro k env i q hk hs
  have hu : ∀ j, j ≠ i → upd env i q j = env j := fun j hj => by unfold upd; rw [if_neg hj]
  match k, hk, hs with
  | 0, _, _ => exact ⟨rfl, rfl⟩
  | 1, _, _ => exact ⟨rfl, rfl⟩
  | 2, _, _ => exact ⟨rfl, rfl⟩
  | 3, hk, hs => exact ⟨by simp only [valId, hu 3 (fun e => hk e.symm)], by simp only [rowsId, hu 3 (fun e => hk e.symm)]⟩
  | 4, _, _ => exact ⟨rfl, rfl⟩
  | 5, _, _ => exact ⟨rfl, rfl⟩
  | 6, _, _ => exact ⟨rfl, rfl⟩
  | 7, _, _ => exact ⟨rfl, rfl⟩
  | 8, _, _ => exact ⟨rfl, rfl⟩
  | 9, _, _ => exact ⟨rfl, rfl⟩
  | 10, _, _ => exact ⟨rfl, rfl⟩
  | 11, _, _ => exact ⟨rfl, rfl⟩
  | 12, _, _ => exact ⟨rfl, rfl⟩
  | 13, _, _ => exact ⟨rfl, rfl⟩
  | 14, _, _ => exact ⟨rfl, rfl⟩
  | 15, _, _ => exact ⟨rfl, rfl⟩
  | 16, _, _ => exact ⟨rfl, rfl⟩
  | 17, _, _ => exact ⟨rfl, rfl⟩
  | 18, _, _ => exact ⟨rfl, rfl⟩
  | 19, _, _ => exact ⟨rfl, rfl⟩
  | 20, _, _ => exact ⟨rfl, rfl⟩
  | 21, _, _ => exact ⟨rfl, rfl⟩
  | 22, _, _ => exact ⟨rfl, rfl⟩
  | 23, _, _ => exact ⟨rfl, rfl⟩
  | 24, _, _ => exact ⟨rfl, rfl⟩
  | 25, _, _ => exact ⟨rfl, rfl⟩
  | _ + 26, _, _ => exact ⟨rfl, rfl⟩
set_option maxHeartbeats 8000000 in
theorem isDay_spec (d : Dy) (H : List Row) (hD : DyOk H d) : Fc Tryz.prog 111 [.agg (cDy d).toArray] H (fun v H' => v = .bool (decide (dayOk d)) ∧ H' = H) := by
  have hD1 : ∀ S : List Row, (∀ r ∈ H, r ∈ S) → DyOk S d := fun S hS => hD.sub hS
  have hdd : dayOk d ↔ (0 ≤ d.price ∧ d.price ≤ 1000000) ∧ tab d.G ∧ tab d.S ∧ ∀ g s, 1 ≤ g ∧ g ≤ 9 → 1 ≤ s ∧ s ≤ 9 → 0 ≤ d.price + at1 d.G g + at1 d.S s := Iff.rfl
  have hx : ∀ a b e : Bool, decide (0 ≤ d.price ∧ d.price ≤ 1000000) = a → decide (tab d.G ∧ tab d.S) = b → decide (d.price + minL d.G + minL d.S ≥ 0) = e → decide (dayOk d) = (a && b && e) := by
    intro a b e h1 h2 h3
    cases a
    · exact decide_eq_false (fun q => of_decide_eq_false h1 (hdd.1 q).1)
    · cases b
      · exact decide_eq_false (fun q => of_decide_eq_false h2 ⟨(hdd.1 q).2.1, (hdd.1 q).2.2.1⟩)
      · have ht := of_decide_eq_true h2
        have hp := of_decide_eq_true h1
        cases e
        · exact decide_eq_false (fun q => of_decide_eq_false h3 ((day_least ht.1 ht.2).1 (hdd.1 q).2.2.2))
        · exact decide_eq_true (hdd.2 ⟨hp, ht.1, ht.2, (day_least ht.1 ht.2).2 (of_decide_eq_true h3)⟩)
  obtain ⟨a, ha⟩ : ∃ a, decide (0 ≤ d.price ∧ d.price ≤ 1000000) = a := ⟨_, rfl⟩
  obtain ⟨b, hb⟩ : ∃ b, decide (tab d.G ∧ tab d.S) = b := ⟨_, rfl⟩
  rw [hx a b _ ha hb rfl]
  clear hx
  have hw : ∀ bb k cap ow H, ⟨bb, 0, [.int .i64 d.price], ow, cap⟩ ∈ H → Fc Tryz.prog 52 [.agg (cSp ⟨0, 1000000⟩).toArray, .slice (some ⟨bb, 0, none⟩) 1 k] H (fun v H' => v = .bool a ∧ H' = H) := fun bb k cap ow H h => by
    have := within1_spec ⟨0, 1000000⟩ d.price bb k cap ow H h
    rwa [ha] at this
  have htb : ∀ H, DyOk H d → Fc Tryz.prog 116 [.slice d.a1 d.G.length d.c1, .slice d.a2 d.S.length d.c2] H (fun v H' => v = .bool b ∧ H' = H) := fun H h => by
    have := areTables_spec d.G d.S d.a1 d.a2 d.c1 d.c2 H h.gr h.st h.l1 h.l2
    rw [show decide (d.G.length = 9 ∧ d.S.length = 9 ∧ (∀ n ∈ d.G, -1000 ≤ n ∧ n ≤ 1000) ∧ (∀ n ∈ d.S, -1000 ≤ n ∧ n ≤ 1000)) = b by rw [← hb]; exact decide_eq_decide.2 ⟨fun ⟨a, b, c, d⟩ => ⟨⟨a, c⟩, ⟨b, d⟩⟩, fun ⟨⟨a, c⟩, ⟨b, d⟩⟩ => ⟨a, b, c, d⟩⟩] at this
    exact this
  refine Fc.mk (callable Tryz.call111) Tryz.func111 rfl Tryz.ntmps111 rfl ?_; dsimp only [fr]
  refine X.seq rfl ?_; refine X.region rfl (fun K hK => ?_); repeat' (first | (refine XO.op rfl ?_; (first | ((first | refine Xo.ng rfl ?_); (first | (refine Xg.ev (EvF.assign rfl rfl) rfl rfl ?_) | (refine Xg.st (StF.boxAgg rfl rfl) rfl rfl ?_; rintro _ _ ⟨bx, rfl, rfl⟩))))) | (refine XO.done rfl ?_; refine hK _ _ ?_; clear hK K))
  rename Nat => b1
  refine X.seq rfl ?_
  cases a
  · -- the price is none
    refine X.regionOb tsId [1] [(1, .pointer (some ⟨b1, 0, none⟩))] (valId b1 d false b (decide (d.price + minL d.G + minL d.S ≥ 0))) (rowsId b1 d false b (decide (d.price + minL d.G + minL d.S ≥ 0))) (fun _ => (0, 0)) (⟨b1, 0, cDy d, some 48, 3⟩ :: H) rfl mixed (by (repeat (first | exact Sub.nil _ | refine Sub.cons rfl ?_)); done) rfl (by kernel_rfl) (locId b1 d false b (decide (d.price + minL d.G + minL d.S ≥ 0))) (List.Sublist.refl _) ?_ ?_
    · repeat' (first | exact AllF.done rfl | (refine AllF.step rfl ?_ ?_; · (first | exact Ob.sk rfl rfl (fun _ => rfl) (fun _ => rfl) (fun _ => rfl) (fun _ => rfl) | ((first | refine Ob.ng rfl ?_); (first | exact ObK.pure (fun env R hR => by exact ⟨_, EvF.move rfl rfl, rfl⟩) rfl (fun _ => rfl) | exact ObK.pure (fun env R hR => by exact ⟨_, EvF.assign rfl rfl, rfl⟩) rfl (fun _ => rfl) | exact ObK.pure (fun env R hR => by exact ⟨_, EvF.pickF rfl rfl rfl, rfl⟩) rfl (fun _ => rfl) | exact ObK.pure (fun env R hR => by exact ⟨_, EvF.fieldAddr rfl rfl (te rfl) rfl (te rfl) (by decide), rfl⟩) rfl (fun _ => rfl) | exact ObK.pure (fun env R hR => by exact ⟨_, EvF.loadV rfl rfl (LoadV.own (te rfl) rfl (hR _ (List.Mem.head _)) rfl), rfl⟩) rfl (fun _ => rfl) | (exact ObK.pure (fun env S hS => ⟨_, EvF.build (cs := cSp ⟨0, 1000000⟩) rfl (ArgsP.cons rfl (ArgsP.cons rfl ArgsP.nil)) (te rfl) (Places.cons (te rfl) (Places.cons (te rfl) Places.nil)) Tryz.zeroValue30 rfl, rfl⟩) rfl (fun _ => rfl)) | (exact fun env S hS => (StF.buildOne rfl elI rfl rfl rfl (by decide) (by decide)).op.mono (fun v H' ⟨b, hv, hH⟩ => ⟨(b, 0), fun _ => hv, by rw [hH]; exact List.Perm.refl _⟩)) | (exact fun env S hS => OpF.callV (Z := [_]) (EnF.st rfl (Args.cons rfl (Args.cons rfl Args.nil))) (hw _ _ _ _ _ (List.Mem.head _)) rfl rfl))))))
    intro env t ha' hv
    refine ⟨_, ha'.cons (hv 25 2 (Nat.le_of_ble_eq_true rfl) rfl), ?_⟩
    show X _ _ _ ((2, .bool (false && b && (decide (d.price + minL d.G + minL d.S ≥ 0)))) :: _) (⟨b1, 0, cDy d, some 48, 3⟩ :: H) _
    repeat' (first | refine X.ret rfl ?_)
    refine ret_one (by first | exact .inr rfl | exact .inl rfl) Tryz.results111 rfl (H' := H) (by (repeat (first | exact List.Sublist.refl _ | apply List.Sublist.cons)); done) ?_; simp only [and_true, true_and]
  · cases b
    · -- the tables are none
      refine X.regionOb tsId [1] [(1, .pointer (some ⟨b1, 0, none⟩))] (valId b1 d true false (decide (d.price + minL d.G + minL d.S ≥ 0))) (rowsId b1 d true false (decide (d.price + minL d.G + minL d.S ≥ 0))) (fun _ => (0, 0)) (⟨b1, 0, cDy d, some 48, 3⟩ :: H) rfl mixed (by (repeat (first | exact Sub.nil _ | refine Sub.cons rfl ?_)); done) rfl (by kernel_rfl) (locId b1 d true false (decide (d.price + minL d.G + minL d.S ≥ 0))) (List.Sublist.refl _) ?_ ?_
      · repeat' (first | exact AllF.done rfl | (refine AllF.step rfl ?_ ?_; · (first | exact Ob.sk rfl rfl (fun _ => rfl) (fun _ => rfl) (fun _ => rfl) (fun _ => rfl) | ((first | refine Ob.ng rfl ?_ | refine Ob.g rfl rfl (fun _ => rfl) ?_); (first | exact ObK.pure (fun env R hR => by exact ⟨_, EvF.move rfl rfl, rfl⟩) rfl (fun _ => rfl) | exact ObK.pure (fun env R hR => by exact ⟨_, EvF.assign rfl rfl, rfl⟩) rfl (fun _ => rfl) | exact ObK.pure (fun env R hR => by exact ⟨_, EvF.pickT rfl rfl rfl, rfl⟩) rfl (fun _ => rfl) | exact ObK.pure (fun env R hR => by exact ⟨_, EvF.pickF rfl rfl rfl, rfl⟩) rfl (fun _ => rfl) | exact ObK.pure (fun env R hR => by exact ⟨_, EvF.fieldAddr rfl rfl (te rfl) rfl (te rfl) (by decide), rfl⟩) rfl (fun _ => rfl) | exact ObK.pure (fun env R hR => by exact ⟨_, EvF.loadV rfl rfl (LoadV.own (te rfl) rfl (hR _ (List.Mem.head _)) rfl), rfl⟩) rfl (fun _ => rfl) | (exact ObK.pure (fun env S hS => ⟨_, EvF.build (cs := cSp ⟨0, 1000000⟩) rfl (ArgsP.cons rfl (ArgsP.cons rfl ArgsP.nil)) (te rfl) (Places.cons (te rfl) (Places.cons (te rfl) Places.nil)) Tryz.zeroValue30 rfl, rfl⟩) rfl (fun _ => rfl)) | (exact fun env S hS => (StF.buildOne rfl elI rfl rfl rfl (by decide) (by decide)).op.mono (fun v H' ⟨b, hv, hH⟩ => ⟨(b, 0), fun _ => hv, by rw [hH]; exact List.Perm.refl _⟩)) | (exact fun env S hS => OpF.callV (Z := [_]) (EnF.st rfl (Args.cons rfl (Args.cons rfl Args.nil))) (hw _ _ _ _ _ (List.Mem.head _)) rfl rfl) | (exact fun env S hS => OpF.callV (Z := []) (EnF.st rfl (Args.cons rfl (Args.cons rfl Args.nil))) (htb _ (hD1 _ (fun r hr => hS r (List.Mem.tail _ hr)))) rfl rfl))))))
      intro env t ha' hv
      refine ⟨_, ha'.cons (hv 25 2 (Nat.le_of_ble_eq_true rfl) rfl), ?_⟩
      show X _ _ _ ((2, .bool (true && false && (decide (d.price + minL d.G + minL d.S ≥ 0)))) :: _) (⟨b1, 0, cDy d, some 48, 3⟩ :: H) _
      repeat' (first | refine X.ret rfl ?_)
      refine ret_one (by first | exact .inr rfl | exact .inl rfl) Tryz.results111 rfl (H' := H) (by (repeat (first | exact List.Sublist.refl _ | apply List.Sublist.cons)); done) ?_; simp only [and_true, true_and]
    · have ht := of_decide_eq_true hb
      have hp := of_decide_eq_true ha
      have g1 := ht.1.1
      have g2 := ht.2.1
      have q1 := ht.1.2 _ (minL_mem (l := d.G) (by omega))
      have q2 := ht.2.2 _ (minL_mem (l := d.S) (by omega))
      refine X.regionOb tsId [1] [(1, .pointer (some ⟨b1, 0, none⟩))] (valId b1 d true true (decide (d.price + minL d.G + minL d.S ≥ 0))) (rowsId b1 d true true (decide (d.price + minL d.G + minL d.S ≥ 0))) (fun _ => (0, 0)) (⟨b1, 0, cDy d, some 48, 3⟩ :: H) rfl mixed (by (repeat (first | exact Sub.nil _ | refine Sub.cons rfl ?_)); done) rfl (by kernel_rfl) (locId b1 d true true (decide (d.price + minL d.G + minL d.S ≥ 0))) (List.Sublist.refl _) ?_ ?_
      · repeat' (first | exact AllF.done rfl | (refine AllF.step rfl ?_ ?_; · (first | fail | ((first | refine Ob.ng rfl ?_ | refine Ob.g rfl rfl (fun _ => rfl) ?_); (first | exact ObK.pure (fun env R hR => by exact ⟨_, EvF.move rfl rfl, rfl⟩) rfl (fun _ => rfl) | exact ObK.pure (fun env R hR => by exact ⟨_, EvF.assign rfl rfl, rfl⟩) rfl (fun _ => rfl) | exact ObK.pure (fun env R hR => by exact ⟨_, EvF.pickT rfl rfl rfl, rfl⟩) rfl (fun _ => rfl) | exact ObK.pure (fun env R hR => by exact ⟨_, EvF.fieldAddr rfl rfl (te rfl) rfl (te rfl) (by decide), rfl⟩) rfl (fun _ => rfl) | exact ObK.pure (fun env R hR => by exact ⟨_, EvF.cmp rfl rfl rfl rfl, rfl⟩) rfl (fun _ => rfl) | exact ObK.pure (fun env R hR => by exact ⟨_, EvF.loadV rfl rfl (LoadV.own (te rfl) rfl (hR _ (List.Mem.head _)) rfl), rfl⟩) rfl (fun _ => rfl) | (exact ObK.pure (fun env S hS => ⟨_, EvF.build (cs := cSp ⟨0, 1000000⟩) rfl (ArgsP.cons rfl (ArgsP.cons rfl ArgsP.nil)) (te rfl) (Places.cons (te rfl) (Places.cons (te rfl) Places.nil)) Tryz.zeroValue30 rfl, rfl⟩) rfl (fun _ => rfl)) | (exact fun env S hS => (StF.buildOne rfl elI rfl rfl rfl (by decide) (by decide)).op.mono (fun v H' ⟨b, hv, hH⟩ => ⟨(b, 0), fun _ => hv, by rw [hH]; exact List.Perm.refl _⟩)) | (exact fun env S hS => OpF.callV (Z := [_]) (EnF.st rfl (Args.cons rfl (Args.cons rfl Args.nil))) (hw _ _ _ _ _ (List.Mem.head _)) rfl rfl) | (exact fun env S hS => OpF.callV (Z := []) (EnF.st rfl (Args.cons rfl (Args.cons rfl Args.nil))) (htb _ (hD1 _ (fun r hr => hS r (List.Mem.tail _ hr)))) rfl rfl) | (exact fun env S hS => OpF.callV (Z := []) (EnF.st rfl (Args.cons rfl Args.nil)) (minI_spec d.G d.a1 d.c1 _ (hD1 _ (fun r hr => hS r (List.Mem.tail _ hr))).gr hD.l1 (by omega)) rfl rfl) | (exact fun env S hS => OpF.callV (Z := []) (EnF.st rfl (Args.cons rfl Args.nil)) (minI_spec d.S d.a2 d.c2 _ (hD1 _ (fun r hr => hS r (List.Mem.tail _ hr))).st hD.l2 (by omega)) rfl rfl) | (exact ObK.pure (fun env S hS => ⟨_, EvF.add64 rfl rfl rfl (by omega) (by omega), rfl⟩) rfl (fun _ => rfl)))))))
      intro env t ha' hv
      refine ⟨_, ha'.cons (hv 25 2 (Nat.le_of_ble_eq_true rfl) rfl), ?_⟩
      show X _ _ _ ((2, .bool (true && true && (decide (d.price + minL d.G + minL d.S ≥ 0)))) :: _) (⟨b1, 0, cDy d, some 48, 3⟩ :: H) _
      repeat' (first | refine X.ret rfl ?_)
      refine ret_one (by first | exact .inr rfl | exact .inl rfl) Tryz.results111 rfl (H' := H) (by (repeat (first | exact List.Sublist.refl _ | apply List.Sublist.cons)); done) ?_; simp only [and_true, true_and]
theorem areDays1_spec (d : Dy) (H : List Row) (hD : DyOk H d) : Fc Tryz.prog 110 ([.agg (cDy d).toArray] ++ []) H (fun v H' => v = .bool (!decide (dayOk d)) ∧ H' = H) := by
  show Fc Tryz.prog 110 [.agg (cDy d).toArray] H _
  refine Fc.mk (callable Tryz.call110) Tryz.func110 rfl Tryz.ntmps110 rfl ?_; dsimp only [fr]
  repeat' (first | (refine XO.op rfl ?_; (first | ((first | refine Xo.ng rfl ?_); (first | (refine Xg.call (EnF.st rfl (Args.cons rfl Args.nil)) rfl rfl (isDay_spec d _ (hD.sub (fun _ h => List.Mem.tail _ h))) ?_; rintro _ H9 ⟨rfl, hH9⟩; subst H9) | (refine Xg.ev (EvF.assign rfl rfl) rfl rfl ?_) | (refine Xg.ev (EvF.not rfl rfl) rfl rfl ?_) | (refine Xg.ev (EvF.loadV rfl rfl (LoadV.whole (te rfl) rfl (List.Mem.head _) rfl)) rfl rfl ?_) | (refine Xg.st (StF.boxAgg rfl rfl) rfl rfl ?_; rintro _ _ ⟨bx, rfl, rfl⟩))))) | (refine XO.done rfl ?_; refine hK _ _ ?_; clear hK K) | refine X.seq rfl ?_ | refine X.region rfl (fun K hK => ?_) | refine X.ret rfl ?_)
  refine ret_one (by first | exact .inr rfl | exact .inl rfl) Tryz.results110 rfl (H' := H) (by (repeat (first | exact List.Sublist.refl _ | apply List.Sublist.cons)); done) ?_; simp only [and_true, true_and]
theorem HDall (A : Ab) : HD A := fun d _ H' h => areDays1_spec d H' h
end Go.Proofs.YtcjlegjchllgjaaGreat
end
section
set_option linter.unusedVariables false
set_option linter.unusedSimpArgs false
namespace Go.Fw
open Go
theorem EvF.neSelf {P : Program} {n : Nat} {H : List Row} {F : FS} {o : Oper} {T T' : TypeId} {x y : Operand} {k : IntKind} {p : Int} (h : o.op = .binOp .neq T x y T') (hx : evF F x = some (.int k p)) (hy : evF F y = some (.int k p)) : EvF P n H F o (.bool false) := by
  have := EvF.cmp (P := P) (n := n) (H := H) h hx hy rfl
  rwa [decide_eq_true rfl] at this
end Go.Fw
namespace Go.Proofs.YtcjlegjchllgjaaGreat
open Go Go.Fw
set_option maxRecDepth 10000
def cmpI (a b : Int) : Int := if a < b then -1 else if b < a then 1 else 0
theorem isNaN_spec (x : Int) (H : List Row) : Fc Tryz.prog 134 [.int .i64 x] H (fun v H' => v = .bool false ∧ H' = H) := by
  refine Fc.mk (callable Tryz.call134) Tryz.func134 rfl Tryz.ntmps134 rfl ?_; dsimp only [fr]
  repeat' (first | (refine XO.op rfl ?_; (first | ((first | refine Xo.ng rfl ?_); (first | (refine Xg.ev (EvF.neSelf rfl rfl rfl) rfl rfl ?_) | (refine Xg.ev (EvF.move rfl rfl) rfl rfl ?_) | (refine Xg.ev (EvF.assign rfl rfl) rfl rfl ?_))))) | (refine XO.done rfl ?_; refine hK _ _ ?_; clear hK K) | refine X.seq rfl ?_ | refine X.region rfl (fun K hK => ?_) | refine X.ret rfl ?_)
  refine ret_one (by first | exact .inr rfl | exact .inl rfl) Tryz.results134 rfl (H' := H) (by (repeat (first | exact List.Sublist.refl _ | apply List.Sublist.cons)); done) ?_; simp only [and_true, true_and]
theorem compare_spec (x y : Int) (H : List Row) : Fc Tryz.prog 101 [.int .i64 x, .int .i64 y] H (fun v H' => v = .int .i64 (cmpI x y) ∧ H' = H) := by
  unfold cmpI
  refine Fc.mk (callable Tryz.call101) Tryz.func101 rfl Tryz.ntmps101 rfl ?_; dsimp only [fr]
  repeat' (first | (refine XO.op rfl ?_; (first | ((first | refine Xo.ng rfl ?_); (first | (refine Xg.call (EnF.st rfl (Args.cons rfl Args.nil)) rfl rfl (isNaN_spec _ _) ?_; rintro _ H9 ⟨rfl, hH9⟩; subst H9) | (refine Xg.ev (EvF.move rfl rfl) rfl rfl ?_) | (refine Xg.ev (EvF.assign rfl rfl) rfl rfl ?_) | (refine Xg.ev (EvF.cmp rfl rfl rfl rfl) rfl rfl ?_))))) | (refine XO.done rfl ?_; refine hK _ _ ?_; clear hK K) | refine X.seq rfl ?_ | refine X.region rfl (fun K hK => ?_) | refine X.skip rfl ?_ | refine X.ret rfl ?_ | (refine X.ite rfl rfl (fun hc => ?_); (first | (with_reducible refine Xb.f hc ?_) | (with_reducible refine Xb.case hc (fun h => ?_) (fun h => ?_))) <;> clear hc))
  all_goals try (exfalso; contradiction)
  all_goals (refine ret_one (by first | exact .inr rfl | exact .inl rfl) Tryz.results101 rfl (H' := H) (by (repeat (first | exact List.Sublist.refl _ | apply List.Sublist.cons)); done) ?_; simp only [and_true, true_and])
  · rw [if_pos (by assumption)]
  · rw [if_neg (by assumption), if_pos (by omega)]
  · rw [if_neg (by assumption), if_neg (by omega)]
/-- an offer on a day -/
def cMk (T : Tm) (p : Pt) (d : Dy) : List Value := cTm T p ++ cDy d
/-- what a class costs on a day; what it costs to deliver it -/
def dco (d : Dy) (c : Cl) : Int := d.price + at1 d.G c.g + at1 d.S c.s
def coF (T : Tm) (d : Dy) (c : Cl) : Int := dco d c - val T c.g c.s
def in9 (c : Cl) : Prop := (1 ≤ c.g ∧ c.g ≤ 9) ∧ (1 ≤ c.s ∧ c.s ≤ 9)
theorem dco_bd {d : Dy} (h : dayOk d) {c : Cl} (hc : in9 c) : 0 ≤ dco d c ∧ dco d c ≤ 1002000 := by
  obtain ⟨h1, h2, h3, h4⟩ := h
  have := h2.at1 hc.1
  have := h3.at1 hc.2
  have := h4 c.g c.s hc.1 hc.2
  unfold dco; omega
set_option maxHeartbeats 4000000 in
theorem costs_spec (T : Tm) (p : Pt) (d : Dy) (c : Cl) (H : List Row) (hT : TmOk H T p) (hok : tmOk T) (hD : DyOk H d) (hd : dayOk d) (hc : in9 c) :
    Fc Tryz.prog 75 [.agg (cMk T p d).toArray, .agg (cCl c).toArray] H (fun v H' => v = .int .i64 (coF T d c) ∧ H' = H) := by
  have hb := dco_bd hd hc
  have hv := val_bd hok c.g c.s
  obtain ⟨hp, hG, hS, hl⟩ := hd
  have h1 := at1_get hc.1 hG.1
  have h2 := at1_get hc.2 hS.1
  have q1 := hG.at1 hc.1
  have q2 := hS.at1 hc.2
  have lg := hG.1
  have ls := hS.1
  have hp' := hok.num.1
  have hc1 := hc.1
  have hc2 := hc.2
  obtain ⟨b1, o1, e1, he1, _⟩ := hD.gr.elem (i := 0) (by omega)
  obtain ⟨b2, o2, e2, he2, _⟩ := hD.st.elem (i := 0) (by omega)
  have hT2 : ∀ Z : List Row, TmOk (Z ++ H) T p := fun Z => hT.sub (fun _ h => List.mem_append_right _ h)
  have hD2 : ∀ Z : List Row, DyOk (Z ++ H) d := fun Z => hD.sub (fun _ h => List.mem_append_right _ h)
  obtain ⟨pr, G, S, a1, c1, a2, c2⟩ := d
  simp only at he1 he2 h1 h2 q1 q2 lg ls hp
  subst he1 he2
  unfold coF dco at *
  dsimp only at *
  show Fc Tryz.prog 75 [.agg (cTm T p ++ ([.int .i64 pr, .slice (some ⟨b1, o1, none⟩) G.length c1, .slice (some ⟨b2, o2, none⟩) S.length c2] : List Value)).toArray, .agg (cCl c).toArray] H _
  refine Fc.mk (callable Tryz.call75) Tryz.func75 rfl Tryz.ntmps75 rfl ?_; dsimp only [fr]
  repeat' (first | (refine XO.op rfl ?_; (first | ((first | refine Xo.ng rfl ?_); (first | (refine Xg.ev (EvF.assign rfl rfl) rfl rfl ?_) | (refine Xg.st (StF.boxAgg rfl rfl) rfl rfl ?_; rintro _ _ ⟨bx, rfl, rfl⟩))))) | (refine XO.done rfl ?_; refine hK _ _ ?_; clear hK K) | (refine XQ.op rfl ?_; (first | ((first | refine Yo.ng rfl ?_); (first | (refine Yg.ev (EvF.indexSlice rfl rfl rfl (te rfl) (te rfl) (by omega) (by omega)) rfl rfl ?_) | (refine Yg.ev (EvF.loadV rfl rfl (LoadV.el0 (hD2 [_, _]).gr h1 (te rfl) rfl (fun _ hm => hm) rfl)) rfl rfl ?_) | (refine Yg.ev (EvF.loadV rfl rfl (LoadV.el0 (hD2 [_, _]).st h2 (te rfl) rfl (fun _ hm => hm) rfl)) rfl rfl ?_) | (refine Yg.ev (EvF.loadV rfl rfl (LoadV.ownAgg (vs := cTm T p) (te rfl) rfl (List.Mem.tail _ (List.Mem.head _)) rfl rfl)) rfl rfl ?_) | (refine Yg.call (EnF.st rfl (Args.cons rfl (Args.cons rfl Args.nil))) rfl rfl (value_spec T p c _ (hT2 [_, _]) hok.gr hok.st (by omega) hc.1 hc.2) ?_) | (refine Yg.ev (EvF.assign rfl rfl) rfl rfl ?_) | (refine Yg.ev (EvF.add64 rfl rfl rfl (by omega) (by omega)) rfl rfl ?_) | (refine Yg.ev (EvF.sub64 rfl rfl rfl (by omega) (by omega)) rfl rfl ?_) | (refine Yg.ev (EvF.fieldAddr rfl rfl (te rfl) rfl (te rfl) (by decide)) rfl rfl ?_) | (refine Yg.ev (EvF.loadV rfl rfl (LoadV.own (te rfl) rfl (List.Mem.head _) rfl)) rfl rfl ?_) | (refine Yg.ev (EvF.loadV rfl rfl (LoadV.own (te rfl) rfl (List.Mem.tail _ (List.Mem.head _)) rfl)) rfl rfl ?_) | (refine Yg.ev (EvF.loadV rfl rfl (LoadV.whole (te rfl) rfl (List.Mem.head _) rfl)) rfl rfl ?_))))) | (refine XQ.done rfl ?_; refine hK _ ?_; clear hK K) | refine X.seq rfl ?_ | refine X.region rfl (fun K hK => ?_) | refine X.regionD rfl mixed (by kernel_rfl) (fun K hK => ?_) | refine X.ret rfl ?_)
  refine ret_one (by first | exact .inr rfl | exact .inl rfl) Tryz.results75 rfl (H' := H) (by (repeat (first | exact List.Sublist.refl _ | apply List.Sublist.cons)); done) ?_; simp only [and_true, true_and]
/-- how two classes are compared -/
def tsC1 : List TOp := [⟨some 6, [], [], []⟩, ⟨some 7, [], [], []⟩, ⟨some 8, [0, 1], [0, 1], []⟩, ⟨some 9, [], [], []⟩, ⟨some 10, [], [], []⟩, ⟨some 11, [0, 1, 2, 3, 4], [3, 4], []⟩, ⟨some 12, [0, 1, 2, 3, 4, 5], [2, 5], []⟩, ⟨some 5, [0, 1, 2, 3, 4, 5, 6], [6], []⟩]
def valC1 (b2 b3 b4 : Nat) (w : Value) (x y : Cl) (m n : Int) (k : Nat) (env : Env) : Value :=
  match k with
  | 0 => w
  | 1 => .agg (cCl x).toArray
  | 2 => .int .i64 m
  | 3 => w
  | 4 => .agg (cCl y).toArray
  | 5 => .int .i64 n
  | 6 => .int .i64 (cmpI m n)
  | 7 => .int .i64 (cmpI m n)
  | _ => undef
def rowsC1 (b2 b3 b4 : Nat) (w : Value) (x y : Cl) (m n : Int) (k : Nat) (env : Env) : List Row :=
  match k with
  | _ => []
theorem locC1 (b2 b3 b4 : Nat) (w : Value) (x y : Cl) (m n : Int) : ∀ k env i q9, i ≠ k → (tAt tsC1 k).sup.contains i = false → valC1 b2 b3 b4 w x y m n k (upd env i q9) = valC1 b2 b3 b4 w x y m n k env ∧ rowsC1 b2 b3 b4 w x y m n k (upd env i q9) = rowsC1 b2 b3 b4 w x y m n k env := by
  intro k env i q hk hs
  have hu : ∀ j, j ≠ i → upd env i q j = env j := fun j hj => by unfold upd; rw [if_neg hj]
  match k, hk, hs with
  | 0, _, _ => exact ⟨rfl, rfl⟩
  | 1, _, _ => exact ⟨rfl, rfl⟩
  | 2, _, _ => exact ⟨rfl, rfl⟩
  | 3, _, _ => exact ⟨rfl, rfl⟩
  | 4, _, _ => exact ⟨rfl, rfl⟩
  | 5, _, _ => exact ⟨rfl, rfl⟩
  | 6, _, _ => exact ⟨rfl, rfl⟩
  | 7, _, _ => exact ⟨rfl, rfl⟩
  | _ + 8, _, _ => exact ⟨rfl, rfl⟩
def fMk (T : Tm) (p : Pt) (d : Dy) : Value := .func (.func 75) #[.agg (cMk T p d).toArray] #[]
set_option maxHeartbeats 4000000 in
theorem cheapest1_spec (T : Tm) (p : Pt) (d : Dy) (x y : Cl) (b2 cap : Nat) (ow : Option Kd) (H : List Row) (hm : ⟨b2, 0, [fMk T p d], ow, cap⟩ ∈ H) (hT : TmOk H T p) (hok : tmOk T) (hD : DyOk H d) (hd : dayOk d) (hx : in9 x) (hy : in9 y) :
    Fc Tryz.prog 108 ([.agg (cCl x).toArray, .agg (cCl y).toArray] ++ [.pointer (some ⟨b2, 0, none⟩)]) H (fun v H' => v = .int .i64 (cmpI (coF T d x) (coF T d y)) ∧ H' = H) := by
  show Fc Tryz.prog 108 [.agg (cCl x).toArray, .agg (cCl y).toArray, .pointer (some ⟨b2, 0, none⟩)] H _
  refine Fc.mk (callable Tryz.call108) Tryz.func108 rfl Tryz.ntmps108 rfl ?_; dsimp only [fr]
  refine X.seq rfl ?_; refine X.region rfl (fun K hK => ?_); repeat' (first | (refine XO.op rfl ?_; (first | ((first | refine Xo.ng rfl ?_); (first | (refine Xg.ev (EvF.assign rfl rfl) rfl rfl ?_) | (refine Xg.st (StF.boxAgg rfl rfl) rfl rfl ?_; rintro _ _ ⟨bx, rfl, rfl⟩))))) | (refine XO.done rfl ?_; refine hK _ _ ?_; clear hK K))
  rename_i b3; rename Nat => b4
  refine X.seq rfl ?_
  refine X.regionOb tsC1 [2, 3, 4] [(2, .pointer (some ⟨b2, 0, none⟩)), (3, .pointer (some ⟨b3, 0, none⟩)), (4, .pointer (some ⟨b4, 0, none⟩))] (valC1 b2 b3 b4 (fMk T p d) x y (coF T d x) (coF T d y)) (rowsC1 b2 b3 b4 (fMk T p d) x y (coF T d x) (coF T d y)) (fun _ => (0, 0)) (⟨b4, 0, cCl y, some 27, 2⟩ :: ⟨b3, 0, cCl x, some 27, 2⟩ :: H) rfl mixed (by (repeat (first | exact Sub.nil _ | refine Sub.cons rfl ?_)); done) rfl (by kernel_rfl) (locC1 b2 b3 b4 (fMk T p d) x y (coF T d x) (coF T d y)) (List.Sublist.refl _) ?_ ?_
  · have hs : ∀ (S : List Row), (∀ r ∈ ⟨b4, 0, cCl y, some 27, 2⟩ :: ⟨b3, 0, cCl x, some 27, 2⟩ :: H, r ∈ S) → TmOk S T p := fun S hS => hT.sub (fun r hr => hS r (List.mem_append_right [_, _] hr))
    have hs2 : ∀ (S : List Row), (∀ r ∈ ⟨b4, 0, cCl y, some 27, 2⟩ :: ⟨b3, 0, cCl x, some 27, 2⟩ :: H, r ∈ S) → DyOk S d := fun S hS => hD.sub (fun r hr => hS r (List.mem_append_right [_, _] hr))
    repeat' (first | exact AllF.done rfl | (refine AllF.step rfl ?_ ?_; · (first | fail | ((first | refine Ob.ng rfl ?_); (first | exact ObK.pure (fun env R hR => by exact ⟨_, EvF.assign rfl rfl, rfl⟩) rfl (fun _ => rfl) | exact ObK.pure (fun env R hR => by exact ⟨_, EvF.loadV rfl rfl (LoadV.whole (te rfl) rfl (hR _ (List.Mem.head _)) rfl), rfl⟩) rfl (fun _ => rfl) | exact ObK.pure (fun env R hR => by exact ⟨_, EvF.loadV rfl rfl (LoadV.whole (te rfl) rfl (hR _ (List.Mem.tail _ (List.Mem.head _))) rfl), rfl⟩) rfl (fun _ => rfl) | (exact ObK.pure (fun env S hS => ⟨fMk T p d, EvF.loadV rfl rfl (LoadV.own (te rfl) rfl (hS _ (List.mem_append_right [_, _] hm)) rfl), rfl⟩) rfl (fun _ => rfl)) | (exact fun env S hS => OpF.callV (Z := []) (EnF.dyn (first := [.agg (cMk T p d).toArray]) (cap := []) rfl rfl (Args.cons rfl Args.nil)) (costs_spec T p d x _ (hs S hS) hok (hs2 S hS) hd hx) rfl rfl) | (exact fun env S hS => OpF.callV (Z := []) (EnF.dyn (first := [.agg (cMk T p d).toArray]) (cap := []) rfl rfl (Args.cons rfl Args.nil)) (costs_spec T p d y _ (hs S hS) hok (hs2 S hS) hd hy) rfl rfl) | (exact fun env S hS => OpF.callV (Z := []) (EnF.st rfl (Args.cons rfl (Args.cons rfl Args.nil))) (compare_spec _ _ _) rfl rfl))))))
  intro env t ha hv
  refine ⟨_, ha.cons (hv 7 5 (Nat.le_of_ble_eq_true rfl) rfl), ?_⟩
  show X _ _ _ ((5, .int .i64 (cmpI (coF T d x) (coF T d y))) :: _) (⟨b4, 0, cCl y, some 27, 2⟩ :: ⟨b3, 0, cCl x, some 27, 2⟩ :: H) _
  repeat' (first | refine X.ret rfl ?_)
  refine ret_one (by first | exact .inr rfl | exact .inl rfl) Tryz.results108 rfl (H' := H) (by (repeat (first | exact List.Sublist.refl _ | apply List.Sublist.cons)); done) ?_; simp only [and_true, true_and]
end Go.Proofs.YtcjlegjchllgjaaGreat
end
section
set_option linter.unusedVariables false
set_option linter.unusedSimpArgs false
namespace Go.Proofs.YtcjlegjchllgjaaGreat
open Go Go.Fw
set_option maxRecDepth 10000
/-- the first thing whose number is the least -/
def bst (k : Cl → Int) : List Cl → Cl
  | [] => ⟨0, 0⟩
  | c :: l => l.foldl (fun b x => if k x < k b then x else b) c
theorem bst_one {k : Cl → Int} {l : List Cl} {x : Cl} (h : fnd l = false) : bst k (l ++ [x]) = x := by rw [fnd_false h]; rfl
theorem bst_snoc {k : Cl → Int} {l : List Cl} {x : Cl} (h : fnd l = true) : bst k (l ++ [x]) = if k x < k (bst k l) then x else bst k l := by
  cases l with
  | nil => cases h
  | cons c l =>
    show (l ++ [x]).foldl _ c = _
    rw [List.foldl_append]; rfl
theorem bst_foldl_mem {k : Cl → Int} : ∀ (l : List Cl) (c : Cl), l.foldl (fun b x => if k x < k b then x else b) c ∈ c :: l
  | [], c => List.mem_cons_self
  | y :: l, c => by
    rw [List.foldl_cons]
    have := bst_foldl_mem (k := k) l (if k y < k c then y else c)
    rcases List.mem_cons.1 this with h | h
    · rw [h]; split
      · exact List.mem_cons_of_mem _ List.mem_cons_self
      · exact List.mem_cons_self
    · exact List.mem_cons_of_mem _ (List.mem_cons_of_mem _ h)
theorem bst_mem {k : Cl → Int} {l : List Cl} (h : fnd l = true) : bst k l ∈ l := by
  cases l with
  | nil => cases h
  | cons c l => exact bst_foldl_mem l c
theorem cmpI_neg (a b : Int) : cmpI a b < 0 ↔ a < b := by
  unfold cmpI
  by_cases h : a < b
  · rw [if_pos h]; exact ⟨fun _ => h, fun _ => by decide⟩
  · rw [if_neg h]
    refine ⟨fun q => ?_, fun q => absurd q h⟩
    split at q <;> exact absurd q (by decide)
def tsF7 : List TOp := [⟨some 21, [], [], []⟩, ⟨some 22, [], [], []⟩, ⟨none, [0], [0], [4]⟩, ⟨some 5, [0, 1, 2], [1], []⟩, ⟨none, [], [], []⟩]
def valF7 (b3 b4 b6 b7 : Nat) (s : Bool) (c : Cl) (k : Nat) (env : Env) : Value :=
  match k with
  | 0 => .agg (cCl c).toArray
  | 1 => .bool s
  | 2 => undef
  | 3 => .bool s
  | _ => undef
def rowsF7 (b3 b4 b6 b7 : Nat) (s : Bool) (c : Cl) (k : Nat) (env : Env) : List Row :=
  match k with
  | 2 => [⟨b4, 0, cCl c, some 27, 2⟩]
  | 4 => [⟨b4, 0, cCl ⟨0, 0⟩, some 27, 2⟩]
  | _ => []
theorem locF7 (b3 b4 b6 b7 : Nat) (s : Bool) (c : Cl) : ∀ k env i q9, i ≠ k → (tAt tsF7 k).sup.contains i = false → valF7 b3 b4 b6 b7 s c k (upd env i q9) = valF7 b3 b4 b6 b7 s c k env ∧ rowsF7 b3 b4 b6 b7 s c k (upd env i q9) = rowsF7 b3 b4 b6 b7 s c k env := by
  intro k env i q hk hs
  have hu : ∀ j, j ≠ i → upd env i q j = env j := fun j hj => by unfold upd; rw [if_neg hj]
  match k, hk, hs with
  | 0, _, _ => exact ⟨rfl, rfl⟩
  | 1, _, _ => exact ⟨rfl, rfl⟩
  | 2, _, _ => exact ⟨rfl, rfl⟩
  | 3, _, _ => exact ⟨rfl, rfl⟩
  | 4, _, _ => exact ⟨rfl, rfl⟩
  | _ + 5, _, _ => exact ⟨rfl, rfl⟩
set_option maxHeartbeats 8000000 in
theorem first_spec (f g : Nat) (cap ocap : List Value) (E H0 : List Row) (xs : List Cl) (k : Cl → Int) (hI : Itf Tryz.prog f cap E xs (fun c => [.agg (cCl c).toArray]))
    (hg : ∀ x y, x ∈ xs → y ∈ xs → ∀ Y : List Row, (∀ r ∈ H0, r ∈ Y) → Fc Tryz.prog g ([.agg (cCl x).toArray, .agg (cCl y).toArray] ++ ocap) Y (fun v H' => v = .int .i64 (cmpI (k x) (k y)) ∧ H' = Y)) :
    Fc Tryz.prog 107 [.func (.func f) #[] cap.toArray, .func (.func g) #[] ocap.toArray] (H0 ++ E) (fun v H' => v = .tuple #[.agg (cCl (bst k xs)).toArray, .bool (fnd xs)] ∧ H' = H0 ++ E) := by
  refine Fc.mkT (callable Tryz.call107) Tryz.func107 rfl Tryz.ntmps107 rfl ?_
  dsimp only [fr]
  refine XT.seq rfl (XT.of0 ?_)
  repeat' (first | (refine XO.op rfl ?_; (first | ((first | refine Xo.ng rfl ?_ | (refine Xo.g rfl rfl ?_; with_reducible refine Xw.ff ?_)); (first | (refine Xg.ev (EvF.move rfl rfl) rfl rfl ?_) | (refine Xg.ev (EvF.assign rfl rfl) rfl rfl ?_) | (refine Xg.ev (EvF.pickT rfl rfl rfl) rfl rfl ?_) | (refine Xg.ev (EvF.not rfl rfl) rfl rfl ?_) | (refine Xg.ev (EvF.loadV rfl rfl (LoadV.own (te rfl) rfl (List.Mem.tail _ (List.Mem.head _)) rfl)) rfl rfl ?_) | (refine Xg.ev (EvF.loadV rfl rfl (LoadV.own (te rfl) rfl (List.Mem.tail _ (List.Mem.tail _ (List.Mem.tail _ (List.Mem.tail _ (List.Mem.head _))))) rfl)) rfl rfl ?_) | (refine Xg.ev (EvF.loadV rfl rfl (LoadV.whole (te rfl) rfl (List.Mem.head _) rfl)) rfl rfl ?_) | (refine Xg.ev (EvF.loadV rfl rfl (LoadV.whole (te rfl) rfl (List.Mem.tail _ (List.Mem.tail _ (List.Mem.head _))) rfl)) rfl rfl ?_) | (refine Xg.st (StF.boxOne rfl rfl rfl) rfl rfl ?_; rintro _ _ ⟨bx, rfl, rfl⟩) | (refine Xg.st (StF.alloc rfl Tryz.zeroValue30 rfl) rfl rfl ?_; rintro _ _ ⟨bx, rfl, rfl⟩) | (refine Xg.st (StF.alloc rfl Tryz.zeroValue4 rfl) rfl rfl ?_; rintro _ _ ⟨bx, rfl, rfl⟩) | (refine Xg.st0 (StF.storeOne (i := 0) rfl rfl rfl rfl (te rfl) rfl rfl (Nat.le_of_ble_eq_true rfl)) rfl ?_; rintro _ _ ⟨rfl, rfl⟩; dsimp only [List.set]) | (refine Xg.st0 (StF.storeAll (i := 0) rfl rfl rfl (te rfl) rfl rfl rfl rfl) rfl ?_; rintro _ _ ⟨rfl, rfl⟩; dsimp only [List.set]) | (refine Xg.st0 (StF.storeOne (i := 1) rfl rfl rfl rfl (te rfl) rfl rfl (Nat.le_of_ble_eq_true rfl)) rfl ?_; rintro _ _ ⟨rfl, rfl⟩; dsimp only [List.set]) | (refine Xg.st0 (StF.storeAll (i := 2) rfl rfl rfl (te rfl) rfl rfl rfl rfl) rfl ?_; rintro _ _ ⟨rfl, rfl⟩; dsimp only [List.set]))) | (refine Xo.g rfl rfl ?_; (first | (with_reducible refine Xw.tf rfl rfl ?_) | (with_reducible refine Xw.caseB (fun h => ?_) (fun h => ?_) <;> simp only [h, decide_true, decide_false, Bool.not_true, Bool.not_false, and_self, and_true, true_and, and_false, false_and]))))) | (refine XO.done rfl ?_; refine hK _ _ ?_; clear hK K) | refine X.seq rfl ?_ | refine X.region rfl (fun K hK => ?_) | refine X.block rfl ?_ | refine X.ret rfl ?_ | (refine X.ite rfl rfl (fun hc => ?_); (first | (with_reducible refine Xb.t hc ?_)) <;> clear hc))
  refine XT.seq rfl (XT.of0 ?_)
  repeat' (first | (refine XO.op rfl ?_; (first | ((first | refine Xo.ng rfl ?_ | (refine Xo.g rfl rfl ?_; with_reducible refine Xw.ff ?_)); (first | (refine Xg.ev (EvF.move rfl rfl) rfl rfl ?_) | (refine Xg.ev (EvF.assign rfl rfl) rfl rfl ?_) | (refine Xg.ev (EvF.pickT rfl rfl rfl) rfl rfl ?_) | (refine Xg.ev (EvF.not rfl rfl) rfl rfl ?_) | (refine Xg.ev (EvF.loadV rfl rfl (LoadV.own (te rfl) rfl (List.Mem.tail _ (List.Mem.head _)) rfl)) rfl rfl ?_) | (refine Xg.ev (EvF.loadV rfl rfl (LoadV.own (te rfl) rfl (List.Mem.tail _ (List.Mem.tail _ (List.Mem.tail _ (List.Mem.tail _ (List.Mem.head _))))) rfl)) rfl rfl ?_) | (refine Xg.ev (EvF.loadV rfl rfl (LoadV.whole (te rfl) rfl (List.Mem.head _) rfl)) rfl rfl ?_) | (refine Xg.ev (EvF.loadV rfl rfl (LoadV.whole (te rfl) rfl (List.Mem.tail _ (List.Mem.tail _ (List.Mem.head _))) rfl)) rfl rfl ?_) | (refine Xg.st (StF.boxOne rfl rfl rfl) rfl rfl ?_; rintro _ _ ⟨bx, rfl, rfl⟩) | (refine Xg.st (StF.alloc rfl Tryz.zeroValue30 rfl) rfl rfl ?_; rintro _ _ ⟨bx, rfl, rfl⟩) | (refine Xg.st (StF.alloc rfl Tryz.zeroValue4 rfl) rfl rfl ?_; rintro _ _ ⟨bx, rfl, rfl⟩) | (refine Xg.st0 (StF.storeOne (i := 0) rfl rfl rfl rfl (te rfl) rfl rfl (Nat.le_of_ble_eq_true rfl)) rfl ?_; rintro _ _ ⟨rfl, rfl⟩; dsimp only [List.set]) | (refine Xg.st0 (StF.storeAll (i := 0) rfl rfl rfl (te rfl) rfl rfl rfl rfl) rfl ?_; rintro _ _ ⟨rfl, rfl⟩; dsimp only [List.set]) | (refine Xg.st0 (StF.storeOne (i := 1) rfl rfl rfl rfl (te rfl) rfl rfl (Nat.le_of_ble_eq_true rfl)) rfl ?_; rintro _ _ ⟨rfl, rfl⟩; dsimp only [List.set]) | (refine Xg.st0 (StF.storeAll (i := 2) rfl rfl rfl (te rfl) rfl rfl rfl rfl) rfl ?_; rintro _ _ ⟨rfl, rfl⟩; dsimp only [List.set]))) | (refine Xo.g rfl rfl ?_; (first | (with_reducible refine Xw.tf rfl rfl ?_) | (with_reducible refine Xw.caseB (fun h => ?_) (fun h => ?_) <;> simp only [h, decide_true, decide_false, Bool.not_true, Bool.not_false, and_self, and_true, true_and, and_false, false_and]))))) | (refine XO.done rfl ?_; refine hK _ _ ?_; clear hK K) | refine X.seq rfl ?_ | refine X.region rfl (fun K hK => ?_) | refine X.block rfl ?_ | refine X.ret rfl ?_ | (refine X.ite rfl rfl (fun hc => ?_); (first | (with_reducible refine Xb.t hc ?_)) <;> clear hc))
  refine XT.seq rfl (XT.of0 ?_)
  repeat' (first | (refine XO.op rfl ?_; (first | ((first | refine Xo.ng rfl ?_ | (refine Xo.g rfl rfl ?_; with_reducible refine Xw.ff ?_)); (first | (refine Xg.ev (EvF.move rfl rfl) rfl rfl ?_) | (refine Xg.ev (EvF.assign rfl rfl) rfl rfl ?_) | (refine Xg.ev (EvF.pickT rfl rfl rfl) rfl rfl ?_) | (refine Xg.ev (EvF.not rfl rfl) rfl rfl ?_) | (refine Xg.ev (EvF.loadV rfl rfl (LoadV.own (te rfl) rfl (List.Mem.tail _ (List.Mem.head _)) rfl)) rfl rfl ?_) | (refine Xg.ev (EvF.loadV rfl rfl (LoadV.own (te rfl) rfl (List.Mem.tail _ (List.Mem.tail _ (List.Mem.tail _ (List.Mem.tail _ (List.Mem.head _))))) rfl)) rfl rfl ?_) | (refine Xg.ev (EvF.loadV rfl rfl (LoadV.whole (te rfl) rfl (List.Mem.head _) rfl)) rfl rfl ?_) | (refine Xg.ev (EvF.loadV rfl rfl (LoadV.whole (te rfl) rfl (List.Mem.tail _ (List.Mem.tail _ (List.Mem.head _))) rfl)) rfl rfl ?_) | (refine Xg.st (StF.boxOne rfl rfl rfl) rfl rfl ?_; rintro _ _ ⟨bx, rfl, rfl⟩) | (refine Xg.st (StF.alloc rfl Tryz.zeroValue30 rfl) rfl rfl ?_; rintro _ _ ⟨bx, rfl, rfl⟩) | (refine Xg.st (StF.alloc rfl Tryz.zeroValue4 rfl) rfl rfl ?_; rintro _ _ ⟨bx, rfl, rfl⟩) | (refine Xg.st0 (StF.storeOne (i := 0) rfl rfl rfl rfl (te rfl) rfl rfl (Nat.le_of_ble_eq_true rfl)) rfl ?_; rintro _ _ ⟨rfl, rfl⟩; dsimp only [List.set]) | (refine Xg.st0 (StF.storeAll (i := 0) rfl rfl rfl (te rfl) rfl rfl rfl rfl) rfl ?_; rintro _ _ ⟨rfl, rfl⟩; dsimp only [List.set]) | (refine Xg.st0 (StF.storeOne (i := 1) rfl rfl rfl rfl (te rfl) rfl rfl (Nat.le_of_ble_eq_true rfl)) rfl ?_; rintro _ _ ⟨rfl, rfl⟩; dsimp only [List.set]) | (refine Xg.st0 (StF.storeAll (i := 2) rfl rfl rfl (te rfl) rfl rfl rfl rfl) rfl ?_; rintro _ _ ⟨rfl, rfl⟩; dsimp only [List.set]))) | (refine Xo.g rfl rfl ?_; (first | (with_reducible refine Xw.tf rfl rfl ?_) | (with_reducible refine Xw.caseB (fun h => ?_) (fun h => ?_) <;> simp only [h, decide_true, decide_false, Bool.not_true, Bool.not_false, and_self, and_true, true_and, and_false, false_and]))))) | (refine XO.done rfl ?_; refine hK _ _ ?_; clear hK K) | refine X.seq rfl ?_ | refine X.region rfl (fun K hK => ?_) | refine X.block rfl ?_ | refine X.ret rfl ?_ | (refine X.ite rfl rfl (fun hc => ?_); (first | (with_reducible refine Xb.t hc ?_)) <;> clear hc))
  refine XT.seq rfl (XT.seq rfl (XT.of0 ?_))
  repeat' (first | (refine XO.op rfl ?_; (first | ((first | refine Xo.ng rfl ?_ | (refine Xo.g rfl rfl ?_; with_reducible refine Xw.ff ?_)); (first | (refine Xg.ev (EvF.move rfl rfl) rfl rfl ?_) | (refine Xg.ev (EvF.assign rfl rfl) rfl rfl ?_) | (refine Xg.ev (EvF.pickT rfl rfl rfl) rfl rfl ?_) | (refine Xg.ev (EvF.not rfl rfl) rfl rfl ?_) | (refine Xg.ev (EvF.loadV rfl rfl (LoadV.own (te rfl) rfl (List.Mem.tail _ (List.Mem.head _)) rfl)) rfl rfl ?_) | (refine Xg.ev (EvF.loadV rfl rfl (LoadV.own (te rfl) rfl (List.Mem.tail _ (List.Mem.tail _ (List.Mem.tail _ (List.Mem.tail _ (List.Mem.head _))))) rfl)) rfl rfl ?_) | (refine Xg.ev (EvF.loadV rfl rfl (LoadV.whole (te rfl) rfl (List.Mem.head _) rfl)) rfl rfl ?_) | (refine Xg.ev (EvF.loadV rfl rfl (LoadV.whole (te rfl) rfl (List.Mem.tail _ (List.Mem.tail _ (List.Mem.head _))) rfl)) rfl rfl ?_) | (refine Xg.st (StF.boxOne rfl rfl rfl) rfl rfl ?_; rintro _ _ ⟨bx, rfl, rfl⟩) | (refine Xg.st (StF.alloc rfl Tryz.zeroValue30 rfl) rfl rfl ?_; rintro _ _ ⟨bx, rfl, rfl⟩) | (refine Xg.st (StF.alloc rfl Tryz.zeroValue4 rfl) rfl rfl ?_; rintro _ _ ⟨bx, rfl, rfl⟩) | (refine Xg.st0 (StF.storeOne (i := 0) rfl rfl rfl rfl (te rfl) rfl rfl (Nat.le_of_ble_eq_true rfl)) rfl ?_; rintro _ _ ⟨rfl, rfl⟩; dsimp only [List.set]) | (refine Xg.st0 (StF.storeAll (i := 0) rfl rfl rfl (te rfl) rfl rfl rfl rfl) rfl ?_; rintro _ _ ⟨rfl, rfl⟩; dsimp only [List.set]) | (refine Xg.st0 (StF.storeOne (i := 1) rfl rfl rfl rfl (te rfl) rfl rfl (Nat.le_of_ble_eq_true rfl)) rfl ?_; rintro _ _ ⟨rfl, rfl⟩; dsimp only [List.set]) | (refine Xg.st0 (StF.storeAll (i := 2) rfl rfl rfl (te rfl) rfl rfl rfl rfl) rfl ?_; rintro _ _ ⟨rfl, rfl⟩; dsimp only [List.set]))) | (refine Xo.g rfl rfl ?_; (first | (with_reducible refine Xw.tf rfl rfl ?_) | (with_reducible refine Xw.caseB (fun h => ?_) (fun h => ?_) <;> simp only [h, decide_true, decide_false, Bool.not_true, Bool.not_false, and_self, and_true, true_and, and_false, false_and]))))) | (refine XO.done rfl ?_; refine hK _ _ ?_; clear hK K) | refine X.seq rfl ?_ | refine X.region rfl (fun K hK => ?_) | refine X.block rfl ?_ | refine X.ret rfl ?_ | (refine X.ite rfl rfl (fun hc => ?_); (first | (with_reducible refine Xb.t hc ?_)) <;> clear hc))
  refine XT.block rfl ?_
  rename_i b3 b4 b6
  obtain ⟨b7, hb7⟩ : ∃ b, b = bx := ⟨_, rfl⟩
  rw [← hb7]
  clear hb7
  refine XT.weak (F' := [(3, .pointer (some ⟨b3, 0, none⟩)), (4, .pointer (some ⟨b4, 0, none⟩)), (6, .pointer (some ⟨b6, 0, none⟩)), (7, .pointer (some ⟨b7, 0, none⟩)), (9, .func (.func f) #[] cap.toArray)]) (H' := ⟨b7, 0, [.bool false], some 4, 1⟩ :: ⟨b6, 0, cCl ⟨0, 0⟩, some 27, 2⟩ :: ⟨b4, 0, cCl ⟨0, 0⟩, some 27, 2⟩ :: ⟨b3, 0, [.func (.func g) #[] ocap.toArray], some 167, 1⟩ :: (H0 ++ E)) (by (repeat (first | exact Sub.nil _ | refine Sub.cons rfl ?_)); done) (by (repeat (first | exact List.Sublist.refl _ | apply List.Sublist.cons_cons | apply List.Sublist.cons)); done) ?_
  refine XT.range (ps := [10]) rfl rfl hI rfl (fun _ => rfl) (fun pre Hb => Hb = ⟨b7, 0, [.bool (fnd pre)], some 4, 1⟩ :: ⟨b6, 0, cCl (bst k pre), some 27, 2⟩ :: ⟨b4, 0, cCl ⟨0, 0⟩, some 27, 2⟩ :: ⟨b3, 0, [.func (.func g) #[] ocap.toArray], some 167, 1⟩ :: H0) (fun _ _ => False) _ rfl rfl ?_ ?_ (fun _ _ h => h.elim) (fun _ _ _ h => h.elim) (fun _ _ h => h.elim)
  · rintro pre x _ hpre rfl Z
    have hxm : x ∈ xs := hpre.subset (List.mem_append_right _ List.mem_cons_self)
    simp only [List.cons_append]
    repeat' (first | (refine XO.op rfl ?_; (first | ((first | refine Xo.ng rfl ?_ | (refine Xo.g rfl rfl ?_; with_reducible refine Xw.ff ?_)); (first | (refine Xg.ev (EvF.move rfl rfl) rfl rfl ?_) | (refine Xg.ev (EvF.assign rfl rfl) rfl rfl ?_) | (refine Xg.ev (EvF.pickT rfl rfl rfl) rfl rfl ?_) | (refine Xg.ev (EvF.not rfl rfl) rfl rfl ?_) | (refine Xg.ev (EvF.loadV rfl rfl (LoadV.own (te rfl) rfl (List.Mem.tail _ (List.Mem.head _)) rfl)) rfl rfl ?_) | (refine Xg.ev (EvF.loadV rfl rfl (LoadV.own (te rfl) rfl (List.Mem.tail _ (List.Mem.tail _ (List.Mem.tail _ (List.Mem.tail _ (List.Mem.head _))))) rfl)) rfl rfl ?_) | (refine Xg.ev (EvF.loadV rfl rfl (LoadV.whole (te rfl) rfl (List.Mem.head _) rfl)) rfl rfl ?_) | (refine Xg.ev (EvF.loadV rfl rfl (LoadV.whole (te rfl) rfl (List.Mem.tail _ (List.Mem.tail _ (List.Mem.head _))) rfl)) rfl rfl ?_) | (refine Xg.st (StF.boxOne rfl rfl rfl) rfl rfl ?_; rintro _ _ ⟨bx, rfl, rfl⟩) | (refine Xg.st (StF.alloc rfl Tryz.zeroValue30 rfl) rfl rfl ?_; rintro _ _ ⟨bx, rfl, rfl⟩) | (refine Xg.st (StF.alloc rfl Tryz.zeroValue4 rfl) rfl rfl ?_; rintro _ _ ⟨bx, rfl, rfl⟩) | (refine Xg.st0 (StF.storeOne (i := 0) rfl rfl rfl rfl (te rfl) rfl rfl (Nat.le_of_ble_eq_true rfl)) rfl ?_; rintro _ _ ⟨rfl, rfl⟩; dsimp only [List.set]) | (refine Xg.st0 (StF.storeAll (i := 0) rfl rfl rfl (te rfl) rfl rfl rfl rfl) rfl ?_; rintro _ _ ⟨rfl, rfl⟩; dsimp only [List.set]) | (refine Xg.st0 (StF.storeOne (i := 1) rfl rfl rfl rfl (te rfl) rfl rfl (Nat.le_of_ble_eq_true rfl)) rfl ?_; rintro _ _ ⟨rfl, rfl⟩; dsimp only [List.set]) | (refine Xg.st0 (StF.storeAll (i := 2) rfl rfl rfl (te rfl) rfl rfl rfl rfl) rfl ?_; rintro _ _ ⟨rfl, rfl⟩; dsimp only [List.set]))) | (refine Xo.g rfl rfl ?_; (first | (with_reducible refine Xw.tf rfl rfl ?_) | (with_reducible refine Xw.caseB (fun h => ?_) (fun h => ?_) <;> simp only [h, decide_true, decide_false, Bool.not_true, Bool.not_false, and_self, and_true, true_and, and_false, false_and]))))) | (refine XO.done rfl ?_; refine hK _ _ ?_; clear hK K) | refine X.seq rfl ?_ | refine X.region rfl (fun K hK => ?_) | refine X.block rfl ?_ | refine X.ret rfl ?_ | (refine X.ite rfl rfl (fun hc => ?_); (first | (with_reducible refine Xb.t hc ?_)) <;> clear hc))
    refine ⟨rfl, ⟨bx, 0, cCl x, some 27, 2⟩ :: ⟨b7, 0, [.bool (fnd pre)], some 4, 1⟩ :: ⟨b6, 0, cCl (bst k pre), some 27, 2⟩ :: ⟨b4, 0, cCl ⟨0, 0⟩, some 27, 2⟩ :: ⟨b3, 0, [.func (.func g) #[] ocap.toArray], some 167, 1⟩ :: H0, List.Sublist.refl _, fun Z' => ?_⟩
    simp only [List.cons_append]
    obtain ⟨o, ho⟩ : ∃ o, fnd pre = o := ⟨_, rfl⟩
    obtain ⟨b, hb⟩ : ∃ b, bst k pre = b := ⟨_, rfl⟩
    rw [ho, hb]
    cases o
    · repeat' (first | (refine XO.op rfl ?_; (first | ((first | refine Xo.ng rfl ?_ | (refine Xo.g rfl rfl ?_; with_reducible refine Xw.ff ?_)); (first | (refine Xg.ev (EvF.move rfl rfl) rfl rfl ?_) | (refine Xg.ev (EvF.assign rfl rfl) rfl rfl ?_) | (refine Xg.ev (EvF.pickT rfl rfl rfl) rfl rfl ?_) | (refine Xg.ev (EvF.not rfl rfl) rfl rfl ?_) | (refine Xg.ev (EvF.loadV rfl rfl (LoadV.own (te rfl) rfl (List.Mem.tail _ (List.Mem.head _)) rfl)) rfl rfl ?_) | (refine Xg.ev (EvF.loadV rfl rfl (LoadV.own (te rfl) rfl (List.Mem.tail _ (List.Mem.tail _ (List.Mem.tail _ (List.Mem.tail _ (List.Mem.head _))))) rfl)) rfl rfl ?_) | (refine Xg.ev (EvF.loadV rfl rfl (LoadV.whole (te rfl) rfl (List.Mem.head _) rfl)) rfl rfl ?_) | (refine Xg.ev (EvF.loadV rfl rfl (LoadV.whole (te rfl) rfl (List.Mem.tail _ (List.Mem.tail _ (List.Mem.head _))) rfl)) rfl rfl ?_) | (refine Xg.st (StF.boxOne rfl rfl rfl) rfl rfl ?_; rintro _ _ ⟨bx, rfl, rfl⟩) | (refine Xg.st (StF.alloc rfl Tryz.zeroValue30 rfl) rfl rfl ?_; rintro _ _ ⟨bx, rfl, rfl⟩) | (refine Xg.st (StF.alloc rfl Tryz.zeroValue4 rfl) rfl rfl ?_; rintro _ _ ⟨bx, rfl, rfl⟩) | (refine Xg.st0 (StF.storeOne (i := 0) rfl rfl rfl rfl (te rfl) rfl rfl (Nat.le_of_ble_eq_true rfl)) rfl ?_; rintro _ _ ⟨rfl, rfl⟩; dsimp only [List.set]) | (refine Xg.st0 (StF.storeAll (i := 0) rfl rfl rfl (te rfl) rfl rfl rfl rfl) rfl ?_; rintro _ _ ⟨rfl, rfl⟩; dsimp only [List.set]) | (refine Xg.st0 (StF.storeOne (i := 1) rfl rfl rfl rfl (te rfl) rfl rfl (Nat.le_of_ble_eq_true rfl)) rfl ?_; rintro _ _ ⟨rfl, rfl⟩; dsimp only [List.set]) | (refine Xg.st0 (StF.storeAll (i := 2) rfl rfl rfl (te rfl) rfl rfl rfl rfl) rfl ?_; rintro _ _ ⟨rfl, rfl⟩; dsimp only [List.set]))) | (refine Xo.g rfl rfl ?_; (first | (with_reducible refine Xw.tf rfl rfl ?_) | (with_reducible refine Xw.caseB (fun h => ?_) (fun h => ?_) <;> simp only [h, decide_true, decide_false, Bool.not_true, Bool.not_false, and_self, and_true, true_and, and_false, false_and]))))) | (refine XO.done rfl ?_; refine hK _ _ ?_; clear hK K) | refine X.seq rfl ?_ | refine X.region rfl (fun K hK => ?_) | refine X.block rfl ?_ | refine X.ret rfl ?_ | (refine X.ite rfl rfl (fun hc => ?_); (first | (with_reducible refine Xb.t hc ?_)) <;> clear hc))
      all_goals try (exfalso; contradiction)
      exact ⟨⟨b7, 0, [.bool true], some 4, 1⟩ :: ⟨b6, 0, cCl x, some 27, 2⟩ :: ⟨b4, 0, cCl ⟨0, 0⟩, some 27, 2⟩ :: ⟨b3, 0, [.func (.func g) #[] ocap.toArray], some 167, 1⟩ :: H0, List.sublist_cons_self _ _, by rw [fnd_snoc, bst_one ho]⟩
    · have hbm : b ∈ xs := by rw [← hb]; exact hpre.subset (List.mem_append_left _ (bst_mem ho))
      repeat' (first | (refine XO.op rfl ?_; (first | ((first | refine Xo.ng rfl ?_ | (refine Xo.g rfl rfl ?_; with_reducible refine Xw.ff ?_)); (first | (refine Xg.call (EnF.dyn0 rfl rfl (by (repeat (first | exact Args.nil | refine Args.cons rfl ?_)); done)) rfl rfl (hg x b hxm hbm _ (fun r hr => by repeat (first | exact List.mem_append_left _ hr | apply List.Mem.tail))) ?_; rintro _ H9 ⟨rfl, hH9⟩; subst H9) | (refine Xg.ev (EvF.move rfl rfl) rfl rfl ?_) | (refine Xg.ev (EvF.pickT rfl rfl rfl) rfl rfl ?_) | (refine Xg.ev (EvF.pickF rfl rfl rfl) rfl rfl ?_) | (refine Xg.ev (EvF.cmp rfl rfl rfl rfl) rfl rfl ?_) | (refine Xg.ev (EvF.not rfl rfl) rfl rfl ?_) | (refine Xg.ev (EvF.loadV rfl rfl (LoadV.own (te rfl) rfl (List.Mem.tail _ (List.Mem.head _)) rfl)) rfl rfl ?_) | (refine Xg.ev (EvF.loadV rfl rfl (LoadV.own (te rfl) rfl (List.Mem.tail _ (List.Mem.tail _ (List.Mem.tail _ (List.Mem.tail _ (List.Mem.head _))))) rfl)) rfl rfl ?_) | (refine Xg.ev (EvF.loadV rfl rfl (LoadV.whole (te rfl) rfl (List.Mem.head _) rfl)) rfl rfl ?_) | (refine Xg.ev (EvF.loadV rfl rfl (LoadV.whole (te rfl) rfl (List.Mem.tail _ (List.Mem.tail _ (List.Mem.head _))) rfl)) rfl rfl ?_) | (refine Xg.st0 (StF.storeOne (i := 1) rfl rfl rfl rfl (te rfl) rfl rfl (Nat.le_of_ble_eq_true rfl)) rfl ?_; rintro _ _ ⟨rfl, rfl⟩; dsimp only [List.set]) | (refine Xg.st0 (StF.storeAll (i := 2) rfl rfl rfl (te rfl) rfl rfl rfl rfl) rfl ?_; rintro _ _ ⟨rfl, rfl⟩; dsimp only [List.set]))) | (refine Xo.g rfl rfl ?_; (first | (with_reducible refine Xw.tf rfl rfl ?_) | (with_reducible refine Xw.caseB (fun h => ?_) (fun h => ?_) <;> simp only [h, decide_true, decide_false, Bool.not_true, Bool.not_false, and_self, and_true, true_and, and_false, false_and]))))) | (refine XO.done rfl ?_; refine hK _ _ ?_; clear hK K) | refine X.seq rfl ?_ | refine X.region rfl (fun K hK => ?_) | refine X.block rfl ?_ | refine X.skip rfl ?_ | (refine X.ite rfl rfl (fun hc => ?_); (first | (with_reducible refine Xb.t hc ?_) | (with_reducible refine Xb.case hc (fun h => ?_) (fun h => ?_))) <;> clear hc))
      all_goals try (exfalso; contradiction)
      · exact ⟨⟨b7, 0, [.bool true], some 4, 1⟩ :: ⟨b6, 0, cCl x, some 27, 2⟩ :: ⟨b4, 0, cCl ⟨0, 0⟩, some 27, 2⟩ :: ⟨b3, 0, [.func (.func g) #[] ocap.toArray], some 167, 1⟩ :: H0, List.sublist_cons_self _ _, by rw [fnd_snoc, bst_snoc ho, hb, if_pos ((cmpI_neg _ _).1 (by assumption))]⟩
      · exact ⟨⟨b7, 0, [.bool true], some 4, 1⟩ :: ⟨b6, 0, cCl b, some 27, 2⟩ :: ⟨b4, 0, cCl ⟨0, 0⟩, some 27, 2⟩ :: ⟨b3, 0, [.func (.func g) #[] ocap.toArray], some 167, 1⟩ :: H0, List.sublist_cons_self _ _, by rw [fnd_snoc, bst_snoc ho, hb, if_neg (fun q => absurd ((cmpI_neg _ _).2 q) (by assumption))]⟩
  · rintro D _ rfl
    refine XT.seq rfl (XT.of1 ?_)
    refine X.permH (H' := ⟨b4, 0, cCl ⟨0, 0⟩, some 27, 2⟩ :: ⟨b7, 0, [.bool (fnd xs)], some 4, 1⟩ :: ⟨b6, 0, cCl (bst k xs), some 27, 2⟩ :: ⟨b3, 0, [.func (.func g) #[] ocap.toArray], some 167, 1⟩ :: (H0 ++ E ++ [dRow D])) (by (repeat (first | exact List.Perm.refl _ | refine List.Perm.trans (List.Perm.cons _ ?_) (List.perm_middle (l₁ := [])).symm | refine List.Perm.trans (List.Perm.cons _ ?_) (List.perm_middle (l₁ := [_])).symm | refine List.Perm.trans (List.Perm.cons _ ?_) (List.perm_middle (l₁ := [_, _])).symm | refine List.Perm.trans (List.Perm.cons _ ?_) (List.perm_middle (l₁ := [_, _, _])).symm | refine List.Perm.trans (List.Perm.cons _ ?_) (List.perm_middle (l₁ := [_, _, _, _])).symm | refine List.Perm.trans (List.Perm.cons _ ?_) (List.perm_middle (l₁ := [_, _, _, _, _])).symm | refine List.Perm.trans (List.Perm.cons _ ?_) (List.perm_middle (l₁ := [_, _, _, _, _, _])).symm | refine List.Perm.trans (List.Perm.cons _ ?_) (List.perm_middle (l₁ := [_, _, _, _, _, _, _])).symm | refine List.Perm.trans (List.Perm.cons _ ?_) (List.perm_middle (l₁ := [_, _, _, _, _, _, _, _])).symm )); done) ?_
    refine X.regionOb tsF7 [3, 4, 6, 7] [(3, .pointer (some ⟨b3, 0, none⟩)), (4, .pointer (some ⟨b4, 0, none⟩)), (6, .pointer (some ⟨b6, 0, none⟩)), (7, .pointer (some ⟨b7, 0, none⟩))] (valF7 b3 b4 b6 b7 (fnd xs) (bst k xs)) (rowsF7 b3 b4 b6 b7 (fnd xs) (bst k xs)) (fun _ => (0, 0)) (⟨b7, 0, [.bool (fnd xs)], some 4, 1⟩ :: ⟨b6, 0, cCl (bst k xs), some 27, 2⟩ :: ⟨b3, 0, [.func (.func g) #[] ocap.toArray], some 167, 1⟩ :: (H0 ++ E ++ [dRow D])) rfl mixed (by (repeat (first | exact Sub.nil _ | refine Sub.cons rfl ?_)); done) rfl (by kernel_rfl) (locF7 b3 b4 b6 b7 (fnd xs) (bst k xs)) (List.Sublist.refl _) ?_ ?_
    · repeat' (first | exact AllF.done rfl | (refine AllF.step rfl ?_ ?_; · (first | fail | ((first | refine Ob.ng rfl ?_); (first | exact ObK.pure (fun env R hR => by exact ⟨_, EvF.assign rfl rfl, rfl⟩) rfl (fun _ => rfl) | exact ObK.pure (fun env R hR => by exact ⟨_, EvF.loadV rfl rfl (LoadV.own (te rfl) rfl (hR _ (List.Mem.head _)) rfl), rfl⟩) rfl (fun _ => rfl) | exact ObK.pure (fun env R hR => by exact ⟨_, EvF.loadV rfl rfl (LoadV.whole (te rfl) rfl (hR _ (List.Mem.tail _ (List.Mem.head _))) rfl), rfl⟩) rfl (fun _ => rfl) | (exact fun env S hS => (StF.storeAll (i := 0) (vs := cCl (bst k xs)) (cs := cCl ⟨0, 0⟩) rfl rfl rfl (te rfl) rfl rfl rfl rfl).op.mono (fun v H' ⟨hv, hH⟩ => ⟨(0, 0), fun h => absurd rfl h, by rw [hH]; exact List.Perm.refl _⟩)))))))
    intro env t ha hv
    refine ⟨_, ha.cons (hv 3 5 (Nat.le_of_ble_eq_true rfl) rfl), ?_⟩
    refine ⟨⟨b4, 0, cCl (bst k xs), some 27, 2⟩ :: ⟨b7, 0, [.bool (fnd xs)], some 4, 1⟩ :: ⟨b6, 0, cCl (bst k xs), some 27, 2⟩ :: ⟨b3, 0, [.func (.func g) #[] ocap.toArray], some 167, 1⟩ :: (H0 ++ E), List.Sublist.refl _, XT.of1 ?_⟩
    repeat' (first | (refine XO.op rfl ?_; (first | ((first | refine Xo.ng rfl ?_ | (refine Xo.g rfl rfl ?_; with_reducible refine Xw.ff ?_)); (first | (refine Xg.ev (EvF.move rfl rfl) rfl rfl ?_) | (refine Xg.ev (EvF.assign rfl rfl) rfl rfl ?_) | (refine Xg.ev (EvF.pickT rfl rfl rfl) rfl rfl ?_) | (refine Xg.ev (EvF.not rfl rfl) rfl rfl ?_) | (refine Xg.ev (EvF.loadV rfl rfl (LoadV.own (te rfl) rfl (List.Mem.tail _ (List.Mem.head _)) rfl)) rfl rfl ?_) | (refine Xg.ev (EvF.loadV rfl rfl (LoadV.own (te rfl) rfl (List.Mem.tail _ (List.Mem.tail _ (List.Mem.tail _ (List.Mem.tail _ (List.Mem.head _))))) rfl)) rfl rfl ?_) | (refine Xg.ev (EvF.loadV rfl rfl (LoadV.whole (te rfl) rfl (List.Mem.head _) rfl)) rfl rfl ?_) | (refine Xg.ev (EvF.loadV rfl rfl (LoadV.whole (te rfl) rfl (List.Mem.tail _ (List.Mem.tail _ (List.Mem.head _))) rfl)) rfl rfl ?_) | (refine Xg.st (StF.boxOne rfl rfl rfl) rfl rfl ?_; rintro _ _ ⟨bx, rfl, rfl⟩) | (refine Xg.st (StF.alloc rfl Tryz.zeroValue30 rfl) rfl rfl ?_; rintro _ _ ⟨bx, rfl, rfl⟩) | (refine Xg.st (StF.alloc rfl Tryz.zeroValue4 rfl) rfl rfl ?_; rintro _ _ ⟨bx, rfl, rfl⟩) | (refine Xg.st0 (StF.storeOne (i := 0) rfl rfl rfl rfl (te rfl) rfl rfl (Nat.le_of_ble_eq_true rfl)) rfl ?_; rintro _ _ ⟨rfl, rfl⟩; dsimp only [List.set]) | (refine Xg.st0 (StF.storeAll (i := 0) rfl rfl rfl (te rfl) rfl rfl rfl rfl) rfl ?_; rintro _ _ ⟨rfl, rfl⟩; dsimp only [List.set]) | (refine Xg.st0 (StF.storeOne (i := 1) rfl rfl rfl rfl (te rfl) rfl rfl (Nat.le_of_ble_eq_true rfl)) rfl ?_; rintro _ _ ⟨rfl, rfl⟩; dsimp only [List.set]) | (refine Xg.st0 (StF.storeAll (i := 2) rfl rfl rfl (te rfl) rfl rfl rfl rfl) rfl ?_; rintro _ _ ⟨rfl, rfl⟩; dsimp only [List.set]))) | (refine Xo.g rfl rfl ?_; (first | (with_reducible refine Xw.tf rfl rfl ?_) | (with_reducible refine Xw.caseB (fun h => ?_) (fun h => ?_) <;> simp only [h, decide_true, decide_false, Bool.not_true, Bool.not_false, and_self, and_true, true_and, and_false, false_and]))))) | (refine XO.done rfl ?_; refine hK _ _ ?_; clear hK K) | refine X.seq rfl ?_ | refine X.region rfl (fun K hK => ?_) | refine X.block rfl ?_ | refine X.ret rfl ?_ | (refine X.ite rfl rfl (fun hc => ?_); (first | (with_reducible refine Xb.t hc ?_)) <;> clear hc))
    exact ⟨⟨b4, 0, cCl (bst k xs), some 27, 2⟩ :: ⟨b7, 0, [.bool (fnd xs)], some 4, 1⟩ :: ⟨b6, 0, cCl (bst k xs), some 27, 2⟩ :: ⟨b3, 0, [.func (.func g) #[] ocap.toArray], some 167, 1⟩ :: (H0 ++ E), List.Sublist.refl _, retT_two (v := .agg (cCl (bst k xs)).toArray) (v' := .bool (fnd xs)) (by first | exact .inr rfl | exact .inl rfl) Tryz.results107 ⟨_, rfl, LoadV.whole (te rfl) rfl (List.Mem.head _) rfl⟩ rfl (H' := H0 ++ E) (by (repeat (first | exact List.Sublist.refl _ | apply List.Sublist.cons)); done) ⟨rfl, rfl⟩⟩
end Go.Proofs.YtcjlegjchllgjaaGreat
end
section
set_option linter.unusedVariables false
set_option linter.unusedSimpArgs false
namespace Go.Proofs.YtcjlegjchllgjaaGreat
open Go Go.Fw
set_option maxRecDepth 10000
def l9 : Lo := ⟨1, 9, 1, 9⟩
theorem inb9 : inb l9 := by unfold inb l9; decide
theorem cls_in9 {T : Tm} {c : Cl} (hc : c ∈ cls T l9) : in9 c := cls_in inb9 hc
theorem fnd_of_mem {l : List Cl} {c : Cl} (h : c ∈ l) : fnd l = true := by cases l with | nil => exact absurd h List.not_mem_nil | cons => rfl
theorem mem_cls {T : Tm} {l : Lo} {c : Cl} (hg : l.g1 ≤ c.g ∧ c.g ≤ l.g2) (hs : l.s1 ≤ c.s ∧ c.s ≤ l.s2) (hm : may T c = true) : c ∈ cls T l := by
  unfold cls clsI rowC
  refine List.mem_flatMap.2 ⟨c.g, ?_, List.mem_filter.2 ⟨List.mem_map.2 ⟨c.s, ?_, rfl⟩, hm⟩⟩
  · unfold ir
    refine List.mem_map.2 ⟨(c.g - l.g1).toNat, List.mem_range.2 (by omega), by omega⟩
  · unfold ir
    refine List.mem_map.2 ⟨(c.s - l.s1).toNat, List.mem_range.2 (by omega), by omega⟩
theorem fnd9 {T : Tm} (h : tmOk T) : fnd (cls T l9) = true := by
  have h1 := h.cls
  refine fnd_of_mem (c := ⟨1, 9⟩) (mem_cls ⟨by decide, by decide⟩ ⟨by decide, by decide⟩ ?_)
  unfold may
  exact decide_eq_true (by dsimp only; omega)
/-- the cheapest class -/
def chp (T : Tm) (d : Dy) : Cl := bst (coF T d) (cls T l9)
theorem chp_in9 {T : Tm} (h : tmOk T) (d : Dy) : in9 (chp T d) := cls_in9 (bst_mem (fnd9 h))
theorem firstC_spec (T : Tm) (p : Pt) (d : Dy) (bl bo b3 cap : Nat) (ow : Option Kd) (S : List Row) (hm : ⟨b3, 0, [fMk T p d], ow, cap⟩ ∈ S) (hT : TmOk S T p) (hok : tmOk T) (hD : DyOk S d) (hd : dayOk d) :
    Fc Tryz.prog 107 [.func (.func 106) #[] #[.pointer (some ⟨bl, 0, none⟩), .pointer (some ⟨bo, 0, none⟩)], .func (.func 108) #[] #[.pointer (some ⟨b3, 0, none⟩)]] (⟨bl, 0, cLo l9, some 92, 4⟩ :: ⟨bo, 0, cTm T p, some 99, 11⟩ :: S)
      (fun v H' => v = .tuple #[.agg (cCl (chp T d)).toArray, .bool true] ∧ H' = S ++ [⟨bl, 0, cLo l9, some 92, 4⟩, ⟨bo, 0, cTm T p, some 99, 11⟩]) := by
  have h := first_spec 106 108 [.pointer (some ⟨bl, 0, none⟩), .pointer (some ⟨bo, 0, none⟩)] [.pointer (some ⟨b3, 0, none⟩)] [⟨bl, 0, cLo l9, some 92, 4⟩, ⟨bo, 0, cTm T p, some 99, 11⟩] S (cls T l9) (coF T d)
    (classes1_it T p l9 bl bo 4 11 _ _ _ (List.Mem.head _) (List.Mem.tail _ (List.Mem.head _)) (by unfold l9; decide))
    (fun x y hx hy Y hY => cheapest1_spec T p d x y b3 cap ow Y (hY _ hm) (hT.sub hY) hok (hD.sub hY) hd (cls_in9 hx) (cls_in9 hy))
  rw [fnd9 hok] at h
  exact h.permR (List.perm_append_comm (l₁ := S) (l₂ := [_, _]))
def tsCa : List TOp := [⟨some 9, [], [], []⟩, ⟨some 10, [], [], []⟩, ⟨some 11, [1], [], []⟩, ⟨some 12, [1, 2], [1, 2], []⟩, ⟨some 13, [0, 1, 2, 3], [0, 3], []⟩, ⟨some 14, [], [], []⟩, ⟨some 15, [0, 1, 2, 3, 4, 5], [4, 5], [4]⟩, ⟨some 8, [0, 1, 2, 3, 4, 5, 6], [6], []⟩, ⟨some 16, [0, 1, 2, 3, 4, 5, 6, 7], [7], []⟩, ⟨some 17, [0, 1, 2, 3, 4, 5, 6, 7], [7], []⟩, ⟨some 6, [], [], []⟩, ⟨none, [0, 1, 2, 3, 4, 5, 6, 7, 8, 10], [10, 8], [10]⟩, ⟨some 7, [0, 1, 2, 3, 4, 5, 6, 7, 8, 9, 10, 11], [9], []⟩]
def valCa (b2 b3 b4 : Nat) (T : Tm) (p : Pt) (x : Cl) (s : Bool) (k : Nat) (env : Env) : Value :=
  match k with
  | 0 => .agg (cTm T p).toArray
  | 1 => .agg (cSp ⟨1, 9⟩).toArray
  | 2 => .agg (cSp ⟨1, 9⟩).toArray
  | 3 => .agg (cLo l9).toArray
  | 4 => .func (.func 106) #[] #[.pointer (some ⟨(env 4).1, 0, none⟩), .pointer (some ⟨(env 4).2, 0, none⟩)]
  | 5 => .func (.func 108) #[] #[.pointer (some ⟨b3, 0, none⟩)]
  | 6 => .tuple #[.agg (cCl x).toArray, .bool s]
  | 7 => .tuple #[.agg (cCl x).toArray, .bool s]
  | 8 => .agg (cCl x).toArray
  | 9 => .bool s
  | 10 => .pointer (some ⟨(env 10).1, 0, none⟩)
  | 11 => undef
  | 12 => .bool s
  | _ => undef
def rowsCa (b2 b3 b4 : Nat) (T : Tm) (p : Pt) (x : Cl) (s : Bool) (k : Nat) (env : Env) : List Row :=
  match k with
  | 4 => [⟨(env 4).1, 0, cLo l9, some 92, 4⟩, ⟨(env 4).2, 0, cTm T p, some 99, 11⟩]
  | 6 => [⟨(env 4).1, 0, cLo l9, some 92, 4⟩, ⟨(env 4).2, 0, cTm T p, some 99, 11⟩]
  | 10 => [⟨(env 10).1, 0, cCl ⟨0, 0⟩, some 27, 2⟩]
  | 11 => [⟨(env 10).1, 0, cCl x, some 27, 2⟩]
  | _ => []
theorem locCa (b2 b3 b4 : Nat) (T : Tm) (p : Pt) (x : Cl) (s : Bool) : ∀ k env i q9, i ≠ k → (tAt tsCa k).sup.contains i = false → valCa b2 b3 b4 T p x s k (upd env i q9) = valCa b2 b3 b4 T p x s k env ∧ rowsCa b2 b3 b4 T p x s k (upd env i q9) = rowsCa b2 b3 b4 T p x s k env := by
  intro k env i q hk hs
  have hu : ∀ j, j ≠ i → upd env i q j = env j := fun j hj => by unfold upd; rw [if_neg hj]
  match k, hk, hs with
  | 0, _, _ => exact ⟨rfl, rfl⟩
  | 1, _, _ => exact ⟨rfl, rfl⟩
  | 2, _, _ => exact ⟨rfl, rfl⟩
  | 3, _, _ => exact ⟨rfl, rfl⟩
  | 4, hk, hs => exact ⟨by simp only [valCa, hu 4 (fun e => hk e.symm)], by simp only [rowsCa, hu 4 (fun e => hk e.symm)]⟩
  | 5, _, _ => exact ⟨rfl, rfl⟩
  | 6, hk, hs => exact ⟨by simp only [valCa, hu 4 (by rintro rfl; cases hs)], by simp only [rowsCa, hu 4 (by rintro rfl; cases hs)]⟩
  | 7, _, _ => exact ⟨rfl, rfl⟩
  | 8, _, _ => exact ⟨rfl, rfl⟩
  | 9, _, _ => exact ⟨rfl, rfl⟩
  | 10, hk, hs => exact ⟨by simp only [valCa, hu 10 (fun e => hk e.symm)], by simp only [rowsCa, hu 10 (fun e => hk e.symm)]⟩
  | 11, hk, hs => exact ⟨by simp only [valCa, hu 10 (by rintro rfl; cases hs)], by simp only [rowsCa, hu 10 (by rintro rfl; cases hs)]⟩
  | 12, _, _ => exact ⟨rfl, rfl⟩
  | _ + 13, _, _ => exact ⟨rfl, rfl⟩
def tsCb : List TOp := [⟨some 18, [], [], []⟩, ⟨some 19, [], [], []⟩, ⟨some 20, [], [], []⟩, ⟨some 21, [1, 2], [1, 2], []⟩, ⟨none, [0, 1, 2, 3], [0], [6]⟩, ⟨some 5, [0, 1, 2, 3, 4], [3], []⟩, ⟨none, [], [], []⟩]
def valCb (b2 b3 b4 b6 : Nat) (w : Value) (x : Cl) (n : Int) (k : Nat) (env : Env) : Value :=
  match k with
  | 0 => .agg (cCl x).toArray
  | 1 => w
  | 2 => .agg (cCl x).toArray
  | 3 => .int .i64 n
  | 4 => undef
  | 5 => .int .i64 n
  | _ => undef
def rowsCb (b2 b3 b4 b6 : Nat) (w : Value) (x : Cl) (n : Int) (k : Nat) (env : Env) : List Row :=
  match k with
  | 4 => [⟨b4, 0, cCl x, some 27, 2⟩]
  | 6 => [⟨b4, 0, cCl ⟨0, 0⟩, some 27, 2⟩]
  | _ => []
theorem locCb (b2 b3 b4 b6 : Nat) (w : Value) (x : Cl) (n : Int) : ∀ k env i q9, i ≠ k → (tAt tsCb k).sup.contains i = false → valCb b2 b3 b4 b6 w x n k (upd env i q9) = valCb b2 b3 b4 b6 w x n k env ∧ rowsCb b2 b3 b4 b6 w x n k (upd env i q9) = rowsCb b2 b3 b4 b6 w x n k env := by
  intro k env i q hk hs
  have hu : ∀ j, j ≠ i → upd env i q j = env j := fun j hj => by unfold upd; rw [if_neg hj]
  match k, hk, hs with
  | 0, _, _ => exact ⟨rfl, rfl⟩
  | 1, _, _ => exact ⟨rfl, rfl⟩
  | 2, _, _ => exact ⟨rfl, rfl⟩
  | 3, _, _ => exact ⟨rfl, rfl⟩
  | 4, _, _ => exact ⟨rfl, rfl⟩
  | 5, _, _ => exact ⟨rfl, rfl⟩
  | 6, _, _ => exact ⟨rfl, rfl⟩
  | _ + 7, _, _ => exact ⟨rfl, rfl⟩
set_option maxHeartbeats 8000000 in
theorem kcheap_spec (T : Tm) (p : Pt) (d : Dy) (H : List Row) (hT : TmOk H T p) (hok : tmOk T) (hD : DyOk H d) (hd : dayOk d) :
    Fc Tryz.prog 74 [.agg (cTm T p).toArray, fMk T p d] H (fun v H' => v = .tuple #[.agg (cCl (chp T d)).toArray, .int .i64 (coF T d (chp T d))] ∧ H' = H) := by
  have hf := fnd9 hok
  have hin := chp_in9 hok d
  refine Fc.mk (callable Tryz.call74) Tryz.func74 rfl Tryz.ntmps74 rfl ?_; dsimp only [fr]
  refine X.seq rfl ?_; refine X.region rfl (fun K hK => ?_); repeat' (first | (refine XO.op rfl ?_; (first | ((first | refine Xo.ng rfl ?_); (first | (refine Xg.ev (EvF.assign rfl rfl) rfl rfl ?_) | (refine Xg.st (StF.boxAgg rfl rfl) rfl rfl ?_; rintro _ _ ⟨bx, rfl, rfl⟩) | (refine Xg.st (StF.boxOne rfl rfl rfl) rfl rfl ?_; rintro _ _ ⟨bx, rfl, rfl⟩) | (refine Xg.st (StF.alloc rfl Tryz.zeroValue30 rfl) rfl rfl ?_; rintro _ _ ⟨bx, rfl, rfl⟩))))) | (refine XO.done rfl ?_; refine hK _ _ ?_; clear hK K))
  rename_i b2 b3; rename Nat => b4
  refine X.seq rfl ?_
  refine X.regionOb tsCa [2, 3, 4] [(2, .pointer (some ⟨b2, 0, none⟩)), (3, .pointer (some ⟨b3, 0, none⟩)), (4, .pointer (some ⟨b4, 0, none⟩))] (valCa b2 b3 b4 T p (chp T d) true) (rowsCa b2 b3 b4 T p (chp T d) true) (fun _ => (0, 0)) (⟨b4, 0, cCl ⟨0, 0⟩, some 27, 2⟩ :: ⟨b3, 0, [fMk T p d], some 100, 1⟩ :: ⟨b2, 0, cTm T p, some 99, 11⟩ :: H) rfl mixed (by (repeat (first | exact Sub.nil _ | refine Sub.cons rfl ?_)); done) rfl (by kernel_rfl) (locCa b2 b3 b4 T p (chp T d) true) (List.Sublist.refl _) ?_ ?_
  · have hs : ∀ (Y : List Row), (∀ r ∈ ⟨b4, 0, cCl ⟨0, 0⟩, some 27, 2⟩ :: ⟨b3, 0, [fMk T p d], some 100, 1⟩ :: ⟨b2, 0, cTm T p, some 99, 11⟩ :: H, r ∈ Y) → TmOk Y T p := fun S hS => hT.sub (fun r hr => hS r (List.mem_append_right [_, _, _] hr))
    have hs2 : ∀ (Y : List Row), (∀ r ∈ ⟨b4, 0, cCl ⟨0, 0⟩, some 27, 2⟩ :: ⟨b3, 0, [fMk T p d], some 100, 1⟩ :: ⟨b2, 0, cTm T p, some 99, 11⟩ :: H, r ∈ Y) → DyOk Y d := fun S hS => hD.sub (fun r hr => hS r (List.mem_append_right [_, _, _] hr))
    repeat' (first | exact AllF.done rfl | (refine AllF.step rfl ?_ ?_; · (first | fail | ((first | refine Ob.ng rfl ?_); (first | exact ObK.pure (fun env R hR => by exact ⟨_, EvF.move rfl rfl, rfl⟩) rfl (fun _ => rfl) | exact ObK.pure (fun env R hR => by exact ⟨_, EvF.assign rfl rfl, rfl⟩) rfl (fun _ => rfl) | exact ObK.pure (fun env R hR => by exact ⟨_, EvF.loadV rfl rfl (LoadV.whole (te rfl) rfl (hR _ (List.Mem.tail _ (List.Mem.tail _ (List.Mem.head _)))) rfl), rfl⟩) rfl (fun _ => rfl) | (exact ObK.pure (fun env S hS => ⟨_, EvF.build (cs := cLo l9) rfl (ArgsP.cons rfl (ArgsP.cons rfl ArgsP.nil)) (te rfl) (Places.cons (te rfl) (Places.cons (te rfl) Places.nil)) Tryz.zeroValue92 rfl, rfl⟩) rfl (fun _ => rfl)) | (exact ObK.pure (fun env S hS => ⟨_, EvF.makeFunc (fl := []) rfl Args.nil (Args.cons rfl Args.nil), rfl⟩) rfl (fun _ => rfl)) | (exact ObK.pure (fun env S hS => ⟨_, EvF.extract rfl rfl rfl, rfl⟩) rfl (fun _ => rfl)) | (exact fun env S hS => OpF.callV (Z := []) (EnF.st rfl Args.nil) (anyGrade_spec _) rfl rfl) | (exact fun env S hS => OpF.callV (Z := []) (EnF.st rfl Args.nil) (anyStaple_spec _) rfl rfl) | (exact fun env S hS => (OpF.call (EnF.st rfl (Args.cons rfl (Args.cons rfl Args.nil))) (classes_spec T p l9 _)).mono (fun v H' ⟨x, y, hv, hH⟩ => ⟨(x, y), fun _ => hv, by rw [hH]; exact List.Perm.refl _⟩)) | (exact fun env S hS => (OpF.call (EnF.st rfl (Args.cons rfl (Args.cons rfl Args.nil))) (firstC_spec T p d (env 4).1 (env 4).2 b3 _ _ S (hS _ (List.Mem.tail _ (List.Mem.head _))) (hs S hS) hok (hs2 S hS) hd)).mono (fun v H' ⟨hv, hH⟩ => ⟨(0, 0), fun _ => hv, by rw [hH]; exact List.perm_append_comm⟩)) | (exact fun env S hS => (StF.alloc rfl Tryz.zeroValue27 rfl).op.mono (fun v H' ⟨b, hv, hH⟩ => ⟨(b, 0), fun _ => hv, by rw [hH]; exact List.Perm.refl _⟩)) | (exact fun env S hS => (StF.storeAll (i := 0) (vs := cCl (chp T d)) (cs := cCl ⟨0, 0⟩) rfl rfl rfl (te rfl) rfl rfl rfl rfl).op.mono (fun v H' ⟨hv, hH⟩ => ⟨(0, 0), fun h => absurd rfl h, by rw [hH]; exact List.Perm.refl _⟩)))))))
  intro env t ha hv
  refine ⟨_, ha.cons (hv 10 6 (Nat.le_of_ble_eq_true rfl) rfl), ?_⟩
  clear hv ha
  show X _ _ _ ((6, .pointer (some ⟨(env 10).1, 0, none⟩)) :: _) (⟨(env 4).1, 0, cLo l9, some 92, 4⟩ :: ⟨(env 4).2, 0, cTm T p, some 99, 11⟩ :: ⟨(env 10).1, 0, cCl (chp T d), some 27, 2⟩ :: ⟨b4, 0, cCl ⟨0, 0⟩, some 27, 2⟩ :: ⟨b3, 0, [fMk T p d], some 100, 1⟩ :: ⟨b2, 0, cTm T p, some 99, 11⟩ :: H) _
  refine X.weakR (H' := ⟨(env 10).1, 0, cCl (chp T d), some 27, 2⟩ :: ⟨b4, 0, cCl ⟨0, 0⟩, some 27, 2⟩ :: ⟨b3, 0, [fMk T p d], some 100, 1⟩ :: ⟨b2, 0, cTm T p, some 99, 11⟩ :: H) (by (repeat (first | exact List.Sublist.refl _ | apply List.Sublist.cons_cons | apply List.Sublist.cons)); done) ?_
  refine X.permH (H' := ⟨b4, 0, cCl ⟨0, 0⟩, some 27, 2⟩ :: ⟨(env 10).1, 0, cCl (chp T d), some 27, 2⟩ :: ⟨b3, 0, [fMk T p d], some 100, 1⟩ :: ⟨b2, 0, cTm T p, some 99, 11⟩ :: H) (List.Perm.swap _ _ _) ?_
  refine X.seq rfl ?_
  refine X.regionOb tsCb [2, 3, 4, 6] [(2, .pointer (some ⟨b2, 0, none⟩)), (3, .pointer (some ⟨b3, 0, none⟩)), (4, .pointer (some ⟨b4, 0, none⟩)), (6, .pointer (some ⟨(env 10).1, 0, none⟩))] (valCb b2 b3 b4 (env 10).1 (fMk T p d) (chp T d) (coF T d (chp T d))) (rowsCb b2 b3 b4 (env 10).1 (fMk T p d) (chp T d) (coF T d (chp T d))) (fun _ => (0, 0)) (⟨(env 10).1, 0, cCl (chp T d), some 27, 2⟩ :: ⟨b3, 0, [fMk T p d], some 100, 1⟩ :: ⟨b2, 0, cTm T p, some 99, 11⟩ :: H) rfl mixed (by (repeat (first | exact Sub.nil _ | refine Sub.cons rfl ?_)); done) rfl (by kernel_rfl) (locCb b2 b3 b4 (env 10).1 (fMk T p d) (chp T d) (coF T d (chp T d))) (List.Sublist.refl _) ?_ ?_
  · have hs : ∀ (Y : List Row), (∀ r ∈ ⟨(env 10).1, 0, cCl (chp T d), some 27, 2⟩ :: ⟨b3, 0, [fMk T p d], some 100, 1⟩ :: ⟨b2, 0, cTm T p, some 99, 11⟩ :: H, r ∈ Y) → TmOk Y T p := fun S hS => hT.sub (fun r hr => hS r (List.mem_append_right [_, _, _] hr))
    have hs2 : ∀ (Y : List Row), (∀ r ∈ ⟨(env 10).1, 0, cCl (chp T d), some 27, 2⟩ :: ⟨b3, 0, [fMk T p d], some 100, 1⟩ :: ⟨b2, 0, cTm T p, some 99, 11⟩ :: H, r ∈ Y) → DyOk Y d := fun S hS => hD.sub (fun r hr => hS r (List.mem_append_right [_, _, _] hr))
    repeat' (first | exact AllF.done rfl | (refine AllF.step rfl ?_ ?_; · (first | fail | ((first | refine Ob.ng rfl ?_); (first | exact ObK.pure (fun env R hR => by exact ⟨_, EvF.assign rfl rfl, rfl⟩) rfl (fun _ => rfl) | exact ObK.pure (fun env R hR => by exact ⟨_, EvF.loadV rfl rfl (LoadV.own (te rfl) rfl (hR _ (List.Mem.tail _ (List.Mem.head _))) rfl), rfl⟩) rfl (fun _ => rfl) | exact ObK.pure (fun env R hR => by exact ⟨_, EvF.loadV rfl rfl (LoadV.whole (te rfl) rfl (hR _ (List.Mem.head _)) rfl), rfl⟩) rfl (fun _ => rfl) | (exact fun env S hS => OpF.callV (Z := []) (EnF.dyn (first := [.agg (cMk T p d).toArray]) (cap := []) rfl rfl (Args.cons rfl Args.nil)) (costs_spec T p d (chp T d) _ (hs S hS) hok (hs2 S hS) hd hin) rfl rfl) | (exact fun env S hS => (StF.storeAll (i := 0) (vs := cCl (chp T d)) (cs := cCl ⟨0, 0⟩) rfl rfl rfl (te rfl) rfl rfl rfl rfl).op.mono (fun v H' ⟨hv, hH⟩ => ⟨(0, 0), fun h => absurd rfl h, by rw [hH]; exact List.Perm.refl _⟩)))))))
  intro env2 t2 ha2 hv2
  refine ⟨_, ha2.cons (hv2 5 5 (Nat.le_of_ble_eq_true rfl) rfl), ?_⟩
  clear hv2 ha2
  show X _ _ _ ((5, .int .i64 (coF T d (chp T d))) :: _) (⟨b4, 0, cCl (chp T d), some 27, 2⟩ :: ⟨(env 10).1, 0, cCl (chp T d), some 27, 2⟩ :: ⟨b3, 0, [fMk T p d], some 100, 1⟩ :: ⟨b2, 0, cTm T p, some 99, 11⟩ :: H) _
  repeat' (first | refine X.ret rfl ?_)
  exact ret_two (v := .agg (cCl (chp T d)).toArray) (by first | exact .inr rfl | exact .inl rfl) Tryz.results74 ⟨_, rfl, LoadV.whole (te rfl) rfl (List.Mem.head _) rfl⟩ rfl (H' := H) (by (repeat (first | exact List.Sublist.refl _ | apply List.Sublist.cons)); done) ⟨rfl, rfl⟩
end Go.Proofs.YtcjlegjchllgjaaGreat
end
section
set_option linter.unusedVariables false
set_option linter.unusedSimpArgs false
namespace Go.Proofs.YtcjlegjchllgjaaGreat
open Go Go.Fw
set_option maxRecDepth 10000
def lotS (g : Int) : Lo := ⟨g, g, 1, 9⟩
def abS (g : Int) : Ab := ⟨[], [lotS g], [], []⟩
theorem openS (T : Tm) (g : Int) : openE T (abS g) = if tmOk T then (if 1 ≤ g ∧ g ≤ 9 then 0 else 41) else 40 := by
  unfold openE
  have h1 : askD (abS g) := fun d hd => absurd hd List.not_mem_nil
  have h2 : askG (abS g) ↔ 1 ≤ g ∧ g ≤ 9 := by simp [askG, abS, lotS, partOk]
  have h3 : askS (abS g) := by simp [askS, abS, lotS, partOk]
  have h4 : askM (abS g) := fun d hd => absurd hd List.not_mem_nil
  have h5 : askN T (abS g) := fun d hd => absurd hd List.not_mem_nil
  simp only [h1, h2, h3, h4, h5, if_true]
theorem cTm_step (T : Tm) (g n : Int) (p : Pt) : cTm (stepT T g n) p = cTm T p := by
  unfold cTm stepT
  simp only [List.length_set]
theorem stepF_no {T : Tm} {g n : Int} {er : Int} (h : openE T (abS g) = er) (h0 : er ≠ 0) : stepF T g n = (Tz, er) := by
  rw [openS] at h
  unfold stepF
  by_cases h1 : tmOk T
  · by_cases h2 : 1 ≤ g ∧ g ≤ 9
    · rw [if_pos h1, if_pos h2] at h; exact absurd h.symm h0
    · rw [if_pos h1, if_neg h2] at h ⊢; rw [h]
  · rw [if_neg h1] at h ⊢; rw [h]
theorem stepF_ok {T : Tm} {g n : Int} (h1 : tmOk T) (h2 : 1 ≤ g ∧ g ≤ 9) : stepF T g n = vld (stepT T g n) := by
  unfold stepF
  rw [if_pos h1, if_pos h2]
theorem openS_ok {T : Tm} {g : Int} (h : openE T (abS g) = 0) : tmOk T ∧ 1 ≤ g ∧ g ≤ 9 := by
  rw [openS] at h
  by_cases h1 : tmOk T
  · by_cases h2 : 1 ≤ g ∧ g ≤ 9
    · exact ⟨h1, h2⟩
    · rw [if_pos h1, if_neg h2] at h; exact absurd h (by decide)
  · rw [if_neg h1] at h; exact absurd h (by decide)
/-- terms that were checked, in tables of one's own -/
theorem progT_vld {U : Tm} {q : Pt} {t1 k1 t2 k2 : Nat} (hq : (tmOk U ∧ q = plT t1 k1 t2 k2) ∨ (¬ tmOk U ∧ q = pz)) : ∃ Z, OwnTm Z (vld U).1 q ∧ ∀ H : List Row, (Z ++ H).Sublist (rI U.G t1 k1 :: rI U.S t2 k2 :: H) := by
  rcases hq with ⟨h, rfl⟩ | ⟨h, rfl⟩
  · rw [vld_ok h]
    exact ⟨_, OwnTm.two U t1 k1 t2 k2, fun H => List.Sublist.refl _⟩
  · rw [vld_no h]
    exact ⟨[], OwnTm.zero, fun H => List.Sublist.cons _ (List.Sublist.cons _ (List.Sublist.refl _))⟩
def tsSp : List TOp := [⟨some 11, [], [], []⟩, ⟨some 12, [], [], []⟩, ⟨some 13, [1], [1], []⟩, ⟨some 14, [1, 2], [], []⟩, ⟨some 15, [1, 2, 3], [2, 3], []⟩, ⟨some 16, [1, 2, 3, 4], [4], []⟩, ⟨some 17, [1, 2, 3, 4, 5], [5], []⟩, ⟨some 18, [0, 1, 2, 3, 4, 5, 6], [0, 6], [5]⟩, ⟨some 10, [0, 1, 2, 3, 4, 5, 6, 7], [7], []⟩, ⟨some 19, [0, 1, 2, 3, 4, 5, 6, 7, 8], [8], []⟩, ⟨some 20, [0, 1, 2, 3, 4, 5, 6, 7, 8], [8], []⟩, ⟨some 8, [], [], []⟩, ⟨none, [0, 1, 2, 3, 4, 5, 6, 7, 8, 9, 11], [11, 9], [11]⟩, ⟨some 9, [0, 1, 2, 3, 4, 5, 6, 7, 8, 9, 10, 11, 12], [10], []⟩]
def valSp (b3 b6 : Nat) (g n er : Int) (T U : Tm) (p u : Pt) (k : Nat) (env : Env) : Value :=
  match k with
  | 0 => .agg (cTm T p).toArray
  | 1 => .int .i64 g
  | 2 => .agg (cSp ⟨g, g⟩).toArray
  | 3 => .agg (cSp ⟨1, 9⟩).toArray
  | 4 => .agg (cLo (lotS g)).toArray
  | 5 => .slice (some ⟨(env 5).1, 0, none⟩) 1 1
  | 6 => .agg (cAb (abS g) ⟨none, 0, some ⟨(env 5).1, 0, none⟩, 1, none, 0, none, 0⟩).toArray
  | 7 => .tuple #[.agg (cTm U u).toArray, .int .i64 er]
  | 8 => .tuple #[.agg (cTm U u).toArray, .int .i64 er]
  | 9 => .agg (cTm U u).toArray
  | 10 => .int .i64 er
  | 11 => .pointer (some ⟨(env 11).1, 0, none⟩)
  | 12 => undef
  | 13 => .int .i64 er
  | _ => undef
def rowsSp (b3 b6 : Nat) (g n er : Int) (T U : Tm) (p u : Pt) (k : Nat) (env : Env) : List Row :=
  match k with
  | 5 => [⟨(env 5).1, 0, cLo (lotS g), some 92, 1 * 4⟩]
  | 11 => [⟨(env 11).1, 0, cTm Tz pz, some 99, 11⟩]
  | 12 => [⟨(env 11).1, 0, cTm U u, some 99, 11⟩]
  | _ => []
theorem locSp (b3 b6 : Nat) (g n er : Int) (T U : Tm) (p u : Pt) : ∀ k env i q9, i ≠ k → (tAt tsSp k).sup.contains i = false → valSp b3 b6 g n er T U p u k (upd env i q9) = valSp b3 b6 g n er T U p u k env ∧ rowsSp b3 b6 g n er T U p u k (upd env i q9) = rowsSp b3 b6 g n er T U p u k env := by
  intro k env i q hk hs
  have hu : ∀ j, j ≠ i → upd env i q j = env j := fun j hj => by unfold upd; rw [if_neg hj]
  match k, hk, hs with
  | 0, _, _ => exact ⟨rfl, rfl⟩
  | 1, _, _ => exact ⟨rfl, rfl⟩
  | 2, _, _ => exact ⟨rfl, rfl⟩
  | 3, _, _ => exact ⟨rfl, rfl⟩
  | 4, _, _ => exact ⟨rfl, rfl⟩
  | 5, hk, hs => exact ⟨by simp only [valSp, hu 5 (fun e => hk e.symm)], by simp only [rowsSp, hu 5 (fun e => hk e.symm)]⟩
  | 6, hk, hs => exact ⟨by simp only [valSp, hu 5 (by rintro rfl; cases hs)], by simp only [rowsSp, hu 5 (by rintro rfl; cases hs)]⟩
  | 7, _, _ => exact ⟨rfl, rfl⟩
  | 8, _, _ => exact ⟨rfl, rfl⟩
  | 9, _, _ => exact ⟨rfl, rfl⟩
  | 10, _, _ => exact ⟨rfl, rfl⟩
  | 11, hk, hs => exact ⟨by simp only [valSp, hu 11 (fun e => hk e.symm)], by simp only [rowsSp, hu 11 (fun e => hk e.symm)]⟩
  | 12, hk, hs => exact ⟨by simp only [valSp, hu 11 (by rintro rfl; cases hs)], by simp only [rowsSp, hu 11 (by rintro rfl; cases hs)]⟩
  | 13, _, _ => exact ⟨rfl, rfl⟩
  | _ + 14, _, _ => exact ⟨rfl, rfl⟩
set_option maxHeartbeats 8000000 in
theorem kstep_spec (T : Tm) (p : Pt) (g n : Int) (H : List Row) (hT : TmOk H T p) : Fc Tryz.prog 30 [.agg (cTm T p).toArray, .int .i64 g, .int .i64 n] H (ProgT (stepF T g n) H) := by
  obtain ⟨U, hU⟩ : ∃ U, opT T (abS g) = U := ⟨_, rfl⟩
  obtain ⟨u, hu⟩ : ∃ u, opP T p (abS g) = u := ⟨_, rfl⟩
  obtain ⟨er, her⟩ : ∃ e, openE T (abS g) = e := ⟨_, rfl⟩
  have hT1 : ∀ Z : List Row, TmOk (Z ++ H) T p := fun Z => hT.sub (fun _ h => List.mem_append_right _ h)
  refine Fc.mk (callable Tryz.call30) Tryz.func30 rfl Tryz.ntmps30 rfl ?_; dsimp only [fr]
  refine X.seq rfl ?_; refine X.region rfl (fun K hK => ?_); repeat' (first | (refine XO.op rfl ?_; (first | ((first | refine Xo.ng rfl ?_); (first | (refine Xg.ev (EvF.assign rfl rfl) rfl rfl ?_) | (refine Xg.st (StF.boxAgg rfl rfl) rfl rfl ?_; rintro _ _ ⟨bx, rfl, rfl⟩) | (refine Xg.st (StF.alloc rfl Tryz.zeroValue32 rfl) rfl rfl ?_; rintro _ _ ⟨bx, rfl, rfl⟩))))) | (refine XO.done rfl ?_; refine hK _ _ ?_; clear hK K))
  rename_i b3; rename Nat => b6
  refine X.seq rfl ?_
  refine X.seq rfl ?_
  refine X.regionOb tsSp [1, 2, 3, 6] [(1, .int .i64 g), (2, .int .i64 n), (3, .pointer (some ⟨b3, 0, none⟩)), (6, .pointer (some ⟨b6, 0, none⟩))] (valSp b3 b6 g n er T U p u) (rowsSp b3 b6 g n er T U p u) (fun _ => (0, 0)) (⟨b6, 0, cTm Tz pz, some 32, 11⟩ :: ⟨b3, 0, cTm T p, some 32, 11⟩ :: H) rfl mixed (by (repeat (first | exact Sub.nil _ | refine Sub.cons rfl ?_)); done) rfl (by kernel_rfl) (locSp b3 b6 g n er T U p u) (List.Sublist.refl _) ?_ ?_
  · repeat' (first | exact AllF.done rfl | (refine AllF.step rfl ?_ ?_; · (first | fail | ((first | refine Ob.ng rfl ?_); (first | exact ObK.pure (fun env R hR => by exact ⟨_, EvF.move rfl rfl, rfl⟩) rfl (fun _ => rfl) | exact ObK.pure (fun env R hR => by exact ⟨_, EvF.assign rfl rfl, rfl⟩) rfl (fun _ => rfl) | exact ObK.pure (fun env R hR => by exact ⟨_, EvF.loadV rfl rfl (LoadV.whole (te rfl) rfl (hR _ (List.Mem.tail _ (List.Mem.head _))) rfl), rfl⟩) rfl (fun _ => rfl) | (exact fun env S hS => (StF.buildOne rfl elLo rfl rfl rfl (by decide) (by decide)).op.mono (fun v H' ⟨b, hv, hH⟩ => ⟨(b, 0), fun _ => hv, by rw [hH]; exact List.Perm.refl _⟩)) | (exact fun env S hS => OpF.callV (Z := []) (EnF.st rfl (Args.cons rfl Args.nil)) (just_spec g _) rfl rfl) | (exact fun env S hS => OpF.callV (Z := []) (EnF.st rfl Args.nil) (anyStaple_spec _) rfl rfl) | (exact ObK.pure (fun env S hS => ⟨_, EvF.build (cs := cLo (lotS g)) rfl (ArgsP.cons rfl (ArgsP.cons rfl ArgsP.nil)) (te rfl) (Places.cons (te rfl) (Places.cons (te rfl) Places.nil)) Tryz.zeroValue92 rfl, rfl⟩) rfl (fun _ => rfl)) | (exact ObK.pure (fun env S hS => ⟨_, EvF.build (cs := cAb (abS g) ⟨none, 0, some ⟨(env 5).1, 0, none⟩, 1, none, 0, none, 0⟩) rfl (ArgsP.cons rfl ArgsP.nil) (te rfl) (Places.cons (te rfl) (Places.cons (te rfl) (Places.cons (te rfl) (Places.cons (te rfl) Places.nil)))) Tryz.zeroValue97 rfl, rfl⟩) rfl (fun _ => rfl)) | (exact ObK.pure (fun env S hS => ⟨_, EvF.extract rfl rfl rfl, rfl⟩) rfl (fun _ => rfl)) | (exact fun env S hS => (StF.alloc rfl Tryz.zeroValue99 rfl).op.mono (fun v H' ⟨b, hv, hH⟩ => ⟨(b, 0), fun _ => hv, by rw [hH]; exact List.Perm.refl _⟩)) | (exact fun env S hS => (StF.storeAll (i := 0) (vs := cTm U u) (cs := cTm Tz pz) rfl rfl rfl (te rfl) rfl rfl rfl rfl).op.mono (fun v H' ⟨hv, hH⟩ => ⟨(0, 0), fun h => absurd rfl h, by rw [hH]; exact List.Perm.refl _⟩)) | (exact fun env S hS => OpF.callV (Z := [_]) (EnF.st rfl (Args.cons rfl (Args.cons rfl Args.nil))) (openD_spec T p (abS g) ⟨none, 0, some ⟨(env 5).1, 0, none⟩, 1, none, 0, none, 0⟩ _ (hT.sub (fun _ h => List.mem_append_right _ (hS _ (by repeat (first | exact h | apply List.Mem.tail))))) ⟨sleNil, SlE.ofRow (List.Mem.head _) (fun _ _ => rfl), sleNil, sleNil, (fun d hd => absurd hd List.not_mem_nil), Nat.zero_le _, Nat.le_of_ble_eq_true rfl, Nat.zero_le _, Nat.zero_le _⟩ HD0 HI0) (by rw [hU, hu, her]; rfl) rfl))))))
  · intro env t ha hv
    refine ⟨_, ha.cons (hv 13 9 (Nat.le_of_ble_eq_true rfl) rfl), ?_⟩
    show X _ _ _ _ (⟨(env 11).1, 0, cTm U u, some 99, 11⟩ :: ⟨b6, 0, cTm Tz pz, some 32, 11⟩ :: ⟨b3, 0, cTm T p, some 32, 11⟩ :: H) _
    repeat' (first | (refine XO.op rfl ?_; (first | ((first | refine Xo.ng rfl ?_); (first | (refine Xg.ev (EvF.tz rfl) rfl rfl ?_) | (refine Xg.ev (EvF.move rfl rfl) rfl rfl ?_) | (refine Xg.ev (EvF.assign rfl rfl) rfl rfl ?_) | (refine Xg.ev (EvF.cmp rfl rfl rfl rfl) rfl rfl ?_) | (refine Xg.ev (EvF.loadV rfl rfl (LoadV.whole (te rfl) rfl (List.Mem.tail _ (List.Mem.tail _ (List.Mem.head _))) rfl)) rfl rfl ?_) | (refine Xg.st0 (StF.storeAll (i := 1) rfl rfl rfl (te rfl) rfl rfl rfl rfl) rfl ?_; rintro _ _ ⟨rfl, rfl⟩; dsimp only [List.set]))))) | (refine XO.done rfl ?_; refine hK _ _ ?_; clear hK K) | refine X.seq rfl ?_ | refine X.region rfl (fun K hK => ?_) | refine X.skip rfl ?_ | refine X.ret rfl ?_ | (refine X.ite rfl rfl (fun hc => ?_); (first | (with_reducible refine Xb.caseN hc (fun h => ?_) (fun h => ?_))) <;> clear hc))
    · exact ret_two (v := .agg (cTm Tz pz).toArray) (by first | exact .inr rfl | exact .inl rfl) Tryz.results30 ⟨_, rfl, LoadV.whole (te rfl) rfl (List.Mem.tail _ (List.Mem.head _)) rfl⟩ rfl (H' := H) (by (repeat (first | exact List.Sublist.refl _ | apply List.Sublist.cons)); done) ⟨pz, [], by rw [stepF_no her (by assumption)]; rfl, by rw [stepF_no her (by assumption)]; exact OwnTm.zero, rfl⟩
    have h0 : er = 0 := by omega
    obtain ⟨hok, hg⟩ := openS_ok (her.trans h0)
    have l1 := hok.gr.1
    have l2 := hok.st.1
    repeat' (first | (refine XO.op rfl ?_; (first | ((first | refine Xo.ng rfl ?_); (first | (refine Xg.call (EnF.st rfl (by (repeat (first | exact Args.nil | refine Args.cons rfl ?_)); done)) rfl rfl (copied_spec T p _ (hT1 [_, _, _]) (by omega) (by omega)) ?_; rintro _ _ ⟨t1, k1, t2, k2, rfl, rfl⟩) | (refine Xg.st0 (StF.storeI (q := 0) (c := T.G) (i := (g - 1).toNat) rfl rfl rfl (te rfl) rfl rfl (by show 0 + (g - 1).toNat * 1 = _; omega) (by omega)) rfl ?_; rintro _ _ ⟨rfl, rfl⟩; dsimp only [List.set]) | (refine Xg.ev (EvF.move rfl rfl) rfl rfl ?_) | (refine Xg.ev (EvF.sub64 rfl rfl rfl (by omega) (by omega)) rfl rfl ?_) | (refine Xg.ev (EvF.fieldAddr rfl rfl (te rfl) rfl (te rfl) (by decide)) rfl rfl ?_) | (refine Xg.ev (EvF.indexSlice rfl rfl rfl (te rfl) (te rfl) (by omega) (by omega)) rfl rfl ?_) | (refine Xg.ev (EvF.loadV rfl rfl (LoadV.own (te rfl) rfl (List.Mem.tail _ (List.Mem.tail _ (List.Mem.tail _ (List.Mem.tail _ (List.Mem.head _))))) rfl)) rfl rfl ?_) | (refine Xg.ev (EvF.loadV rfl rfl (LoadV.whole (te rfl) rfl (List.Mem.tail _ (List.Mem.tail _ (List.Mem.tail _ (List.Mem.tail _ (List.Mem.head _))))) rfl)) rfl rfl ?_) | (refine Xg.st0 (StF.storeAll (i := 4) rfl rfl rfl (te rfl) rfl rfl rfl rfl) rfl ?_; rintro _ _ ⟨rfl, rfl⟩; dsimp only [List.set]))))) | (refine XO.done rfl ?_; refine hK _ _ ?_; clear hK K) | refine X.seq rfl ?_ | refine X.region rfl (fun K hK => ?_))
    have hvd := fun H' (h : TmOk H' (stepT T g n) (plT t1 k1 t2 k2)) => ifValid_spec (stepT T g n) (plT t1 k1 t2 k2) H' h
    rw [cTm_step] at hvd
    show XO _ _ _ _ _ (rI (stepT T g n).G t1 k1 :: rI (stepT T g n).S t2 k2 :: ⟨(env 11).1, 0, cTm U u, some 99, 11⟩ :: ⟨b6, 0, cTm Tz pz, some 32, 11⟩ :: ⟨b3, 0, cTm T (plT t1 k1 t2 k2), some 32, 11⟩ :: H) _
    have hU1 : TmOk (rI (stepT T g n).G t1 k1 :: rI (stepT T g n).S t2 k2 :: ⟨(env 11).1, 0, cTm U u, some 99, 11⟩ :: ⟨b6, 0, cTm Tz pz, some 32, 11⟩ :: ⟨b3, 0, cTm T (plT t1 k1 t2 k2), some 32, 11⟩ :: H) (stepT T g n) (plT t1 k1 t2 k2) :=
      ownT (stepT T g n) t1 k1 t2 k2 _ (by show (T.G.set _ _).length ≤ _; rw [List.length_set]; omega) (by show T.S.length ≤ _; omega) (List.Mem.head _) (List.Mem.tail _ (List.Mem.head _))
    repeat' (first | (refine XO.op rfl ?_; (first | ((first | refine Xo.ng rfl ?_); (first | (refine Xg.call (EnF.st rfl (by (repeat (first | exact Args.nil | refine Args.cons rfl ?_)); done)) rfl rfl (hvd _ hU1) ?_; rintro _ _ ⟨⟨q, rfl, hq⟩, rfl⟩) | (refine Xg.ev (EvF.assign rfl rfl) rfl rfl ?_) | (refine Xg.ev (EvF.extract rfl rfl rfl) rfl rfl ?_) | (refine Xg.st0 (StF.storeAll (i := 3) rfl rfl rfl (te rfl) rfl rfl rfl rfl) rfl ?_; rintro _ _ ⟨rfl, rfl⟩; dsimp only [List.set]))))) | (refine XO.done rfl ?_; refine hK _ _ ?_; clear hK K) | refine X.ret rfl ?_)
    rw [stepF_ok hok hg]
    obtain ⟨Z, hZ, hs⟩ := progT_vld hq
    exact ret_two (v := .agg (cTm (vld (stepT T g n)).1 q).toArray) (by first | exact .inr rfl | exact .inl rfl) Tryz.results30 ⟨_, rfl, LoadV.whole (te rfl) rfl (List.Mem.tail _ (List.Mem.tail _ (List.Mem.tail _ (List.Mem.head _)))) rfl⟩ rfl (H' := Z ++ H) ((hs H).trans (by (repeat (first | exact List.Sublist.refl _ | apply List.Sublist.cons_cons | apply List.Sublist.cons)); done)) ⟨q, Z, rfl, hZ, rfl⟩
end Go.Proofs.YtcjlegjchllgjaaGreat
end
section
set_option linter.unusedVariables false
set_option linter.unusedSimpArgs false
namespace Go.Proofs.YtcjlegjchllgjaaGreat
open Go Go.Fw
set_option maxRecDepth 10000
theorem rtermsF (T : Tm) (p : Pt) (h : ¬ tmOk T) (H : List Row) (hT : TmOk H T p) : Fc Tryz.prog 87 [.agg (cTm T p).toArray] H (fun v H' => v = .bool false ∧ H' = H) := by
  have := rterms_spec T p H hT
  rwa [decide_eq_false h] at this
theorem rtermsT (T : Tm) (p : Pt) (h : tmOk T) (H : List Row) (hT : TmOk H T p) : Fc Tryz.prog 87 [.agg (cTm T p).toArray] H (fun v H' => v = .bool true ∧ H' = H) := by
  have := rterms_spec T p H hT
  rwa [decide_eq_true h] at this
/-- nothing but an error -/
theorem progT_no {F : Tm × Int} {er : Int} (h : F = (Tz, er)) (H : List Row) : ProgT F H (.tuple #[.agg (cTm Tz pz).toArray, .int .i64 er]) H := by
  rw [h]; exact ⟨pz, [], rfl, OwnTm.zero, rfl⟩
end Go.Proofs.YtcjlegjchllgjaaGreat
end
section
set_option linter.unusedVariables false
set_option linter.unusedSimpArgs false
namespace Go.Proofs.YtcjlegjchllgjaaGreat
open Go Go.Fw
set_option maxRecDepth 10000
structure Nu where
  a : Int
  b : Int
  c : Int
  d : Int
def cNu (e : Nu) : List Value := [.int .i64 e.a, .int .i64 e.b, .int .i64 e.c, .int .i64 e.d]
def nuT (T : Tm) : Nu := ⟨T.price, T.worst, T.short, T.fee⟩
noncomputable instance : DecidableEq Nu := fun _ _ => Classical.propDecidable _
theorem eqNu (d : Nat) (e f : Nu) (w : World) : (Op.equalIn (d + 2) 170 (.agg (cNu e).toArray) (.agg (cNu f).toArray)).run Tryz.prog w = .ok (decide (e = f)) w := by
  rw [run_equalIn_array w (d + 1) (n := 4) (e := 3) (i := Tryz.t3) _ _ Tryz.underlying170 (by kernel_rfl)]
  have hc : Tryz.prog.cellsOf 3 = 1 := by kernel_rfl
  simp only [List.range_succ, List.range_zero, Op.eqItems, hc, List.nil_append, List.cons_append]
  have hp : ∀ (g : Nu) (k : Nat) (v : Value) (w : World), (cNu g).toArray[k]? = some v → (part 3 (cNu g).toArray k).run Tryz.prog w = .ok v w := fun g k v w h => run_part_plain w (by kernel_rfl) h
  have p0 : ∀ (g : Nu) (w : World), (part 3 (cNu g).toArray 0).run Tryz.prog w = .ok (.int .i64 g.a) w := fun g w => hp g 0 _ w rfl
  have p1 : ∀ (g : Nu) (w : World), (part 3 (cNu g).toArray 1).run Tryz.prog w = .ok (.int .i64 g.b) w := fun g w => hp g 1 _ w rfl
  have p2 : ∀ (g : Nu) (w : World), (part 3 (cNu g).toArray 2).run Tryz.prog w = .ok (.int .i64 g.c) w := fun g w => hp g 2 _ w rfl
  have p3 : ∀ (g : Nu) (w : World), (part 3 (cNu g).toArray 3).run Tryz.prog w = .ok (.int .i64 g.d) w := fun g w => hp g 3 _ w rfl
  obtain ⟨e1, e2, e3, e4⟩ := e
  obtain ⟨f1, f2, f3, f4⟩ := f
  by_cases h1 : e1 = f1 <;> by_cases h2 : e2 = f2 <;> by_cases h3 : e3 = f3 <;> by_cases h4 : e4 = f4 <;> simp [h1, h2, h3, h4, p0, p1, p2, p3, eqI, Result.andThen]
theorem nums_spec (T : Tm) (p : Pt) (H : List Row) : Fc Tryz.prog 113 ([.agg (cTm T p).toArray] ++ []) H (fun v H' => v = .agg (cNu (nuT T)).toArray ∧ H' = H) := by
  show Fc Tryz.prog 113 [.agg (cTm T p).toArray] H _
  refine Fc.mk (callable Tryz.call113) Tryz.func113 rfl Tryz.ntmps113 rfl ?_; dsimp only [fr]
  repeat' (first | (refine XO.op rfl ?_; (first | ((first | refine Xo.ng rfl ?_); (first | (refine Xg.st (StF.alloc rfl Tryz.zeroValue170 rfl) rfl rfl ?_; rintro _ _ ⟨bx, rfl, rfl⟩) | (refine Xg.ev (EvF.buildArr (cs := cNu (nuT T)) rfl (ArgsP.cons rfl (ArgsP.cons rfl (ArgsP.cons rfl (ArgsP.cons rfl ArgsP.nil)))) (te rfl) (te rfl) Tryz.zeroValue170 rfl) rfl rfl ?_) | (refine Xg.ev (EvF.fieldAddr rfl rfl (te rfl) rfl (te rfl) (by decide)) rfl rfl ?_) | (refine Xg.ev (EvF.loadV rfl rfl (LoadV.own (te rfl) rfl (List.Mem.tail _ (List.Mem.head _)) rfl)) rfl rfl ?_) | (refine Xg.st (StF.boxAgg rfl rfl) rfl rfl ?_; rintro _ _ ⟨bx, rfl, rfl⟩) | (refine Xg.st0 (StF.storeAll (i := 0) rfl rfl rfl (te rfl) rfl rfl rfl rfl) rfl ?_; rintro _ _ ⟨rfl, rfl⟩; dsimp only [List.set]))))) | (refine XO.done rfl ?_; refine hK _ _ ?_; clear hK K) | refine X.seq rfl ?_ | refine X.region rfl (fun K hK => ?_) | refine X.ret rfl ?_)
  exact ret_one (v := .agg (cNu (nuT T)).toArray) (by first | exact .inr rfl | exact .inl rfl) Tryz.results113 ⟨_, rfl, LoadV.whole (te rfl) rfl (List.Mem.head _) rfl⟩ (H' := H) (by (repeat (first | exact List.Sublist.refl _ | apply List.Sublist.cons)); done) ⟨rfl, rfl⟩
theorem equalI_spec (l m : List Int) (a a' : Option Addr) (c c' : Nat) (H : List Row) (hl : SlE H a cI 1 l) (hm : SlE H a' cI 1 m) (hb : l.length ≤ 1000000) (hb' : m.length ≤ 1000000) :
    Fc Tryz.prog 114 [.slice a l.length c, .slice a' m.length c'] H (fun v H' => v = .bool (decide (l = m)) ∧ H' = H) := by
  refine Fc.mk (callable Tryz.call114) Tryz.func114 rfl Tryz.ntmps114 rfl ?_; dsimp only [fr]
  repeat' (first | (refine XO.op rfl ?_; (first | ((first | refine Xo.ng rfl ?_); (first | (refine Xg.ev (EvF.move rfl rfl) rfl rfl ?_) | (refine Xg.ev (EvF.assign rfl rfl) rfl rfl ?_) | (refine Xg.ev (EvF.cmp rfl rfl rfl rfl) rfl rfl ?_) | (refine Xg.ev (EvF.lenSlice rfl rfl (te rfl)) rfl rfl ?_))))) | (refine XO.done rfl ?_; refine hK _ _ ?_; clear hK K) | refine X.seq rfl ?_ | refine X.region rfl (fun K hK => ?_) | refine X.block rfl ?_ | refine X.skip rfl ?_ | refine X.ret rfl ?_ | (refine X.ite rfl rfl (fun hc => ?_); (first | (with_reducible refine Xb.caseN hc (fun h => ?_) (fun h => ?_))) <;> clear hc))
  · refine ret_one (by first | exact .inr rfl | exact .inl rfl) Tryz.results114 rfl (H' := H) (by (repeat (first | exact List.Sublist.refl _ | apply List.Sublist.cons)); done) ?_; simp only [and_true, true_and]
    congr 1; symm; exact decide_eq_false (fun q => by subst q; omega)
  have hlm : l.length = m.length := by omega
  refine X.lp rfl (fun q F' H' => ∃ k : Nat, q = l.length - k ∧ k ≤ l.length ∧ (l = m ↔ l.drop k = m.drop k) ∧ H = H' ∧
      F' = [(0, .slice a l.length c), (1, .slice a' m.length c'), (12, .int .i64 l.length), (13, .int .i64 k)])
    l.length [(0, .slice a l.length c), (1, .slice a' m.length c'), (12, .int .i64 l.length), (13, .int .i64 (0 : Nat))] _ (by (repeat (first | exact Sub.nil _ | refine Sub.cons rfl ?_)); done) (by (repeat (first | exact List.Sublist.refl _ | apply List.Sublist.cons_cons | apply List.Sublist.cons)); done) ⟨0, by omega, by omega, by simp, rfl, rfl⟩ ?_
  rintro _ _ H2 ⟨k, rfl, hk, hn, hH, rfl⟩
  subst hH
  repeat' (first | (refine XO.op rfl ?_; (first | ((first | refine Xo.ng rfl ?_); (first | (refine Xg.ev (EvF.move rfl rfl) rfl rfl ?_) | (refine Xg.ev (EvF.assign rfl rfl) rfl rfl ?_) | (refine Xg.ev (EvF.cmp rfl rfl rfl rfl) rfl rfl ?_))))) | (refine XO.done rfl ?_; refine hK _ _ ?_; clear hK K) | refine X.seq rfl ?_ | refine X.region rfl (fun K hK => ?_) | refine X.block rfl ?_ | (refine X.brk rfl ?_; repeat (first | refine blockX_hit rfl ?_ | refine blockX_miss (by decide) ?_)) | refine X.skip rfl ?_ | refine X.ret rfl ?_ | (refine X.ite rfl rfl (fun hc => ?_); (first | (with_reducible refine Xb.case hc (fun h => ?_) (fun h => ?_))) <;> clear hc))
  · obtain ⟨b, off, e, rfl, he⟩ := hl.elem (i := k) (by omega)
    obtain ⟨b2, off2, f, rfl, hf⟩ := hm.elem (i := k) (by omega)
    rw [drop_cons he, drop_cons hf, List.cons.injEq] at hn
    repeat' (first | (refine XO.op rfl ?_; (first | ((first | refine Xo.ng rfl ?_); (first | (refine Xg.ev (EvF.move rfl rfl) rfl rfl ?_) | (refine Xg.ev (EvF.assign rfl rfl) rfl rfl ?_) | (refine Xg.ev (EvF.add64 rfl rfl rfl (by omega) (by omega)) rfl rfl ?_))))) | (refine XO.done rfl ?_; refine hK _ _ ?_; clear hK K) | (refine XQ.op rfl ?_; (first | ((first | refine Yo.ng rfl ?_); (first | (refine Yg.ev (EvF.indexSlice rfl rfl rfl (te rfl) (te rfl) (by omega) (by omega)) rfl rfl ?_) | (refine Yg.ev (EvF.loadV rfl rfl (LoadV.el0 hl he (te rfl) rfl (fun _ hm => hm) rfl)) rfl rfl ?_) | (refine Yg.ev (EvF.loadV rfl rfl (LoadV.el0 hm hf (te rfl) rfl (fun _ hm => hm) rfl)) rfl rfl ?_) | (refine Yg.ev (EvF.move rfl rfl) rfl rfl ?_) | (refine Yg.ev (EvF.cmp rfl rfl rfl rfl) rfl rfl ?_))))) | (refine XQ.done rfl ?_; refine hK _ ?_; clear hK K) | refine X.seq rfl ?_ | refine X.region rfl (fun K hK => ?_) | refine X.regionD rfl mixed (by kernel_rfl) (fun K hK => ?_) | refine X.skip rfl ?_ | refine X.ret rfl ?_ | (refine X.ite rfl rfl (fun hc => ?_); (first | (with_reducible refine Xb.caseN hc (fun h => ?_) (fun h => ?_))) <;> clear hc))
    all_goals first
      | (refine ret_one (by first | exact .inr rfl | exact .inl rfl) Tryz.results114 rfl (H' := H) (by (repeat (first | exact List.Sublist.refl _ | apply List.Sublist.cons)); done) ?_; simp only [and_true, true_and]; congr 1; symm; exact decide_eq_false (fun q => absurd (hn.1 q).1 (by assumption)))
      | (refine ⟨_, _, _, (by (repeat (first | exact Sub.nil _ | refine Sub.cons rfl ?_)); done), (by (repeat (first | exact List.Sublist.refl _ | apply List.Sublist.cons_cons | apply List.Sublist.cons)); done), ⟨k + 1, rfl, by omega, hn.trans (and_iff_right (by assumption)), rfl, rfl⟩, by omega⟩)
  · rw [List.drop_eq_nil_of_le (by omega), List.drop_eq_nil_of_le (by omega)] at hn
    refine ret_one (by first | exact .inr rfl | exact .inl rfl) Tryz.results114 rfl (H' := H) (by (repeat (first | exact List.Sublist.refl _ | apply List.Sublist.cons)); done) ?_; simp only [and_true, true_and]
    congr 1; symm; exact decide_eq_true (hn.2 rfl)
theorem alike_iff {T U : Tm} : T = withB U T.bales ↔ T.g = U.g ∧ T.s = U.s ∧ T.price = U.price ∧ T.worst = U.worst ∧ T.short = U.short ∧ T.G = U.G ∧ T.S = U.S ∧ T.dl = U.dl ∧ T.dh = U.dh ∧ T.fee = U.fee :=
  ⟨fun q => ⟨(show T.g = (withB U T.bales).g from congrArg Tm.g q), (show T.s = (withB U T.bales).s from congrArg Tm.s q), (show T.price = (withB U T.bales).price from congrArg Tm.price q), (show T.worst = (withB U T.bales).worst from congrArg Tm.worst q), (show T.short = (withB U T.bales).short from congrArg Tm.short q), (show T.G = (withB U T.bales).G from congrArg Tm.G q), (show T.S = (withB U T.bales).S from congrArg Tm.S q), (show T.dl = (withB U T.bales).dl from congrArg Tm.dl q), (show T.dh = (withB U T.bales).dh from congrArg Tm.dh q), (show T.fee = (withB U T.bales).fee from congrArg Tm.fee q)⟩,
   fun ⟨a, b, c, d, e, f, g, h, i, j⟩ => Tm.ext' a b c d e f g h i rfl j⟩
set_option maxHeartbeats 4000000 in
theorem areAlike_spec (T U : Tm) (p q : Pt) (H : List Row) (hT : TmOk H T p) (hU : TmOk H U q) : Fc Tryz.prog 80 [.agg (cTm T p).toArray, .agg (cTm U q).toArray] H (fun v H' => v = .bool (decide (T = withB U T.bales)) ∧ H' = H) := by
  have hT2 : ∀ Z : List Row, TmOk (Z ++ H) T p := fun Z => hT.sub (fun _ h => List.mem_append_right _ h)
  have hU2 : ∀ Z : List Row, TmOk (Z ++ H) U q := fun Z => hU.sub (fun _ h => List.mem_append_right _ h)
  refine Fc.mk (callable Tryz.call80) Tryz.func80 rfl Tryz.ntmps80 rfl ?_; dsimp only [fr]
  repeat' (first | (refine XO.op rfl ?_; (first | ((first | refine Xo.ng rfl ?_); (first | (refine Xg.ev (EvF.assign rfl rfl) rfl rfl ?_) | (refine Xg.st (StF.boxAgg rfl rfl) rfl rfl ?_; rintro _ _ ⟨bx, rfl, rfl⟩))))) | (refine XO.done rfl ?_; refine hK _ _ ?_; clear hK K) | (refine XQ.op rfl ?_; (first | ((first | refine Yo.ng rfl ?_ | (refine Yo.g rfl rfl ?_; with_reducible refine Yw.tt ?_)); (first | (refine Yg.ev (EvF.loadV rfl rfl (LoadV.ownAgg (vs := cCl ⟨T.g, T.s⟩) (te rfl) rfl (List.Mem.tail _ (List.Mem.head _)) rfl rfl)) rfl rfl ?_) | (refine Yg.ev (EvF.loadV rfl rfl (LoadV.ownAgg (vs := cCl ⟨U.g, U.s⟩) (te rfl) rfl (List.Mem.head _) rfl rfl)) rfl rfl ?_) | (refine Yg.ev (EvF.loadV rfl rfl (LoadV.ownAgg (vs := cSp ⟨T.dl, T.dh⟩) (te rfl) rfl (List.Mem.tail _ (List.Mem.head _)) rfl rfl)) rfl rfl ?_) | (refine Yg.ev (EvF.loadV rfl rfl (LoadV.ownAgg (vs := cSp ⟨U.dl, U.dh⟩) (te rfl) rfl (List.Mem.head _) rfl rfl)) rfl rfl ?_) | (refine Yg.ev (EvF.eqSt rfl rfl rfl (by kernel_rfl) (fun w => eqCl 9998 ⟨T.g, T.s⟩ ⟨U.g, U.s⟩ w) rfl) rfl rfl ?_) | (refine Yg.ev (EvF.eqSt rfl rfl rfl (by kernel_rfl) (fun w => eqSp 9998 ⟨T.dl, T.dh⟩ ⟨U.dl, U.dh⟩ w) rfl) rfl rfl ?_) | (refine Yg.ev (EvF.eqSt rfl rfl rfl (by kernel_rfl) (fun w => eqNu 9998 (nuT T) (nuT U) w) rfl) rfl rfl ?_) | (refine Yg.call (EnF.dyn0 rfl rfl (Args.cons rfl Args.nil)) rfl rfl (nums_spec T p _) ?_) | (refine Yg.call (EnF.dyn0 rfl rfl (Args.cons rfl Args.nil)) rfl rfl (nums_spec U q _) ?_) | (refine Yg.call (EnF.st rfl (Args.cons rfl (Args.cons rfl Args.nil))) rfl rfl (equalI_spec T.G U.G p.a1 q.a1 p.c1 q.c1 _ (hT2 [_, _]).gr (hU2 [_, _]).gr hT.l1 hU.l1) ?_) | (refine Yg.call (EnF.st rfl (Args.cons rfl (Args.cons rfl Args.nil))) rfl rfl (equalI_spec T.S U.S p.a2 q.a2 p.c2 q.c2 _ (hT2 [_, _]).st (hU2 [_, _]).st hT.l2 hU.l2) ?_) | (refine Yg.ev (EvF.move rfl rfl) rfl rfl ?_) | (refine Yg.ev (EvF.assign rfl rfl) rfl rfl ?_) | (refine Yg.ev (EvF.pickT rfl rfl rfl) rfl rfl ?_) | (refine Yg.ev (EvF.pickF rfl rfl rfl) rfl rfl ?_) | (refine Yg.ev (EvF.fieldAddr rfl rfl (te rfl) rfl (te rfl) (by decide)) rfl rfl ?_) | (refine Yg.ev (EvF.loadV rfl rfl (LoadV.own (te rfl) rfl (List.Mem.head _) rfl)) rfl rfl ?_) | (refine Yg.ev (EvF.loadV rfl rfl (LoadV.own (te rfl) rfl (List.Mem.tail _ (List.Mem.head _)) rfl)) rfl rfl ?_) | (refine Yg.ev (EvF.loadV rfl rfl (LoadV.whole (te rfl) rfl (List.Mem.head _) rfl)) rfl rfl ?_) | (refine Yg.ev (EvF.loadV rfl rfl (LoadV.whole (te rfl) rfl (List.Mem.tail _ (List.Mem.head _)) rfl)) rfl rfl ?_))) | (refine Yo.g rfl rfl ?_; (first | (with_reducible refine Yw.ft rfl rfl ?_) | (with_reducible refine Yw.case (fun h => ?_) (fun h => ?_) <;> simp only [h, decide_true, decide_false, Bool.not_true, Bool.not_false, and_self, and_true, true_and, and_false, false_and]))))) | (refine XQ.done rfl ?_; refine hK _ ?_; clear hK K) | refine X.seq rfl ?_ | refine X.region rfl (fun K hK => ?_) | refine X.regionD rfl mixed (by kernel_rfl) (fun K hK => ?_) | refine X.ret rfl ?_)
  all_goals (refine ret_one (by first | exact .inr rfl | exact .inl rfl) Tryz.results80 rfl (H' := H) (by (repeat (first | exact List.Sublist.refl _ | apply List.Sublist.cons)); done) ?_; simp only [and_true, true_and])
  all_goals (congr 1; (try simp only [Cl.mk.injEq, Sp.mk.injEq, nuT, Nu.mk.injEq] at *))
  all_goals first
    | exact (decide_eq_decide.2 ⟨fun q => alike_iff.2 ⟨by omega, by omega, by omega, by omega, by omega, by assumption, by assumption, by omega, by omega, by omega⟩, fun q => (alike_iff.1 q).2.2.2.2.2.2.1⟩)
    | (symm; refine decide_eq_false (fun z => ?_); obtain ⟨e0, e1, e2, e3, e4, e5, e6, e7, e8, e9⟩ := alike_iff.1 z; first | contradiction | (clear z; simp_all; done))
theorem joinF_nt {T U : Tm} (h : ¬ (tmOk T ∧ tmOk U)) : joinF T U = (Tz, 40) := if_neg h
theorem joinF_na {T U : Tm} (h : tmOk T ∧ tmOk U) (ha : ¬ T = withB U T.bales) : joinF T U = (Tz, 2) := by unfold joinF; rw [if_pos h, if_neg ha]
theorem joinF_nf {T U : Tm} (h : tmOk T ∧ tmOk U) (ha : T = withB U T.bales) (hf : T.bales + U.bales > 20) : joinF T U = (Tz, 9) := by unfold joinF; rw [if_pos h, if_pos ha, if_pos hf]
theorem joinF_ok {T U : Tm} (h : tmOk T ∧ tmOk U) (ha : T = withB U T.bales) (hf : ¬ T.bales + U.bales > 20) : joinF T U = (withB T (T.bales + U.bales), 0) := by unfold joinF; rw [if_pos h, if_pos ha, if_neg hf]
theorem checkT (T : Tm) (p : Pt) (h : tmOk T) (H : List Row) (hT : TmOk H T p) : Fc Tryz.prog 33 [.agg (cTm T p).toArray] H (fun v H' => v = .int .i64 0 ∧ H' = H) := by
  have := check_spec T p H hT
  rwa [if_pos h] at this
theorem checkF (T : Tm) (p : Pt) (h : ¬ tmOk T) (H : List Row) (hT : TmOk H T p) : Fc Tryz.prog 33 [.agg (cTm T p).toArray] H (fun v H' => v = .int .i64 40 ∧ H' = H) := by
  have := check_spec T p H hT
  rwa [if_neg h] at this
set_option maxHeartbeats 8000000 in
theorem kjoin_spec (T U : Tm) (p q : Pt) (H : List Row) (hT : TmOk H T p) (hU : TmOk H U q) : Fc Tryz.prog 31 [.agg (cTm T p).toArray, .agg (cTm U q).toArray] H (ProgT (joinF T U) H) := by
  have hT1 : ∀ Z : List Row, TmOk (Z ++ H) T p := fun Z => hT.sub (fun _ h => List.mem_append_right _ h)
  have hU1 : ∀ Z : List Row, TmOk (Z ++ H) U q := fun Z => hU.sub (fun _ h => List.mem_append_right _ h)
  by_cases hok : tmOk T
  · by_cases hok2 : tmOk U
    · have l1 := hok.gr.1
      have l2 := hok.st.1
      have n1 := hok.num.2.2.1
      have n2 := hok2.num.2.2.1
      refine Fc.mk (callable Tryz.call31) Tryz.func31 rfl Tryz.ntmps31 rfl ?_; dsimp only [fr]
      repeat' (first | (refine XO.op rfl ?_; (first | ((first | refine Xo.ng rfl ?_ | (refine Xo.g rfl rfl ?_; with_reducible refine Xw.ff ?_)); (first | (refine Xg.call (EnF.st rfl (Args.cons rfl Args.nil)) rfl rfl (checkT T p hok _ (hT1 [_, _, _])) ?_; rintro _ H9 ⟨rfl, hH9⟩; subst H9) | (refine Xg.call (EnF.st rfl (Args.cons rfl Args.nil)) rfl rfl (checkT U q hok2 _ (hU1 [_, _, _])) ?_; rintro _ H9 ⟨rfl, hH9⟩; subst H9) | (refine Xg.call (EnF.st rfl (Args.cons rfl (Args.cons rfl Args.nil))) rfl rfl (areAlike_spec T U p q _ (hT1 [_, _, _]) (hU1 [_, _, _])) ?_; rintro _ H9 ⟨rfl, hH9⟩; subst H9) | (refine Xg.call (EnF.st rfl (by (repeat (first | exact Args.nil | refine Args.cons rfl ?_)); done)) rfl rfl (withBales_spec T p (T.bales + U.bales) _ (hT1 [_, _, _]) (by omega) (by omega)) ?_; rintro _ _ ⟨t1, k1, t2, k2, rfl, rfl⟩) | (refine Xg.ev (EvF.tz rfl) rfl rfl ?_) | (refine Xg.ev (EvF.move rfl rfl) rfl rfl ?_) | (refine Xg.ev (EvF.assign rfl rfl) rfl rfl ?_) | (refine Xg.ev (EvF.pickF rfl rfl rfl) rfl rfl ?_) | (refine Xg.ev (EvF.cmp rfl rfl rfl rfl) rfl rfl ?_) | (refine Xg.ev (EvF.add64 rfl rfl rfl (by omega) (by omega)) rfl rfl ?_) | (refine Xg.ev (EvF.not rfl rfl) rfl rfl ?_) | (refine Xg.ev (EvF.fieldAddr rfl rfl (te rfl) rfl (te rfl) (by decide)) rfl rfl ?_) | (refine Xg.ev (EvF.loadV rfl rfl (LoadV.own (te rfl) rfl (List.Mem.tail _ (List.Mem.head _)) rfl)) rfl rfl ?_) | (refine Xg.ev (EvF.loadV rfl rfl (LoadV.own (te rfl) rfl (List.Mem.tail _ (List.Mem.tail _ (List.Mem.head _))) rfl)) rfl rfl ?_) | (refine Xg.ev (EvF.loadV rfl rfl (LoadV.whole (te rfl) rfl (List.Mem.tail _ (List.Mem.head _)) rfl)) rfl rfl ?_) | (refine Xg.ev (EvF.loadV rfl rfl (LoadV.whole (te rfl) rfl (List.Mem.tail _ (List.Mem.tail _ (List.Mem.head _))) rfl)) rfl rfl ?_) | (refine Xg.st (StF.boxAgg rfl rfl) rfl rfl ?_; rintro _ _ ⟨bx, rfl, rfl⟩) | (refine Xg.st (StF.alloc rfl Tryz.zeroValue32 rfl) rfl rfl ?_; rintro _ _ ⟨bx, rfl, rfl⟩) | (refine Xg.st0 (StF.storeAll (i := 0) rfl rfl rfl (te rfl) rfl rfl rfl rfl) rfl ?_; rintro _ _ ⟨rfl, rfl⟩; dsimp only [List.set]) | (refine Xg.st0 (StF.storeAll (i := 2) rfl rfl rfl (te rfl) rfl rfl rfl rfl) rfl ?_; rintro _ _ ⟨rfl, rfl⟩; dsimp only [List.set]))) | (refine Xo.g rfl rfl ?_; (first | (with_reducible refine Xw.caseN (fun h => ?_) (fun h => ?_) <;> simp only [h, decide_true, decide_false, Bool.not_true, Bool.not_false, and_self, and_true, true_and, and_false, false_and]))))) | (refine XO.done rfl ?_; refine hK _ _ ?_; clear hK K) | refine X.seq rfl ?_ | refine X.region rfl (fun K hK => ?_) | refine X.block rfl ?_ | refine X.skip rfl ?_ | refine X.ret rfl ?_ | (refine X.ite rfl rfl (fun hc => ?_); (first | (with_reducible refine Xb.case hc (fun h => ?_) (fun h => ?_)) | (with_reducible refine Xb.caseN hc (fun h => ?_) (fun h => ?_))) <;> clear hc))
      all_goals try (exfalso; contradiction)
      all_goals try (exfalso; omega)
      · exact ret_two (v := .agg (cTm Tz pz).toArray) (by first | exact .inr rfl | exact .inl rfl) Tryz.results31 ⟨_, rfl, LoadV.whole (te rfl) rfl (List.Mem.head _) rfl⟩ rfl (H' := H) (by (repeat (first | exact List.Sublist.refl _ | apply List.Sublist.cons)); done) (progT_no (joinF_na ⟨hok, hok2⟩ (by assumption)) H)
      · exact ret_two (v := .agg (cTm Tz pz).toArray) (by first | exact .inr rfl | exact .inl rfl) Tryz.results31 ⟨_, rfl, LoadV.whole (te rfl) rfl (List.Mem.head _) rfl⟩ rfl (H' := H) (by (repeat (first | exact List.Sublist.refl _ | apply List.Sublist.cons)); done) (progT_no (joinF_nf ⟨hok, hok2⟩ (by assumption) (by assumption)) H)
      · rw [joinF_ok ⟨hok, hok2⟩ (by assumption) (by assumption)]
        exact ret_two (v := .agg (cTm (withB T (T.bales + U.bales)) (plT t1 k1 t2 k2)).toArray) (by first | exact .inr rfl | exact .inl rfl) Tryz.results31 ⟨_, rfl, LoadV.whole (te rfl) rfl (List.Mem.tail _ (List.Mem.tail _ (List.Mem.head _))) rfl⟩ rfl (H' := rI T.G t1 k1 :: rI T.S t2 k2 :: H) (by (repeat (first | exact List.Sublist.refl _ | apply List.Sublist.cons_cons | apply List.Sublist.cons)); done) ⟨_, _, rfl, OwnTm.two (withB T (T.bales + U.bales)) t1 k1 t2 k2, rfl⟩
    · refine Fc.mk (callable Tryz.call31) Tryz.func31 rfl Tryz.ntmps31 rfl ?_; dsimp only [fr]
      repeat' (first | (refine XO.op rfl ?_; (first | ((first | refine Xo.ng rfl ?_ | (refine Xo.g rfl rfl ?_; with_reducible refine Xw.ff ?_)); (first | (refine Xg.call (EnF.st rfl (Args.cons rfl Args.nil)) rfl rfl (checkT T p hok _ (hT1 [_, _, _])) ?_; rintro _ H9 ⟨rfl, hH9⟩; subst H9) | (refine Xg.call (EnF.st rfl (Args.cons rfl Args.nil)) rfl rfl (checkF U q hok2 _ (hU1 [_, _, _])) ?_; rintro _ H9 ⟨rfl, hH9⟩; subst H9) | (refine Xg.ev (EvF.tz rfl) rfl rfl ?_) | (refine Xg.ev (EvF.move rfl rfl) rfl rfl ?_) | (refine Xg.ev (EvF.assign rfl rfl) rfl rfl ?_) | (refine Xg.ev (EvF.pickF rfl rfl rfl) rfl rfl ?_) | (refine Xg.ev (EvF.cmp rfl rfl rfl rfl) rfl rfl ?_) | (refine Xg.ev (EvF.loadV rfl rfl (LoadV.whole (te rfl) rfl (List.Mem.tail _ (List.Mem.head _)) rfl)) rfl rfl ?_) | (refine Xg.ev (EvF.loadV rfl rfl (LoadV.whole (te rfl) rfl (List.Mem.tail _ (List.Mem.tail _ (List.Mem.head _))) rfl)) rfl rfl ?_) | (refine Xg.st (StF.boxAgg rfl rfl) rfl rfl ?_; rintro _ _ ⟨bx, rfl, rfl⟩) | (refine Xg.st (StF.alloc rfl Tryz.zeroValue32 rfl) rfl rfl ?_; rintro _ _ ⟨bx, rfl, rfl⟩) | (refine Xg.st0 (StF.storeAll (i := 0) rfl rfl rfl (te rfl) rfl rfl rfl rfl) rfl ?_; rintro _ _ ⟨rfl, rfl⟩; dsimp only [List.set]))) | (refine Xo.g rfl rfl ?_; (first | (with_reducible refine Xw.caseN (fun h => ?_) (fun h => ?_) <;> simp only [h, decide_true, decide_false, Bool.not_true, Bool.not_false, and_self, and_true, true_and, and_false, false_and]))))) | (refine XO.done rfl ?_; refine hK _ _ ?_; clear hK K) | refine X.seq rfl ?_ | refine X.region rfl (fun K hK => ?_) | refine X.block rfl ?_ | refine X.ret rfl ?_ | (refine X.ite rfl rfl (fun hc => ?_); (first | (with_reducible refine Xb.caseN hc (fun h => ?_) (fun h => ?_))) <;> clear hc))
      all_goals try (exfalso; contradiction)
      all_goals try (exfalso; omega)
      exact ret_two (v := .agg (cTm Tz pz).toArray) (by first | exact .inr rfl | exact .inl rfl) Tryz.results31 ⟨_, rfl, LoadV.whole (te rfl) rfl (List.Mem.head _) rfl⟩ rfl (H' := H) (by (repeat (first | exact List.Sublist.refl _ | apply List.Sublist.cons)); done) (progT_no (joinF_nt (fun h => hok2 h.2)) H)
  · refine Fc.mk (callable Tryz.call31) Tryz.func31 rfl Tryz.ntmps31 rfl ?_; dsimp only [fr]
    repeat' (first | (refine XO.op rfl ?_; (first | ((first | refine Xo.ng rfl ?_ | (refine Xo.g rfl rfl ?_; with_reducible refine Xw.ff ?_)); (first | (refine Xg.call (EnF.st rfl (Args.cons rfl Args.nil)) rfl rfl (checkF T p hok _ (hT1 [_, _, _])) ?_; rintro _ H9 ⟨rfl, hH9⟩; subst H9) | (refine Xg.ev (EvF.tz rfl) rfl rfl ?_) | (refine Xg.ev (EvF.move rfl rfl) rfl rfl ?_) | (refine Xg.ev (EvF.assign rfl rfl) rfl rfl ?_) | (refine Xg.ev (EvF.pickT rfl rfl rfl) rfl rfl ?_) | (refine Xg.ev (EvF.cmp rfl rfl rfl rfl) rfl rfl ?_) | (refine Xg.ev (EvF.loadV rfl rfl (LoadV.whole (te rfl) rfl (List.Mem.tail _ (List.Mem.head _)) rfl)) rfl rfl ?_) | (refine Xg.ev (EvF.loadV rfl rfl (LoadV.whole (te rfl) rfl (List.Mem.tail _ (List.Mem.tail _ (List.Mem.head _))) rfl)) rfl rfl ?_) | (refine Xg.st (StF.boxAgg rfl rfl) rfl rfl ?_; rintro _ _ ⟨bx, rfl, rfl⟩) | (refine Xg.st (StF.alloc rfl Tryz.zeroValue32 rfl) rfl rfl ?_; rintro _ _ ⟨bx, rfl, rfl⟩) | (refine Xg.st0 (StF.storeAll (i := 0) rfl rfl rfl (te rfl) rfl rfl rfl rfl) rfl ?_; rintro _ _ ⟨rfl, rfl⟩; dsimp only [List.set]))) | (refine Xo.g rfl rfl ?_; (first | (with_reducible refine Xw.tf rfl rfl ?_) | (with_reducible refine Xw.caseN (fun h => ?_) (fun h => ?_) <;> simp only [h, decide_true, decide_false, Bool.not_true, Bool.not_false, and_self, and_true, true_and, and_false, false_and]))))) | (refine XO.done rfl ?_; refine hK _ _ ?_; clear hK K) | refine X.seq rfl ?_ | refine X.region rfl (fun K hK => ?_) | refine X.block rfl ?_ | refine X.ret rfl ?_ | (refine X.ite rfl rfl (fun hc => ?_); (first | (with_reducible refine Xb.t hc ?_)) <;> clear hc))
    all_goals try (exfalso; contradiction)
    all_goals try (exfalso; omega)
    exact ret_two (v := .agg (cTm Tz pz).toArray) (by first | exact .inr rfl | exact .inl rfl) Tryz.results31 ⟨_, rfl, LoadV.whole (te rfl) rfl (List.Mem.head _) rfl⟩ rfl (H' := H) (by (repeat (first | exact List.Sublist.refl _ | apply List.Sublist.cons)); done) (progT_no (joinF_nt (fun h => hok h.1)) H)
end Go.Proofs.YtcjlegjchllgjaaGreat
end
section
set_option linter.unusedVariables false
set_option linter.unusedSimpArgs false
namespace Go.Proofs.YtcjlegjchllgjaaGreat
open Go Go.Fw
set_option maxRecDepth 10000
def pr2 (p : Nat × Nat) : Nat := (p.1 + p.2) * (p.1 + p.2) + p.1
theorem sq_lt {s s' a c : Nat} (ha : a ≤ s) (h : s * s + a = s' * s' + c) : ¬ s < s' := fun hs => by
  have h1 := Nat.mul_le_mul (Nat.succ_le_of_lt hs) (Nat.succ_le_of_lt hs)
  have h2 : (s + 1) * (s + 1) = s * s + s + s + 1 := by rw [Nat.add_mul, Nat.mul_add]; omega
  have h3 : s.succ * s.succ = (s + 1) * (s + 1) := rfl
  omega
theorem pr2_inj : ∀ {p q : Nat × Nat}, pr2 p = pr2 q → p = q := by
  rintro ⟨a, b⟩ ⟨c, d⟩ h
  unfold pr2 at h
  dsimp only at h
  have h1 := sq_lt (by omega) h
  have h2 := sq_lt (by omega) h.symm
  have h3 : a + b = c + d := by omega
  rw [h3] at h
  have h4 : a = c := by omega
  have h5 : b = d := by omega
  rw [h4, h5]
open Classical in
noncomputable def un2 (n : Nat) : Nat × Nat := if h : ∃ p, pr2 p = n then h.choose else (0, 0)
theorem un2_pr2 (p : Nat × Nat) : un2 (pr2 p) = p := by
  have h : ∃ q, pr2 q = pr2 p := ⟨p, rfl⟩
  unfold un2
  rw [dif_pos h]
  exact pr2_inj h.choose_spec
/-- where the tables of a copy lie, and how much room they have -/
noncomputable def pl4 (q : Nat × Nat) : Pt := plT (un2 q.1).1 (un2 q.1).2 (un2 q.2).1 (un2 q.2).2
noncomputable def ro4 (T : Tm) (q : Nat × Nat) : List Row := [rI T.G (un2 q.1).1 (un2 q.1).2, rI T.S (un2 q.2).1 (un2 q.2).2]
theorem pl4_enc (t1 k1 t2 k2 : Nat) : pl4 (pr2 (t1, k1), pr2 (t2, k2)) = plT t1 k1 t2 k2 := by unfold pl4; simp only [un2_pr2]
theorem ro4_enc (T : Tm) (t1 k1 t2 k2 : Nat) : ro4 T (pr2 (t1, k1), pr2 (t2, k2)) = [rI T.G t1 k1, rI T.S t2 k2] := by unfold ro4; simp only [un2_pr2]
theorem ro4_own (T : Tm) (q : Nat × Nat) : OwnTm (ro4 T q) T (pl4 q) := OwnTm.two T _ _ _ _
def ProgT2 (F : Tm × Tm × Int) (H : List Row) (v : Value) (H' : List Row) : Prop := ∃ p1 p2 Z1 Z2, v = .tuple #[.agg (cTm F.1 p1).toArray, .agg (cTm F.2.1 p2).toArray, .int .i64 F.2.2] ∧ OwnTm Z1 F.1 p1 ∧ OwnTm Z2 F.2.1 p2 ∧ H' = Z1 ++ (Z2 ++ H)
theorem progT2_no {F : Tm × Tm × Int} {er : Int} (h : F = (Tz, Tz, er)) (H : List Row) : ProgT2 F H (.tuple #[.agg (cTm Tz pz).toArray, .agg (cTm Tz pz).toArray, .int .i64 er]) H := by
  rw [h]; exact ⟨pz, pz, [], [], rfl, OwnTm.zero, OwnTm.zero, rfl⟩
theorem splF_nt {T : Tm} {n : Int} (h : ¬ tmOk T) : splF T n = (Tz, Tz, 40) := if_neg h
theorem splF_nn {T : Tm} {n : Int} (h : tmOk T) (hn : ¬ (1 ≤ n ∧ n ≤ T.bales - 1)) : splF T n = (Tz, Tz, 2) := by unfold splF; rw [if_pos h, if_neg hn]
theorem splF_ok {T : Tm} {n : Int} (h : tmOk T) (hn : 1 ≤ n ∧ n ≤ T.bales - 1) : splF T n = (withB T n, withB T (T.bales - n), 0) := by unfold splF; rw [if_pos h, if_pos hn]
def tsSl : List TOp := [⟨some 25, [], [], []⟩, ⟨some 26, [], [], []⟩, ⟨some 27, [0, 1], [0, 1], []⟩, ⟨some 28, [], [], []⟩, ⟨some 29, [], [], []⟩, ⟨some 30, [4], [4], []⟩, ⟨some 31, [], [], []⟩, ⟨some 32, [4, 5, 6], [5, 6], []⟩, ⟨some 33, [0, 1, 2, 3, 4, 5, 6, 7], [3, 7], []⟩, ⟨none, [0, 1, 2, 3, 4, 5, 6, 7, 8], [2], [12]⟩, ⟨none, [0, 1, 2, 3, 4, 5, 6, 7, 8, 9], [8], [13]⟩, ⟨some 6, [0, 1, 2, 3, 4, 5, 6, 7, 8, 9, 10], [], []⟩, ⟨none, [], [], []⟩, ⟨none, [], [], []⟩]
noncomputable def valSl (b2 b4 b5 : Nat) (n : Int) (T : Tm) (p : Pt) (k : Nat) (env : Env) : Value :=
  match k with
  | 0 => .agg (cTm T p).toArray
  | 1 => .int .i64 n
  | 2 => .agg (cTm (withB T n) (pl4 (env 2))).toArray
  | 3 => .agg (cTm T p).toArray
  | 4 => .pointer (some ⟨b2, 9, none⟩)
  | 5 => .int .i64 T.bales
  | 6 => .int .i64 n
  | 7 => .int .i64 (T.bales - n)
  | 8 => .agg (cTm (withB T (T.bales - n)) (pl4 (env 8))).toArray
  | 9 => undef
  | 10 => undef
  | 11 => .int .i64 0
  | _ => undef
noncomputable def rowsSl (b2 b4 b5 : Nat) (n : Int) (T : Tm) (p : Pt) (k : Nat) (env : Env) : List Row :=
  match k with
  | 2 => [rI T.G (un2 (env 2).1).1 (un2 (env 2).1).2, rI T.S (un2 (env 2).2).1 (un2 (env 2).2).2]
  | 8 => [rI T.G (un2 (env 8).1).1 (un2 (env 8).1).2, rI T.S (un2 (env 8).2).1 (un2 (env 8).2).2]
  | 9 => [⟨b4, 0, cTm (withB T n) (pl4 (env 2)), some 32, 11⟩]
  | 10 => [⟨b5, 0, cTm (withB T (T.bales - n)) (pl4 (env 8)), some 32, 11⟩]
  | 12 => [⟨b4, 0, cTm Tz pz, some 32, 11⟩]
  | 13 => [⟨b5, 0, cTm Tz pz, some 32, 11⟩]
  | _ => []
theorem locSl (b2 b4 b5 : Nat) (n : Int) (T : Tm) (p : Pt) : ∀ k env i q9, i ≠ k → (tAt tsSl k).sup.contains i = false → valSl b2 b4 b5 n T p k (upd env i q9) = valSl b2 b4 b5 n T p k env ∧ rowsSl b2 b4 b5 n T p k (upd env i q9) = rowsSl b2 b4 b5 n T p k env := by
  intro k env i q hk hs
  have hu : ∀ j, j ≠ i → upd env i q j = env j := fun j hj => by unfold upd; rw [if_neg hj]
  match k, hk, hs with
  | 0, _, _ => exact ⟨rfl, rfl⟩
  | 1, _, _ => exact ⟨rfl, rfl⟩
  | 2, hk, hs => exact ⟨by simp only [valSl, hu 2 (fun e => hk e.symm)], by simp only [rowsSl, hu 2 (fun e => hk e.symm)]⟩
  | 3, _, _ => exact ⟨rfl, rfl⟩
  | 4, _, _ => exact ⟨rfl, rfl⟩
  | 5, _, _ => exact ⟨rfl, rfl⟩
  | 6, _, _ => exact ⟨rfl, rfl⟩
  | 7, _, _ => exact ⟨rfl, rfl⟩
  | 8, hk, hs => exact ⟨by simp only [valSl, hu 8 (fun e => hk e.symm)], by simp only [rowsSl, hu 8 (fun e => hk e.symm)]⟩
  | 9, hk, hs => exact ⟨by simp only [valSl, hu 2 (by rintro rfl; cases hs)], by simp only [rowsSl, hu 2 (by rintro rfl; cases hs)]⟩
  | 10, hk, hs => exact ⟨by simp only [valSl, hu 8 (by rintro rfl; cases hs)], by simp only [rowsSl, hu 8 (by rintro rfl; cases hs)]⟩
  | 11, _, _ => exact ⟨rfl, rfl⟩
  | 12, _, _ => exact ⟨rfl, rfl⟩
  | 13, _, _ => exact ⟨rfl, rfl⟩
  | _ + 14, _, _ => exact ⟨rfl, rfl⟩
set_option maxHeartbeats 8000000 in
theorem ksplit_spec (T : Tm) (p : Pt) (n : Int) (H : List Row) (hT : TmOk H T p) : Fc Tryz.prog 32 [.agg (cTm T p).toArray, .int .i64 n] H (ProgT2 (splF T n) H) := by
  have hT1 : ∀ Z : List Row, TmOk (Z ++ H) T p := fun Z => hT.sub (fun _ h => List.mem_append_right _ h)
  by_cases hok : tmOk T
  · have l1 := hok.gr.1
    have l2 := hok.st.1
    have n1 := hok.num.2.2.1
    refine Fc.mk (callable Tryz.call32) Tryz.func32 rfl Tryz.ntmps32 rfl ?_; dsimp only [fr]
    repeat' (first | (refine XO.op rfl ?_; (first | ((first | refine Xo.ng rfl ?_); (first | (refine Xg.call (EnF.st rfl (Args.cons rfl Args.nil)) rfl rfl (checkT T p hok _ (hT1 [_, _, _])) ?_; rintro _ H9 ⟨rfl, hH9⟩; subst H9) | (refine Xg.ev (EvF.build (cs := cSp ⟨1, T.bales - 1⟩) rfl (ArgsP.cons rfl (ArgsP.cons rfl ArgsP.nil)) (te rfl) (Places.cons (te rfl) (Places.cons (te rfl) Places.nil)) Tryz.zeroValue30 rfl) rfl rfl ?_) | (refine Xg.st (StF.buildOne rfl elI rfl rfl rfl (by decide) (by decide)) rfl rfl ?_; rintro _ _ ⟨bs, rfl, rfl⟩) | (refine Xg.call (EnF.st rfl (Args.cons rfl (Args.cons rfl Args.nil))) rfl rfl (within1_spec ⟨1, T.bales - 1⟩ n _ _ _ _ _ (List.Mem.head _)) ?_; rintro _ H9 ⟨rfl, hH9⟩; subst H9) | (refine Xg.ev (EvF.tz rfl) rfl rfl ?_) | (refine Xg.ev (EvF.move rfl rfl) rfl rfl ?_) | (refine Xg.ev (EvF.assign rfl rfl) rfl rfl ?_) | (refine Xg.ev (EvF.cmp rfl rfl rfl rfl) rfl rfl ?_) | (refine Xg.ev (EvF.sub64 rfl rfl rfl (by omega) (by omega)) rfl rfl ?_) | (refine Xg.ev (EvF.not rfl rfl) rfl rfl ?_) | (refine Xg.ev (EvF.fieldAddr rfl rfl (te rfl) rfl (te rfl) (by decide)) rfl rfl ?_) | (refine Xg.ev (EvF.loadV rfl rfl (LoadV.own (te rfl) rfl (List.Mem.tail _ (List.Mem.tail _ (List.Mem.head _))) rfl)) rfl rfl ?_) | (refine Xg.ev (EvF.loadV rfl rfl (LoadV.whole (te rfl) rfl (List.Mem.tail _ (List.Mem.tail _ (List.Mem.head _))) rfl)) rfl rfl ?_) | (refine Xg.st (StF.boxAgg rfl rfl) rfl rfl ?_; rintro _ _ ⟨bx, rfl, rfl⟩) | (refine Xg.st (StF.alloc rfl Tryz.zeroValue32 rfl) rfl rfl ?_; rintro _ _ ⟨bx, rfl, rfl⟩) | (refine Xg.st0 (StF.storeAll (i := 0) rfl rfl rfl (te rfl) rfl rfl rfl rfl) rfl ?_; rintro _ _ ⟨rfl, rfl⟩; dsimp only [List.set]) | (refine Xg.st0 (StF.storeAll (i := 1) rfl rfl rfl (te rfl) rfl rfl rfl rfl) rfl ?_; rintro _ _ ⟨rfl, rfl⟩; dsimp only [List.set]) | (refine Xg.st0 (StF.storeAll (i := 2) rfl rfl rfl (te rfl) rfl rfl rfl rfl) rfl ?_; rintro _ _ ⟨rfl, rfl⟩; dsimp only [List.set]))))) | (refine XO.done rfl ?_; refine hK _ _ ?_; clear hK K) | refine X.seq rfl ?_ | refine X.region rfl (fun K hK => ?_) | refine X.skip rfl ?_ | refine X.ret rfl ?_ | (refine X.ite rfl rfl (fun hc => ?_); (first | (with_reducible refine Xb.caseN hc (fun h => ?_) (fun h => ?_))) <;> clear hc))
    all_goals try (exfalso; contradiction)
    all_goals try (exfalso; omega)
    · exact ret_three (v := .agg (cTm Tz pz).toArray) (v' := .agg (cTm Tz pz).toArray) (by first | exact .inr rfl | exact .inl rfl) Tryz.results32 ⟨_, rfl, LoadV.whole (te rfl) rfl (List.Mem.tail _ (List.Mem.tail _ (List.Mem.head _))) rfl⟩ ⟨_, rfl, LoadV.whole (te rfl) rfl (List.Mem.tail _ (List.Mem.head _)) rfl⟩ rfl (H' := H) (by (repeat (first | exact List.Sublist.refl _ | apply List.Sublist.cons)); done) (progT2_no (splF_nn hok (by assumption)) H)
    rename_i b2 b4 h0
    have hn : 1 ≤ n ∧ n ≤ T.bales - 1 := h
    obtain ⟨b5, hb5⟩ : ∃ b, b = bx := ⟨_, rfl⟩
    rw [← hb5]
    clear hb5 h
    rw [splF_ok hok hn]
    refine X.weakR (H' := ⟨b5, 0, cTm Tz pz, some 32, 11⟩ :: ⟨b4, 0, cTm Tz pz, some 32, 11⟩ :: ⟨b2, 0, cTm T p, some 32, 11⟩ :: H) (by (repeat (first | exact List.Sublist.refl _ | apply List.Sublist.cons_cons | apply List.Sublist.cons)); done) ?_
    refine X.permH (H' := ⟨b4, 0, cTm Tz pz, some 32, 11⟩ :: ⟨b5, 0, cTm Tz pz, some 32, 11⟩ :: ⟨b2, 0, cTm T p, some 32, 11⟩ :: H) (List.Perm.swap _ _ _) ?_
    refine X.regionOb tsSl [1, 2, 4, 5] [(1, .int .i64 n), (2, .pointer (some ⟨b2, 0, none⟩)), (4, .pointer (some ⟨b4, 0, none⟩)), (5, .pointer (some ⟨b5, 0, none⟩))] (valSl b2 b4 b5 n T p) (rowsSl b2 b4 b5 n T p) (fun _ => (0, 0)) (⟨b2, 0, cTm T p, some 32, 11⟩ :: H) rfl mixed (by (repeat (first | exact Sub.nil _ | refine Sub.cons rfl ?_)); done) rfl (by kernel_rfl) (locSl b2 b4 b5 n T p) (List.Sublist.refl _) ?_ ?_
    · have hs : ∀ (S : List Row), (∀ r ∈ ⟨b2, 0, cTm T p, some 32, 11⟩ :: H, r ∈ S) → TmOk S T p := fun S hS => hT.sub (fun r hr => hS r (List.mem_cons_of_mem _ hr))
      repeat' (first | exact AllF.done rfl | (refine AllF.step rfl ?_ ?_; · (first | fail | ((first | refine Ob.ng rfl ?_); (first | exact ObK.pure (fun env R hR => by exact ⟨_, EvF.move rfl rfl, rfl⟩) rfl (fun _ => rfl) | exact ObK.pure (fun env R hR => by exact ⟨_, EvF.assign rfl rfl, rfl⟩) rfl (fun _ => rfl) | exact ObK.pure (fun env R hR => by exact ⟨_, EvF.fieldAddr rfl rfl (te rfl) rfl (te rfl) (by decide), rfl⟩) rfl (fun _ => rfl) | exact ObK.pure (fun env R hR => by exact ⟨_, EvF.loadV rfl rfl (LoadV.own (te rfl) rfl (hR _ (List.Mem.head _)) rfl), rfl⟩) rfl (fun _ => rfl) | exact ObK.pure (fun env R hR => by exact ⟨_, EvF.loadV rfl rfl (LoadV.whole (te rfl) rfl (hR _ (List.Mem.head _)) rfl), rfl⟩) rfl (fun _ => rfl) | (exact fun env S hS => (OpF.call (EnF.st rfl (Args.cons rfl (Args.cons rfl Args.nil))) (withBales_spec T p n _ (hs S hS) (by omega) (by omega))).mono (fun v H' ⟨t1, k1, t2, k2, hv, hH⟩ => ⟨(pr2 (t1, k1), pr2 (t2, k2)), fun _ => by (show v = .agg (cTm (withB T n) (pl4 (pr2 (t1, k1), pr2 (t2, k2)))).toArray; rw [pl4_enc]; exact hv), by (show List.Perm H' (ro4 T (pr2 (t1, k1), pr2 (t2, k2)) ++ _); rw [hH, ro4_enc]; exact List.Perm.refl _)⟩)) | (exact fun env S hS => (OpF.call (EnF.st rfl (Args.cons rfl (Args.cons rfl Args.nil))) (withBales_spec T p (T.bales - n) _ (hs S hS) (by omega) (by omega))).mono (fun v H' ⟨t1, k1, t2, k2, hv, hH⟩ => ⟨(pr2 (t1, k1), pr2 (t2, k2)), fun _ => by (show v = .agg (cTm (withB T (T.bales - n)) (pl4 (pr2 (t1, k1), pr2 (t2, k2)))).toArray; rw [pl4_enc]; exact hv), by (show List.Perm H' (ro4 T (pr2 (t1, k1), pr2 (t2, k2)) ++ _); rw [hH, ro4_enc]; exact List.Perm.refl _)⟩)) | (exact ObK.pure (fun env S hS => ⟨_, EvF.sub64 rfl rfl rfl (by omega) (by omega), rfl⟩) rfl (fun _ => rfl)) | (exact fun env S hS => (StF.storeAll (i := 0) (vs := cTm (withB T n) (pl4 (env 2))) (cs := cTm Tz pz) rfl rfl rfl (te rfl) rfl rfl rfl rfl).op.mono (fun v H' ⟨hv, hH⟩ => ⟨(0, 0), fun h => absurd rfl h, by rw [hH]; exact List.Perm.refl _⟩)) | (exact fun env S hS => (StF.storeAll (i := 0) (vs := cTm (withB T (T.bales - n)) (pl4 (env 8))) (cs := cTm Tz pz) rfl rfl rfl (te rfl) rfl rfl rfl rfl).op.mono (fun v H' ⟨hv, hH⟩ => ⟨(0, 0), fun h => absurd rfl h, by rw [hH]; exact List.Perm.refl _⟩)))))))
    · intro env t ha hv
      refine ⟨_, ha.cons (hv 11 6 (Nat.le_of_ble_eq_true rfl) rfl), ?_⟩
      show X _ _ _ _ (ro4 T (env 2) ++ (ro4 T (env 8) ++ (⟨b4, 0, cTm (withB T n) (pl4 (env 2)), some 32, 11⟩ :: ⟨b5, 0, cTm (withB T (T.bales - n)) (pl4 (env 8)), some 32, 11⟩ :: ⟨b2, 0, cTm T p, some 32, 11⟩ :: H))) _
      refine X.permH (H' := ⟨b4, 0, cTm (withB T n) (pl4 (env 2)), some 32, 11⟩ :: ⟨b5, 0, cTm (withB T (T.bales - n)) (pl4 (env 8)), some 32, 11⟩ :: ⟨b2, 0, cTm T p, some 32, 11⟩ :: (ro4 T (env 2) ++ (ro4 T (env 8) ++ H))) ?_ ?_
      · exact (List.perm_append_comm_assoc [_, _, _] (ro4 T (env 2)) _).trans (List.Perm.append_left _ (List.perm_append_comm_assoc [_, _, _] (ro4 T (env 8)) _))
      repeat' (first | refine X.ret rfl ?_)
      exact ret_three (v := .agg (cTm (withB T n) (pl4 (env 2))).toArray) (v' := .agg (cTm (withB T (T.bales - n)) (pl4 (env 8))).toArray) (by first | exact .inr rfl | exact .inl rfl) Tryz.results32 ⟨_, rfl, LoadV.whole (te rfl) rfl (List.Mem.head _) rfl⟩ ⟨_, rfl, LoadV.whole (te rfl) rfl (List.Mem.tail _ (List.Mem.head _)) rfl⟩ rfl (H' := ro4 T (env 2) ++ (ro4 T (env 8) ++ H)) (by (repeat (first | exact List.Sublist.refl _ | apply List.Sublist.cons)); done) ⟨_, _, _, _, rfl, ro4_own (withB T n) (env 2), ro4_own (withB T (T.bales - n)) (env 8), rfl⟩
  · refine Fc.mk (callable Tryz.call32) Tryz.func32 rfl Tryz.ntmps32 rfl ?_; dsimp only [fr]
    repeat' (first | (refine XO.op rfl ?_; (first | ((first | refine Xo.ng rfl ?_); (first | (refine Xg.call (EnF.st rfl (Args.cons rfl Args.nil)) rfl rfl (checkF T p hok _ (hT1 [_, _, _])) ?_; rintro _ H9 ⟨rfl, hH9⟩; subst H9) | (refine Xg.ev (EvF.tz rfl) rfl rfl ?_) | (refine Xg.ev (EvF.move rfl rfl) rfl rfl ?_) | (refine Xg.ev (EvF.assign rfl rfl) rfl rfl ?_) | (refine Xg.ev (EvF.cmp rfl rfl rfl rfl) rfl rfl ?_) | (refine Xg.ev (EvF.sub64 rfl rfl rfl (by omega) (by omega)) rfl rfl ?_) | (refine Xg.ev (EvF.fieldAddr rfl rfl (te rfl) rfl (te rfl) (by decide)) rfl rfl ?_) | (refine Xg.ev (EvF.loadV rfl rfl (LoadV.own (te rfl) rfl (List.Mem.tail _ (List.Mem.tail _ (List.Mem.head _))) rfl)) rfl rfl ?_) | (refine Xg.ev (EvF.loadV rfl rfl (LoadV.whole (te rfl) rfl (List.Mem.tail _ (List.Mem.tail _ (List.Mem.head _))) rfl)) rfl rfl ?_) | (refine Xg.st (StF.boxAgg rfl rfl) rfl rfl ?_; rintro _ _ ⟨bx, rfl, rfl⟩) | (refine Xg.st (StF.alloc rfl Tryz.zeroValue32 rfl) rfl rfl ?_; rintro _ _ ⟨bx, rfl, rfl⟩) | (refine Xg.st0 (StF.storeAll (i := 0) rfl rfl rfl (te rfl) rfl rfl rfl rfl) rfl ?_; rintro _ _ ⟨rfl, rfl⟩; dsimp only [List.set]) | (refine Xg.st0 (StF.storeAll (i := 1) rfl rfl rfl (te rfl) rfl rfl rfl rfl) rfl ?_; rintro _ _ ⟨rfl, rfl⟩; dsimp only [List.set]))))) | (refine XO.done rfl ?_; refine hK _ _ ?_; clear hK K) | refine X.seq rfl ?_ | refine X.region rfl (fun K hK => ?_) | refine X.skip rfl ?_ | refine X.ret rfl ?_ | (refine X.ite rfl rfl (fun hc => ?_); (first | (with_reducible refine Xb.caseN hc (fun h => ?_) (fun h => ?_))) <;> clear hc))
    all_goals try (exfalso; contradiction)
    all_goals try (exfalso; omega)
    exact ret_three (v := .agg (cTm Tz pz).toArray) (v' := .agg (cTm Tz pz).toArray) (by first | exact .inr rfl | exact .inl rfl) Tryz.results32 ⟨_, rfl, LoadV.whole (te rfl) rfl (List.Mem.tail _ (List.Mem.head _)) rfl⟩ ⟨_, rfl, LoadV.whole (te rfl) rfl (List.Mem.head _) rfl⟩ rfl (H' := H) (by (repeat (first | exact List.Sublist.refl _ | apply List.Sublist.cons)); done) (progT2_no (splF_nt hok) H)
end Go.Proofs.YtcjlegjchllgjaaGreat
end
section
set_option linter.unusedVariables false
set_option linter.unusedSimpArgs false
namespace Go.Proofs.YtcjlegjchllgjaaGreat
open Go Go.Fw
set_option maxRecDepth 10000
theorem from1_spec (n base : Int) (l : List Int) (a : Option Addr) (c bt bb cap cap' : Nat) (ow ow' : Option Kd) (H : List Row) (hm : ⟨bt, 0, [.slice a l.length c], ow, cap⟩ ∈ H) (hq : ⟨bb, 0, [.int .i64 base], ow', cap'⟩ ∈ H) (hl : SlE H a cI 1 l) (ht : tab l) (hb : 1 ≤ base ∧ base ≤ 9) (hn : -1000 ≤ n ∧ n ≤ 1000) :
    Fc Tryz.prog 103 ([.int .i64 n] ++ [.pointer (some ⟨bt, 0, none⟩), .pointer (some ⟨bb, 0, none⟩)]) H (fun v H' => v = .int .i64 (n - at1 l base) ∧ H' = H) := by
  show Fc Tryz.prog 103 [.int .i64 n, .pointer (some ⟨bt, 0, none⟩), .pointer (some ⟨bb, 0, none⟩)] H _
  have hx := at1_get hb ht.1
  have hlen := ht.1
  have q := ht.at1 hb
  obtain ⟨b1, o1, e1, rfl, _⟩ := hl.elem (i := 0) (by omega)
  refine Fc.mk (callable Tryz.call103) Tryz.func103 rfl Tryz.ntmps103 rfl ?_; dsimp only [fr]
  repeat' (first | (refine XO.op rfl ?_; (first | ((first | refine Xo.ng rfl ?_); (first | (refine Xg.ev (EvF.loadV rfl rfl (LoadV.own (te rfl) rfl hm rfl)) rfl rfl ?_) | (refine Xg.ev (EvF.loadV rfl rfl (LoadV.own (te rfl) rfl hq rfl)) rfl rfl ?_) | (refine Xg.ev (EvF.indexSlice rfl rfl rfl (te rfl) (te rfl) (by omega) (by omega)) rfl rfl ?_) | (refine Xg.ev (EvF.loadV rfl rfl (LoadV.el0 hl hx (te rfl) rfl (fun _ hm => hm) rfl)) rfl rfl ?_) | (refine Xg.ev (EvF.move rfl rfl) rfl rfl ?_) | (refine Xg.ev (EvF.assign rfl rfl) rfl rfl ?_) | (refine Xg.ev (EvF.sub64 rfl rfl rfl (by omega) (by omega)) rfl rfl ?_))))) | (refine XO.done rfl ?_; refine hK _ _ ?_; clear hK K) | refine X.seq rfl ?_ | refine X.region rfl (fun K hK => ?_) | refine X.ret rfl ?_)
  refine ret_one (by first | exact .inr rfl | exact .inl rfl) Tryz.results103 rfl (H' := H) (by (repeat (first | exact List.Sublist.refl _ | apply List.Sublist.cons)); done) ?_; simp only [and_true, true_and]
theorem numbersI_spec (g : Nat) (cap : List Value) (f : Int → Int) (l : List Int) (a : Option Addr) (c : Nat) (H : List Row) (hl : SlE H a cI 1 l) (hb : l.length ≤ 1000000) (h0 : 0 < l.length) (hg : ∀ e ∈ l, ∀ Z : List Row, Fc Tryz.prog g ([.int .i64 e] ++ cap) (Z ++ H) (fun v H' => v = .int .i64 (f e) ∧ H' = Z ++ H)) :
    Fc Tryz.prog 102 [.slice a l.length c, .func (.func g) #[] cap.toArray] H (fun v H' => ∃ b k, v = .slice (some ⟨b, 0, none⟩) l.length k ∧ H' = rI (l.map f) b k :: H) := by
  refine Fc.mk (callable Tryz.call102) Tryz.func102 rfl Tryz.ntmps102 rfl ?_; dsimp only [fr]
  repeat' (first | (refine XO.op rfl ?_; (first | ((first | refine Xo.ng rfl ?_); (first | (refine Xg.ev (EvF.move rfl rfl) rfl rfl ?_) | (refine Xg.ev (EvF.assign rfl rfl) rfl rfl ?_) | (refine Xg.ev (EvF.cmp rfl rfl rfl rfl) rfl rfl ?_) | (refine Xg.ev (EvF.lenSlice rfl rfl (te rfl)) rfl rfl ?_))))) | (refine XO.done rfl ?_; refine hK _ _ ?_; clear hK K) | refine X.seq rfl ?_ | refine X.region rfl (fun K hK => ?_) | refine X.block rfl ?_ | (refine X.brk rfl ?_; repeat (first | refine blockX_hit rfl ?_ | refine blockX_miss (by decide) ?_)) | refine X.skip rfl ?_ | refine X.ret rfl ?_ | (refine X.ite rfl rfl (fun hc => ?_); (first | (with_reducible refine Xb.case hc (fun h => ?_) (fun h => ?_))) <;> clear hc))
  refine X.lp rfl (fun q F' H' => ∃ (k : Nat) (out : Value) (Z : List Row), q = l.length - k ∧ k ≤ l.length ∧ ((k = 0 ∧ out = .slice none 0 0 ∧ Z = []) ∨ ∃ b q, out = .slice (some ⟨b, 0, none⟩) k q ∧ Z = [⟨b, 0, ((l.take k).map f).flatMap cI, some 3, q * 1⟩]) ∧ Z ++ H = H' ∧
      F' = [(1, .func (.func g) #[] cap.toArray), (5, out), (8, .slice a l.length c), (9, .int .i64 l.length), (10, .int .i64 k)])
    l.length [(1, .func (.func g) #[] cap.toArray), (5, .slice none 0 0), (8, .slice a l.length c), (9, .int .i64 l.length), (10, .int .i64 (0 : Nat))] _ (by (repeat (first | exact Sub.nil _ | refine Sub.cons rfl ?_)); done) (by (repeat (first | exact List.Sublist.refl _ | apply List.Sublist.cons_cons | apply List.Sublist.cons)); done) ⟨0, _, [], by omega, by omega, .inl ⟨rfl, rfl, rfl⟩, rfl, rfl⟩ ?_
  rintro _ _ H2 ⟨k, out, Z, rfl, hk, ⟨rfl, rfl, rfl⟩ | ⟨b0, q0, rfl, rfl⟩, hH, rfl⟩
  · rw [List.nil_append] at hH
    subst hH
    repeat' (first | (refine XO.op rfl ?_; (first | ((first | refine Xo.ng rfl ?_); (first | (refine Xg.ev (EvF.move rfl rfl) rfl rfl ?_) | (refine Xg.ev (EvF.assign rfl rfl) rfl rfl ?_) | (refine Xg.ev (EvF.cmp rfl rfl rfl rfl) rfl rfl ?_) | (refine Xg.ev (EvF.lenSlice rfl rfl (te rfl)) rfl rfl ?_))))) | (refine XO.done rfl ?_; refine hK _ _ ?_; clear hK K) | refine X.seq rfl ?_ | refine X.region rfl (fun K hK => ?_) | refine X.block rfl ?_ | (refine X.brk rfl ?_; repeat (first | refine blockX_hit rfl ?_ | refine blockX_miss (by decide) ?_)) | refine X.skip rfl ?_ | refine X.ret rfl ?_ | (refine X.ite rfl rfl (fun hc => ?_); (first | (with_reducible refine Xb.case hc (fun h => ?_) (fun h => ?_))) <;> clear hc))
    · obtain ⟨b, off, e, rfl, he⟩ := hl.elem (i := 0) (by omega)
      have hge := hg e (List.mem_of_getElem? he)
      repeat' (first | (refine XO.op rfl ?_; (first | ((first | refine Xo.ng rfl ?_); (first | (refine Xg.ev (EvF.loadV rfl rfl (LoadV.el1 hl he (te rfl) rfl (fun _ hm => hm) rfl)) rfl rfl ?_) | (refine Xg.call (EnF.dyn0 rfl rfl (by (repeat (first | exact Args.nil | refine Args.cons rfl ?_)); done)) rfl rfl (hge []) ?_; rintro _ H9 ⟨rfl, hH9⟩; subst H9) | (refine Xg.st (StF.buildOne rfl elI rfl rfl rfl (by decide) (by decide)) rfl rfl ?_; rintro _ _ ⟨bs, rfl, rfl⟩) | (refine Xg.st (StF.appendNew rfl elI rfl rfl (by decide) rfl (Rd.own (List.Mem.head _)) (by decide)) rfl rfl ?_; rintro _ _ ⟨bn, kn, rfl, rfl⟩) | (refine Xg.ev (EvF.move rfl rfl) rfl rfl ?_) | (refine Xg.ev (EvF.assign rfl rfl) rfl rfl ?_) | (refine Xg.ev (EvF.add64 rfl rfl rfl (by omega) (by omega)) rfl rfl ?_) | (refine Xg.ev (EvF.indexSlice rfl rfl rfl (te rfl) (te rfl) (by omega) (by omega)) rfl rfl ?_))))) | (refine XO.done rfl ?_; refine hK _ _ ?_; clear hK K) | refine X.region rfl (fun K hK => ?_))
      refine ⟨_, _, _, (by (repeat (first | exact Sub.nil _ | refine Sub.cons rfl ?_)); done), ?_, ⟨0 + 1, _, [⟨bn, 0, ((l.take (0 + 1)).map f).flatMap cI, some 3, kn * 1⟩], rfl, by omega, .inr ⟨_, _, rfl, rfl⟩, rfl, rfl⟩, by omega⟩
      rw [take_snoc he]
      exact (by (repeat (first | exact List.Sublist.refl _ | apply List.Sublist.cons_cons | apply List.Sublist.cons)); done)
    · exfalso; omega
  · have hlen : (((l.take k).map f).flatMap cI).length = k * 1 := by rw [lenI, List.length_map, List.length_take]; omega
    simp only [List.cons_append, List.nil_append] at hH
    subst hH
    repeat' (first | (refine XO.op rfl ?_; (first | ((first | refine Xo.ng rfl ?_); (first | (refine Xg.ev (EvF.move rfl rfl) rfl rfl ?_) | (refine Xg.ev (EvF.assign rfl rfl) rfl rfl ?_) | (refine Xg.ev (EvF.cmp rfl rfl rfl rfl) rfl rfl ?_) | (refine Xg.ev (EvF.lenSlice rfl rfl (te rfl)) rfl rfl ?_))))) | (refine XO.done rfl ?_; refine hK _ _ ?_; clear hK K) | refine X.seq rfl ?_ | refine X.region rfl (fun K hK => ?_) | refine X.block rfl ?_ | (refine X.brk rfl ?_; repeat (first | refine blockX_hit rfl ?_ | refine blockX_miss (by decide) ?_)) | refine X.skip rfl ?_ | refine X.ret rfl ?_ | (refine X.ite rfl rfl (fun hc => ?_); (first | (with_reducible refine Xb.case hc (fun h => ?_) (fun h => ?_))) <;> clear hc))
    · obtain ⟨b, off, e, rfl, he⟩ := hl.elem (i := k) (by omega)
      have hl1 : ∀ r, SlE (r :: H) (some ⟨b, off, none⟩) cI 1 l := fun r => hl.sub (fun _ h => List.mem_cons_of_mem _ h)
      have hge : ∀ r, Fc Tryz.prog g ([.int .i64 e] ++ cap) (r :: H) (fun v H' => v = .int .i64 (f e) ∧ H' = r :: H) := fun r => hg e (List.mem_of_getElem? he) [r]
      repeat' (first | (refine XO.op rfl ?_; (first | ((first | refine Xo.ng rfl ?_); (first | (refine Xg.ev (EvF.loadV rfl rfl (LoadV.el0 (hl1 _) he (te rfl) rfl (fun _ hm => hm) rfl)) rfl rfl ?_) | (refine Xg.call (EnF.dyn0 rfl rfl (by (repeat (first | exact Args.nil | refine Args.cons rfl ?_)); done)) rfl rfl (hge _) ?_; rintro _ H9 ⟨rfl, hH9⟩; subst H9) | (refine Xg.st (StF.buildOne rfl elI rfl rfl rfl (by decide) (by decide)) rfl rfl ?_; rintro _ _ ⟨bs, rfl, rfl⟩) | (refine Xg.st (StF.appendOwn (i := 1) rfl elI rfl rfl rfl hlen rfl (Rd.own (List.Mem.head _)) rfl (by omega)) rfl rfl ?_; rintro _ _ ⟨bn, kn, rfl, rfl⟩; dsimp only [List.eraseIdx]) | (refine Xg.ev (EvF.move rfl rfl) rfl rfl ?_) | (refine Xg.ev (EvF.assign rfl rfl) rfl rfl ?_) | (refine Xg.ev (EvF.add64 rfl rfl rfl (by omega) (by omega)) rfl rfl ?_) | (refine Xg.ev (EvF.indexSlice rfl rfl rfl (te rfl) (te rfl) (by omega) (by omega)) rfl rfl ?_))))) | (refine XO.done rfl ?_; refine hK _ _ ?_; clear hK K) | refine X.region rfl (fun K hK => ?_))
      refine ⟨_, _, _, (by (repeat (first | exact Sub.nil _ | refine Sub.cons rfl ?_)); done), ?_, ⟨k + 1, _, [⟨bn, 0, ((l.take (k + 1)).map f).flatMap cI, some 3, kn * 1⟩], rfl, by omega, .inr ⟨_, _, rfl, rfl⟩, rfl, rfl⟩, by omega⟩
      rw [take_snoc he, List.map_append, List.flatMap_append]
      exact (by (repeat (first | exact List.Sublist.refl _ | apply List.Sublist.cons_cons | apply List.Sublist.cons)); done)
    · obtain rfl : k = l.length := by omega
      rw [List.take_length]
      exact ret_one (by first | exact .inr rfl | exact .inl rfl) Tryz.results102 rfl (H' := ⟨b0, 0, (l.map f).flatMap cI, some 3, q0 * 1⟩ :: H) (by (repeat (first | exact List.Sublist.refl _ | apply List.Sublist.cons_cons | apply List.Sublist.cons)); done) ⟨b0, q0, rfl, rfl⟩
theorem from_spec (l : List Int) (base : Int) (a : Option Addr) (c : Nat) (H : List Row) (hl : SlE H a cI 1 l) (ht : tab l) (hb : 1 ≤ base ∧ base ≤ 9) :
    Fc Tryz.prog 65 [.slice a l.length c, .int .i64 base] H (fun v H' => ∃ b k, v = .slice (some ⟨b, 0, none⟩) l.length k ∧ H' = rI (l.map (fun n => n - at1 l base)) b k :: H) := by
  have hlen := ht.1
  refine Fc.mk (callable Tryz.call65) Tryz.func65 rfl Tryz.ntmps65 rfl ?_; dsimp only [fr]
  repeat' (first | (refine XO.op rfl ?_; (first | ((first | refine Xo.ng rfl ?_); (first | (refine Xg.ev (EvF.makeFunc rfl Args.nil (Args.cons rfl (Args.cons rfl Args.nil))) rfl rfl ?_) | (refine Xg.call (EnF.st rfl (by (repeat (first | exact Args.nil | refine Args.cons rfl ?_)); done)) rfl rfl (numbersI_spec 103 [_, _] (fun n => n - at1 l base) l a c _ (hl.sub (fun _ h => List.Mem.tail _ (List.Mem.tail _ h))) (by omega) (by omega) (fun e he Z => from1_spec e base l a c _ _ _ _ _ _ _ (List.mem_append_right _ (List.Mem.tail _ (List.Mem.head _))) (List.mem_append_right _ (List.Mem.head _)) (hl.sub (fun _ h => List.mem_append_right _ (List.Mem.tail _ (List.Mem.tail _ h)))) ht hb (ht.2 e he))) ?_; rintro _ _ ⟨b, k, rfl, rfl⟩) | (refine Xg.ev (EvF.assign rfl rfl) rfl rfl ?_) | (refine Xg.ev (EvF.loadV rfl rfl (LoadV.own (te rfl) rfl (List.Mem.tail _ (List.Mem.head _)) rfl)) rfl rfl ?_) | (refine Xg.st (StF.boxOne rfl rfl rfl) rfl rfl ?_; rintro _ _ ⟨bx, rfl, rfl⟩))))) | (refine XO.done rfl ?_; refine hK _ _ ?_; clear hK K) | refine X.seq rfl ?_ | refine X.region rfl (fun K hK => ?_) | refine X.ret rfl ?_)
  exact ret_one (by first | exact .inr rfl | exact .inl rfl) Tryz.results65 rfl (H' := rI (l.map (fun n => n - at1 l base)) b k :: H) (by (repeat (first | exact List.Sublist.refl _ | apply List.Sublist.cons_cons | apply List.Sublist.cons)); done) ⟨b, k, rfl, rfl⟩
end Go.Proofs.YtcjlegjchllgjaaGreat
end
section
set_option linter.unusedVariables false
set_option linter.unusedSimpArgs false
namespace Go.Proofs.YtcjlegjchllgjaaGreat
open Go Go.Fw
set_option maxRecDepth 10000
theorem openY (T : Tm) (p : Pt) (A : Ab) (q : Pa) (H : List Row) (hT : TmOk H T p) (hA : AbOk H A q) (hd : HD A) (hi : HI A) (h : openE T A = 0) :
    Fc Tryz.prog 59 [.agg (cTm T p).toArray, .agg (cAb A q).toArray] H (fun v H' => v = .tuple #[.agg (cTm T p).toArray, .int .i64 0] ∧ H' = H) := by
  have := openD_spec T p A q H hT hA hd hi
  unfold opT opP at this
  rwa [h, if_pos rfl, if_pos rfl] at this
theorem openN (T : Tm) (p : Pt) (A : Ab) (q : Pa) (H : List Row) (er : Int) (hT : TmOk H T p) (hA : AbOk H A q) (hd : HD A) (hi : HI A) (h : openE T A = er) (h0 : er ≠ 0) :
    Fc Tryz.prog 59 [.agg (cTm T p).toArray, .agg (cAb A q).toArray] H (fun v H' => v = .tuple #[.agg (cTm Tz pz).toArray, .int .i64 er] ∧ H' = H) := by
  have := openD_spec T p A q H hT hA hd hi
  unfold opT opP at this
  rwa [h, if_neg h0, if_neg h0] at this
theorem rebF_no {T : Tm} {c : Cl} {er : Int} (h : openE T (abI c) = er) (h0 : er ≠ 0) : rebF T c = (Tz, er) := by
  rw [openI'] at h
  unfold rebF
  by_cases h1 : askedE T c = 0
  · rw [if_pos h1] at h ⊢
    by_cases h2 : may T c = true
    · rw [if_pos h2] at h; exact absurd h.symm h0
    · rw [if_neg h2] at h ⊢; rw [h]
  · rw [if_neg h1] at h ⊢; rw [h]
theorem rebF_ok {T : Tm} {c : Cl} (h1 : askedE T c = 0) (h2 : may T c = true) : rebF T c = vld (rebT T c) := by
  unfold rebF
  rw [if_pos h1, if_pos h2]
theorem openI_ok {T : Tm} {c : Cl} (h : openE T (abI c) = 0) : askedE T c = 0 ∧ may T c = true := by
  rw [openI'] at h
  by_cases h1 : askedE T c = 0
  · rw [if_pos h1] at h
    by_cases h2 : may T c = true
    · exact ⟨h1, h2⟩
    · rw [if_neg h2] at h; exact absurd h (by decide)
  · rw [if_neg h1] at h; exact absurd h h1
def clT (T : Tm) (c : Cl) : Tm := { T with g := c.g, s := c.s }
def baT (T : Tm) (c : Cl) (v : Int) : Tm := { T with g := c.g, s := c.s, price := v }
theorem cTm_reb (T : Tm) (c : Cl) (p : Pt) : cTm (rebT T c) p = cTm (baT T c (val T c.g c.s)) p := by
  unfold cTm rebT baT
  simp only [List.length_map]
theorem okI (H : List Row) (c : Cl) (b cap : Nat) (ow : Option Kd) (hm : ⟨b, 0, cLo (lo1 c), ow, cap⟩ ∈ H) : AbOk H (abI c) ⟨none, 0, some ⟨b, 0, none⟩, 1, none, 0, some ⟨b, 0, none⟩, 1⟩ :=
  ⟨sleNil, SlE.ofRow (cap := cap) (ow := ow) hm (fun _ _ => rfl), sleNil, SlE.ofRow (cap := cap) (ow := ow) hm (fun _ _ => rfl), (fun d hd => absurd hd List.not_mem_nil), Nat.zero_le _, Nat.le_of_ble_eq_true rfl, Nat.zero_le _, Nat.le_of_ble_eq_true rfl⟩
def tsPa : List TOp := [⟨some 24, [], [], []⟩, ⟨some 25, [], [], []⟩, ⟨some 26, [], [], []⟩, ⟨some 27, [1, 2], [1, 2], []⟩, ⟨some 28, [0], [], []⟩, ⟨none, [0, 1, 2, 3, 4], [4, 0], [8]⟩, ⟨some 29, [0, 1, 2, 3, 4, 5], [], []⟩, ⟨none, [0, 1, 2, 3, 4, 5, 6], [6, 3], [5]⟩, ⟨none, [], [], []⟩]
def valPa (b2 b3 b4 b7 : Nat) (T : Tm) (p : Pt) (c : Cl) (v : Int) (k : Nat) (env : Env) : Value :=
  match k with
  | 0 => .agg (cCl c).toArray
  | 1 => .agg (cTm T p).toArray
  | 2 => .agg (cCl c).toArray
  | 3 => .int .i64 v
  | 4 => .pointer (some ⟨b2, 0, none⟩)
  | 5 => undef
  | 6 => .pointer (some ⟨b2, 2, none⟩)
  | 7 => undef
  | _ => undef
def rowsPa (b2 b3 b4 b7 : Nat) (T : Tm) (p : Pt) (c : Cl) (v : Int) (k : Nat) (env : Env) : List Row :=
  match k with
  | 5 => [⟨b2, 0, cTm (clT T c) p, some 32, 11⟩]
  | 7 => [⟨b2, 0, cTm (baT T c v) p, some 32, 11⟩]
  | 8 => [⟨b2, 0, cTm T p, some 32, 11⟩]
  | _ => []
theorem locPa (b2 b3 b4 b7 : Nat) (T : Tm) (p : Pt) (c : Cl) (v : Int) : ∀ k env i q9, i ≠ k → (tAt tsPa k).sup.contains i = false → valPa b2 b3 b4 b7 T p c v k (upd env i q9) = valPa b2 b3 b4 b7 T p c v k env ∧ rowsPa b2 b3 b4 b7 T p c v k (upd env i q9) = rowsPa b2 b3 b4 b7 T p c v k env := by
  intro k env i q hk hs
  have hu : ∀ j, j ≠ i → upd env i q j = env j := fun j hj => by unfold upd; rw [if_neg hj]
  match k, hk, hs with
  | 0, _, _ => exact ⟨rfl, rfl⟩
  | 1, _, _ => exact ⟨rfl, rfl⟩
  | 2, _, _ => exact ⟨rfl, rfl⟩
  | 3, _, _ => exact ⟨rfl, rfl⟩
  | 4, _, _ => exact ⟨rfl, rfl⟩
  | 5, _, _ => exact ⟨rfl, rfl⟩
  | 6, _, _ => exact ⟨rfl, rfl⟩
  | 7, _, _ => exact ⟨rfl, rfl⟩
  | 8, _, _ => exact ⟨rfl, rfl⟩
  | _ + 9, _, _ => exact ⟨rfl, rfl⟩
def tsPb : List TOp := [⟨some 30, [], [], []⟩, ⟨some 31, [0], [0], []⟩, ⟨some 32, [], [], []⟩, ⟨some 33, [2], [2], []⟩, ⟨some 34, [0, 1, 2, 3], [1, 3], []⟩, ⟨some 35, [], [], []⟩, ⟨some 36, [5], [5], []⟩, ⟨some 37, [], [], []⟩, ⟨some 38, [7], [7], []⟩, ⟨some 39, [0, 1, 2, 3, 4, 5, 6, 7, 8], [6, 8], []⟩, ⟨some 40, [0, 1, 2, 3, 4, 5, 6], [], []⟩, ⟨none, [0, 1, 2, 3, 4, 5, 6, 7, 8, 9, 10], [10, 4], [14]⟩, ⟨some 41, [0, 1, 2, 3, 4, 5, 6, 7, 8, 9, 10, 11], [], []⟩, ⟨none, [0, 1, 2, 3, 4, 5, 6, 7, 8, 9, 10, 11, 12], [12, 9], [11]⟩, ⟨none, [], [], []⟩]
def valPb (b2 b3 b4 : Nat) (T : Tm) (U : Tm) (c : Cl) (a1 a2 : Option Addr) (c1 c2 : Nat) (k : Nat) (env : Env) : Value :=
  match k with
  | 0 => .pointer (some ⟨b2, 5, none⟩)
  | 1 => .slice a1 T.G.length c1
  | 2 => .pointer (some ⟨b3, 0, none⟩)
  | 3 => .int .i64 c.g
  | 4 => .slice (some ⟨(env 4).1, 0, none⟩) T.G.length (env 4).2
  | 5 => .pointer (some ⟨b2, 6, none⟩)
  | 6 => .slice a2 T.S.length c2
  | 7 => .pointer (some ⟨b3, 1, none⟩)
  | 8 => .int .i64 c.s
  | 9 => .slice (some ⟨(env 9).1, 0, none⟩) T.S.length (env 9).2
  | 10 => .pointer (some ⟨b2, 5, none⟩)
  | 11 => undef
  | 12 => .pointer (some ⟨b2, 6, none⟩)
  | 13 => undef
  | _ => undef
def rowsPb (b2 b3 b4 : Nat) (T : Tm) (U : Tm) (c : Cl) (a1 a2 : Option Addr) (c1 c2 : Nat) (k : Nat) (env : Env) : List Row :=
  match k with
  | 4 => [rI (T.G.map (fun n => n - at1 T.G c.g)) (env 4).1 (env 4).2]
  | 9 => [rI (T.S.map (fun n => n - at1 T.S c.s)) (env 9).1 (env 9).2]
  | 11 => [⟨b2, 0, cTm U ⟨some ⟨(env 4).1, 0, none⟩, (env 4).2, a2, c2⟩, some 32, 11⟩]
  | 13 => [⟨b2, 0, cTm U (plT (env 4).1 (env 4).2 (env 9).1 (env 9).2), some 32, 11⟩]
  | 14 => [⟨b2, 0, cTm U ⟨a1, c1, a2, c2⟩, some 32, 11⟩]
  | _ => []
theorem locPb (b2 b3 b4 : Nat) (T : Tm) (U : Tm) (c : Cl) (a1 a2 : Option Addr) (c1 c2 : Nat) : ∀ k env i q9, i ≠ k → (tAt tsPb k).sup.contains i = false → valPb b2 b3 b4 T U c a1 a2 c1 c2 k (upd env i q9) = valPb b2 b3 b4 T U c a1 a2 c1 c2 k env ∧ rowsPb b2 b3 b4 T U c a1 a2 c1 c2 k (upd env i q9) = rowsPb b2 b3 b4 T U c a1 a2 c1 c2 k env := by
  intro k env i q hk hs
  have hu : ∀ j, j ≠ i → upd env i q j = env j := fun j hj => by unfold upd; rw [if_neg hj]
  match k, hk, hs with
  | 0, _, _ => exact ⟨rfl, rfl⟩
  | 1, _, _ => exact ⟨rfl, rfl⟩
  | 2, _, _ => exact ⟨rfl, rfl⟩
  | 3, _, _ => exact ⟨rfl, rfl⟩
  | 4, hk, hs => exact ⟨by simp only [valPb, hu 4 (fun e => hk e.symm)], by simp only [rowsPb, hu 4 (fun e => hk e.symm)]⟩
  | 5, _, _ => exact ⟨rfl, rfl⟩
  | 6, _, _ => exact ⟨rfl, rfl⟩
  | 7, _, _ => exact ⟨rfl, rfl⟩
  | 8, _, _ => exact ⟨rfl, rfl⟩
  | 9, hk, hs => exact ⟨by simp only [valPb, hu 9 (fun e => hk e.symm)], by simp only [rowsPb, hu 9 (fun e => hk e.symm)]⟩
  | 10, _, _ => exact ⟨rfl, rfl⟩
  | 11, hk, hs => exact ⟨by simp only [valPb, hu 4 (by rintro rfl; cases hs)], by simp only [rowsPb, hu 4 (by rintro rfl; cases hs)]⟩
  | 12, _, _ => exact ⟨rfl, rfl⟩
  | 13, hk, hs => exact ⟨by simp only [valPb, hu 4 (by rintro rfl; cases hs), hu 9 (by rintro rfl; cases hs)], by simp only [rowsPb, hu 4 (by rintro rfl; cases hs), hu 9 (by rintro rfl; cases hs)]⟩
  | 14, _, _ => exact ⟨rfl, rfl⟩
  | _ + 15, _, _ => exact ⟨rfl, rfl⟩
def rdPb (k : Nat) : List Nat := match k with
  | 1 => [14]
  | 6 => [14]
  | _ => []
set_option maxHeartbeats 8000000 in
theorem kreb_spec (T : Tm) (p : Pt) (c : Cl) (H : List Row) (hT : TmOk H T p) : Fc Tryz.prog 23 [.agg (cTm T p).toArray, .agg (cCl c).toArray] H (ProgT (rebF T c) H) := by
  have hT1 : ∀ Z : List Row, TmOk (Z ++ H) T p := fun Z => hT.sub (fun _ h => List.mem_append_right _ h)
  obtain ⟨er, her⟩ : ∃ e, openE T (abI c) = e := ⟨_, rfl⟩
  by_cases h0 : er = 0
  · subst h0
    obtain ⟨hz, hm⟩ := openI_ok her
    obtain ⟨a1, c1, a2, c2⟩ := p
    obtain ⟨hok, hg, hs⟩ := askedE_zero hz
    have hp := hok.num.1
    rw [rebF_ok hz hm]
    refine Fc.mk (callable Tryz.call23) Tryz.func23 rfl Tryz.ntmps23 rfl ?_; dsimp only [fr]
    repeat' (first | (refine XO.op rfl ?_; (first | ((first | refine Xo.ng rfl ?_); (first | (refine Xg.call (EnF.st rfl (Args.cons rfl Args.nil)) rfl rfl (only_spec c _) ?_; rintro _ H9 ⟨rfl, hH9⟩; subst H9) | (refine Xg.st (StF.buildOne rfl elLo rfl rfl rfl (by decide) (by decide)) rfl rfl ?_; rintro _ _ ⟨bs, rfl, rfl⟩) | (refine Xg.ev (EvF.build (cs := cAb (abI c) ⟨none, 0, some ⟨bs, 0, none⟩, 1, none, 0, some ⟨bs, 0, none⟩, 1⟩) rfl (ArgsP.cons rfl (ArgsP.cons rfl ArgsP.nil)) (te rfl) (Places.cons (te rfl) (Places.cons (te rfl) (Places.cons (te rfl) (Places.cons (te rfl) Places.nil)))) Tryz.zeroValue97 rfl) rfl rfl ?_) | (refine Xg.call (EnF.st rfl (Args.cons rfl (Args.cons rfl Args.nil))) rfl rfl (openY T ⟨a1, c1, a2, c2⟩ (abI c) _ _ (hT1 [_, _, _, _]) (okI _ c _ _ _ (List.Mem.head _)) HD0 HI1 her) ?_; rintro _ H9 ⟨rfl, hH9⟩; subst H9) | (refine Xg.ev (EvF.move rfl rfl) rfl rfl ?_) | (refine Xg.ev (EvF.assign rfl rfl) rfl rfl ?_) | (refine Xg.ev (EvF.cmp rfl rfl rfl rfl) rfl rfl ?_) | (refine Xg.ev (EvF.loadV rfl rfl (LoadV.whole (te rfl) rfl (List.Mem.tail _ (List.Mem.head _)) rfl)) rfl rfl ?_) | (refine Xg.ev (EvF.loadV rfl rfl (LoadV.whole (te rfl) rfl (List.Mem.tail _ (List.Mem.tail _ (List.Mem.tail _ (List.Mem.head _)))) rfl)) rfl rfl ?_) | (refine Xg.ev (EvF.extract rfl rfl rfl) rfl rfl ?_) | (refine Xg.st (StF.boxAgg rfl rfl) rfl rfl ?_; rintro _ _ ⟨bx, rfl, rfl⟩) | (refine Xg.st (StF.alloc rfl Tryz.zeroValue32 rfl) rfl rfl ?_; rintro _ _ ⟨bx, rfl, rfl⟩) | (refine Xg.st0 (StF.storeAll (i := 0) rfl rfl rfl (te rfl) rfl rfl rfl rfl) rfl ?_; rintro _ _ ⟨rfl, rfl⟩; dsimp only [List.set]))))) | (refine XO.done rfl ?_; refine hK _ _ ?_; clear hK K) | refine X.seq rfl ?_ | refine X.region rfl (fun K hK => ?_) | refine X.skip rfl ?_ | (refine X.ite rfl rfl (fun hc => ?_); (first | (with_reducible refine Xb.caseN hc (fun h => ?_) (fun h => ?_))) <;> clear hc))
    all_goals try (exfalso; contradiction)
    obtain ⟨b7, hb7⟩ : ∃ b, b = bx := ⟨_, rfl⟩
    rw [← hb7]
    clear hb7
    rename_i b2 b3 b4
    refine X.weakR (H' := ⟨b7, 0, cTm T ⟨a1, c1, a2, c2⟩, some 99, 11⟩ :: ⟨b4, 0, cTm Tz pz, some 32, 11⟩ :: ⟨b3, 0, cCl c, some 27, 2⟩ :: ⟨b2, 0, cTm T ⟨a1, c1, a2, c2⟩, some 32, 11⟩ :: H) (by (repeat (first | exact List.Sublist.refl _ | apply List.Sublist.cons_cons | apply List.Sublist.cons)); done) ?_
    refine X.permH (H' := ⟨b2, 0, cTm T ⟨a1, c1, a2, c2⟩, some 32, 11⟩ :: ⟨b7, 0, cTm T ⟨a1, c1, a2, c2⟩, some 99, 11⟩ :: ⟨b4, 0, cTm Tz pz, some 32, 11⟩ :: ⟨b3, 0, cCl c, some 27, 2⟩ :: H) (List.perm_middle (l₁ := [_, _, _])).symm ?_
    refine X.regionOb tsPa [2, 3, 4, 7] [(2, .pointer (some ⟨b2, 0, none⟩)), (3, .pointer (some ⟨b3, 0, none⟩)), (4, .pointer (some ⟨b4, 0, none⟩)), (7, .pointer (some ⟨b7, 0, none⟩))] (valPa b2 b3 b4 b7 T ⟨a1, c1, a2, c2⟩ c (val T c.g c.s)) (rowsPa b2 b3 b4 b7 T ⟨a1, c1, a2, c2⟩ c (val T c.g c.s)) (fun _ => (0, 0)) (⟨b7, 0, cTm T ⟨a1, c1, a2, c2⟩, some 99, 11⟩ :: ⟨b4, 0, cTm Tz pz, some 32, 11⟩ :: ⟨b3, 0, cCl c, some 27, 2⟩ :: H) rfl mixed (by (repeat (first | exact Sub.nil _ | refine Sub.cons rfl ?_)); done) rfl (by kernel_rfl) (locPa b2 b3 b4 b7 T ⟨a1, c1, a2, c2⟩ c (val T c.g c.s)) (List.Sublist.refl _) ?_ ?_
    · repeat' (first | exact AllF.done rfl | (refine AllF.step rfl ?_ ?_; · (first | fail | ((first | refine Ob.ng rfl ?_); (first | exact ObK.pure (fun env R hR => by exact ⟨_, EvF.fieldAddr rfl rfl (te rfl) rfl (te rfl) (by decide), rfl⟩) rfl (fun _ => rfl) | exact ObK.pure (fun env R hR => by exact ⟨_, EvF.loadV rfl rfl (LoadV.whole (te rfl) rfl (hR _ (List.Mem.head _)) rfl), rfl⟩) rfl (fun _ => rfl) | exact ObK.pure (fun env R hR => by exact ⟨_, EvF.loadV rfl rfl (LoadV.whole (te rfl) rfl (hR _ (List.Mem.tail _ (List.Mem.tail _ (List.Mem.head _)))) rfl), rfl⟩) rfl (fun _ => rfl) | (exact fun env S hS => OpF.callV (Z := []) (EnF.st rfl (Args.cons rfl (Args.cons rfl Args.nil))) (value_spec T ⟨a1, c1, a2, c2⟩ c _ (hT.sub (fun _ h => hS _ (by repeat (first | exact h | apply List.Mem.tail)))) hok.gr hok.st (by omega) hg hs) rfl rfl) | (exact fun env S hS => (StF.storeAt (q := 0) (vs := cCl c) (cs := cTm T ⟨a1, c1, a2, c2⟩) rfl rfl rfl (te rfl) rfl rfl rfl (Nat.le_of_ble_eq_true rfl)).op.mono (fun v H' ⟨hv, hH⟩ => ⟨(0, 0), fun h => absurd rfl h, by rw [hH]; exact List.Perm.refl _⟩)) | (exact fun env S hS => (StF.storeOne (i := 0) (cs := cTm (clT T c) ⟨a1, c1, a2, c2⟩) rfl rfl rfl rfl (te rfl) rfl rfl (Nat.le_of_ble_eq_true rfl)).op.mono (fun v H' ⟨hv, hH⟩ => ⟨(0, 0), fun h => absurd rfl h, by rw [hH]; exact List.Perm.refl _⟩)))))))
    intro env t ha hv
    refine ⟨_, ha, ?_⟩
    clear hv
    show X _ _ _ _ (⟨b2, 0, cTm (baT T c (val T c.g c.s)) ⟨a1, c1, a2, c2⟩, some 32, 11⟩ :: ⟨b7, 0, cTm T ⟨a1, c1, a2, c2⟩, some 99, 11⟩ :: ⟨b4, 0, cTm Tz pz, some 32, 11⟩ :: ⟨b3, 0, cCl c, some 27, 2⟩ :: H) _
    refine X.seq rfl ?_
    refine X.regionRd tsPb rdPb [2, 3, 4] [(2, .pointer (some ⟨b2, 0, none⟩)), (3, .pointer (some ⟨b3, 0, none⟩)), (4, .pointer (some ⟨b4, 0, none⟩))] (valPb b2 b3 b4 T (baT T c (val T c.g c.s)) c a1 a2 c1 c2) (rowsPb b2 b3 b4 T (baT T c (val T c.g c.s)) c a1 a2 c1 c2) (fun _ => (0, 0)) (⟨b7, 0, cTm T ⟨a1, c1, a2, c2⟩, some 99, 11⟩ :: ⟨b4, 0, cTm Tz pz, some 32, 11⟩ :: ⟨b3, 0, cCl c, some 27, 2⟩ :: H) rfl mixed (by (repeat (first | exact Sub.nil _ | refine Sub.cons rfl ?_)); done) rfl (by kernel_rfl) (by kernel_rfl) (locPb b2 b3 b4 T (baT T c (val T c.g c.s)) c a1 a2 c1 c2) (List.Sublist.refl _) ?_ ?_
    · have hsb : ∀ (S : List Row), (∀ r ∈ ⟨b7, 0, cTm T ⟨a1, c1, a2, c2⟩, some 99, 11⟩ :: ⟨b4, 0, cTm Tz pz, some 32, 11⟩ :: ⟨b3, 0, cCl c, some 27, 2⟩ :: H, r ∈ S) → TmOk S T ⟨a1, c1, a2, c2⟩ := fun S hS => hT.sub (fun r hr => hS r (List.mem_append_right [_, _, _] hr))
      repeat' (first | exact AllF.done rfl | (refine AllF.step rfl ?_ ?_; · (first | exact (Ob.ng rfl (ObK.pure (fun env R hR => by exact ⟨_, EvF.fieldAddr rfl rfl (te rfl) rfl (te rfl) (by decide), rfl⟩) rfl (fun _ => rfl))).toR | exact (Ob.ng rfl (ObK.pure (fun env R hR => by exact ⟨_, EvF.loadV rfl rfl (LoadV.own (te rfl) rfl (hR _ (List.Mem.tail _ (List.Mem.tail _ (List.Mem.head _)))) rfl), rfl⟩) rfl (fun _ => rfl))).toR | (refine ObR.ng rfl ?_; (first | (exact fun env S hS hrd => (StF.ofEv (EvF.loadV rfl rfl (LoadV.own (te rfl) rfl (hrd 14 (List.Mem.head _) _ (List.Mem.head _)) rfl))).op.mono (fun v H' ⟨hv, hH⟩ => ⟨(0, 0), fun _ => hv, by rw [hH]; exact List.Perm.refl _⟩)) | (exact fun env S hS hrd => (OpF.call (EnF.st rfl (Args.cons rfl (Args.cons rfl Args.nil))) (from_spec T.G c.g a1 c1 _ (hsb S hS).gr hok.gr hg)).mono (fun v H' ⟨b, k, hv, hH⟩ => ⟨(b, k), fun _ => hv, by rw [hH]; exact List.Perm.refl _⟩)) | (exact fun env S hS hrd => (OpF.call (EnF.st rfl (Args.cons rfl (Args.cons rfl Args.nil))) (from_spec T.S c.s a2 c2 _ (hsb S hS).st hok.st hs)).mono (fun v H' ⟨b, k, hv, hH⟩ => ⟨(b, k), fun _ => hv, by rw [hH]; exact List.Perm.refl _⟩)) | (exact fun env S hS hrd => (StF.storeOne (i := 0) (cs := cTm (baT T c (val T c.g c.s)) ⟨a1, c1, a2, c2⟩) rfl rfl rfl rfl (te rfl) rfl rfl (Nat.le_of_ble_eq_true rfl)).op.mono (fun v H' ⟨hv, hH⟩ => ⟨(0, 0), fun h => absurd rfl h, by rw [hH]; exact List.Perm.refl _⟩)) | (exact fun env S hS hrd => (StF.storeOne (i := 0) (cs := cTm (baT T c (val T c.g c.s)) ⟨some ⟨(env 4).1, 0, none⟩, (env 4).2, a2, c2⟩) rfl rfl rfl rfl (te rfl) rfl rfl (Nat.le_of_ble_eq_true rfl)).op.mono (fun v H' ⟨hv, hH⟩ => ⟨(0, 0), fun h => absurd rfl h, by rw [hH]; exact List.Perm.refl _⟩)))))))
    intro env2 t2 ha2 hv2
    refine ⟨_, ha2, ?_⟩
    clear hv2
    have hvd := fun H' (h : TmOk H' (rebT T c) (plT (env2 4).1 (env2 4).2 (env2 9).1 (env2 9).2)) => ifValid_spec (rebT T c) (plT (env2 4).1 (env2 4).2 (env2 9).1 (env2 9).2) H' h
    rw [cTm_reb] at hvd
    have hl1 := hok.gr.1
    have hl2 := hok.st.1
    have hU1 : TmOk (rI (rebT T c).G (env2 4).1 (env2 4).2 :: rI (rebT T c).S (env2 9).1 (env2 9).2 :: ⟨b2, 0, cTm (baT T c (val T c.g c.s)) (plT (env2 4).1 (env2 4).2 (env2 9).1 (env2 9).2), some 32, 11⟩ :: ⟨b7, 0, cTm T ⟨a1, c1, a2, c2⟩, some 99, 11⟩ :: ⟨b4, 0, cTm Tz pz, some 32, 11⟩ :: ⟨b3, 0, cCl c, some 27, 2⟩ :: H) (rebT T c) (plT (env2 4).1 (env2 4).2 (env2 9).1 (env2 9).2) :=
      ownT (rebT T c) _ _ _ _ _ (by show (T.G.map _).length ≤ _; rw [List.length_map]; omega) (by show (T.S.map _).length ≤ _; rw [List.length_map]; omega) (List.Mem.head _) (List.Mem.tail _ (List.Mem.head _))
    show X _ _ _ _ (rI (rebT T c).G (env2 4).1 (env2 4).2 :: rI (rebT T c).S (env2 9).1 (env2 9).2 :: ⟨b2, 0, cTm (baT T c (val T c.g c.s)) (plT (env2 4).1 (env2 4).2 (env2 9).1 (env2 9).2), some 32, 11⟩ :: ⟨b7, 0, cTm T ⟨a1, c1, a2, c2⟩, some 99, 11⟩ :: ⟨b4, 0, cTm Tz pz, some 32, 11⟩ :: ⟨b3, 0, cCl c, some 27, 2⟩ :: H) _
    repeat' (first | (refine XO.op rfl ?_; (first | ((first | refine Xo.ng rfl ?_); (first | (refine Xg.call (EnF.st rfl (by (repeat (first | exact Args.nil | refine Args.cons rfl ?_)); done)) rfl rfl (hvd _ hU1) ?_; rintro _ _ ⟨⟨q, rfl, hq⟩, rfl⟩) | (refine Xg.ev (EvF.assign rfl rfl) rfl rfl ?_) | (refine Xg.ev (EvF.loadV rfl rfl (LoadV.whole (te rfl) rfl (List.Mem.tail _ (List.Mem.tail _ (List.Mem.head _))) rfl)) rfl rfl ?_) | (refine Xg.ev (EvF.extract rfl rfl rfl) rfl rfl ?_) | (refine Xg.st0 (StF.storeAll (i := 4) rfl rfl rfl (te rfl) rfl rfl rfl rfl) rfl ?_; rintro _ _ ⟨rfl, rfl⟩; dsimp only [List.set]))))) | (refine XO.done rfl ?_; refine hK _ _ ?_; clear hK K) | refine X.seq rfl ?_ | refine X.region rfl (fun K hK => ?_) | refine X.ret rfl ?_)
    obtain ⟨Z, hZ, hsZ⟩ := progT_vld hq
    exact ret_two (v := .agg (cTm (vld (rebT T c)).1 q).toArray) (by first | exact .inr rfl | exact .inl rfl) Tryz.results23 ⟨_, rfl, LoadV.whole (te rfl) rfl (List.Mem.tail _ (List.Mem.tail _ (List.Mem.tail _ (List.Mem.tail _ (List.Mem.head _))))) rfl⟩ rfl (H' := Z ++ H) ((hsZ H).trans (by (repeat (first | exact List.Sublist.refl _ | apply List.Sublist.cons_cons | apply List.Sublist.cons)); done)) ⟨q, Z, rfl, hZ, rfl⟩
  · refine Fc.mk (callable Tryz.call23) Tryz.func23 rfl Tryz.ntmps23 rfl ?_; dsimp only [fr]
    repeat' (first | (refine XO.op rfl ?_; (first | ((first | refine Xo.ng rfl ?_); (first | (refine Xg.call (EnF.st rfl (Args.cons rfl Args.nil)) rfl rfl (only_spec c _) ?_; rintro _ H9 ⟨rfl, hH9⟩; subst H9) | (refine Xg.st (StF.buildOne rfl elLo rfl rfl rfl (by decide) (by decide)) rfl rfl ?_; rintro _ _ ⟨bs, rfl, rfl⟩) | (refine Xg.ev (EvF.build (cs := cAb (abI c) ⟨none, 0, some ⟨bs, 0, none⟩, 1, none, 0, some ⟨bs, 0, none⟩, 1⟩) rfl (ArgsP.cons rfl (ArgsP.cons rfl ArgsP.nil)) (te rfl) (Places.cons (te rfl) (Places.cons (te rfl) (Places.cons (te rfl) (Places.cons (te rfl) Places.nil)))) Tryz.zeroValue97 rfl) rfl rfl ?_) | (refine Xg.call (EnF.st rfl (Args.cons rfl (Args.cons rfl Args.nil))) rfl rfl (openN T p (abI c) _ _ er (hT1 [_, _, _, _]) (okI _ c _ _ _ (List.Mem.head _)) HD0 HI1 her h0) ?_; rintro _ H9 ⟨rfl, hH9⟩; subst H9) | (refine Xg.ev (EvF.tz rfl) rfl rfl ?_) | (refine Xg.ev (EvF.move rfl rfl) rfl rfl ?_) | (refine Xg.ev (EvF.assign rfl rfl) rfl rfl ?_) | (refine Xg.ev (EvF.cmp rfl rfl rfl rfl) rfl rfl ?_) | (refine Xg.ev (EvF.loadV rfl rfl (LoadV.whole (te rfl) rfl (List.Mem.tail _ (List.Mem.head _)) rfl)) rfl rfl ?_) | (refine Xg.ev (EvF.loadV rfl rfl (LoadV.whole (te rfl) rfl (List.Mem.tail _ (List.Mem.tail _ (List.Mem.tail _ (List.Mem.head _)))) rfl)) rfl rfl ?_) | (refine Xg.ev (EvF.extract rfl rfl rfl) rfl rfl ?_) | (refine Xg.st (StF.boxAgg rfl rfl) rfl rfl ?_; rintro _ _ ⟨bx, rfl, rfl⟩) | (refine Xg.st (StF.alloc rfl Tryz.zeroValue32 rfl) rfl rfl ?_; rintro _ _ ⟨bx, rfl, rfl⟩) | (refine Xg.st0 (StF.storeAll (i := 0) rfl rfl rfl (te rfl) rfl rfl rfl rfl) rfl ?_; rintro _ _ ⟨rfl, rfl⟩; dsimp only [List.set]) | (refine Xg.st0 (StF.storeAll (i := 2) rfl rfl rfl (te rfl) rfl rfl rfl rfl) rfl ?_; rintro _ _ ⟨rfl, rfl⟩; dsimp only [List.set]))))) | (refine XO.done rfl ?_; refine hK _ _ ?_; clear hK K) | (refine XQ.op rfl ?_; (first | ((first | refine Yo.ng rfl ?_); (first | (refine Yg.ev (EvF.loadV rfl rfl (LoadV.whole (te rfl) rfl (List.Mem.head _) rfl)) rfl rfl ?_) | (refine Yg.ev (EvF.loadV rfl rfl (LoadV.whole (te rfl) rfl (List.Mem.tail _ (List.Mem.tail _ (List.Mem.tail _ (List.Mem.head _)))) rfl)) rfl rfl ?_))))) | refine X.seq rfl ?_ | refine X.region rfl (fun K hK => ?_) | refine X.regionD rfl mixed (by kernel_rfl) (fun K hK => ?_) | refine X.skip rfl ?_ | refine X.ret rfl ?_ | (refine X.ite rfl rfl (fun hc => ?_); (first | (with_reducible refine Xb.caseN hc (fun h => ?_) (fun h => ?_))) <;> clear hc))
    all_goals try (exfalso; contradiction)
    exact ret_two (v := .agg (cTm Tz pz).toArray) (by first | exact .inr rfl | exact .inl rfl) Tryz.results23 ⟨_, rfl, LoadV.whole (te rfl) rfl (List.Mem.tail _ (List.Mem.tail _ (List.Mem.head _))) rfl⟩ rfl (H' := H) (by (repeat (first | exact List.Sublist.refl _ | apply List.Sublist.cons)); done) (progT_no (rebF_no her h0) H)
end Go.Proofs.YtcjlegjchllgjaaGreat
end
section
set_option linter.unusedVariables false
set_option linter.unusedSimpArgs false
namespace Go.Proofs.YtcjlegjchllgjaaGreat
open Go Go.Fw
set_option maxRecDepth 10000
theorem elDy : ElT Tryz.prog 57 48 3 56 := ⟨Tryz.underlying57, Tryz.t48, .agg #[.int .i64 0, .slice none 0 0, .slice none 0 0], by kernel_rfl, by kernel_rfl, by kernel_rfl, by kernel_rfl, rfl⟩
def abD (d : Dy) : Ab := ⟨[d], [], [], []⟩
def abE (d : Dy) (c : Cl) : Ab := ⟨[d], [lo1 c], [], [lo1 c]⟩
noncomputable def dayE (T : Tm) (d : Dy) : Int := if tmOk T then (if dayOk d then 0 else 43) else 40
theorem openDy (T : Tm) (d : Dy) : openE T (abD d) = dayE T d := by
  unfold openE dayE
  have h1 : askD (abD d) ↔ dayOk d := by simp [askD, abD]
  have h2 : askG (abD d) := fun d hd => absurd hd List.not_mem_nil
  have h3 : askS (abD d) := fun d hd => absurd hd List.not_mem_nil
  have h4 : askM (abD d) := fun d hd => absurd hd List.not_mem_nil
  have h5 : askN T (abD d) := fun d hd => absurd hd List.not_mem_nil
  simp only [h1, h2, h3, h4, h5, if_true]
noncomputable def deaE (T : Tm) (d : Dy) (c : Cl) : Int := if dayE T d = 0 then (if clsE c = 0 then (if may T c = true then 0 else 6) else clsE c) else dayE T d
theorem openDe (T : Tm) (d : Dy) (c : Cl) : openE T (abE d c) = deaE T d c := by
  unfold openE deaE dayE clsE
  have h1 : askD (abE d c) ↔ dayOk d := by simp [askD, abE]
  have h2 : askG (abE d c) ↔ 1 ≤ c.g ∧ c.g ≤ 9 := by simp [askG, abE, lo1, partOk]
  have h3 : askS (abE d c) ↔ 1 ≤ c.s ∧ c.s ≤ 9 := by simp [askS, abE, lo1, partOk]
  have h4 : askM (abE d c) := fun d hd => absurd hd List.not_mem_nil
  have h5 : askN T (abE d c) ↔ may T c = true := by
    simp only [askN, abE, List.mem_cons, List.not_mem_nil, or_false, forall_eq, cls_lo1]
    split <;> simp_all
  simp only [h1, h2, h3, h4, h5, if_true]
  by_cases q1 : tmOk T <;> by_cases q2 : dayOk d <;> by_cases q3 : 1 ≤ c.g ∧ c.g ≤ 9 <;> by_cases q4 : 1 ≤ c.s ∧ c.s ≤ 9 <;> simp only [q1, q2, q3, q4, if_true, if_false] <;> simp
theorem dayE_zero {T : Tm} {d : Dy} (h : dayE T d = 0) : tmOk T ∧ dayOk d := by
  unfold dayE at h
  by_cases h1 : tmOk T
  · by_cases h2 : dayOk d
    · exact ⟨h1, h2⟩
    · simp [h1, h2] at h
  · simp [h1] at h
theorem deaE_zero {T : Tm} {d : Dy} {c : Cl} (h : deaE T d c = 0) : dayE T d = 0 ∧ clsE c = 0 ∧ may T c = true := by
  unfold deaE at h
  by_cases h1 : dayE T d = 0
  · by_cases h2 : clsE c = 0
    · by_cases h3 : may T c = true
      · exact ⟨h1, h2, h3⟩
      · simp [h1, h2, h3] at h
    · simp [h1, h2] at h
  · simp [h1] at h
noncomputable def chC (T : Tm) (d : Dy) : Cl := if dayE T d = 0 then chp T d else ⟨0, 0⟩
noncomputable def chN (T : Tm) (d : Dy) : Int := if dayE T d = 0 then coF T d (chp T d) else 0
noncomputable def deN (T : Tm) (d : Dy) (c : Cl) : Int := if deaE T d c = 0 then coF T d c - coF T d (chp T d) else 0
theorem coF_bd {T : Tm} {d : Dy} (hok : tmOk T) (hd : dayOk d) {c : Cl} (hc : in9 c) : -1002000 ≤ coF T d c ∧ coF T d c ≤ 1004000 := by
  have := dco_bd hd hc
  have := val_bd hok c.g c.s
  unfold coF; omega
set_option maxHeartbeats 8000000 in
theorem kCheapest_spec (T : Tm) (p : Pt) (d : Dy) (H : List Row) (hT : TmOk H T p) (hD : DyOk H d) :
    Fc Tryz.prog 26 [.agg (cTm T p).toArray, .agg (cDy d).toArray] H (fun v H' => v = .tuple #[.agg (cCl (chC T d)).toArray, .int .i64 (chN T d), .int .i64 (dayE T d)] ∧ H' = H) := by
  have hT1 : ∀ Z : List Row, TmOk (Z ++ H) T p := fun Z => hT.sub (fun _ h => List.mem_append_right _ h)
  have hD1 : ∀ Z : List Row, DyOk (Z ++ H) d := fun Z => hD.sub (fun _ h => List.mem_append_right _ h)
  obtain ⟨er, her⟩ : ∃ e, dayE T d = e := ⟨_, rfl⟩
  have hA : ∀ (r1 r2 r3 : Row) (b cap : Nat), AbOk (⟨b, 0, cDy d, some 48, cap⟩ :: r1 :: r2 :: r3 :: H) (abD d) ⟨some ⟨b, 0, none⟩, 1, none, 0, none, 0, none, 0⟩ := fun r1 r2 r3 b cap =>
    ⟨SlE.ofRow (List.Mem.head _) (fun _ _ => rfl), sleNil, sleNil, sleNil, (fun x hx => by rw [List.mem_singleton.1 hx]; exact hD1 [_, _, _, _]), Nat.le_of_ble_eq_true rfl, Nat.zero_le _, Nat.zero_le _, Nat.zero_le _⟩
  unfold chC chN
  rw [her]
  have hop := (openDy T d).trans her
  by_cases h0 : er = 0
  · subst h0
    obtain ⟨hok, hd⟩ := dayE_zero her
    rw [if_pos rfl, if_pos rfl]
    refine Fc.mk (callable Tryz.call26) Tryz.func26 rfl Tryz.ntmps26 rfl ?_; dsimp only [fr]
    repeat' (first | (refine XO.op rfl ?_; (first | ((first | refine Xo.ng rfl ?_); (first | (refine Xg.st (StF.buildOne rfl elDy rfl rfl rfl (by decide) (by decide)) rfl rfl ?_; rintro _ _ ⟨bs, rfl, rfl⟩) | (refine Xg.ev (EvF.build (cs := cAb (abD d) ⟨some ⟨bs, 0, none⟩, 1, none, 0, none, 0, none, 0⟩) rfl (ArgsP.cons rfl ArgsP.nil) (te rfl) (Places.cons (te rfl) (Places.cons (te rfl) (Places.cons (te rfl) (Places.cons (te rfl) Places.nil)))) Tryz.zeroValue97 rfl) rfl rfl ?_) | (refine Xg.call (EnF.st rfl (Args.cons rfl (Args.cons rfl Args.nil))) rfl rfl (openY T p (abD d) _ _ (hT1 [_, _, _, _]) (hA _ _ _ _ _) (HDall _) HI0 hop) ?_; rintro _ H9 ⟨rfl, hH9⟩; subst H9) | (refine Xg.ev (EvF.build (cs := cMk T p d) rfl (ArgsP.cons rfl (ArgsP.cons rfl ArgsP.nil)) (te rfl) (Places.cons (te rfl) (Places.cons (te rfl) Places.nil)) Tryz.zeroValue137 rfl) rfl rfl ?_) | (refine Xg.ev (EvF.makeFunc rfl (Args.cons rfl Args.nil) Args.nil) rfl rfl ?_) | (refine Xg.call (EnF.st rfl (Args.cons rfl (Args.cons rfl Args.nil))) rfl rfl (kcheap_spec T p d _ (hT1 [_, _, _, _, _]) hok (hD1 [_, _, _, _, _]) hd) ?_; rintro _ H9 ⟨rfl, hH9⟩; subst H9) | (refine Xg.ev (EvF.move rfl rfl) rfl rfl ?_) | (refine Xg.ev (EvF.assign rfl rfl) rfl rfl ?_) | (refine Xg.ev (EvF.cmp rfl rfl rfl rfl) rfl rfl ?_) | (refine Xg.ev (EvF.loadV rfl rfl (LoadV.whole (te rfl) rfl (List.Mem.head _) rfl)) rfl rfl ?_) | (refine Xg.ev (EvF.loadV rfl rfl (LoadV.whole (te rfl) rfl (List.Mem.tail _ (List.Mem.head _)) rfl)) rfl rfl ?_) | (refine Xg.ev (EvF.loadV rfl rfl (LoadV.whole (te rfl) rfl (List.Mem.tail _ (List.Mem.tail _ (List.Mem.head _))) rfl)) rfl rfl ?_) | (refine Xg.ev (EvF.loadV rfl rfl (LoadV.whole (te rfl) rfl (List.Mem.tail _ (List.Mem.tail _ (List.Mem.tail _ (List.Mem.head _)))) rfl)) rfl rfl ?_) | (refine Xg.ev (EvF.extract rfl rfl rfl) rfl rfl ?_) | (refine Xg.st (StF.boxAgg rfl rfl) rfl rfl ?_; rintro _ _ ⟨bx, rfl, rfl⟩) | (refine Xg.st (StF.alloc rfl Tryz.zeroValue30 rfl) rfl rfl ?_; rintro _ _ ⟨bx, rfl, rfl⟩) | (refine Xg.st (StF.alloc rfl Tryz.zeroValue32 rfl) rfl rfl ?_; rintro _ _ ⟨bx, rfl, rfl⟩) | (refine Xg.st0 (StF.storeAll (i := 0) rfl rfl rfl (te rfl) rfl rfl rfl rfl) rfl ?_; rintro _ _ ⟨rfl, rfl⟩; dsimp only [List.set]) | (refine Xg.st0 (StF.storeAll (i := 2) rfl rfl rfl (te rfl) rfl rfl rfl rfl) rfl ?_; rintro _ _ ⟨rfl, rfl⟩; dsimp only [List.set]))))) | (refine XO.done rfl ?_; refine hK _ _ ?_; clear hK K) | refine X.seq rfl ?_ | refine X.region rfl (fun K hK => ?_) | refine X.skip rfl ?_ | refine X.ret rfl ?_ | (refine X.ite rfl rfl (fun hc => ?_); (first | (with_reducible refine Xb.caseN hc (fun h => ?_) (fun h => ?_))) <;> clear hc))
    all_goals try (exfalso; contradiction)
    exact ret_three (v := .agg (cCl (chp T d)).toArray) (by first | exact .inr rfl | exact .inl rfl) Tryz.results26 ⟨_, rfl, LoadV.whole (te rfl) rfl (List.Mem.tail _ (List.Mem.tail _ (List.Mem.head _))) rfl⟩ rfl rfl (H' := H) (by (repeat (first | exact List.Sublist.refl _ | apply List.Sublist.cons)); done) ⟨rfl, rfl⟩
  · rw [if_neg h0, if_neg h0]
    refine Fc.mk (callable Tryz.call26) Tryz.func26 rfl Tryz.ntmps26 rfl ?_; dsimp only [fr]
    repeat' (first | (refine XO.op rfl ?_; (first | ((first | refine Xo.ng rfl ?_); (first | (refine Xg.st (StF.buildOne rfl elDy rfl rfl rfl (by decide) (by decide)) rfl rfl ?_; rintro _ _ ⟨bs, rfl, rfl⟩) | (refine Xg.ev (EvF.build (cs := cAb (abD d) ⟨some ⟨bs, 0, none⟩, 1, none, 0, none, 0, none, 0⟩) rfl (ArgsP.cons rfl ArgsP.nil) (te rfl) (Places.cons (te rfl) (Places.cons (te rfl) (Places.cons (te rfl) (Places.cons (te rfl) Places.nil)))) Tryz.zeroValue97 rfl) rfl rfl ?_) | (refine Xg.call (EnF.st rfl (Args.cons rfl (Args.cons rfl Args.nil))) rfl rfl (openN T p (abD d) _ _ er (hT1 [_, _, _, _]) (hA _ _ _ _ _) (HDall _) HI0 hop h0) ?_; rintro _ H9 ⟨rfl, hH9⟩; subst H9) | (refine Xg.ev (EvF.build (cs := cCl ⟨0, 0⟩) rfl ArgsP.nil (te rfl) (Places.cons (te rfl) (Places.cons (te rfl) Places.nil)) Tryz.zeroValue27 rfl) rfl rfl ?_) | (refine Xg.ev (EvF.move rfl rfl) rfl rfl ?_) | (refine Xg.ev (EvF.assign rfl rfl) rfl rfl ?_) | (refine Xg.ev (EvF.cmp rfl rfl rfl rfl) rfl rfl ?_) | (refine Xg.ev (EvF.loadV rfl rfl (LoadV.whole (te rfl) rfl (List.Mem.head _) rfl)) rfl rfl ?_) | (refine Xg.ev (EvF.loadV rfl rfl (LoadV.whole (te rfl) rfl (List.Mem.tail _ (List.Mem.head _)) rfl)) rfl rfl ?_) | (refine Xg.ev (EvF.loadV rfl rfl (LoadV.whole (te rfl) rfl (List.Mem.tail _ (List.Mem.tail _ (List.Mem.head _))) rfl)) rfl rfl ?_) | (refine Xg.ev (EvF.loadV rfl rfl (LoadV.whole (te rfl) rfl (List.Mem.tail _ (List.Mem.tail _ (List.Mem.tail _ (List.Mem.head _)))) rfl)) rfl rfl ?_) | (refine Xg.ev (EvF.extract rfl rfl rfl) rfl rfl ?_) | (refine Xg.st (StF.boxAgg rfl rfl) rfl rfl ?_; rintro _ _ ⟨bx, rfl, rfl⟩) | (refine Xg.st (StF.alloc rfl Tryz.zeroValue30 rfl) rfl rfl ?_; rintro _ _ ⟨bx, rfl, rfl⟩) | (refine Xg.st (StF.alloc rfl Tryz.zeroValue32 rfl) rfl rfl ?_; rintro _ _ ⟨bx, rfl, rfl⟩) | (refine Xg.st0 (StF.storeAll (i := 0) rfl rfl rfl (te rfl) rfl rfl rfl rfl) rfl ?_; rintro _ _ ⟨rfl, rfl⟩; dsimp only [List.set]) | (refine Xg.st0 (StF.storeAll (i := 2) rfl rfl rfl (te rfl) rfl rfl rfl rfl) rfl ?_; rintro _ _ ⟨rfl, rfl⟩; dsimp only [List.set]))))) | (refine XO.done rfl ?_; refine hK _ _ ?_; clear hK K) | refine X.seq rfl ?_ | refine X.region rfl (fun K hK => ?_) | refine X.skip rfl ?_ | refine X.ret rfl ?_ | (refine X.ite rfl rfl (fun hc => ?_); (first | (with_reducible refine Xb.caseN hc (fun h => ?_) (fun h => ?_))) <;> clear hc))
    all_goals try (exfalso; contradiction)
    exact ret_three (v := .agg (cCl ⟨0, 0⟩).toArray) (by first | exact .inr rfl | exact .inl rfl) Tryz.results26 ⟨_, rfl, LoadV.whole (te rfl) rfl (List.Mem.tail _ (List.Mem.tail _ (List.Mem.head _))) rfl⟩ rfl rfl (H' := H) (by (repeat (first | exact List.Sublist.refl _ | apply List.Sublist.cons)); done) ⟨rfl, rfl⟩
set_option maxHeartbeats 4000000 in
theorem dearer1_spec (T : Tm) (p : Pt) (d : Dy) (c : Cl) (bd bc capd capc : Nat) (owd owc : Option Kd) (H : List Row) (hT : TmOk H T p) (hok : tmOk T) (hD : DyOk H d) (hd : dayOk d) (hc : in9 c) (md : ⟨bd, 0, cDy d, owd, capd⟩ ∈ H) (mc : ⟨bc, 0, cCl c, owc, capc⟩ ∈ H) :
    Fc Tryz.prog 76 ([.agg (cTm T p).toArray] ++ [.pointer (some ⟨bd, 0, none⟩), .pointer (some ⟨bc, 0, none⟩)]) H (fun v H' => v = .int .i64 (coF T d c - coF T d (chp T d)) ∧ H' = H) := by
  show Fc Tryz.prog 76 [.agg (cTm T p).toArray, .pointer (some ⟨bd, 0, none⟩), .pointer (some ⟨bc, 0, none⟩)] H _
  have hT1 : ∀ Z : List Row, TmOk (Z ++ H) T p := fun Z => hT.sub (fun _ h => List.mem_append_right _ h)
  have hD1 : ∀ Z : List Row, DyOk (Z ++ H) d := fun Z => hD.sub (fun _ h => List.mem_append_right _ h)
  have q1 := coF_bd hok hd hc
  have q2 := coF_bd hok hd (chp_in9 hok d)
  refine Fc.mk (callable Tryz.call76) Tryz.func76 rfl Tryz.ntmps76 rfl ?_; dsimp only [fr]
  repeat' (first | (refine XO.op rfl ?_; (first | ((first | refine Xo.ng rfl ?_); (first | (refine Xg.ev (EvF.loadV rfl rfl (LoadV.whole (te rfl) rfl (List.Mem.tail _ md) rfl)) rfl rfl ?_) | (refine Xg.ev (EvF.loadV rfl rfl (LoadV.whole (te rfl) rfl (List.Mem.tail _ (List.Mem.tail _ (List.Mem.tail _ mc))) rfl)) rfl rfl ?_) | (refine Xg.ev (EvF.build (cs := cMk T p d) rfl (ArgsP.cons rfl (ArgsP.cons rfl ArgsP.nil)) (te rfl) (Places.cons (te rfl) (Places.cons (te rfl) Places.nil)) Tryz.zeroValue137 rfl) rfl rfl ?_) | (refine Xg.st (StF.alloc rfl Tryz.zeroValue137 rfl) rfl rfl ?_; rintro _ _ ⟨bx, rfl, rfl⟩) | (refine Xg.st0 (StF.storeAll (i := 0) (vs := cMk T p d) rfl rfl rfl (te rfl) rfl rfl rfl rfl) rfl ?_; rintro _ _ ⟨rfl, rfl⟩; dsimp only [List.set]) | (refine Xg.ev (EvF.makeFunc rfl (Args.cons rfl Args.nil) Args.nil) rfl rfl ?_) | (refine Xg.call (EnF.st rfl (Args.cons rfl (Args.cons rfl Args.nil))) rfl rfl (kcheap_spec T p d _ (hT1 [_, _]) hok (hD1 [_, _]) hd) ?_; rintro _ H9 ⟨rfl, hH9⟩; subst H9) | (refine Xg.call (EnF.st rfl (Args.cons rfl (Args.cons rfl Args.nil))) rfl rfl (costs_spec T p d c _ (hT1 [_, _, _]) hok (hD1 [_, _, _]) hd hc) ?_; rintro _ H9 ⟨rfl, hH9⟩; subst H9) | (refine Xg.ev (EvF.move rfl rfl) rfl rfl ?_) | (refine Xg.ev (EvF.assign rfl rfl) rfl rfl ?_) | (refine Xg.ev (EvF.sub64 rfl rfl rfl (by omega) (by omega)) rfl rfl ?_) | (refine Xg.ev (EvF.loadV rfl rfl (LoadV.whole (te rfl) rfl (List.Mem.head _) rfl)) rfl rfl ?_) | (refine Xg.ev (EvF.loadV rfl rfl (LoadV.whole (te rfl) rfl (List.Mem.tail _ (List.Mem.head _)) rfl)) rfl rfl ?_) | (refine Xg.ev (EvF.extract rfl rfl rfl) rfl rfl ?_) | (refine Xg.st (StF.boxAgg rfl rfl) rfl rfl ?_; rintro _ _ ⟨bx, rfl, rfl⟩) | (refine Xg.st (StF.alloc rfl Tryz.zeroValue30 rfl) rfl rfl ?_; rintro _ _ ⟨bx, rfl, rfl⟩) | (refine Xg.st0 (StF.storeAll (i := 0) rfl rfl rfl (te rfl) rfl rfl rfl rfl) rfl ?_; rintro _ _ ⟨rfl, rfl⟩; dsimp only [List.set]))))) | (refine XO.done rfl ?_; refine hK _ _ ?_; clear hK K) | refine X.seq rfl ?_ | refine X.region rfl (fun K hK => ?_) | refine X.ret rfl ?_)
  refine ret_one (by first | exact .inr rfl | exact .inl rfl) Tryz.results76 rfl (H' := H) (by (repeat (first | exact List.Sublist.refl _ | apply List.Sublist.cons)); done) ?_; simp only [and_true, true_and]
set_option maxHeartbeats 8000000 in
theorem kDearer_spec (T : Tm) (p : Pt) (d : Dy) (c : Cl) (H : List Row) (hT : TmOk H T p) (hD : DyOk H d) :
    Fc Tryz.prog 27 [.agg (cTm T p).toArray, .agg (cDy d).toArray, .agg (cCl c).toArray] H (fun v H' => v = .tuple #[.int .i64 (deN T d c), .int .i64 (deaE T d c)] ∧ H' = H) := by
  have hT1 : ∀ Z : List Row, TmOk (Z ++ H) T p := fun Z => hT.sub (fun _ h => List.mem_append_right _ h)
  have hT2 : ∀ Y Z : List Row, TmOk (Y ++ (Z ++ H)) T p := fun Y Z => hT.sub (fun _ h => List.mem_append_right _ (List.mem_append_right _ h))
  have hD1 : ∀ Z : List Row, DyOk (Z ++ H) d := fun Z => hD.sub (fun _ h => List.mem_append_right _ h)
  have hD2 : ∀ Y Z : List Row, DyOk (Y ++ (Z ++ H)) d := fun Y Z => hD.sub (fun _ h => List.mem_append_right _ (List.mem_append_right _ h))
  unfold deN
  rw [← openDe]
  have hz : openE T (abE d c) = 0 → tmOk T ∧ dayOk d ∧ in9 c := fun h => by
    rw [openDe] at h
    obtain ⟨h1, h2, _⟩ := deaE_zero h
    exact ⟨(dayE_zero h1).1, (dayE_zero h1).2, clsE_zero h2⟩
  refine Fc.mk (callable Tryz.call27) Tryz.func27 rfl Tryz.ntmps27 rfl ?_; dsimp only [fr]
  repeat' (first | (refine XO.op rfl ?_; (first | ((first | refine Xo.ng rfl ?_); (first | (refine Xg.call (EnF.st rfl (Args.cons rfl Args.nil)) rfl rfl (only_spec c _) ?_; rintro _ H9 ⟨rfl, hH9⟩; subst H9) | (refine Xg.st (StF.buildOne rfl elLo rfl rfl rfl (by decide) (by decide)) rfl rfl ?_; rintro _ _ ⟨bs, rfl, rfl⟩) | (refine Xg.st (StF.buildOne rfl elDy rfl rfl rfl (by decide) (by decide)) rfl rfl ?_; rintro _ _ ⟨bt, rfl, rfl⟩) | (refine Xg.ev (EvF.build (cs := cAb (abE d c) ⟨some ⟨bt, 0, none⟩, 1, some ⟨bs, 0, none⟩, 1, none, 0, some ⟨bs, 0, none⟩, 1⟩) rfl (ArgsP.cons rfl (ArgsP.cons rfl (ArgsP.cons rfl ArgsP.nil))) (te rfl) (Places.cons (te rfl) (Places.cons (te rfl) (Places.cons (te rfl) (Places.cons (te rfl) Places.nil)))) Tryz.zeroValue97 rfl) rfl rfl ?_) | (refine Xg.ev (EvF.makeFunc rfl Args.nil (Args.cons rfl (Args.cons rfl Args.nil))) rfl rfl ?_) | (refine Xg.call (EnF.st rfl (Args.cons rfl (Args.cons rfl (Args.cons rfl Args.nil)))) rfl rfl (toldI_spec T p (abE d c) ⟨some ⟨bt, 0, none⟩, 1, some ⟨bs, 0, none⟩, 1, none, 0, some ⟨bs, 0, none⟩, 1⟩ _ [_, _] (coF T d c - coF T d (chp T d)) _ (hT1 [_, _, _, _, _]) ⟨SlE.ofRow (List.Mem.head _) (fun _ _ => rfl), SlE.ofRow (List.Mem.tail _ (List.Mem.head _)) (fun _ _ => rfl), sleNil, SlE.ofRow (List.Mem.tail _ (List.Mem.head _)) (fun _ _ => rfl), (fun x hx => by rw [List.mem_singleton.1 hx]; exact hD1 [_, _, _, _, _]), Nat.le_of_ble_eq_true rfl, Nat.le_of_ble_eq_true rfl, Nat.zero_le _, Nat.le_of_ble_eq_true rfl⟩ (HDall _) HI1 (fun hE Z => dearer1_spec T p d c _ _ _ _ _ _ _ (hT2 _ [_, _, _, _, _]) (hz hE).1 (hD2 _ [_, _, _, _, _]) (hz hE).2.1 (hz hE).2.2 (List.mem_append_right _ (List.Mem.tail _ (List.Mem.tail _ (List.Mem.tail _ (List.Mem.head _))))) (List.mem_append_right _ (List.Mem.tail _ (List.Mem.tail _ (List.Mem.head _)))))) ?_; rintro _ H9 ⟨rfl, hH9⟩; subst H9) | (refine Xg.ev (EvF.move rfl rfl) rfl rfl ?_) | (refine Xg.ev (EvF.assign rfl rfl) rfl rfl ?_) | (refine Xg.ev (EvF.loadV rfl rfl (LoadV.whole (te rfl) rfl (List.Mem.head _) rfl)) rfl rfl ?_) | (refine Xg.ev (EvF.loadV rfl rfl (LoadV.whole (te rfl) rfl (List.Mem.tail _ (List.Mem.tail _ (List.Mem.head _))) rfl)) rfl rfl ?_) | (refine Xg.ev (EvF.loadV rfl rfl (LoadV.whole (te rfl) rfl (List.Mem.tail _ (List.Mem.tail _ (List.Mem.tail _ (List.Mem.head _)))) rfl)) rfl rfl ?_) | (refine Xg.ev (EvF.extract rfl rfl rfl) rfl rfl ?_) | (refine Xg.st (StF.boxAgg rfl rfl) rfl rfl ?_; rintro _ _ ⟨bx, rfl, rfl⟩))))) | (refine XO.done rfl ?_; refine hK _ _ ?_; clear hK K) | refine X.seq rfl ?_ | refine X.region rfl (fun K hK => ?_) | refine X.ret rfl ?_)
  exact ret_two (by first | exact .inr rfl | exact .inl rfl) Tryz.results27 rfl rfl (H' := H) (by (repeat (first | exact List.Sublist.refl _ | apply List.Sublist.cons)); done) ⟨rfl, rfl⟩
end Go.Proofs.YtcjlegjchllgjaaGreat
end
section
set_option linter.unusedVariables false
set_option linter.unusedSimpArgs false
namespace Go.Proofs.YtcjlegjchllgjaaGreat
open Go Go.Fw
set_option maxRecDepth 10000
set_option maxHeartbeats 4000000 in
theorem rcosts_spec (d : Dy) (c : Cl) (H : List Row) (hD : DyOk H d) (hG : tab d.G) (hS : tab d.S) (hp : 0 ≤ d.price ∧ d.price ≤ 1000000) (hc : in9 c) :
    Fc Tryz.prog 41 [.agg (cDy d).toArray, .agg (cCl c).toArray] H (fun v H' => v = .int .i64 (dco d c) ∧ H' = H) := by
  have h1 := at1_get hc.1 hG.1
  have h2 := at1_get hc.2 hS.1
  have q1 := hG.at1 hc.1
  have q2 := hS.at1 hc.2
  have lg := hG.1
  have ls := hS.1
  have hc1 := hc.1
  have hc2 := hc.2
  obtain ⟨b1, o1, e1, he1, _⟩ := hD.gr.elem (i := 0) (by omega)
  obtain ⟨b2, o2, e2, he2, _⟩ := hD.st.elem (i := 0) (by omega)
  have hD2 : ∀ Z : List Row, DyOk (Z ++ H) d := fun Z => hD.sub (fun _ h => List.mem_append_right _ h)
  obtain ⟨pr, G, S, a1, c1, a2, c2⟩ := d
  simp only at he1 he2 h1 h2 q1 q2 lg ls hp
  subst he1 he2
  unfold dco at *
  dsimp only at *
  show Fc Tryz.prog 41 [.agg ([.int .i64 pr, .slice (some ⟨b1, o1, none⟩) G.length c1, .slice (some ⟨b2, o2, none⟩) S.length c2] : List Value).toArray, .agg (cCl c).toArray] H _
  refine Fc.mk (callable Tryz.call41) Tryz.func41 rfl Tryz.ntmps41 rfl ?_; dsimp only [fr]
  repeat' (first | (refine XO.op rfl ?_; (first | ((first | refine Xo.ng rfl ?_); (first | (refine Xg.ev (EvF.assign rfl rfl) rfl rfl ?_) | (refine Xg.st (StF.boxAgg rfl rfl) rfl rfl ?_; rintro _ _ ⟨bx, rfl, rfl⟩))))) | (refine XO.done rfl ?_; refine hK _ _ ?_; clear hK K) | (refine XQ.op rfl ?_; (first | ((first | refine Yo.ng rfl ?_); (first | (refine Yg.ev (EvF.indexSlice rfl rfl rfl (te rfl) (te rfl) (by omega) (by omega)) rfl rfl ?_) | (refine Yg.ev (EvF.loadV rfl rfl (LoadV.el0 (hD2 [_, _]).gr h1 (te rfl) rfl (fun _ hm => hm) rfl)) rfl rfl ?_) | (refine Yg.ev (EvF.loadV rfl rfl (LoadV.el0 (hD2 [_, _]).st h2 (te rfl) rfl (fun _ hm => hm) rfl)) rfl rfl ?_) | (refine Yg.ev (EvF.assign rfl rfl) rfl rfl ?_) | (refine Yg.ev (EvF.add64 rfl rfl rfl (by omega) (by omega)) rfl rfl ?_) | (refine Yg.ev (EvF.sub64 rfl rfl rfl (by omega) (by omega)) rfl rfl ?_) | (refine Yg.ev (EvF.fieldAddr rfl rfl (te rfl) rfl (te rfl) (by decide)) rfl rfl ?_) | (refine Yg.ev (EvF.loadV rfl rfl (LoadV.own (te rfl) rfl (List.Mem.head _) rfl)) rfl rfl ?_) | (refine Yg.ev (EvF.loadV rfl rfl (LoadV.own (te rfl) rfl (List.Mem.tail _ (List.Mem.head _)) rfl)) rfl rfl ?_))))) | (refine XQ.done rfl ?_; refine hK _ ?_; clear hK K) | refine X.seq rfl ?_ | refine X.region rfl (fun K hK => ?_) | refine X.regionD rfl mixed (by kernel_rfl) (fun K hK => ?_) | refine X.ret rfl ?_)
  refine ret_one (by first | exact .inr rfl | exact .inl rfl) Tryz.results41 rfl (H' := H) (by (repeat (first | exact List.Sublist.refl _ | apply List.Sublist.cons)); done) ?_; simp only [and_true, true_and]
set_option maxHeartbeats 4000000 in
theorem rday_spec (d : Dy) (H : List Row) (hD : DyOk H d) : Fc Tryz.prog 89 [.agg (cDy d).toArray] H (fun v H' => v = .bool (decide (dayOk d)) ∧ H' = H) := by
  have hD1 : ∀ Z : List Row, DyOk (Z ++ H) d := fun Z => hD.sub (fun _ h => List.mem_append_right _ h)
  have hdd : dayOk d ↔ (0 ≤ d.price ∧ d.price ≤ 1000000) ∧ tab d.G ∧ tab d.S ∧ ∀ g s, 1 ≤ g ∧ g ≤ 9 → 1 ≤ s ∧ s ≤ 9 → 0 ≤ d.price + at1 d.G g + at1 d.S s := Iff.rfl
  refine Fc.mk (callable Tryz.call89) Tryz.func89 rfl Tryz.ntmps89 rfl ?_; dsimp only [fr]
  repeat' (first | (refine XO.op rfl ?_; (first | ((first | refine Xo.ng rfl ?_ | (refine Xo.g rfl rfl ?_; with_reducible refine Xw.ff ?_)); (first | (refine Xg.call (EnF.st rfl (Args.cons rfl (Args.cons rfl (Args.cons rfl Args.nil)))) rfl rfl (w4_spec _ _ _ _) ?_; rintro _ H9 ⟨rfl, hH9⟩; subst H9) | (refine Xg.call (EnF.st rfl (Args.cons rfl Args.nil)) rfl rfl (nine_spec d.G d.a1 d.c1 _ (hD1 [_]).gr hD.l1) ?_; rintro _ H9 ⟨rfl, hH9⟩; subst H9) | (refine Xg.call (EnF.st rfl (Args.cons rfl Args.nil)) rfl rfl (nine_spec d.S d.a2 d.c2 _ (hD1 [_]).st hD.l2) ?_; rintro _ H9 ⟨rfl, hH9⟩; subst H9) | (refine Xg.ev (EvF.move rfl rfl) rfl rfl ?_) | (refine Xg.ev (EvF.assign rfl rfl) rfl rfl ?_) | (refine Xg.ev (EvF.pickT rfl rfl rfl) rfl rfl ?_) | (refine Xg.ev (EvF.pickF rfl rfl rfl) rfl rfl ?_) | (refine Xg.ev (EvF.not rfl rfl) rfl rfl ?_) | (refine Xg.ev (EvF.fieldAddr rfl rfl (te rfl) rfl (te rfl) (by decide)) rfl rfl ?_) | (refine Xg.ev (EvF.loadV rfl rfl (LoadV.own (te rfl) rfl (List.Mem.head _) rfl)) rfl rfl ?_) | (refine Xg.st (StF.boxAgg rfl rfl) rfl rfl ?_; rintro _ _ ⟨bx, rfl, rfl⟩))) | (refine Xo.g rfl rfl ?_; (first | (with_reducible refine Xw.tf rfl rfl ?_) | (with_reducible refine Xw.caseN (fun h => ?_) (fun h => ?_) <;> simp only [h, decide_true, decide_false, Bool.not_true, Bool.not_false, and_self, and_true, true_and, and_false, false_and]))))) | (refine XO.done rfl ?_; refine hK _ _ ?_; clear hK K) | refine X.seq rfl ?_ | refine X.region rfl (fun K hK => ?_) | refine X.block rfl ?_ | refine X.skip rfl ?_ | refine X.ret rfl ?_ | (refine X.ite rfl rfl (fun hc => ?_); (first | (with_reducible refine Xb.t hc ?_) | (with_reducible refine Xb.caseN hc (fun h => ?_) (fun h => ?_))) <;> clear hc))
  any_goals (refine ret_one (by first | exact .inr rfl | exact .inl rfl) Tryz.results89 rfl (H' := H) (by (repeat (first | exact List.Sublist.refl _ | apply List.Sublist.cons)); done) ?_; simp only [and_true, true_and]; congr 1; symm; refine decide_eq_false (fun q => ?_); have q := hdd.1 q; first | exact absurd q.1 (by assumption) | exact absurd q.2.1 (by assumption) | exact absurd q.2.2.1 (by assumption))
  have hp : 0 ≤ d.price ∧ d.price ≤ 1000000 := by assumption
  have hG : tab d.G := by assumption
  have hS : tab d.S := by assumption
  refine X.lp rfl (fun m F' H' => ∃ k : Nat, m = 9 - k ∧ k ≤ 9 ∧ (∀ g s : Int, 1 ≤ g ∧ g < 1 + k → 1 ≤ s ∧ s ≤ 9 → 0 ≤ d.price + at1 d.G g + at1 d.S s) ∧ ⟨bx, 0, cDy d, some 48, 3⟩ :: H = H' ∧ F' = [(1, .pointer (some ⟨bx, 0, none⟩)), (3, .int .i64 (1 + k))])
    9 [(1, .pointer (some ⟨bx, 0, none⟩)), (3, .int .i64 (1 + (0 : Nat)))] _ (by (repeat (first | exact Sub.nil _ | refine Sub.cons rfl ?_)); done) (List.Sublist.refl _) ⟨0, by omega, by omega, (fun g s h => absurd h (by omega)), rfl, rfl⟩ ?_
  rintro _ _ _ ⟨k, rfl, hk, hn, rfl, rfl⟩
  repeat' (first | (refine XO.op rfl ?_; (first | ((first | refine Xo.ng rfl ?_); (first | (refine Xg.ev (EvF.move rfl rfl) rfl rfl ?_) | (refine Xg.ev (EvF.assign rfl rfl) rfl rfl ?_) | (refine Xg.ev (EvF.cmp rfl rfl rfl rfl) rfl rfl ?_))))) | (refine XO.done rfl ?_; refine hK _ _ ?_; clear hK K) | refine X.seq rfl ?_ | refine X.region rfl (fun K hK => ?_) | refine X.block rfl ?_ | (refine X.brk rfl ?_; repeat (first | refine blockX_hit rfl ?_ | refine blockX_miss (by decide) ?_)) | refine X.skip rfl ?_ | refine X.ret rfl ?_ | (refine X.ite rfl rfl (fun hc => ?_); (first | (with_reducible refine Xb.case hc (fun h => ?_) (fun h => ?_))) <;> clear hc))
  · have hk9 : k < 9 := by omega
    refine X.lp rfl (fun m F' H' => ∃ j : Nat, m = 9 - j ∧ j ≤ 9 ∧ (∀ s : Int, 1 ≤ s ∧ s < 1 + j → 0 ≤ d.price + at1 d.G (1 + k) + at1 d.S s) ∧ ⟨bx, 0, cDy d, some 48, 3⟩ :: H = H' ∧ F' = [(1, .pointer (some ⟨bx, 0, none⟩)), (3, .int .i64 (1 + k)), (4, .int .i64 (1 + j))])
      9 [(1, .pointer (some ⟨bx, 0, none⟩)), (3, .int .i64 (1 + k)), (4, .int .i64 (1 + (0 : Nat)))] _ (by (repeat (first | exact Sub.nil _ | refine Sub.cons rfl ?_)); done) (List.Sublist.refl _) ⟨0, by omega, by omega, (fun s h => absurd h (by omega)), rfl, rfl⟩ ?_
    rintro _ _ _ ⟨j, rfl, hj, hm, rfl, rfl⟩
    repeat' (first | (refine XO.op rfl ?_; (first | ((first | refine Xo.ng rfl ?_); (first | (refine Xg.ev (EvF.move rfl rfl) rfl rfl ?_) | (refine Xg.ev (EvF.assign rfl rfl) rfl rfl ?_) | (refine Xg.ev (EvF.cmp rfl rfl rfl rfl) rfl rfl ?_) | (refine Xg.ev (EvF.add64 rfl rfl rfl (by omega) (by omega)) rfl rfl ?_) | (refine Xg.ev (EvF.loadV rfl rfl (LoadV.whole (te rfl) rfl (List.Mem.head _) rfl)) rfl rfl ?_))))) | (refine XO.done rfl ?_; refine hK _ _ ?_; clear hK K) | refine X.seq rfl ?_ | refine X.region rfl (fun K hK => ?_) | refine X.block rfl ?_ | (refine X.brk rfl ?_; repeat (first | refine blockX_hit rfl ?_ | refine blockX_miss (by decide) ?_)) | refine X.skip rfl ?_ | (refine X.ite rfl rfl (fun hc => ?_); (first | (with_reducible refine Xb.case hc (fun h => ?_) (fun h => ?_))) <;> clear hc))
    · have hj9 : j < 9 := by omega
      have hc : in9 ⟨1 + k, 1 + j⟩ := ⟨by dsimp only; omega, by dsimp only; omega⟩
      have hv := fun H h => rcosts_spec d ⟨1 + k, 1 + j⟩ H h hG hS hp hc
      unfold dco at hv
      dsimp only at hv
      repeat' (first | (refine XO.op rfl ?_; (first | ((first | refine Xo.ng rfl ?_); (first | (refine Xg.ev (EvF.build (cs := cCl ⟨1 + k, 1 + j⟩) rfl (ArgsP.cons rfl (ArgsP.cons rfl ArgsP.nil)) (te rfl) (Places.cons (te rfl) (Places.cons (te rfl) Places.nil)) Tryz.zeroValue27 rfl) rfl rfl ?_) | (refine Xg.call (EnF.st rfl (Args.cons rfl (Args.cons rfl Args.nil))) rfl rfl (hv _ (hD1 [_])) ?_; rintro _ H9 ⟨rfl, hH9⟩; subst H9) | (refine Xg.ev (EvF.move rfl rfl) rfl rfl ?_) | (refine Xg.ev (EvF.assign rfl rfl) rfl rfl ?_) | (refine Xg.ev (EvF.cmp rfl rfl rfl rfl) rfl rfl ?_) | (refine Xg.ev (EvF.add64 rfl rfl rfl (by omega) (by omega)) rfl rfl ?_))))) | (refine XO.done rfl ?_; refine hK _ _ ?_; clear hK K) | refine X.seq rfl ?_ | refine X.region rfl (fun K hK => ?_) | refine X.skip rfl ?_ | refine X.ret rfl ?_ | (refine X.ite rfl rfl (fun hc => ?_); (first | (with_reducible refine Xb.case hc (fun h => ?_) (fun h => ?_))) <;> clear hc))
      · refine ret_one (by first | exact .inr rfl | exact .inl rfl) Tryz.results89 rfl (H' := H) (by (repeat (first | exact List.Sublist.refl _ | apply List.Sublist.cons)); done) ?_; simp only [and_true, true_and]
        congr 1; symm
        refine decide_eq_false (fun q => ?_)
        have := (hdd.1 q).2.2.2 (1 + k) (1 + j) (by omega) (by omega)
        omega
      · refine ⟨_, [(1, .pointer (some ⟨bx, 0, none⟩)), (3, .int .i64 (1 + k)), (4, .int .i64 (1 + (j + 1 : Nat)))], _, (by rw [show (1 : Int) + ((j + 1 : Nat) : Int) = 1 + j + 1 by omega]; exact (by (repeat (first | exact Sub.nil _ | refine Sub.cons rfl ?_)); done)), List.Sublist.refl _, ⟨j + 1, rfl, by omega, (fun s hs => ?_), rfl, rfl⟩, by omega⟩
        by_cases q : s < 1 + j
        · exact hm s ⟨hs.1, q⟩
        · rw [show s = 1 + j by omega]; omega
    · refine ⟨_, [(1, .pointer (some ⟨bx, 0, none⟩)), (3, .int .i64 (1 + (k + 1 : Nat)))], _, (by rw [show (1 : Int) + ((k + 1 : Nat) : Int) = 1 + k + 1 by omega]; exact (by (repeat (first | exact Sub.nil _ | refine Sub.cons rfl ?_)); done)), List.Sublist.refl _, ⟨k + 1, rfl, by omega, (fun g s hg hs => ?_), rfl, rfl⟩, by omega⟩
      by_cases q : g < 1 + k
      · exact hn g s ⟨hg.1, q⟩ hs
      · rw [show g = 1 + k by omega]; exact hm s (by omega)
  · refine ret_one (by first | exact .inr rfl | exact .inl rfl) Tryz.results89 rfl (H' := H) (by (repeat (first | exact List.Sublist.refl _ | apply List.Sublist.cons)); done) ?_; simp only [and_true, true_and]
    congr 1; symm
    exact decide_eq_true (hdd.2 ⟨hp, hG, hS, fun g s hg hs => hn g s (by omega) hs⟩)
end Go.Proofs.YtcjlegjchllgjaaGreat
end
section
set_option linter.unusedVariables false
set_option linter.unusedSimpArgs false
namespace Go.Proofs.YtcjlegjchllgjaaGreat
open Go Go.Fw
set_option maxRecDepth 10000
theorem ir_bd {a b x : Int} (h : x ∈ ir a b) : a ≤ x ∧ x ≤ b := by
  unfold ir at h
  obtain ⟨i, hi, rfl⟩ := List.mem_map.1 h
  rw [List.mem_range] at hi
  omega
theorem flatMap_congr' {α β : Type} {f g : α → List β} : ∀ {l : List α}, (∀ x ∈ l, f x = g x) → l.flatMap f = l.flatMap g
  | [], _ => rfl
  | x :: l, h => by rw [List.flatMap_cons, List.flatMap_cons, h x List.mem_cons_self, flatMap_congr' (fun y hy => h y (List.mem_cons_of_mem _ hy))]
end Go.Proofs.YtcjlegjchllgjaaGreat
end
section
set_option linter.unusedVariables false
set_option linter.unusedSimpArgs false
namespace Go.Proofs.YtcjlegjchllgjaaGreat
open Go Go.Fw
set_option maxRecDepth 10000
theorem greatD_spec (d : Dy) (H : List Row) : Fc Tryz.prog 88 [.agg (cDy d).toArray] H (fun v H' => v = .bool (decide (d.G.length > 30 ∨ d.S.length > 30)) ∧ H' = H) := by
  refine Fc.mk (callable Tryz.call88) Tryz.func88 rfl Tryz.ntmps88 rfl ?_; dsimp only [fr]
  repeat' (first | (refine XO.op rfl ?_; (first | ((first | refine Xo.ng rfl ?_ | (refine Xo.g rfl rfl ?_; with_reducible refine Xw.ff ?_)); (first | (refine Xg.ev (EvF.move rfl rfl) rfl rfl ?_) | (refine Xg.ev (EvF.assign rfl rfl) rfl rfl ?_) | (refine Xg.ev (EvF.pickT rfl rfl rfl) rfl rfl ?_) | (refine Xg.ev (EvF.pickF rfl rfl rfl) rfl rfl ?_) | (refine Xg.ev (EvF.cmp rfl rfl rfl rfl) rfl rfl ?_) | (refine Xg.ev (EvF.fieldAddr rfl rfl (te rfl) rfl (te rfl) (by decide)) rfl rfl ?_) | (refine Xg.ev (EvF.lenSlice rfl rfl (te rfl)) rfl rfl ?_) | (refine Xg.ev (EvF.loadV rfl rfl (LoadV.own (te rfl) rfl (List.Mem.head _) rfl)) rfl rfl ?_) | (refine Xg.st (StF.boxAgg rfl rfl) rfl rfl ?_; rintro _ _ ⟨bx, rfl, rfl⟩))) | (refine Xo.g rfl rfl ?_; (first | (with_reducible refine Xw.tf rfl rfl ?_) | (with_reducible refine Xw.case (fun h => ?_) (fun h => ?_) <;> simp only [h, decide_true, decide_false, Bool.not_true, Bool.not_false, and_self, and_true, true_and, and_false, false_and]))))) | (refine XO.done rfl ?_; refine hK _ _ ?_; clear hK K) | refine X.seq rfl ?_ | refine X.region rfl (fun K hK => ?_) | refine X.ret rfl ?_)
  all_goals (refine ret_one (by first | exact .inr rfl | exact .inl rfl) Tryz.results88 rfl (H' := H) (by (repeat (first | exact List.Sublist.refl _ | apply List.Sublist.cons)); done) ?_; simp only [and_true, true_and])
  all_goals (congr 1; first | exact decide_eq_decide.2 (by omega) | (symm; exact decide_eq_true (by omega)) | (symm; exact decide_eq_false (by omega)))
end Go.Proofs.YtcjlegjchllgjaaGreat
end
section
set_option linter.unusedVariables false
set_option linter.unusedSimpArgs false
namespace Go.Proofs.YtcjlegjchllgjaaGreat
open Go Go.Fw
set_option maxRecDepth 10000
theorem greatDT (d : Dy) (h : d.G.length > 30 ∨ d.S.length > 30) (H : List Row) : Fc Tryz.prog 88 [.agg (cDy d).toArray] H (fun v H' => v = .bool true ∧ H' = H) := by
  have := greatD_spec d H
  rwa [decide_eq_true h] at this
theorem greatDF (d : Dy) (h : ¬ (d.G.length > 30 ∨ d.S.length > 30)) (H : List Row) : Fc Tryz.prog 88 [.agg (cDy d).toArray] H (fun v H' => v = .bool false ∧ H' = H) := by
  have := greatD_spec d H
  rwa [decide_eq_false h] at this
end Go.Proofs.YtcjlegjchllgjaaGreat
end
