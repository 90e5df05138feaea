/- BoxTells: for every room, two boxes and a month the law returns true (whether the room is valid, whether it has a truth, by how much a box has yellowed, and what two boxes differ by, or the errors, are those of the reference, and the room stays), and each argument reads afterwards as before. No condition. -/
import Derived.Test.YthnhignoaoonbaaW05
import Derived.OpenShut
import Derived.ProofKit
import Derived.Test.YthnhignoaoonbaaRows
import Derived.WalkKit
import Derived.ChangeOld
import Derived.ShutString
section
set_option linter.unusedVariables false
set_option linter.unusedSimpArgs false
namespace Go.Proofs.Ythnhignoaoonbaa
open Go Go.Fw
set_option maxRecDepth 10000
theorem rThere_spec (R : Rm) (p : Pl) (id m : Int) (H : List Row) (hR : RmOk H R p) (hm : 1 ≤ R.months ∧ R.months ≤ 12) (hi : 0 ≤ index R.boxes id) : Fc Try.prog 77 [.agg (cRm R p).toArray, .int .i64 (index R.boxes id), .int .i64 m] H (fun v H' => v = .bool (decide ((0 ≤ m ∧ m ≤ R.months - 1) ∧ (bxAt R.boxes id).made ≤ m)) ∧ H' = H) := by
  have hlt := index_lt R.boxes id
  have he := index_get hi
  obtain ⟨a1, c1, a2, c2, a3, c3⟩ := p
  obtain ⟨b, off, _, rfl, _⟩ := hR.boxes.elem (i := 0) (by omega)
  have hbx : ∀ r, SlE (r :: H) _ cBx 2 R.boxes := fun r => hR.boxes.sub (fun _ h => List.mem_cons_of_mem _ h)
  refine Fc.mk (callable Try.call77) Try.func77 rfl Try.ntmps77 rfl ?_; dsimp only [fr]
  repeat' (first | (refine XO.op rfl ?_; (first | ((first | refine Xo.ng rfl ?_ | (refine Xo.g rfl rfl ?_; with_reducible refine Xw.tt ?_)); (first | (refine Xg.call (EnF.st rfl (by (repeat (first | exact Args.nil | refine Args.cons rfl ?_)); done)) rfl rfl (within_spec _ _ _ _) ?_; rintro _ H9 ⟨rfl, hH9⟩; subst H9) | (refine Xg.ev (EvF.loadV rfl rfl (LoadV.el1 (hbx _) he (te rfl) rfl (fun _ hm => hm) rfl)) rfl rfl ?_) | (refine Xg.ev (EvF.move rfl rfl) rfl rfl ?_) | (refine Xg.ev (EvF.assign rfl rfl) rfl rfl ?_) | (refine Xg.ev (EvF.pickT rfl rfl rfl) rfl rfl ?_) | (refine Xg.ev (EvF.pickF rfl rfl rfl) rfl rfl ?_) | (refine Xg.ev (EvF.cmp rfl rfl rfl rfl) rfl rfl ?_) | (refine Xg.ev (EvF.sub64 rfl rfl rfl (by omega) (by omega)) rfl rfl ?_) | (refine Xg.ev (EvF.fieldAddr rfl rfl (te rfl) rfl (te rfl) (by decide)) rfl rfl ?_) | (refine Xg.ev (EvF.indexSlice rfl rfl rfl (te rfl) (te rfl) (by omega) (by omega)) rfl rfl ?_) | (refine Xg.ev (EvF.loadV rfl rfl (LoadV.own (te rfl) rfl (List.Mem.head _) rfl)) rfl rfl ?_) | (refine Xg.st (StF.boxAgg rfl rfl) rfl rfl ?_; rintro _ _ ⟨bx, rfl, rfl⟩))) | (refine Xo.g rfl rfl ?_; (first | (with_reducible refine Xw.ft rfl rfl ?_) | (with_reducible refine Xw.case (fun h => ?_) (fun h => ?_) <;> simp only [h, decide_true, decide_false, Bool.not_true, Bool.not_false, and_self, and_true, true_and, and_false, false_and]))))) | (refine XO.done rfl ?_; refine hK _ _ ?_; clear hK K) | refine X.seq rfl ?_ | refine X.region rfl (fun K hK => ?_) | refine X.ret rfl ?_)
  all_goals (refine ret_one (by first | exact .inr rfl | exact .inl rfl) Try.results77 rfl (H' := H) (by (repeat (first | exact List.Sublist.refl _ | apply List.Sublist.cons)); done) ?_; simp only [and_true, true_and])
  all_goals (congr 1; symm)
  all_goals first
    | exact decide_eq_false (fun q => absurd q.1 (by assumption))
    | exact decide_eq_decide.2 ⟨fun q => q.2, fun q => ⟨by assumption, q⟩⟩
    | (simp_all)
def okId (R : Rm) (i m : Int) : Prop := (0 ≤ m ∧ m ≤ R.months - 1) ∧ (bxAt R.boxes i).made ≤ m
instance (R : Rm) (i m : Int) : Decidable (okId R i m) := by unfold okId; infer_instance
theorem inTime_iff {R : Rm} {l : List Int} {m : Int} (hr : okRm R) (ha : allThere R l) (hm : 0 ≤ m ∧ m ≤ R.months - 1) : inTime R l [m] ↔ ∀ i ∈ l, okId R i m := by
  constructor
  · intro h i hi
    refine ⟨hm, ?_⟩
    have hx := (index_ge R.boxes i).2 (ha i hi)
    refine Classical.byContradiction fun q => (h m (List.mem_singleton.2 rfl)).2 ⟨bxAt R.boxes i, bxAt_mem hx, by omega, by rw [bxAt_id _ _ hx]; exact hi⟩
  · intro h q hq
    rw [List.mem_singleton] at hq
    subst hq
    refine ⟨hm, ?_⟩
    rintro ⟨b, hb, h1, h2⟩
    obtain ⟨j, hj⟩ := box_at hb
    have h3 := (h b.id h2).2
    have hi0 : 0 ≤ index R.boxes b.id := by rw [index_box hr.bx hj]; omega
    have h4 := index_get hi0
    rw [index_box hr.bx hj] at h4
    have h5 : R.boxes[((j : Nat) : Int).toNat]? = some b := hj
    rw [h5] at h4
    rw [← Option.some.inj h4] at h3
    omega
structure As (R : Rm) (e : Int) (l : List Sp) : Prop where
  hT : hasT R R.mats
  good : GoodC R R.mats l
  ex : ∀ b m, there R b m → ExR R R.mats ⟨b.id, m⟩ zp (sat l (cel R ⟨b.id, m⟩))
def tsAk : List TOp := [⟨some 43, [], [], []⟩, ⟨some 44, [], [], []⟩, ⟨some 45, [], [], []⟩, ⟨some 46, [1, 2], [1, 2], []⟩, ⟨some 47, [], [], []⟩, ⟨some 48, [0, 1, 2, 3, 4], [0, 3, 4], []⟩, ⟨some 49, [0, 1, 2, 3, 4, 5], [5], []⟩]
def valAk (b3 b6 : Nat) (R : Rm) (p : Pl) (x m ix : Int) (w : Bool) (v1 v37 v38 v39 : Value) (k : Nat) (env : Env) : Value :=
  match k with
  | 0 => .agg (cRm R p).toArray
  | 1 => .agg (cRm R p).toArray
  | 2 => .int .i64 x
  | 3 => .int .i64 ix
  | 4 => .int .i64 m
  | 5 => .bool w
  | 6 => .bool (!w)
  | _ => undef
def rowsAk (b3 b6 : Nat) (R : Rm) (p : Pl) (x m ix : Int) (w : Bool) (v1 v37 v38 v39 : Value) (k : Nat) (env : Env) : List Row :=
  match k with
  | _ => []
theorem locAk (b3 b6 : Nat) (R : Rm) (p : Pl) (x m ix : Int) (w : Bool) (v1 v37 v38 v39 : Value) : ∀ k env i q9, i ≠ k → (tAt tsAk k).sup.contains i = false → valAk b3 b6 R p x m ix w v1 v37 v38 v39 k (upd env i q9) = valAk b3 b6 R p x m ix w v1 v37 v38 v39 k env ∧ rowsAk b3 b6 R p x m ix w v1 v37 v38 v39 k (upd env i q9) = rowsAk b3 b6 R p x m ix w v1 v37 v38 v39 k env := by
  intro k env i q hk hs
  have hu : ∀ j, j ≠ i → upd env i q j = env j := fun j hj => by unfold upd; rw [if_neg hj]
  match k, hk, hs with
  | 0, _, _ => exact ⟨rfl, rfl⟩
  | 1, _, _ => exact ⟨rfl, rfl⟩
  | 2, _, _ => exact ⟨rfl, rfl⟩
  | 3, _, _ => exact ⟨rfl, rfl⟩
  | 4, _, _ => exact ⟨rfl, rfl⟩
  | 5, _, _ => exact ⟨rfl, rfl⟩
  | 6, _, _ => exact ⟨rfl, rfl⟩
  | _ + 7, _, _ => exact ⟨rfl, rfl⟩
set_option maxHeartbeats 8000000 in
theorem rAsked_spec (R : Rm) (p : Pl) (l : List Int) (a : Option Addr) (cl : Nat) (m : Int) (H : List Row) (hR : RmOk H R p) (hl : SlE H a cI 1 l) (hll : l.length ≤ 1000000) :
    Fc Try.prog 61 [.agg (cRm R p).toArray, .slice a l.length cl, .int .i64 m] H (fun v H' => ∃ c, c.length = 48 ∧ (openE R l [m] = 0 → As R 0 c) ∧ v = .tuple #[.agg (c.flatMap cSp).toArray, .int .i64 (openE R l [m])] ∧ H' = H) := by
  classical
  by_cases hok : roomOk R
  · have hr := hok.ok
    have hm12 := hr.m12
    have hm1 := hr.m1
    have hlm : R.mats.length ≤ 100 := by have := hok.1.2.2.2.2.2.2; omega
    have hrs : ∀ r1 r2, Fc Try.prog 47 [.agg (cRm R p).toArray] (r1 :: r2 :: H) (fun v H' => v = .bool true ∧ H' = r1 :: r2 :: H) := fun r1 r2 => by
      have := room_spec R p (r1 :: r2 :: H) (hR.sub (fun _ h => List.Mem.tail _ (List.Mem.tail _ h)))
      rwa [decide_eq_true hok] at this
    refine Fc.mk (callable Try.call61) Try.func61 rfl Try.ntmps61 rfl ?_; dsimp only [fr]
    repeat' (first | (refine XO.op rfl ?_; (first | ((first | refine Xo.ng rfl ?_); (first | (refine Xg.ev (EvF.loadV rfl rfl (LoadV.whole (T := 26) (cs := cRm R p) (te rfl) rfl (by repeat (first | exact List.Mem.head _ | apply List.Mem.tail)) rfl)) rfl rfl ?_) | (refine Xg.call (EnF.st rfl (Args.cons rfl Args.nil)) rfl rfl (hrs _ _) ?_; rintro _ H9 ⟨rfl, hH9⟩; subst H9) | (refine Xg.ev (EvF.move rfl rfl) rfl rfl ?_) | (refine Xg.ev (EvF.assign rfl rfl) rfl rfl ?_) | (refine Xg.ev (EvF.not rfl rfl) rfl rfl ?_) | (refine Xg.ev (EvF.lenSlice rfl rfl (te rfl)) rfl rfl ?_) | (refine Xg.st (StF.boxAgg rfl rfl) rfl rfl ?_; rintro _ _ ⟨bx, rfl, rfl⟩) | (refine Xg.st (StF.alloc rfl Try.zeroValue107 rfl) rfl rfl ?_; rintro _ _ ⟨bx, rfl, rfl⟩))))) | (refine XO.done rfl ?_; refine hK _ _ ?_; clear hK K) | refine X.seq rfl ?_ | refine X.region rfl (fun K hK => ?_) | refine X.block rfl ?_ | refine X.skip rfl ?_ | (refine X.ite rfl rfl (fun hc => ?_); (first | (with_reducible refine Xb.caseB hc (fun h => ?_) (fun h => ?_))) <;> clear hc))
    · exact absurd (by assumption : (!true) = true) (by decide)
    rename_i b3
    generalize bx = b6
    refine X.lp rfl (fun q F' H' => ∃ (i : Nat), q = l.length - i ∧ i ≤ l.length ∧ (∀ j x, j < i → l[j]? = some x → 0 ≤ index R.boxes x) ∧ H' = ⟨b6, 0, zRc.flatMap cSp, some 107, 96⟩ :: ⟨b3, 0, cRm R p, some 26, 5⟩ :: H ∧ F' = [(1, .slice a l.length cl), (2, .int .i64 m), (3, .pointer (some ⟨b3, 0, none⟩)), (6, .pointer (some ⟨b6, 0, none⟩)), (7, .int .i64 0), (18, .slice a l.length cl), (19, .int .i64 l.length), (20, .int .i64 i)])
      l.length [(1, .slice a l.length cl), (2, .int .i64 m), (3, .pointer (some ⟨b3, 0, none⟩)), (6, .pointer (some ⟨b6, 0, none⟩)), (7, .int .i64 0), (18, .slice a l.length cl), (19, .int .i64 l.length), (20, .int .i64 (0 : Nat))] (⟨b6, 0, zRc.flatMap cSp, some 107, 96⟩ :: ⟨b3, 0, cRm R p, some 26, 5⟩ :: H) (by (repeat (first | exact Sub.nil _ | refine Sub.cons rfl ?_)); done) (List.Sublist.refl _) ⟨0, by omega, by omega, fun j _ h => absurd h (Nat.not_lt_zero _), rfl, rfl⟩ ?_
    rintro _ _ _ ⟨i, rfl, hi, hall, rfl, rfl⟩
    repeat' (first | (refine XO.op rfl ?_; (first | ((first | refine Xo.ng rfl ?_); (first | (refine Xg.ev (EvF.move rfl rfl) rfl rfl ?_) | (refine Xg.ev (EvF.cmp rfl rfl rfl rfl) rfl rfl ?_) | (refine Xg.ev (EvF.sub64 rfl rfl rfl (by omega) (by omega)) rfl rfl ?_) | (refine Xg.ev (EvF.fieldAddr rfl rfl (te rfl) rfl (te rfl) (by decide)) rfl rfl ?_) | (refine Xg.ev (EvF.loadV rfl rfl (LoadV.own (te rfl) rfl (List.Mem.tail _ (List.Mem.head _)) rfl)) rfl rfl ?_))))) | (refine XO.done rfl ?_; refine hK _ _ ?_; clear hK K) | refine X.seq rfl ?_ | refine X.region rfl (fun K hK => ?_) | refine X.block rfl ?_ | (refine X.brk rfl ?_; repeat (first | refine blockX_hit rfl ?_ | refine blockX_miss (by decide) ?_)) | refine X.skip rfl ?_ | (refine X.ite rfl rfl (fun hc => ?_); (first | (with_reducible refine Xb.case hc (fun h => ?_) (fun h => ?_))) <;> clear hc))
    · obtain ⟨bl, ol, x, rfl, he⟩ := hl.elem (i := i) (by omega)
      have hsub : ∀ r1 r2, SlE (r1 :: r2 :: H) (some ⟨bl, ol, none⟩) cI 1 l := fun r1 r2 => hl.sub (fun _ h => List.Mem.tail _ (List.Mem.tail _ h))
      repeat' (first | (refine XO.op rfl ?_; (first | ((first | refine Xo.ng rfl ?_); (first | (refine Xg.ev (EvF.loadV rfl rfl (LoadV.el0 (hsub _ _) he (te rfl) rfl (fun _ hm => hm) rfl)) rfl rfl ?_) | (refine Xg.ev (EvF.loadV rfl rfl (LoadV.whole (T := 26) (cs := cRm R p) (te rfl) rfl (by repeat (first | exact List.Mem.head _ | apply List.Mem.tail)) rfl)) rfl rfl ?_) | (refine Xg.call (EnF.st rfl (Args.cons rfl (Args.cons rfl Args.nil))) rfl rfl (index_spec R p x _ (hR.sub (fun _ h => by repeat (first | exact h | apply List.Mem.tail)))) ?_; rintro _ H9 ⟨rfl, hH9⟩; subst H9) | (refine Xg.ev (EvF.buildArr (zs := zRc.flatMap cSp) (cs := zRc.flatMap cSp) rfl ArgsP.nil (te rfl) (te rfl) Try.zeroValue107 rfl) rfl rfl ?_) | (refine Xg.st0 (StF.storeAll (i := 0) (vs := zRc.flatMap cSp) (cs := zRc.flatMap cSp) rfl rfl rfl (te rfl) rfl rfl rfl rfl) rfl ?_; rintro _ _ ⟨rfl, rfl⟩; dsimp only [List.set]) | (refine Xg.ev (EvF.move rfl rfl) rfl rfl ?_) | (refine Xg.ev (EvF.assign rfl rfl) rfl rfl ?_) | (refine Xg.ev (EvF.cmp rfl rfl rfl rfl) rfl rfl ?_) | (refine Xg.ev (EvF.add64 rfl rfl rfl (by omega) (by omega)) rfl rfl ?_) | (refine Xg.ev (EvF.indexSlice rfl rfl rfl (te rfl) (te rfl) (by omega) (by omega)) rfl rfl ?_))))) | (refine XO.done rfl ?_; refine hK _ _ ?_; clear hK K) | refine X.seq rfl ?_ | refine X.region rfl (fun K hK => ?_) | refine X.skip rfl ?_ | refine X.ret rfl ?_ | (refine X.ite rfl rfl (fun hc => ?_); (first | (with_reducible refine Xb.case hc (fun h => ?_) (fun h => ?_))) <;> clear hc))
      · have h6 : openE R l [m] = 6 := by
          unfold openE
          rw [if_pos hok, if_neg (fun q => by have := (index_ge R.boxes x).2 (q x (List.mem_of_getElem? he)); omega)]
        exact ret_two (v := .agg (zRc.flatMap cSp).toArray) (by first | exact .inr rfl | exact .inl rfl) Try.results61 ⟨_, rfl, LoadV.whole (te rfl) rfl (List.Mem.head _) rfl⟩ rfl (H' := H) (by (repeat (first | exact List.Sublist.refl _ | apply List.Sublist.cons_cons | apply List.Sublist.cons)); done) ⟨zRc, rfl, (fun h => absurd h (by rw [h6]; decide)), by rw [h6], rfl⟩
      · exact ⟨_, [(1, .slice (some ⟨bl, ol, none⟩) l.length cl), (2, .int .i64 m), (3, .pointer (some ⟨b3, 0, none⟩)), (6, .pointer (some ⟨b6, 0, none⟩)), (7, .int .i64 0), (18, .slice (some ⟨bl, ol, none⟩) l.length cl), (19, .int .i64 l.length), (20, .int .i64 (i + 1 : Nat))], ⟨b6, 0, zRc.flatMap cSp, some 107, 96⟩ :: ⟨b3, 0, cRm R p, some 26, 5⟩ :: H, (by (repeat (first | exact Sub.nil _ | refine Sub.cons rfl ?_)); done), (by (repeat (first | exact List.Sublist.refl _ | apply List.Sublist.cons_cons | apply List.Sublist.cons)); done), ⟨i + 1, rfl, by omega, fun j y hj hy => by
          by_cases e : j < i
          · exact hall j y e hy
          · rw [show j = i by omega, he] at hy
            cases hy
            omega, rfl, rfl⟩, by omega⟩
    · have hal : allThere R l := fun x hx => by
        obtain ⟨j, hj, ex⟩ := List.mem_iff_getElem.1 hx
        exact (index_ge R.boxes x).1 (hall j x (by omega) (by rw [List.getElem?_eq_getElem hj, ex]))
      repeat' (first | (refine XO.op rfl ?_; (first | ((first | refine Xo.ng rfl ?_); (first | (refine Xg.call (EnF.st rfl (Args.cons rfl (Args.cons rfl (Args.cons rfl Args.nil)))) rfl rfl (within_spec _ _ _ _) ?_; rintro _ H9 ⟨rfl, hH9⟩; subst H9) | (refine Xg.ev (EvF.buildArr (zs := zRc.flatMap cSp) (cs := zRc.flatMap cSp) rfl ArgsP.nil (te rfl) (te rfl) Try.zeroValue107 rfl) rfl rfl ?_) | (refine Xg.st0 (StF.storeAll (i := 0) (vs := zRc.flatMap cSp) (cs := zRc.flatMap cSp) rfl rfl rfl (te rfl) rfl rfl rfl rfl) rfl ?_; rintro _ _ ⟨rfl, rfl⟩; dsimp only [List.set]) | (refine Xg.ev (EvF.move rfl rfl) rfl rfl ?_) | (refine Xg.ev (EvF.assign rfl rfl) rfl rfl ?_) | (refine Xg.ev (EvF.not rfl rfl) rfl rfl ?_) | (refine Xg.ev (EvF.lenSlice rfl rfl (te rfl)) rfl rfl ?_))))) | (refine XO.done rfl ?_; refine hK _ _ ?_; clear hK K) | refine X.seq rfl ?_ | refine X.region rfl (fun K hK => ?_) | refine X.block rfl ?_ | refine X.skip rfl ?_ | refine X.ret rfl ?_ | (refine X.ite rfl rfl (fun hc => ?_); (first | (with_reducible refine Xb.caseN hc (fun h => ?_) (fun h => ?_))) <;> clear hc))
      · have h11 : openE R l [m] = 11 := by
          unfold openE
          rw [if_pos hok, if_pos hal, if_neg (fun q => absurd (q m (List.mem_singleton.2 rfl)).1 (by simp_all))]
        exact ret_two (v := .agg (zRc.flatMap cSp).toArray) (by first | exact .inr rfl | exact .inl rfl) Try.results61 ⟨_, rfl, LoadV.whole (te rfl) rfl (List.Mem.head _) rfl⟩ rfl (H' := H) (by (repeat (first | exact List.Sublist.refl _ | apply List.Sublist.cons_cons | apply List.Sublist.cons)); done) ⟨zRc, rfl, (fun h => absurd h (by rw [h11]; decide)), by rw [h11], rfl⟩
      · have hw : 0 ≤ m ∧ m ≤ R.months - 1 := by simp_all
        have hit := inTime_iff hr hal hw
        refine X.lp rfl (fun q F' H' => ∃ (i : Nat), q = l.length - i ∧ i ≤ l.length ∧ (∀ j x, j < i → l[j]? = some x → okId R x m) ∧ H' = ⟨b6, 0, zRc.flatMap cSp, some 107, 96⟩ :: ⟨b3, 0, cRm R p, some 26, 5⟩ :: H ∧ F' = [(1, .slice a l.length cl), (2, .int .i64 m), (3, .pointer (some ⟨b3, 0, none⟩)), (6, .pointer (some ⟨b6, 0, none⟩)), (7, .int .i64 0), (37, .slice a l.length cl), (38, .int .i64 l.length), (39, .int .i64 i)])
          l.length [(1, .slice a l.length cl), (2, .int .i64 m), (3, .pointer (some ⟨b3, 0, none⟩)), (6, .pointer (some ⟨b6, 0, none⟩)), (7, .int .i64 0), (37, .slice a l.length cl), (38, .int .i64 l.length), (39, .int .i64 (0 : Nat))] (⟨b6, 0, zRc.flatMap cSp, some 107, 96⟩ :: ⟨b3, 0, cRm R p, some 26, 5⟩ :: H) (by (repeat (first | exact Sub.nil _ | refine Sub.cons rfl ?_)); done) (List.Sublist.refl _) ⟨0, by omega, by omega, fun j _ h => absurd h (Nat.not_lt_zero _), rfl, rfl⟩ ?_
        rintro _ _ _ ⟨k, rfl, hk, hok2, rfl, rfl⟩
        repeat' (first | (refine XO.op rfl ?_; (first | ((first | refine Xo.ng rfl ?_); (first | (refine Xg.ev (EvF.cmp rfl rfl rfl rfl) rfl rfl ?_) | (refine Xg.ev (EvF.loadV rfl rfl (LoadV.whole (te rfl) rfl (List.Mem.tail _ (List.Mem.head _)) rfl)) rfl rfl ?_))))) | (refine XO.done rfl ?_; refine hK _ _ ?_; clear hK K) | refine X.seq rfl ?_ | refine X.region rfl (fun K hK => ?_) | refine X.block rfl ?_ | (refine X.brk rfl ?_; repeat (first | refine blockX_hit rfl ?_ | refine blockX_miss (by decide) ?_)) | refine X.skip rfl ?_ | (refine X.ite rfl rfl (fun hc => ?_); (first | (with_reducible refine Xb.case hc (fun h => ?_) (fun h => ?_))) <;> clear hc))
        · obtain ⟨bl, ol, x, rfl, he⟩ := hl.elem (i := k) (by omega)
          have hsub : ∀ r1 r2, SlE (r1 :: r2 :: H) (some ⟨bl, ol, none⟩) cI 1 l := fun r1 r2 => hl.sub (fun _ h => List.Mem.tail _ (List.Mem.tail _ h))
          repeat' (first | (refine XO.op rfl ?_; (first | ((first | refine Xo.ng rfl ?_); (first | (refine Xg.ev (EvF.loadV rfl rfl (LoadV.el0 (hsub _ _) he (te rfl) rfl (fun _ hm => hm) rfl)) rfl rfl ?_) | (refine Xg.ev (EvF.assign rfl rfl) rfl rfl ?_) | (refine Xg.ev (EvF.indexSlice rfl rfl rfl (te rfl) (te rfl) (by omega) (by omega)) rfl rfl ?_))))) | (refine XO.done rfl ?_; refine hK _ _ ?_; clear hK K) | refine X.seq rfl ?_)
          have hx0 := (index_ge R.boxes x).2 (hal x (List.mem_of_getElem? he))
          have hRs : ∀ S : List Row, (∀ r ∈ ⟨b6, 0, zRc.flatMap cSp, some 107, 96⟩ :: ⟨b3, 0, cRm R p, some 26, 5⟩ :: H, r ∈ S) → RmOk S R p := fun S hS => hR.sub (fun r h => hS r (List.mem_append_right [_, _] h))
          obtain ⟨w, hww⟩ : ∃ w, w = decide (okId R x m) := ⟨_, rfl⟩
          have hth : ∀ S, RmOk S R p → Fc Try.prog 77 [.agg (cRm R p).toArray, .int .i64 (index R.boxes x), .int .i64 m] S (fun v H' => v = .bool w ∧ H' = S) := fun S h => by
            have := rThere_spec R p x m S h ⟨hm1, hm12⟩ hx0
            rw [hww, show decide (okId R x m) = decide ((0 ≤ m ∧ m ≤ R.months - 1) ∧ (bxAt R.boxes x).made ≤ m) from decide_eq_decide.2 Iff.rfl]
            exact this
          refine X.regionOb tsAk [1, 2, 3, 6, 7, 11, 37, 38, 39] [(1, (.slice (some ⟨bl, ol, none⟩) l.length cl)), (2, .int .i64 m), (3, .pointer (some ⟨b3, 0, none⟩)), (6, .pointer (some ⟨b6, 0, none⟩)), (7, .int .i64 0), (11, .int .i64 x), (37, (.slice (some ⟨bl, ol, none⟩) l.length cl)), (38, (.int .i64 l.length)), (39, (.int .i64 k))] (valAk b3 b6 R p x m (index R.boxes x) w (.slice (some ⟨bl, ol, none⟩) l.length cl) (.slice (some ⟨bl, ol, none⟩) l.length cl) (.int .i64 l.length) (.int .i64 k)) (rowsAk b3 b6 R p x m (index R.boxes x) w (.slice (some ⟨bl, ol, none⟩) l.length cl) (.slice (some ⟨bl, ol, none⟩) l.length cl) (.int .i64 l.length) (.int .i64 k)) (fun _ => (0, 0)) (⟨b6, 0, zRc.flatMap cSp, some 107, 96⟩ :: ⟨b3, 0, cRm R p, some 26, 5⟩ :: H) rfl mixed (by (repeat (first | exact Sub.nil _ | refine Sub.cons rfl ?_)); done) rfl (by kernel_rfl) (locAk b3 b6 R p x m (index R.boxes x) w (.slice (some ⟨bl, ol, none⟩) l.length cl) (.slice (some ⟨bl, ol, none⟩) l.length cl) (.int .i64 l.length) (.int .i64 k)) (List.Sublist.refl _) ?_ ?_
          · repeat' (first | exact AllF.done rfl | (refine AllF.step rfl ?_ ?_; · (first | fail | ((first | refine Ob.ng rfl ?_); (first | exact ObK.pure (fun env R hR => by exact ⟨_, EvF.move rfl rfl, rfl⟩) rfl (fun _ => rfl) | exact ObK.pure (fun env R hR => by exact ⟨_, EvF.not rfl rfl, rfl⟩) rfl (fun _ => rfl) | exact ObK.pure (fun env R hR => by exact ⟨_, EvF.loadV rfl rfl (LoadV.whole (te rfl) rfl (hR _ (List.Mem.tail _ (List.Mem.head _))) rfl), rfl⟩) rfl (fun _ => rfl) | (exact fun env S hS => OpF.callV (Z := []) (EnF.st rfl (Args.cons rfl (Args.cons rfl Args.nil))) (index_spec R p x _ (hRs _ hS)) rfl rfl) | (exact fun env S hS => OpF.callV (Z := []) (EnF.st rfl (Args.cons rfl (Args.cons rfl (Args.cons rfl Args.nil)))) (hth _ (hRs _ hS)) rfl rfl))))))
          intro env t ha2 hv; refine ⟨_, ha2.cons (hv 6 49 (Nat.le_of_ble_eq_true rfl) rfl), ?_⟩; clear hv ha2
          show X _ _ _ [(49, .bool !w), (1, .slice (some ⟨bl, ol, none⟩) l.length cl), (2, .int .i64 m), (3, .pointer (some ⟨b3, 0, none⟩)), (6, .pointer (some ⟨b6, 0, none⟩)), (7, .int .i64 0), (11, .int .i64 x), (37, .slice (some ⟨bl, ol, none⟩) l.length cl), (38, .int .i64 l.length), (39, .int .i64 k)] (⟨b6, 0, zRc.flatMap cSp, some 107, 96⟩ :: ⟨b3, 0, cRm R p, some 26, 5⟩ :: H) _
          clear env
          cases w with
          | false =>
            have h11 : openE R l [m] = 11 := by
              unfold openE
              rw [if_pos hok, if_pos hal, if_neg (fun q => absurd (hit.1 q x (List.mem_of_getElem? he)) (of_decide_eq_false hww.symm))]
            repeat' (first | (refine XO.op rfl ?_; (first | ((first | refine Xo.ng rfl ?_); (first | (refine Xg.ev (EvF.buildArr (zs := zRc.flatMap cSp) (cs := zRc.flatMap cSp) rfl ArgsP.nil (te rfl) (te rfl) Try.zeroValue107 rfl) rfl rfl ?_) | (refine Xg.st0 (StF.storeAll (i := 0) (vs := zRc.flatMap cSp) (cs := zRc.flatMap cSp) rfl rfl rfl (te rfl) rfl rfl rfl rfl) rfl ?_; rintro _ _ ⟨rfl, rfl⟩; dsimp only [List.set]) | (refine Xg.ev (EvF.move rfl rfl) rfl rfl ?_) | (refine Xg.ev (EvF.assign rfl rfl) rfl rfl ?_) | (refine Xg.ev (EvF.add64 rfl rfl rfl (by omega) (by omega)) rfl rfl ?_))))) | (refine XO.done rfl ?_; refine hK _ _ ?_; clear hK K) | refine X.seq rfl ?_ | refine X.region rfl (fun K hK => ?_) | refine X.skip rfl ?_ | refine X.ret rfl ?_ | (refine X.ite rfl rfl (fun hc => ?_); (first | (with_reducible refine Xb.caseB hc (fun h => ?_) (fun h => ?_))) <;> clear hc))
            all_goals try (exfalso; contradiction)
            exact ret_two (v := .agg (zRc.flatMap cSp).toArray) (by first | exact .inr rfl | exact .inl rfl) Try.results61 ⟨_, rfl, LoadV.whole (te rfl) rfl (List.Mem.head _) rfl⟩ rfl (H' := H) (by (repeat (first | exact List.Sublist.refl _ | apply List.Sublist.cons_cons | apply List.Sublist.cons)); done) ⟨zRc, rfl, (fun h => absurd h (by rw [h11]; decide)), by rw [h11], rfl⟩
          | true =>
            have hx1 := of_decide_eq_true hww.symm
            repeat' (first | (refine XO.op rfl ?_; (first | ((first | refine Xo.ng rfl ?_); (first | (refine Xg.ev (EvF.move rfl rfl) rfl rfl ?_) | (refine Xg.ev (EvF.add64 rfl rfl rfl (by omega) (by omega)) rfl rfl ?_))))) | (refine XO.done rfl ?_; refine hK _ _ ?_; clear hK K) | refine X.seq rfl ?_ | refine X.region rfl (fun K hK => ?_) | refine X.skip rfl ?_ | (refine X.ite rfl rfl (fun hc => ?_); (first | (with_reducible refine Xb.caseB hc (fun h => ?_) (fun h => ?_))) <;> clear hc))
            all_goals try (exfalso; contradiction)
            exact ⟨_, [(1, .slice (some ⟨bl, ol, none⟩) l.length cl), (2, .int .i64 m), (3, .pointer (some ⟨b3, 0, none⟩)), (6, .pointer (some ⟨b6, 0, none⟩)), (7, .int .i64 0), (37, .slice (some ⟨bl, ol, none⟩) l.length cl), (38, .int .i64 l.length), (39, .int .i64 (k + 1 : Nat))], ⟨b6, 0, zRc.flatMap cSp, some 107, 96⟩ :: ⟨b3, 0, cRm R p, some 26, 5⟩ :: H, (by (repeat (first | exact Sub.nil _ | refine Sub.cons rfl ?_)); done), (by (repeat (first | exact List.Sublist.refl _ | apply List.Sublist.cons_cons | apply List.Sublist.cons)); done), ⟨k + 1, rfl, by omega, fun j y hj hy => by
              by_cases e : j < k
              · exact hok2 j y e hy
              · rw [show j = k by omega, he] at hy
                cases hy
                exact hx1, rfl, rfl⟩, by omega⟩
        · have hit2 : inTime R l [m] := hit.2 (fun x hx => by
            obtain ⟨j, hj, ex⟩ := List.mem_iff_getElem.1 hx
            exact hok2 j x (by omega) (by rw [List.getElem?_eq_getElem hj, ex]))
          have hE : openE R l [m] = if hasT R R.mats then 0 else 8 := by unfold openE; rw [if_pos hok, if_pos hal, if_pos hit2]
          repeat' (first | (refine XO.op rfl ?_; (first | ((first | refine Xo.ng rfl ?_); (first | (refine Xg.call (EnF.st rfl (by (repeat (first | exact Args.nil | refine Args.cons rfl ?_)); done)) rfl rfl (found_spec R p _ hr hok.mats hlm (hR.sub (fun _ h => by repeat (first | exact h | apply List.Mem.tail)))) ?_; rintro _ _ ⟨c, hc, rfl, rfl⟩) | (refine Xg.ev (EvF.extract rfl rfl rfl) rfl rfl ?_) | (refine Xg.st0 (StF.storeAll (i := 0) (vs := c.1.flatMap cSp) (cs := zRc.flatMap cSp) rfl rfl rfl (te rfl) rfl hc.len96 (sp_one _) (by rw [hc.len96, sp_len]; rfl)) rfl ?_; rintro _ _ ⟨rfl, rfl⟩; dsimp only [List.set]) | (refine Xg.ev (EvF.loadV rfl rfl (LoadV.whole (T := 107) (cs := c.1.flatMap cSp) (te rfl) rfl (List.Mem.head _) hc.len96)) rfl rfl ?_) | (refine Xg.st0 (StF.storeAll (i := 1) (vs := c.1.flatMap cSp) (cs := zRc.flatMap cSp) rfl rfl rfl (te rfl) rfl hc.len96 (sp_one _) (by rw [hc.len96, sp_len]; rfl)) rfl ?_; rintro _ _ ⟨rfl, rfl⟩; dsimp only [List.set]) | (refine Xg.ev (EvF.move rfl rfl) rfl rfl ?_) | (refine Xg.ev (EvF.assign rfl rfl) rfl rfl ?_) | (refine Xg.ev (EvF.not rfl rfl) rfl rfl ?_) | (refine Xg.st (StF.alloc rfl Try.zeroValue107 rfl) rfl rfl ?_; rintro _ _ ⟨bx, rfl, rfl⟩))))) | (refine XO.done rfl ?_; refine hK _ _ ?_; clear hK K) | refine X.seq rfl ?_ | refine X.region rfl (fun K hK => ?_) | refine X.skip rfl ?_ | refine X.ret rfl ?_ | (refine X.ite rfl rfl (fun hc => ?_); (first | (with_reducible refine Xb.caseB hc (fun h => ?_) (fun h => ?_))) <;> clear hc))
          · have hn : ¬ hasT R R.mats := hc.no (by simpa using (by assumption : (!c.2) = true))
            rw [if_neg hn] at hE
            exact ret_two (v := .agg (c.1.flatMap cSp).toArray) (by first | exact .inr rfl | exact .inl rfl) Try.results61 ⟨_, rfl, LoadV.whole (te rfl) rfl (List.Mem.tail _ (List.Mem.head _)) hc.len96⟩ rfl (H' := H) (by (repeat (first | exact List.Sublist.refl _ | apply List.Sublist.cons_cons | apply List.Sublist.cons)); done) ⟨c.1, hc.len, (fun q => absurd q (by rw [hE]; decide)), by rw [hE], rfl⟩
          · obtain ⟨y1, y2, y3⟩ := hc.yes (by simpa using (by assumption : (!c.2) = false))
            rw [if_pos y1] at hE
            exact ret_two (v := .agg (c.1.flatMap cSp).toArray) (by first | exact .inr rfl | exact .inl rfl) Try.results61 ⟨_, rfl, LoadV.whole (te rfl) rfl (List.Mem.tail _ (List.Mem.head _)) hc.len96⟩ rfl (H' := H) (by (repeat (first | exact List.Sublist.refl _ | apply List.Sublist.cons_cons | apply List.Sublist.cons)); done) ⟨c.1, hc.len, (fun _ => ⟨y1, y2, y3⟩), by rw [hE], rfl⟩
  · have h10 : openE R l [m] = 10 := by unfold openE; rw [if_neg hok]
    have hrs : ∀ r1 r2, Fc Try.prog 47 [.agg (cRm R p).toArray] (r1 :: r2 :: H) (fun v H' => v = .bool false ∧ H' = r1 :: r2 :: H) := fun r1 r2 => by
      have := room_spec R p (r1 :: r2 :: H) (hR.sub (fun _ h => List.Mem.tail _ (List.Mem.tail _ h)))
      rwa [decide_eq_false hok] at this
    refine Fc.mk (callable Try.call61) Try.func61 rfl Try.ntmps61 rfl ?_; dsimp only [fr]
    repeat' (first | (refine XO.op rfl ?_; (first | ((first | refine Xo.ng rfl ?_); (first | (refine Xg.ev (EvF.loadV rfl rfl (LoadV.whole (T := 26) (cs := cRm R p) (te rfl) rfl (by repeat (first | exact List.Mem.head _ | apply List.Mem.tail)) rfl)) rfl rfl ?_) | (refine Xg.call (EnF.st rfl (Args.cons rfl Args.nil)) rfl rfl (hrs _ _) ?_; rintro _ H9 ⟨rfl, hH9⟩; subst H9) | (refine Xg.ev (EvF.buildArr (zs := zRc.flatMap cSp) (cs := zRc.flatMap cSp) rfl ArgsP.nil (te rfl) (te rfl) Try.zeroValue107 rfl) rfl rfl ?_) | (refine Xg.st0 (StF.storeAll (i := 0) (vs := zRc.flatMap cSp) (cs := zRc.flatMap cSp) rfl rfl rfl (te rfl) rfl rfl rfl rfl) rfl ?_; rintro _ _ ⟨rfl, rfl⟩; dsimp only [List.set]) | (refine Xg.ev (EvF.move rfl rfl) rfl rfl ?_) | (refine Xg.ev (EvF.assign rfl rfl) rfl rfl ?_) | (refine Xg.ev (EvF.not rfl rfl) rfl rfl ?_) | (refine Xg.ev (EvF.lenSlice rfl rfl (te rfl)) rfl rfl ?_) | (refine Xg.st (StF.boxAgg rfl rfl) rfl rfl ?_; rintro _ _ ⟨bx, rfl, rfl⟩) | (refine Xg.st (StF.alloc rfl Try.zeroValue107 rfl) rfl rfl ?_; rintro _ _ ⟨bx, rfl, rfl⟩))))) | (refine XO.done rfl ?_; refine hK _ _ ?_; clear hK K) | refine X.seq rfl ?_ | refine X.region rfl (fun K hK => ?_) | refine X.block rfl ?_ | refine X.skip rfl ?_ | refine X.ret rfl ?_ | (refine X.ite rfl rfl (fun hc => ?_); (first | (with_reducible refine Xb.caseB hc (fun h => ?_) (fun h => ?_))) <;> clear hc))
    all_goals try (exfalso; contradiction)
    exact ret_two (v := .agg (zRc.flatMap cSp).toArray) (by first | exact .inr rfl | exact .inl rfl) Try.results61 ⟨_, rfl, LoadV.whole (te rfl) rfl (List.Mem.head _) rfl⟩ rfl (H' := H) (by (repeat (first | exact List.Sublist.refl _ | apply List.Sublist.cons_cons | apply List.Sublist.cons)); done) ⟨zRc, rfl, (fun h => absurd h (by rw [h10]; decide)), by rw [h10], rfl⟩
end Go.Proofs.Ythnhignoaoonbaa
end
section
set_option linter.unusedVariables false
set_option linter.unusedSimpArgs false
namespace Go.Proofs.Ythnhignoaoonbaa
open Go Go.Fw
set_option maxRecDepth 10000
theorem sp_len96 {l : List Sp} (h : l.length = 48) : (l.flatMap cSp).length = 96 := by rw [sp_len, h]
theorem there_ix {R : Rm} (hr : okRm R) {l : List Int} {a m : Int} (h : openE R l [m] = 0) (ha : a ∈ l) : ∃ (b : Bx) (ia : Nat), there R b m ∧ b.id = a ∧ R.boxes[ia]? = some b ∧ index R.boxes a = ia ∧ ia < R.boxes.length ∧ 0 ≤ m ∧ m ≤ 11 ∧ cel R ⟨a, m⟩ = ia * 12 + m.toNat := by
  obtain ⟨b, ht, rfl⟩ := there_of h ha (List.mem_singleton.2 rfl)
  obtain ⟨ia, hia⟩ := box_at ht.1
  have h1 := there_bd hr ht
  exact ⟨b, ia, ht, rfl, hia, index_box hr.bx hia, (List.getElem?_eq_some_iff.1 hia).1, h1.1, h1.2, cel_box hr.bx hia m⟩
set_option maxHeartbeats 4000000 in
theorem rYellow_spec (R : Rm) (p : Pl) (a m : Int) (H : List Row) (hR : RmOk H R p) : Fc Try.prog 19 [.agg (cRm R p).toArray, .int .i64 a, .int .i64 m] H (fun v H' => v = .tuple #[.agg (cSp (yelF R a m).1).toArray, .int .i64 (yelF R a m).2] ∧ H' = H) := by
  obtain ⟨e, he⟩ : ∃ e, openE R [a] [m] = e := ⟨_, rfl⟩
  have has : ∀ (H' : List Row) (b1 : Nat), RmOk H' R p → ⟨b1, 0, [.int .i64 a], some 3, 1 * 1⟩ ∈ H' → Fc Try.prog 61 [.agg (cRm R p).toArray, .slice (some ⟨b1, 0, none⟩) 1 1, .int .i64 m] H' (fun v H'' => ∃ c, c.length = 48 ∧ (e = 0 → As R 0 c) ∧ v = .tuple #[.agg (c.flatMap cSp).toArray, .int .i64 e] ∧ H'' = H') := fun H' b1 q1 q2 => by
    have := rAsked_spec R p [a] (some ⟨b1, 0, none⟩) 1 m H' q1 (SlE.ofRow (l := [a]) q2 (fun _ _ => rfl)) (Nat.le_of_ble_eq_true rfl)
    rw [he] at this
    exact this
  by_cases h0 : e = 0
  · subst h0
    obtain ⟨hok, _, _, hT⟩ := openE_ok he
    have hr := hok.ok
    have hb4 := hr.b4
    obtain ⟨b, ia, ht, hba, hia, hix, hil, hm0, hm1, hce⟩ := there_ix hr he (List.mem_singleton.2 rfl)
    have hy : yelF R a m = (rng R R.mats ⟨a, m⟩ zp, 0) := by unfold yelF; rw [if_pos he]
    have hixs := fun H' hH' => index_spec R p a H' hH'
    rw [hix] at hixs
    rw [hy]
    refine Fc.mk (callable Try.call19) Try.func19 rfl Try.ntmps19 rfl ?_; dsimp only [fr]
    repeat' (first | (refine XO.op rfl ?_; (first | ((first | refine Xo.ng rfl ?_); (first | (refine Xg.st (StF.buildOne (v0 := .int .i64 a) rfl el55 rfl rfl rfl (by decide) (by decide)) rfl rfl ?_; rintro _ _ ⟨b1, rfl, rfl⟩) | (refine Xg.ev (EvF.loadV rfl rfl (LoadV.whole (T := 26) (cs := cRm R p) (te rfl) rfl (by repeat (first | exact List.Mem.head _ | apply List.Mem.tail)) rfl)) rfl rfl ?_) | (refine Xg.call (EnF.st rfl (by (repeat (first | exact Args.nil | refine Args.cons rfl ?_)); done)) rfl rfl (has _ b1 (hR.sub (fun _ h => by repeat (first | exact h | apply List.Mem.tail))) (List.Mem.head _)) ?_; rintro _ _ ⟨c, hc, hA, rfl, rfl⟩) | (refine Xg.ev (EvF.extract rfl rfl rfl) rfl rfl ?_) | (refine Xg.st (StF.alloc rfl Try.zeroValue107 rfl) rfl rfl ?_; rintro _ _ ⟨b8, rfl, rfl⟩) | (refine Xg.st0 (StF.storeAll (i := 0) (vs := c.flatMap cSp) (cs := zRc.flatMap cSp) rfl rfl rfl (te rfl) rfl (sp_len96 hc) (sp_one _) (by rw [sp_len96 hc, sp_len]; rfl)) rfl ?_; rintro _ _ ⟨rfl, rfl⟩; dsimp only [List.set]) | (refine Xg.call (EnF.st rfl (Args.cons rfl (Args.cons rfl Args.nil))) rfl rfl (hixs _ (hR.sub (fun _ h => by repeat (first | exact h | apply List.Mem.tail)))) ?_; rintro _ H9 ⟨rfl, hH9⟩; subst H9) | (refine Xg.ev (EvF.indexArray (i := (ia : Int)) (off := 0) (b := b8) (T := 107) (e := 105) (len := 4) rfl rfl rfl (te rfl) (te rfl) (by omega) (by omega)) rfl rfl ?_) | (refine Xg.ev (EvF.indexArray (i := m) (off := 0 + ia * 24) (b := b8) (T := 105) (e := 35) (len := 12) rfl rfl rfl (te rfl) (te rfl) (by omega) (by omega)) rfl rfl ?_) | (refine Xg.ev (EvF.loadV rfl rfl (LoadV.ownAgg (te rfl) rfl (List.Mem.head _) (sp_at (l := c) (k := ia * 12 + m.toNat) (j := 0 + ia * 24 + m.toNat * 2) (by omega) (by omega)) rfl)) rfl rfl ?_) | (refine Xg.ev (EvF.move rfl rfl) rfl rfl ?_) | (refine Xg.ev (EvF.assign rfl rfl) rfl rfl ?_) | (refine Xg.ev (EvF.cmp rfl rfl rfl rfl) rfl rfl ?_) | (refine Xg.st (StF.boxAgg rfl rfl) rfl rfl ?_; rintro _ _ ⟨bx, rfl, rfl⟩) | (refine Xg.st (StF.alloc rfl Try.zeroValue35 rfl) rfl rfl ?_; rintro _ _ ⟨bx, rfl, rfl⟩) | (refine Xg.st0 (StF.storeAll (i := 2) rfl rfl rfl (te rfl) rfl rfl rfl rfl) rfl ?_; rintro _ _ ⟨rfl, rfl⟩; dsimp only [List.set]))))) | (refine XO.done rfl ?_; refine hK _ _ ?_; clear hK K) | refine X.seq rfl ?_ | refine X.region rfl (fun K hK => ?_) | refine X.skip rfl ?_ | refine X.ret rfl ?_ | (refine X.ite rfl rfl (fun hc => ?_); (first | (with_reducible refine Xb.caseN hc (fun h => ?_) (fun h => ?_))) <;> clear hc))
    all_goals try (exfalso; omega)
    have hx := (hA rfl).ex b m ht
    rw [hba, hce] at hx
    refine ret_two (v := .agg (cSp (sat c (ia * 12 + m.toNat))).toArray) (by first | exact .inr rfl | exact .inl rfl) Try.results19 ⟨_, rfl, LoadV.whole (te rfl) rfl (by repeat (first | exact List.Mem.head _ | apply List.Mem.tail)) rfl⟩ rfl (H' := H) (by (repeat (first | exact List.Sublist.refl _ | apply List.Sublist.cons_cons | apply List.Sublist.cons)); done) ⟨?_, rfl⟩
    rw [rng_eq hx]
  · have hy : yelF R a m = (⟨0, 0⟩, e) := by unfold yelF; rw [if_neg (by rw [he]; exact h0), he]
    rw [hy]
    refine Fc.mk (callable Try.call19) Try.func19 rfl Try.ntmps19 rfl ?_; dsimp only [fr]
    repeat' (first | (refine XO.op rfl ?_; (first | ((first | refine Xo.ng rfl ?_); (first | (refine Xg.st (StF.buildOne (v0 := .int .i64 a) rfl el55 rfl rfl rfl (by decide) (by decide)) rfl rfl ?_; rintro _ _ ⟨b1, rfl, rfl⟩) | (refine Xg.ev (EvF.loadV rfl rfl (LoadV.whole (T := 26) (cs := cRm R p) (te rfl) rfl (by repeat (first | exact List.Mem.head _ | apply List.Mem.tail)) rfl)) rfl rfl ?_) | (refine Xg.call (EnF.st rfl (by (repeat (first | exact Args.nil | refine Args.cons rfl ?_)); done)) rfl rfl (has _ b1 (hR.sub (fun _ h => by repeat (first | exact h | apply List.Mem.tail))) (List.Mem.head _)) ?_; rintro _ _ ⟨c, hc, hA, rfl, rfl⟩) | (refine Xg.ev (EvF.extract rfl rfl rfl) rfl rfl ?_) | (refine Xg.st (StF.alloc rfl Try.zeroValue107 rfl) rfl rfl ?_; rintro _ _ ⟨b8, rfl, rfl⟩) | (refine Xg.st0 (StF.storeAll (i := 0) (vs := c.flatMap cSp) (cs := zRc.flatMap cSp) rfl rfl rfl (te rfl) rfl (sp_len96 hc) (sp_one _) (by rw [sp_len96 hc, sp_len]; rfl)) rfl ?_; rintro _ _ ⟨rfl, rfl⟩; dsimp only [List.set]) | (refine Xg.ev (EvF.build (cs := cSp ⟨0, 0⟩) rfl ArgsP.nil (te rfl) (Places.cons (te rfl) (Places.cons (te rfl) Places.nil)) Try.zeroValue35 rfl) rfl rfl ?_) | (refine Xg.ev (EvF.move rfl rfl) rfl rfl ?_) | (refine Xg.ev (EvF.assign rfl rfl) rfl rfl ?_) | (refine Xg.ev (EvF.cmp rfl rfl rfl rfl) rfl rfl ?_) | (refine Xg.st (StF.boxAgg rfl rfl) rfl rfl ?_; rintro _ _ ⟨bx, rfl, rfl⟩) | (refine Xg.st (StF.alloc rfl Try.zeroValue35 rfl) rfl rfl ?_; rintro _ _ ⟨bx, rfl, rfl⟩) | (refine Xg.st0 (StF.storeAll (i := 2) rfl rfl rfl (te rfl) rfl rfl rfl rfl) rfl ?_; rintro _ _ ⟨rfl, rfl⟩; dsimp only [List.set]))))) | (refine XO.done rfl ?_; refine hK _ _ ?_; clear hK K) | refine X.seq rfl ?_ | refine X.region rfl (fun K hK => ?_) | refine X.skip rfl ?_ | refine X.ret rfl ?_ | (refine X.ite rfl rfl (fun hc => ?_); (first | (with_reducible refine Xb.caseN hc (fun h => ?_) (fun h => ?_))) <;> clear hc))
    all_goals try (exfalso; simp_all; done)
    exact ret_two (v := .agg (cSp ⟨0, 0⟩).toArray) (by first | exact .inr rfl | exact .inl rfl) Try.results19 ⟨_, rfl, LoadV.whole (te rfl) rfl (by repeat (first | exact List.Mem.head _ | apply List.Mem.tail)) rfl⟩ rfl (H' := H) (by (repeat (first | exact List.Sublist.refl _ | apply List.Sublist.cons_cons | apply List.Sublist.cons)); done) ⟨rfl, rfl⟩
end Go.Proofs.Ythnhignoaoonbaa
end
section
set_option linter.unusedVariables false
set_option linter.unusedSimpArgs false
namespace Go.Proofs.Ythnhignoaoonbaa
open Go Go.Fw
set_option maxRecDepth 10000
def tsDr : List TOp := [⟨some 52, [], [], []⟩, ⟨some 53, [], [], []⟩, ⟨some 54, [0], [0], []⟩, ⟨some 55, [0, 1, 2], [2, 1], []⟩, ⟨some 56, [0, 1, 2, 3], [3], []⟩, ⟨some 57, [0, 1, 2, 3, 4], [4], []⟩, ⟨some 58, [], [], []⟩, ⟨some 59, [0, 1, 2, 3, 4, 5, 6], [5, 6], []⟩, ⟨some 60, [], [], []⟩, ⟨some 61, [], [], []⟩, ⟨some 62, [8], [8], []⟩, ⟨some 63, [8, 9, 10], [10, 9], []⟩, ⟨some 64, [8, 9, 10, 11], [11], []⟩, ⟨some 65, [8, 9, 10, 11, 12], [12], []⟩, ⟨some 66, [], [], []⟩, ⟨some 67, [8, 9, 10, 11, 12, 13, 14], [13, 14], []⟩, ⟨some 68, [0, 1, 2, 3, 4, 5, 6, 7, 8, 9, 10, 11, 12, 13, 14, 15], [7, 15], []⟩, ⟨some 17, [], [], []⟩, ⟨none, [0, 1, 2, 3, 4, 5, 6, 7, 8, 9, 10, 11, 12, 13, 14, 15, 16, 17], [17, 16], [17]⟩]
def valDr (b5 b6 b10 b11 b14 b15 ii kk : Nat) (m v : Int) (s : Sp) (g : Bool) (k : Nat) (env : Env) : Value :=
  match k with
  | 0 => .int .i64 (ii : Nat)
  | 1 => .int .i64 m
  | 2 => .pointer (some ⟨b15, 0 + ii * 24, none⟩)
  | 3 => .pointer (some ⟨b15, 0 + ii * 24 + m.toNat * 2, none⟩)
  | 4 => .pointer (some ⟨b15, 0 + ii * 24 + m.toNat * 2, none⟩)
  | 5 => .int .i64 s.lo
  | 6 => .int .i64 v
  | 7 => .int .i64 (s.lo - v)
  | 8 => .int .i64 (ii : Nat)
  | 9 => .int .i64 m
  | 10 => .pointer (some ⟨b15, 0 + ii * 24, none⟩)
  | 11 => .pointer (some ⟨b15, 0 + ii * 24 + m.toNat * 2, none⟩)
  | 12 => .pointer (some ⟨b15, 0 + ii * 24 + m.toNat * 2 + 1, none⟩)
  | 13 => .int .i64 s.hi
  | 14 => .int .i64 v
  | 15 => .int .i64 (s.hi - v)
  | 16 => .agg (cSp ⟨s.lo - v, s.hi - v⟩).toArray
  | 17 => .pointer (some ⟨(env 17).1, 0, none⟩)
  | 18 => undef
  | _ => undef
def rowsDr (b5 b6 b10 b11 b14 b15 ii kk : Nat) (m v : Int) (s : Sp) (g : Bool) (k : Nat) (env : Env) : List Row :=
  match k with
  | 17 => [⟨(env 17).1, 0, cSp ⟨0, 0⟩, some 35, 2⟩]
  | 18 => [⟨(env 17).1, 0, cSp ⟨s.lo - v, s.hi - v⟩, some 35, 2⟩]
  | _ => []
theorem locDr (b5 b6 b10 b11 b14 b15 ii kk : Nat) (m v : Int) (s : Sp) (g : Bool) : ∀ k env i q9, i ≠ k → (tAt tsDr k).sup.contains i = false → valDr b5 b6 b10 b11 b14 b15 ii kk m v s g k (upd env i q9) = valDr b5 b6 b10 b11 b14 b15 ii kk m v s g k env ∧ rowsDr b5 b6 b10 b11 b14 b15 ii kk m v s g k (upd env i q9) = rowsDr b5 b6 b10 b11 b14 b15 ii kk m v s g k env := by
  intro k env i q hk hs
  have hu : ∀ j, j ≠ i → upd env i q j = env j := fun j hj => by unfold upd; rw [if_neg hj]
  match k, hk, hs with
  | 0, _, _ => exact ⟨rfl, rfl⟩
  | 1, _, _ => exact ⟨rfl, rfl⟩
  | 2, _, _ => exact ⟨rfl, rfl⟩
  | 3, _, _ => exact ⟨rfl, rfl⟩
  | 4, _, _ => exact ⟨rfl, rfl⟩
  | 5, _, _ => exact ⟨rfl, rfl⟩
  | 6, _, _ => exact ⟨rfl, rfl⟩
  | 7, _, _ => exact ⟨rfl, rfl⟩
  | 8, _, _ => exact ⟨rfl, rfl⟩
  | 9, _, _ => exact ⟨rfl, rfl⟩
  | 10, _, _ => exact ⟨rfl, rfl⟩
  | 11, _, _ => exact ⟨rfl, rfl⟩
  | 12, _, _ => exact ⟨rfl, rfl⟩
  | 13, _, _ => exact ⟨rfl, rfl⟩
  | 14, _, _ => exact ⟨rfl, rfl⟩
  | 15, _, _ => exact ⟨rfl, rfl⟩
  | 16, _, _ => exact ⟨rfl, rfl⟩
  | 17, hk, hs => exact ⟨by simp only [valDr, hu 17 (fun e => hk e.symm)], by simp only [rowsDr, hu 17 (fun e => hk e.symm)]⟩
  | 18, hk, hs => exact ⟨by simp only [valDr, hu 17 (by rintro rfl; cases hs)], by simp only [rowsDr, hu 17 (by rintro rfl; cases hs)]⟩
  | _ + 19, _, _ => exact ⟨rfl, rfl⟩
/-- a pinned chart, closed -/
structure Pn (R : Rm) (c : List Sp) (x : List Sp × Bool) : Prop where
  len : x.1.length = 48
  yes : x.2 = true → ClosedT R R.mats c x.1
  no : x.2 = false → ∀ z, Tru R R.mats z → ¬ Inn R c z
set_option maxHeartbeats 16000000 in
theorem rdiffer_spec (R : Rm) (p : Pl) (c : List Sp) (a b : Bx) (i k : Nat) (m : Int) (H : List Row) (hr : okRm R) (hR : RmOk H R p) (hm : matsThere R R.mats) (hlm : R.mats.length ≤ 100) (hc : c.length = 48) (hA : As R 0 c) (hta : there R a m) (htb : there R b m) (hi : R.boxes[i]? = some a) (hk : R.boxes[k]? = some b) :
    Fc Try.prog 64 [.agg (cRm R p).toArray, .agg (c.flatMap cSp).toArray, .int .i64 i, .int .i64 k, .int .i64 m] H (fun v H' => v = .agg (cSp (rng R R.mats ⟨a.id, m⟩ ⟨b.id, m⟩)).toArray ∧ H' = H) := by
  have hb4 := hr.b4
  have hm0 := there_bd hr hta
  have hil := (List.getElem?_eq_some_iff.1 hi).1
  have hkl := (List.getElem?_eq_some_iff.1 hk).1
  have ca : cel R ⟨a.id, m⟩ = i * 12 + m.toNat := cel_box hr.bx hi m
  have cb : cel R ⟨b.id, m⟩ = k * 12 + m.toNat := cel_box hr.bx hk m
  have hcl : (c.flatMap cSp).length = 96 := sp_len96 hc
  obtain ⟨_, hlo, hhi⟩ := sp_cells c (k * 12 + m.toNat) (by omega)
  obtain ⟨t, ht⟩ : ∃ t, t = sat c (k * 12 + m.toNat) := ⟨_, rfl⟩
  rw [← ht, show (k * 12 + m.toNat) * 2 = 0 + k * 24 + m.toNat * 2 by omega] at hlo hhi
  have htk := hA.good.ok (k * 12 + m.toNat)
  rw [← ht] at htk
  have hpin : ∀ v : Int, splice (c.flatMap cSp) (0 + k * 24 + m.toNat * 2) (cSp ⟨v, v⟩) = (pin c (k * 12 + m.toNat) v).flatMap cSp := fun v => by
    rw [show 0 + k * 24 + m.toNat * 2 = (k * 12 + m.toNat) * 2 by omega]
    exact sp_splice c (k * 12 + m.toNat) ⟨v, v⟩ (by omega)
  have hpl : ∀ v : Int, ((pin c (k * 12 + m.toNat) v).flatMap cSp).length = 96 := fun v => sp_len96 (by unfold pin; rw [List.length_set]; exact hc)
  have hcs : ∀ (v : Int) S, t.lo ≤ v → v ≤ t.hi → RmOk S R p → Fc Try.prog 84 [.agg (cRm R p).toArray, .slice p.a3 R.mats.length p.c3, .agg ((pin c (k * 12 + m.toNat) v).flatMap cSp).toArray] S (fun u H' => ∃ x, Pn R (pin c (k * 12 + m.toNat) v) x ∧ u = .tuple #[.agg (x.1.flatMap cSp).toArray, .bool x.2] ∧ H' = S) := fun v S h1 h2 hS => by
    obtain ⟨p1, p2, _⟩ := pin_ok hA.good (k := k * 12 + m.toNat) (v := v) (by omega) (by rw [← ht]; exact ⟨h1, h2⟩)
    refine (closed_spec R p R.mats p.a3 p.c3 (pin c (k * 12 + m.toNat) v) S hr hS hS.mats hlm hm p1 p2).mono fun u H' ⟨l, hH, h⟩ => ?_
    rcases h with ⟨h1, hv⟩ | ⟨h1, h2, hv⟩
    · exact ⟨(l, true), ⟨h1.len, fun _ => h1, (fun h => by cases h)⟩, hv, hH⟩
    · exact ⟨(l, false), ⟨h1, (fun h => by cases h), fun _ => h2⟩, hv, hH⟩
  refine Fc.mk (callable Try.call64) Try.func64 rfl Try.ntmps64 rfl ?_; dsimp only [fr]
  repeat' (first | (refine XO.op rfl ?_; (first | ((first | refine Xo.ng rfl ?_); (first | (refine Xg.ev (EvF.indexArray (i := (k : Int)) (off := 0) (T := 107) (e := 105) (len := 4) rfl rfl rfl (te rfl) (te rfl) (by omega) (by omega)) rfl rfl ?_) | (refine Xg.ev (EvF.indexArray (i := m) (off := 0 + k * 24) (T := 105) (e := 35) (len := 12) rfl rfl rfl (te rfl) (te rfl) (by omega) (by omega)) rfl rfl ?_) | (refine Xg.ev (EvF.loadV rfl rfl (LoadV.own (te rfl) rfl (by repeat (first | exact List.Mem.head _ | apply List.Mem.tail)) hlo)) rfl rfl ?_) | (refine Xg.ev (EvF.move rfl rfl) rfl rfl ?_) | (refine Xg.ev (EvF.assign rfl rfl) rfl rfl ?_) | (refine Xg.ev (EvF.fieldAddr rfl rfl (te rfl) rfl (te rfl) (by decide)) rfl rfl ?_) | (refine Xg.st (StF.boxAgg rfl rfl) rfl rfl ?_; rintro _ _ ⟨bx, rfl, rfl⟩) | (refine Xg.st (StF.alloc rfl Try.zeroValue35 rfl) rfl rfl ?_; rintro _ _ ⟨bx, rfl, rfl⟩))))) | (refine XO.done rfl ?_; refine hK _ _ ?_; clear hK K) | refine X.seq rfl ?_ | refine X.region rfl (fun K hK => ?_) | refine X.block rfl ?_)
  rename_i b5 b6 b10
  generalize bx = b11
  rw [hcl]
  refine X.lp rfl (fun q F' H' => ∃ (v : Int) (out : Sp) (any : Bool), q = (t.hi + 1 - v).toNat ∧ t.lo ≤ v ∧ v ≤ t.hi + 1 ∧ Acc R R.mats ⟨a.id, m⟩ ⟨b.id, m⟩ t.lo v out any ∧ H' = ⟨b11, 0, cSp out, some 35, 2⟩ :: ⟨b10, 0, cSp ⟨0, 0⟩, some 35, 2⟩ :: ⟨b6, 0, c.flatMap cSp, some 107, 96⟩ :: ⟨b5, 0, cRm R p, some 26, 5⟩ :: H ∧ F' = [(2, .int .i64 i), (3, .int .i64 k), (4, .int .i64 m), (5, .pointer (some ⟨b5, 0, none⟩)), (6, .pointer (some ⟨b6, 0, none⟩)), (10, .pointer (some ⟨b10, 0, none⟩)), (11, .pointer (some ⟨b11, 0, none⟩)), (12, .bool any), (13, .int .i64 v)])
    (t.hi + 1 - t.lo).toNat [(2, .int .i64 i), (3, .int .i64 k), (4, .int .i64 m), (5, .pointer (some ⟨b5, 0, none⟩)), (6, .pointer (some ⟨b6, 0, none⟩)), (10, .pointer (some ⟨b10, 0, none⟩)), (11, .pointer (some ⟨b11, 0, none⟩)), (12, .bool false), (13, .int .i64 t.lo)] (⟨b11, 0, cSp ⟨0, 0⟩, some 35, 2⟩ :: ⟨b10, 0, cSp ⟨0, 0⟩, some 35, 2⟩ :: ⟨b6, 0, c.flatMap cSp, some 107, 96⟩ :: ⟨b5, 0, cRm R p, some 26, 5⟩ :: H) (by (repeat (first | exact Sub.nil _ | refine Sub.cons rfl ?_)); done) (List.Sublist.refl _) ⟨t.lo, ⟨0, 0⟩, false, rfl, by omega, by omega, Acc.zero _ _ _ _ _ _, rfl, rfl⟩ ?_
  rintro _ _ _ ⟨v, out, any, rfl, hv1, hv2, hAc, rfl, rfl⟩
  repeat' (first | (refine XO.op rfl ?_; (first | ((first | refine Xo.ng rfl ?_); (first | (refine Xg.ev (EvF.indexArray (i := (k : Int)) (off := 0) (T := 107) (e := 105) (len := 4) rfl rfl rfl (te rfl) (te rfl) (by omega) (by omega)) rfl rfl ?_) | (refine Xg.ev (EvF.indexArray (i := m) (off := 0 + k * 24) (T := 105) (e := 35) (len := 12) rfl rfl rfl (te rfl) (te rfl) (by omega) (by omega)) rfl rfl ?_) | (refine Xg.ev (EvF.loadV rfl rfl (LoadV.own (te rfl) rfl (by repeat (first | exact List.Mem.head _ | apply List.Mem.tail)) hhi)) rfl rfl ?_) | (refine Xg.ev (EvF.loadV rfl rfl (LoadV.whole (T := 107) (cs := c.flatMap cSp) (te rfl) rfl (by repeat (first | exact List.Mem.head _ | apply List.Mem.tail)) hcl)) rfl rfl ?_) | (refine Xg.ev (EvF.loadV rfl rfl (LoadV.whole (T := 26) (cs := cRm R p) (te rfl) rfl (by repeat (first | exact List.Mem.head _ | apply List.Mem.tail)) rfl)) rfl rfl ?_) | (refine Xg.st (StF.alloc rfl Try.zeroValue107 rfl) rfl rfl ?_; rintro _ _ ⟨b14, rfl, rfl⟩) | (refine Xg.st0 (StF.storeAll (i := 0) (vs := c.flatMap cSp) (cs := zRc.flatMap cSp) rfl rfl rfl (te rfl) rfl hcl (sp_one _) (by rw [hcl, sp_len]; rfl)) rfl ?_; rintro _ _ ⟨rfl, rfl⟩; dsimp only [List.set]) | (refine Xg.ev (EvF.build (cs := cSp ⟨v, v⟩) rfl (ArgsP.cons rfl (ArgsP.cons rfl ArgsP.nil)) (te rfl) (Places.cons (te rfl) (Places.cons (te rfl) Places.nil)) Try.zeroValue35 rfl) rfl rfl ?_) | (refine Xg.st0 (StF.storeAt (q := 0) (j := 0 + k * 24 + m.toNat * 2) (vs := cSp ⟨v, v⟩) (cs := c.flatMap cSp) rfl rfl rfl (te rfl) rfl rfl rfl (by rw [hcl]; show 0 + k * 24 + m.toNat * 2 + 2 ≤ 96; omega)) rfl ?_; rintro _ _ ⟨rfl, rfl⟩; dsimp only [List.set]; rw [hpin v]) | (refine Xg.ev (EvF.loadV rfl rfl (LoadV.whole (T := 107) (cs := (pin c (k * 12 + m.toNat) v).flatMap cSp) (te rfl) rfl (by repeat (first | exact List.Mem.head _ | apply List.Mem.tail)) (hpl v))) rfl rfl ?_) | (refine Xg.call (EnF.st rfl (by (repeat (first | exact Args.nil | refine Args.cons rfl ?_)); done)) rfl rfl (hcs v _ hv1 (by omega) (hR.sub (fun _ h => by repeat (first | exact h | apply List.Mem.tail)))) ?_; rintro _ _ ⟨x, hx, rfl, rfl⟩) | (refine Xg.ev (EvF.extract rfl rfl rfl) rfl rfl ?_) | (refine Xg.st0 (StF.storeAll (i := 0) (vs := x.1.flatMap cSp) (cs := zRc.flatMap cSp) rfl rfl rfl (te rfl) rfl (sp_len96 hx.len) (sp_one _) (by rw [sp_len96 hx.len, sp_len]; rfl)) rfl ?_; rintro _ _ ⟨rfl, rfl⟩; dsimp only [List.set]) | (refine Xg.ev (EvF.move rfl rfl) rfl rfl ?_) | (refine Xg.ev (EvF.assign rfl rfl) rfl rfl ?_) | (refine Xg.ev (EvF.cmp rfl rfl rfl rfl) rfl rfl ?_) | (refine Xg.ev (EvF.add64 rfl rfl rfl (by omega) (by omega)) rfl rfl ?_) | (refine Xg.ev (EvF.not rfl rfl) rfl rfl ?_) | (refine Xg.ev (EvF.fieldAddr rfl rfl (te rfl) rfl (te rfl) (by decide)) rfl rfl ?_) | (refine Xg.ev (EvF.loadV rfl rfl (LoadV.own (te rfl) rfl (List.Mem.tail _ (List.Mem.tail _ (List.Mem.tail _ (List.Mem.tail _ (List.Mem.head _))))) rfl)) rfl rfl ?_) | (refine Xg.ev (EvF.loadV rfl rfl (LoadV.whole (te rfl) rfl (List.Mem.head _) rfl)) rfl rfl ?_) | (refine Xg.st0 (StF.storeAll (i := 1) rfl rfl rfl (te rfl) rfl rfl rfl rfl) rfl ?_; rintro _ _ ⟨rfl, rfl⟩; dsimp only [List.set]))))) | (refine XO.done rfl ?_; refine hK _ _ ?_; clear hK K) | refine X.seq rfl ?_ | refine X.region rfl (fun K hK => ?_) | refine X.block rfl ?_ | (refine X.brk rfl ?_; repeat (first | refine blockX_hit rfl ?_ | refine blockX_miss (by decide) ?_)) | refine X.skip rfl ?_ | refine X.ret rfl ?_ | (refine X.ite rfl rfl (fun hc => ?_); (first | (with_reducible refine Xb.case hc (fun h => ?_) (fun h => ?_)) | (with_reducible refine Xb.caseB hc (fun h => ?_) (fun h => ?_))) <;> clear hc))
  · rename_i hv3 bp
    exact ⟨_, _, ⟨b11, 0, cSp out, some 35, 2⟩ :: ⟨b10, 0, cSp ⟨0, 0⟩, some 35, 2⟩ :: ⟨b6, 0, c.flatMap cSp, some 107, 96⟩ :: ⟨b5, 0, cRm R p, some 26, 5⟩ :: H, (by (repeat (first | exact Sub.nil _ | refine Sub.cons rfl ?_)); done), (by (repeat (first | exact List.Sublist.refl _ | apply List.Sublist.cons_cons | apply List.Sublist.cons)); done), ⟨v + 1, out, any, rfl, by omega, by omega, hAc.skip (fun z hz he => hx.no (by simpa using h) z hz (by rw [← cb]; exact pin_inn hr hA.good htb hz he)), rfl, rfl⟩, by omega⟩
  · rename_i hv3 bp
    generalize b14 = b15
    have hxl := hx.len
    obtain ⟨s, hs⟩ : ∃ s, s = sat x.1 (i * 12 + m.toNat) := ⟨_, rfl⟩
    obtain ⟨_, hslo, hshi⟩ := sp_cells x.1 (i * 12 + m.toNat) (by omega)
    rw [← hs, show (i * 12 + m.toNat) * 2 = 0 + i * 24 + m.toNat * 2 by omega] at hslo hshi
    have hX := hx.yes (by simpa using h)
    have hsok := And.intro (hX.sub (i * 12 + m.toNat)) (hX.full (i * 12 + m.toNat))
    rw [← hs] at hsok
    have hpo := (pin_ok hA.good (k := k * 12 + m.toNat) (v := v) (by omega) (by rw [← ht]; exact ⟨hv1, hv3⟩)).2.1 (i * 12 + m.toNat)
    have hsb : 0 ≤ s.lo ∧ s.lo ≤ s.hi ∧ s.hi ≤ 60 := by obtain ⟨q1, q2⟩ := hsok; omega
    have hX2 := hX
    rw [← cb] at hX2
    obtain ⟨e1, e2, e3⟩ := pin_closed hr hm hA.good hta htb (by rw [cb, ← ht]; exact ⟨hv1, hv3⟩) hX2
    rw [ca, ← hs] at e1 e2 e3
    have hadd := hAc.add (s := ⟨s.lo - v, s.hi - v⟩) e1 e2 e3
    refine X.regionOb tsDr [2, 3, 4, 5, 6, 10, 11, 12, 13, 14, 15] [(2, .int .i64 (i : Nat)), (3, .int .i64 (k : Nat)), (4, .int .i64 m), (5, .pointer (some ⟨b5, 0, none⟩)), (6, .pointer (some ⟨b6, 0, none⟩)), (10, .pointer (some ⟨b10, 0, none⟩)), (11, .pointer (some ⟨b11, 0, none⟩)), (12, .bool any), (13, .int .i64 v), (14, .pointer (some ⟨bp, 0, none⟩)), (15, .pointer (some ⟨b15, 0, none⟩))] (valDr b5 b6 b10 b11 bp b15 i k m v s any) (rowsDr b5 b6 b10 b11 bp b15 i k m v s any) (fun _ => (0, 0)) (⟨b15, 0, x.1.flatMap cSp, some 107, 96⟩ :: ⟨bp, 0, (pin c (k * 12 + m.toNat) v).flatMap cSp, some 107, 96⟩ :: ⟨b11, 0, cSp out, some 35, 2⟩ :: ⟨b10, 0, cSp ⟨0, 0⟩, some 35, 2⟩ :: ⟨b6, 0, c.flatMap cSp, some 107, 96⟩ :: ⟨b5, 0, cRm R p, some 26, 5⟩ :: H) rfl mixed (by (repeat (first | exact Sub.nil _ | refine Sub.cons rfl ?_)); done) rfl (by kernel_rfl) (locDr b5 b6 b10 b11 bp b15 i k m v s any) (List.Sublist.refl _) ?_ ?_
    · repeat' (first | exact AllF.done rfl | (refine AllF.step rfl ?_ ?_; · (first | fail | ((first | refine Ob.ng rfl ?_); (first | exact ObK.pure (fun env R hR => by exact ⟨_, EvF.move rfl rfl, rfl⟩) rfl (fun _ => rfl) | exact ObK.pure (fun env R hR => by exact ⟨_, EvF.fieldAddr rfl rfl (te rfl) rfl (te rfl) (by decide), rfl⟩) rfl (fun _ => rfl) | ((refine ObK.pure (fun env S hS => ⟨.pointer (some ⟨b15, 0 + i * 24, none⟩), ?_, rfl⟩) rfl (fun _ => rfl); exact EvF.indexArray (i := (i : Int)) (off := 0) (b := b15) (T := 107) (e := 105) (len := 4) rfl rfl rfl (te rfl) (te rfl) (by omega) (by omega))) | ((refine ObK.pure (fun env S hS => ⟨.pointer (some ⟨b15, 0 + i * 24 + m.toNat * 2, none⟩), ?_, rfl⟩) rfl (fun _ => rfl); exact EvF.indexArray (i := m) (off := 0 + i * 24) (b := b15) (T := 105) (e := 35) (len := 12) rfl rfl rfl (te rfl) (te rfl) (by omega) (by omega))) | (exact ObK.pure (fun env S hS => ⟨_, EvF.loadV rfl rfl (LoadV.own (te rfl) rfl (hS _ (List.Mem.head _)) hslo), rfl⟩) rfl (fun _ => rfl)) | (exact ObK.pure (fun env S hS => ⟨_, EvF.loadV rfl rfl (LoadV.own (te rfl) rfl (hS _ (List.Mem.head _)) hshi), rfl⟩) rfl (fun _ => rfl)) | (exact ObK.pure (fun env S hS => ⟨_, EvF.build (cs := cSp ⟨s.lo - v, s.hi - v⟩) rfl (ArgsP.cons rfl (ArgsP.cons rfl ArgsP.nil)) (te rfl) (Places.cons (te rfl) (Places.cons (te rfl) Places.nil)) Try.zeroValue35 rfl, rfl⟩) rfl (fun _ => rfl)) | (exact fun env S hS => (StF.alloc rfl Try.zeroValue35 rfl).op.mono (fun v H' ⟨b, hv, hH⟩ => ⟨(b, 0), fun _ => hv, by rw [hH]; exact List.Perm.refl _⟩)) | (exact fun env S hS => (StF.storeAll (i := 0) (vs := cSp ⟨s.lo - v, s.hi - v⟩) (cs := cSp ⟨0, 0⟩) rfl rfl rfl (te rfl) rfl rfl rfl rfl).op.mono (fun v H' ⟨hv, hH⟩ => ⟨(0, 0), fun h => absurd rfl h, by rw [hH]; exact List.Perm.refl _⟩)) | (exact ObK.pure (fun env S hS => ⟨_, EvF.sub64 rfl rfl rfl (by omega) (by omega), rfl⟩) rfl (fun _ => rfl)))))))
    intro env t ha2 hv; refine ⟨_, ha2.cons (hv 17 17 (Nat.le_of_ble_eq_true rfl) rfl), ?_⟩; clear hv ha2
    show X _ _ _ [(17, .pointer (some ⟨(env 17).1, 0, none⟩)), (2, .int .i64 i), (3, .int .i64 k), (4, .int .i64 m), (5, .pointer (some ⟨b5, 0, none⟩)), (6, .pointer (some ⟨b6, 0, none⟩)), (10, .pointer (some ⟨b10, 0, none⟩)), (11, .pointer (some ⟨b11, 0, none⟩)), (12, .bool any), (13, .int .i64 v), (14, .pointer (some ⟨bp, 0, none⟩)), (15, .pointer (some ⟨b15, 0, none⟩))] (⟨(env 17).1, 0, cSp ⟨s.lo - v, s.hi - v⟩, some 35, 2⟩ :: ⟨b15, 0, x.1.flatMap cSp, some 107, 96⟩ :: ⟨bp, 0, (pin c (k * 12 + m.toNat) v).flatMap cSp, some 107, 96⟩ :: ⟨b11, 0, cSp out, some 35, 2⟩ :: ⟨b10, 0, cSp ⟨0, 0⟩, some 35, 2⟩ :: ⟨b6, 0, c.flatMap cSp, some 107, 96⟩ :: ⟨b5, 0, cRm R p, some 26, 5⟩ :: H) _
    generalize (env 17).1 = b17
    clear env
    cases any with
    | false =>
      repeat' (first | (refine XO.op rfl ?_; (first | ((first | refine Xo.ng rfl ?_); (first | (refine Xg.ev (EvF.move rfl rfl) rfl rfl ?_) | (refine Xg.ev (EvF.assign rfl rfl) rfl rfl ?_) | (refine Xg.ev (EvF.add64 rfl rfl rfl (by omega) (by omega)) rfl rfl ?_) | (refine Xg.ev (EvF.loadV rfl rfl (LoadV.whole (te rfl) rfl (List.Mem.head _) rfl)) rfl rfl ?_) | (refine Xg.st0 (StF.storeAll (i := 3) rfl rfl rfl (te rfl) rfl rfl rfl rfl) rfl ?_; rintro _ _ ⟨rfl, rfl⟩; dsimp only [List.set]))))) | (refine XO.done rfl ?_; refine hK _ _ ?_; clear hK K) | refine X.seq rfl ?_ | refine X.region rfl (fun K hK => ?_) | refine X.skip rfl ?_ | (refine X.ite rfl rfl (fun hc => ?_); (first | (with_reducible refine Xb.f hc ?_)) <;> clear hc))
      all_goals try (exfalso; contradiction)
      exact ⟨_, _, ⟨b11, 0, cSp ⟨s.lo - v, s.hi - v⟩, some 35, 2⟩ :: ⟨b10, 0, cSp ⟨0, 0⟩, some 35, 2⟩ :: ⟨b6, 0, c.flatMap cSp, some 107, 96⟩ :: ⟨b5, 0, cRm R p, some 26, 5⟩ :: H, (by (repeat (first | exact Sub.nil _ | refine Sub.cons rfl ?_)); done), (by (repeat (first | exact List.Sublist.refl _ | apply List.Sublist.cons_cons | apply List.Sublist.cons)); done), ⟨v + 1, _, true, rfl, by omega, by omega, by simpa using hadd, rfl, rfl⟩, by omega⟩
    | true =>
      repeat' (first | (refine XO.op rfl ?_; (first | ((first | refine Xo.ng rfl ?_); (first | (refine Xg.ev (EvF.min64 rfl rfl rfl) rfl rfl ?_) | (refine Xg.ev (EvF.max64 rfl rfl rfl) rfl rfl ?_) | (refine Xg.ev (EvF.build (cs := cSp ⟨min (s.lo - v) out.lo, max (s.hi - v) out.hi⟩) rfl (ArgsP.cons rfl (ArgsP.cons rfl ArgsP.nil)) (te rfl) (Places.cons (te rfl) (Places.cons (te rfl) Places.nil)) Try.zeroValue35 rfl) rfl rfl ?_) | (refine Xg.ev (EvF.move rfl rfl) rfl rfl ?_) | (refine Xg.ev (EvF.assign rfl rfl) rfl rfl ?_) | (refine Xg.ev (EvF.add64 rfl rfl rfl (by omega) (by omega)) rfl rfl ?_) | (refine Xg.ev (EvF.fieldAddr rfl rfl (te rfl) rfl (te rfl) (by decide)) rfl rfl ?_) | (refine Xg.ev (EvF.loadV rfl rfl (LoadV.own (te rfl) rfl (List.Mem.head _) rfl)) rfl rfl ?_) | (refine Xg.ev (EvF.loadV rfl rfl (LoadV.own (te rfl) rfl (List.Mem.tail _ (List.Mem.tail _ (List.Mem.tail _ (List.Mem.head _)))) rfl)) rfl rfl ?_) | (refine Xg.ev (EvF.loadV rfl rfl (LoadV.whole (te rfl) rfl (List.Mem.head _) rfl)) rfl rfl ?_) | (refine Xg.st0 (StF.storeAll (i := 0) rfl rfl rfl (te rfl) rfl rfl rfl rfl) rfl ?_; rintro _ _ ⟨rfl, rfl⟩; dsimp only [List.set]) | (refine Xg.st0 (StF.storeAll (i := 3) rfl rfl rfl (te rfl) rfl rfl rfl rfl) rfl ?_; rintro _ _ ⟨rfl, rfl⟩; dsimp only [List.set]))))) | (refine XO.done rfl ?_; refine hK _ _ ?_; clear hK K) | refine X.seq rfl ?_ | refine X.region rfl (fun K hK => ?_) | (refine X.ite rfl rfl (fun hc => ?_); (first | (with_reducible refine Xb.t hc ?_)) <;> clear hc))
      all_goals try (exfalso; contradiction)
      exact ⟨_, _, ⟨b11, 0, cSp ⟨min (s.lo - v) out.lo, max (s.hi - v) out.hi⟩, some 35, 2⟩ :: ⟨b10, 0, cSp ⟨0, 0⟩, some 35, 2⟩ :: ⟨b6, 0, c.flatMap cSp, some 107, 96⟩ :: ⟨b5, 0, cRm R p, some 26, 5⟩ :: H, (by (repeat (first | exact Sub.nil _ | refine Sub.cons rfl ?_)); done), (by (repeat (first | exact List.Sublist.refl _ | apply List.Sublist.cons_cons | apply List.Sublist.cons)); done), ⟨v + 1, _, true, rfl, by omega, by omega, by simpa using hadd, rfl, rfl⟩, by omega⟩
  · have hex := hAc.ex hA.hT (fun z hz => by
      have := hA.good.inn z hz b m htb
      rw [cb, ← ht] at this
      unfold holds at this
      omega)
    refine ret_one (v := .agg (cSp out).toArray) (by first | exact .inr rfl | exact .inl rfl) Try.results64 ⟨_, rfl, LoadV.whole (te rfl) rfl (by repeat (first | exact List.Mem.head _ | apply List.Mem.tail)) rfl⟩ (H' := H) (by (repeat (first | exact List.Sublist.refl _ | apply List.Sublist.cons_cons | apply List.Sublist.cons)); done) ⟨?_, rfl⟩
    rw [rng_eq hex]
end Go.Proofs.Ythnhignoaoonbaa
end
section
set_option linter.unusedVariables false
set_option linter.unusedSimpArgs false
namespace Go.Proofs.Ythnhignoaoonbaa
open Go Go.Fw
set_option maxRecDepth 10000
def tsDh : List TOp := [⟨some 29, [], [], []⟩, ⟨some 30, [], [], []⟩, ⟨some 31, [], [], []⟩, ⟨some 32, [], [], []⟩, ⟨some 33, [2, 3], [2, 3], []⟩, ⟨some 34, [], [], []⟩, ⟨some 35, [], [], []⟩, ⟨some 36, [2, 3, 4, 5, 6], [5, 6], []⟩, ⟨some 37, [], [], []⟩, ⟨some 38, [0, 1, 2, 3, 4, 5, 6, 7, 8], [0, 1, 4, 7, 8], []⟩, ⟨none, [0, 1, 2, 3, 4, 5, 6, 7, 8, 9], [9], [12]⟩, ⟨some 9, [0, 1, 2, 3, 4, 5, 6, 7, 8, 9, 10], [], []⟩, ⟨none, [], [], []⟩]
def valDh (b4 b8 b10 ia ib : Nat) (R : Rm) (p : Pl) (c : List Sp) (x y m : Int) (s : Sp) (k : Nat) (env : Env) : Value :=
  match k with
  | 0 => .agg (cRm R p).toArray
  | 1 => .agg (c.flatMap cSp).toArray
  | 2 => .agg (cRm R p).toArray
  | 3 => .int .i64 x
  | 4 => .int .i64 (ia : Nat)
  | 5 => .agg (cRm R p).toArray
  | 6 => .int .i64 y
  | 7 => .int .i64 (ib : Nat)
  | 8 => .int .i64 m
  | 9 => .agg (cSp s).toArray
  | 10 => undef
  | 11 => .int .i64 0
  | _ => undef
def rowsDh (b4 b8 b10 ia ib : Nat) (R : Rm) (p : Pl) (c : List Sp) (x y m : Int) (s : Sp) (k : Nat) (env : Env) : List Row :=
  match k with
  | 10 => [⟨b8, 0, cSp s, some 35, 2⟩]
  | 12 => [⟨b8, 0, cSp ⟨0, 0⟩, some 35, 2⟩]
  | _ => []
theorem locDh (b4 b8 b10 ia ib : Nat) (R : Rm) (p : Pl) (c : List Sp) (x y m : Int) (s : Sp) : ∀ k env i q9, i ≠ k → (tAt tsDh k).sup.contains i = false → valDh b4 b8 b10 ia ib R p c x y m s k (upd env i q9) = valDh b4 b8 b10 ia ib R p c x y m s k env ∧ rowsDh b4 b8 b10 ia ib R p c x y m s k (upd env i q9) = rowsDh b4 b8 b10 ia ib R p c x y m s k env := by
  intro k env i q hk hs
  have hu : ∀ j, j ≠ i → upd env i q j = env j := fun j hj => by unfold upd; rw [if_neg hj]
  match k, hk, hs with
  | 0, _, _ => exact ⟨rfl, rfl⟩
  | 1, _, _ => exact ⟨rfl, rfl⟩
  | 2, _, _ => exact ⟨rfl, rfl⟩
  | 3, _, _ => exact ⟨rfl, rfl⟩
  | 4, _, _ => exact ⟨rfl, rfl⟩
  | 5, _, _ => exact ⟨rfl, rfl⟩
  | 6, _, _ => exact ⟨rfl, rfl⟩
  | 7, _, _ => exact ⟨rfl, rfl⟩
  | 8, _, _ => exact ⟨rfl, rfl⟩
  | 9, _, _ => exact ⟨rfl, rfl⟩
  | 10, _, _ => exact ⟨rfl, rfl⟩
  | 11, _, _ => exact ⟨rfl, rfl⟩
  | 12, _, _ => exact ⟨rfl, rfl⟩
  | _ + 13, _, _ => exact ⟨rfl, rfl⟩
set_option maxHeartbeats 4000000 in
theorem rDiffer_spec (R : Rm) (p : Pl) (a b m : Int) (H : List Row) (hR : RmOk H R p) : Fc Try.prog 21 [.agg (cRm R p).toArray, .int .i64 a, .int .i64 b, .int .i64 m] H (fun v H' => v = .tuple #[.agg (cSp (difF R a b m).1).toArray, .int .i64 (difF R a b m).2] ∧ H' = H) := by
  obtain ⟨e, he⟩ : ∃ e, openE R [a, b] [m] = e := ⟨_, rfl⟩
  have has : ∀ (H' : List Row) (b1 : Nat), RmOk H' R p → ⟨b1, 0, [.int .i64 a, .int .i64 b], some 3, 2 * 1⟩ ∈ H' → Fc Try.prog 61 [.agg (cRm R p).toArray, .slice (some ⟨b1, 0, none⟩) 2 2, .int .i64 m] H' (fun v H'' => ∃ c, c.length = 48 ∧ (e = 0 → As R 0 c) ∧ v = .tuple #[.agg (c.flatMap cSp).toArray, .int .i64 e] ∧ H'' = H') := fun H' b1 q1 q2 => by
    have := rAsked_spec R p [a, b] (some ⟨b1, 0, none⟩) 2 m H' q1 (SlE.ofRow (l := [a, b]) q2 (fun _ _ => rfl)) (Nat.le_of_ble_eq_true rfl)
    rw [he] at this
    exact this
  by_cases h0 : e = 0
  · subst h0
    obtain ⟨hok, _, _, hT⟩ := openE_ok he
    have hr := hok.ok
    have hb4 := hr.b4
    have hlm : R.mats.length ≤ 100 := by have := hok.1.2.2.2.2.2.2; omega
    obtain ⟨xa, ia, hta, rfl, hia, hixa, hila, hm0, hm1, hca⟩ := there_ix hr he (show a ∈ [a, b] from List.mem_cons_self)
    obtain ⟨xb, ib, htb, rfl, hib, hixb, hilb, _, _, hcb⟩ := there_ix hr he (show b ∈ [xa.id, b] from List.mem_cons_of_mem _ List.mem_cons_self)
    have hixsa := fun H' hH' => index_spec R p xa.id H' hH'
    have hixsb := fun H' hH' => index_spec R p xb.id H' hH'
    rw [hixa] at hixsa
    rw [hixb] at hixsb
    obtain ⟨r, hr9⟩ : ∃ r, r = difF R xa.id xb.id m := ⟨_, rfl⟩
    rw [← hr9]
    unfold difF at hr9
    rw [if_pos he] at hr9
    refine Fc.mk (callable Try.call21) Try.func21 rfl Try.ntmps21 rfl ?_; dsimp only [fr]
    repeat' (first | (refine XO.op rfl ?_; (first | ((first | refine Xo.ng rfl ?_); (first | (refine Xg.st (StF.buildTwo rfl el55 rfl rfl rfl rfl rfl rfl (by decide) (by decide)) rfl rfl ?_; rintro _ _ ⟨b1, rfl, rfl⟩) | (refine Xg.ev (EvF.loadV rfl rfl (LoadV.whole (T := 26) (cs := cRm R p) (te rfl) rfl (by repeat (first | exact List.Mem.head _ | apply List.Mem.tail)) rfl)) rfl rfl ?_) | (refine Xg.call (EnF.st rfl (by (repeat (first | exact Args.nil | refine Args.cons rfl ?_)); done)) rfl rfl (has _ b1 (hR.sub (fun _ h => by repeat (first | exact h | apply List.Mem.tail))) (List.Mem.head _)) ?_; rintro _ _ ⟨c, hc, hA, rfl, rfl⟩) | (refine Xg.ev (EvF.extract rfl rfl rfl) rfl rfl ?_) | (refine Xg.st (StF.alloc rfl Try.zeroValue107 rfl) rfl rfl ?_; rintro _ _ ⟨b10, rfl, rfl⟩) | (refine Xg.st0 (StF.storeAll (i := 0) (vs := c.flatMap cSp) (cs := zRc.flatMap cSp) rfl rfl rfl (te rfl) rfl (sp_len96 hc) (sp_one _) (by rw [sp_len96 hc, sp_len]; rfl)) rfl ?_; rintro _ _ ⟨rfl, rfl⟩; dsimp only [List.set]) | (refine Xg.ev (EvF.build (cs := cSp ⟨0, 0⟩) rfl ArgsP.nil (te rfl) (Places.cons (te rfl) (Places.cons (te rfl) Places.nil)) Try.zeroValue35 rfl) rfl rfl ?_) | (refine Xg.ev (EvF.move rfl rfl) rfl rfl ?_) | (refine Xg.ev (EvF.assign rfl rfl) rfl rfl ?_) | (refine Xg.ev (EvF.cmp rfl rfl rfl rfl) rfl rfl ?_) | (refine Xg.st (StF.boxAgg rfl rfl) rfl rfl ?_; rintro _ _ ⟨bx, rfl, rfl⟩) | (refine Xg.st (StF.alloc rfl Try.zeroValue35 rfl) rfl rfl ?_; rintro _ _ ⟨bx, rfl, rfl⟩) | (refine Xg.st0 (StF.storeAll (i := 2) rfl rfl rfl (te rfl) rfl rfl rfl rfl) rfl ?_; rintro _ _ ⟨rfl, rfl⟩; dsimp only [List.set]))))) | (refine XO.done rfl ?_; refine hK _ _ ?_; clear hK K) | refine X.seq rfl ?_ | refine X.region rfl (fun K hK => ?_) | refine X.skip rfl ?_ | refine X.ret rfl ?_ | (refine X.ite rfl rfl (fun hc => ?_); (first | (with_reducible refine Xb.case hc (fun h => ?_) (fun h => ?_)) | (with_reducible refine Xb.caseN hc (fun h => ?_) (fun h => ?_))) <;> clear hc))
    all_goals try (exfalso; omega)
    · rw [if_pos (by assumption)] at hr9
      subst hr9
      exact ret_two (v := .agg (cSp ⟨0, 0⟩).toArray) (by first | exact .inr rfl | exact .inl rfl) Try.results21 ⟨_, rfl, LoadV.whole (te rfl) rfl (by repeat (first | exact List.Mem.head _ | apply List.Mem.tail)) rfl⟩ rfl (H' := H) (by (repeat (first | exact List.Sublist.refl _ | apply List.Sublist.cons_cons | apply List.Sublist.cons)); done) ⟨rfl, rfl⟩
    · rw [if_neg (by assumption)] at hr9
      subst hr9
      rename_i b4 h9
      generalize bx = b8
      refine X.weakR (H' := ⟨b10, 0, c.flatMap cSp, some 107, 96⟩ :: ⟨b8, 0, cSp ⟨0, 0⟩, some 35, 2⟩ :: ⟨b4, 0, cRm R p, some 26, 5⟩ :: H) (List.Sublist.cons_cons _ (List.Sublist.cons _ (List.Sublist.refl _))) ?_
      refine X.permH (H' := ⟨b8, 0, cSp ⟨0, 0⟩, some 35, 2⟩ :: ⟨b10, 0, c.flatMap cSp, some 107, 96⟩ :: ⟨b4, 0, cRm R p, some 26, 5⟩ :: H) (List.Perm.swap _ _ _) ?_
      have hcl := sp_len96 hc
      have hRs : ∀ S : List Row, (∀ r ∈ ⟨b10, 0, c.flatMap cSp, some 107, 96⟩ :: ⟨b4, 0, cRm R p, some 26, 5⟩ :: H, r ∈ S) → RmOk S R p := fun S hS => hR.sub (fun r h => hS r (List.mem_append_right [_, _] h))
      obtain ⟨s, hs⟩ : ∃ s, s = rng R R.mats ⟨xa.id, m⟩ ⟨xb.id, m⟩ := ⟨_, rfl⟩
      have hds := fun S hS => rdiffer_spec R p c xa xb ia ib m S hr hS hok.mats hlm hc (hA rfl) hta htb hia hib
      rw [← hs] at hds ⊢
      refine X.regionOb tsDh [1, 2, 3, 4, 8, 10] [(1, .int .i64 xa.id), (2, .int .i64 xb.id), (3, .int .i64 m), (4, .pointer (some ⟨b4, 0, none⟩)), (8, .pointer (some ⟨b8, 0, none⟩)), (10, .pointer (some ⟨b10, 0, none⟩))] (valDh b4 b8 b10 ia ib R p c xa.id xb.id m s) (rowsDh b4 b8 b10 ia ib R p c xa.id xb.id m s) (fun _ => (0, 0)) (⟨b10, 0, c.flatMap cSp, some 107, 96⟩ :: ⟨b4, 0, cRm R p, some 26, 5⟩ :: H) rfl mixed (by (repeat (first | exact Sub.nil _ | refine Sub.cons rfl ?_)); done) rfl (by kernel_rfl) (locDh b4 b8 b10 ia ib R p c xa.id xb.id m s) (List.Sublist.refl _) ?_ ?_
      · repeat' (first | exact AllF.done rfl | (refine AllF.step rfl ?_ ?_; · (first | fail | ((first | refine Ob.ng rfl ?_); (first | exact ObK.pure (fun env R hR => by exact ⟨_, EvF.move rfl rfl, rfl⟩) rfl (fun _ => rfl) | exact ObK.pure (fun env R hR => by exact ⟨_, EvF.assign rfl rfl, rfl⟩) rfl (fun _ => rfl) | exact ObK.pure (fun env R hR => by exact ⟨_, EvF.loadV rfl rfl (LoadV.whole (te rfl) rfl (hR _ (List.Mem.tail _ (List.Mem.head _))) rfl), rfl⟩) rfl (fun _ => rfl) | (exact ObK.pure (fun env S hS => ⟨_, EvF.loadV rfl rfl (LoadV.whole (T := 107) (cs := c.flatMap cSp) (te rfl) rfl (hS _ (List.Mem.head _)) hcl), rfl⟩) rfl (fun _ => rfl)) | (exact fun env S hS => OpF.callV (Z := []) (EnF.st rfl (Args.cons rfl (Args.cons rfl Args.nil))) (hixsa _ (hRs _ hS)) rfl rfl) | (exact fun env S hS => OpF.callV (Z := []) (EnF.st rfl (Args.cons rfl (Args.cons rfl Args.nil))) (hixsb _ (hRs _ hS)) rfl rfl) | (exact fun env S hS => OpF.callV (Z := []) (EnF.st rfl (Args.cons rfl (Args.cons rfl (Args.cons rfl (Args.cons rfl (Args.cons rfl Args.nil)))))) (hds _ (hRs _ hS)) rfl rfl) | (exact fun env S hS => (StF.storeAll (i := 0) (vs := cSp s) (cs := cSp ⟨0, 0⟩) rfl rfl rfl (te rfl) rfl rfl rfl rfl).op.mono (fun v H' ⟨hv, hH⟩ => ⟨(0, 0), fun h => absurd rfl h, by rw [hH]; exact List.Perm.refl _⟩)))))))
      intro env t ha2 hv; refine ⟨_, ha2.cons (hv 11 9 (Nat.le_of_ble_eq_true rfl) rfl), ?_⟩; clear hv ha2
      show X _ _ _ [(9, .int .i64 0), (1, .int .i64 xa.id), (2, .int .i64 xb.id), (3, .int .i64 m), (4, .pointer (some ⟨b4, 0, none⟩)), (8, .pointer (some ⟨b8, 0, none⟩)), (10, .pointer (some ⟨b10, 0, none⟩))] (⟨b8, 0, cSp s, some 35, 2⟩ :: ⟨b10, 0, c.flatMap cSp, some 107, 96⟩ :: ⟨b4, 0, cRm R p, some 26, 5⟩ :: H) _
      clear env
      repeat' (first | refine X.ret rfl ?_)
      exact ret_two (v := .agg (cSp s).toArray) (by first | exact .inr rfl | exact .inl rfl) Try.results21 ⟨_, rfl, LoadV.whole (te rfl) rfl (List.Mem.head _) rfl⟩ rfl (H' := H) (by (repeat (first | exact List.Sublist.refl _ | apply List.Sublist.cons_cons | apply List.Sublist.cons)); done) ⟨rfl, rfl⟩
  · have hy : difF R a b m = (⟨0, 0⟩, e) := by unfold difF; rw [if_neg (by rw [he]; exact h0), he]
    rw [hy]
    refine Fc.mk (callable Try.call21) Try.func21 rfl Try.ntmps21 rfl ?_; dsimp only [fr]
    repeat' (first | (refine XO.op rfl ?_; (first | ((first | refine Xo.ng rfl ?_); (first | (refine Xg.st (StF.buildTwo rfl el55 rfl rfl rfl rfl rfl rfl (by decide) (by decide)) rfl rfl ?_; rintro _ _ ⟨b1, rfl, rfl⟩) | (refine Xg.ev (EvF.loadV rfl rfl (LoadV.whole (T := 26) (cs := cRm R p) (te rfl) rfl (by repeat (first | exact List.Mem.head _ | apply List.Mem.tail)) rfl)) rfl rfl ?_) | (refine Xg.call (EnF.st rfl (by (repeat (first | exact Args.nil | refine Args.cons rfl ?_)); done)) rfl rfl (has _ b1 (hR.sub (fun _ h => by repeat (first | exact h | apply List.Mem.tail))) (List.Mem.head _)) ?_; rintro _ _ ⟨c, hc, hA, rfl, rfl⟩) | (refine Xg.ev (EvF.extract rfl rfl rfl) rfl rfl ?_) | (refine Xg.st (StF.alloc rfl Try.zeroValue107 rfl) rfl rfl ?_; rintro _ _ ⟨b8, rfl, rfl⟩) | (refine Xg.st0 (StF.storeAll (i := 0) (vs := c.flatMap cSp) (cs := zRc.flatMap cSp) rfl rfl rfl (te rfl) rfl (sp_len96 hc) (sp_one _) (by rw [sp_len96 hc, sp_len]; rfl)) rfl ?_; rintro _ _ ⟨rfl, rfl⟩; dsimp only [List.set]) | (refine Xg.ev (EvF.build (cs := cSp ⟨0, 0⟩) rfl ArgsP.nil (te rfl) (Places.cons (te rfl) (Places.cons (te rfl) Places.nil)) Try.zeroValue35 rfl) rfl rfl ?_) | (refine Xg.ev (EvF.move rfl rfl) rfl rfl ?_) | (refine Xg.ev (EvF.assign rfl rfl) rfl rfl ?_) | (refine Xg.ev (EvF.cmp rfl rfl rfl rfl) rfl rfl ?_) | (refine Xg.st (StF.boxAgg rfl rfl) rfl rfl ?_; rintro _ _ ⟨bx, rfl, rfl⟩) | (refine Xg.st (StF.alloc rfl Try.zeroValue35 rfl) rfl rfl ?_; rintro _ _ ⟨bx, rfl, rfl⟩) | (refine Xg.st0 (StF.storeAll (i := 2) rfl rfl rfl (te rfl) rfl rfl rfl rfl) rfl ?_; rintro _ _ ⟨rfl, rfl⟩; dsimp only [List.set]))))) | (refine XO.done rfl ?_; refine hK _ _ ?_; clear hK K) | (refine XQ.op rfl ?_; (first | ((first | refine Yo.ng rfl ?_); (first | (refine Yg.ev (EvF.loadV rfl rfl (LoadV.whole (T := 26) (cs := cRm R p) (te rfl) rfl (by repeat (first | exact List.Mem.head _ | apply List.Mem.tail)) rfl)) rfl rfl ?_))))) | refine X.seq rfl ?_ | refine X.region rfl (fun K hK => ?_) | refine X.regionD rfl mixed (by kernel_rfl) (fun K hK => ?_) | refine X.skip rfl ?_ | refine X.ret rfl ?_ | (refine X.ite rfl rfl (fun hc => ?_); (first | (with_reducible refine Xb.case hc (fun h => ?_) (fun h => ?_)) | (with_reducible refine Xb.caseN hc (fun h => ?_) (fun h => ?_))) <;> clear hc))
    all_goals try (exfalso; simp_all; done)
    exact ret_two (v := .agg (cSp ⟨0, 0⟩).toArray) (by first | exact .inr rfl | exact .inl rfl) Try.results21 ⟨_, rfl, LoadV.whole (te rfl) rfl (by repeat (first | exact List.Mem.head _ | apply List.Mem.tail)) rfl⟩ rfl (H' := H) (by (repeat (first | exact List.Sublist.refl _ | apply List.Sublist.cons_cons | apply List.Sublist.cons)); done) ⟨rfl, rfl⟩
end Go.Proofs.Ythnhignoaoonbaa
end
section
set_option linter.unusedVariables false
set_option linter.unusedSimpArgs false
namespace Go.Fw
open Go
theorem EvF.eqSf {P : Program} {n : Nat} {H : List Row} {F : FS} {o : Oper} {T T' : TypeId} {x y : Operand} {k : IntKind} {p : Int} (h : o.op = .binOp .eql T x y T') (hx : evF F x = some (.int k p)) (hy : evF F y = some (.int k p)) : EvF P n H F o (.bool true) := by
  have := EvF.cmp (P := P) (n := n) (H := H) h hx hy rfl
  rwa [decide_eq_true rfl] at this
theorem EvF.eqSfB {P : Program} {n : Nat} {H : List Row} {F : FS} {o : Oper} {T T' : TypeId} {x y : Operand} {p : Bool} (h : o.op = .binOp .eql T x y T') (hx : evF F x = some (.bool p)) (hy : evF F y = some (.bool p)) (hu : P.underlying T = some .bool) : EvF P n H F o (.bool true) := by
  have := EvF.cmpB (P := P) (n := n) (H := H) h hx hy hu rfl
  rwa [beq_self_eq_true] at this
end Go.Fw
namespace Go.Proofs.Ythnhignoaoonbaa
open Go Go.Fw
set_option maxRecDepth 10000
theorem sameR_self (R : Rm) (p q : Pl) (H : List Row) (hR : RmOk H R p) (hS : RmOk H R q) : Fc Try.prog 24 [.agg (cRm R p).toArray, .agg (cRm R q).toArray] H (fun v H' => v = .bool true ∧ H' = H) :=
  (same_spec R R p q H hR hS).mono (fun v H' ⟨h1, h2⟩ => ⟨by rw [h1, decide_eq_true rfl], h2⟩)
theorem eqSp_sf (e : Sp) (w : World) : (Op.equalIn 10000 35 (.agg (cSp e).toArray) (.agg (cSp e).toArray)).run Try.prog w = .ok true w := by
  rw [eqSp 9998, decide_eq_true rfl]
noncomputable def chkF (R : Rm) : Int := if roomOk R then 0 else 10
theorem kCheck2_spec (R : Rm) (p : Pl) (H : List Row) (hR : RmOk H R p) : Fc Try.prog 22 [.agg (cRm R p).toArray] H (fun v H' => v = .int .i64 (chkF R) ∧ H' = H) := by
  refine (check_spec R p H hR).mono fun v H' ⟨h, h2⟩ => ⟨?_, h2⟩
  unfold chkF
  rcases h with ⟨h, e⟩ | ⟨h, e⟩
  · rw [if_pos h]; exact e
  · rw [if_neg h]; exact e
theorem rCheck_spec (R : Rm) (p : Pl) (H : List Row) (hR : RmOk H R p) : Fc Try.prog 23 [.agg (cRm R p).toArray] H (fun v H' => v = .int .i64 (chkF R) ∧ H' = H) := by
  have hR2 : ∀ r1, RmOk (r1 :: H) R p := fun r1 => hR.sub (fun _ h => List.Mem.tail _ h)
  unfold chkF
  by_cases hok : roomOk R
  · rw [if_pos hok]
    have hrs : ∀ r1, Fc Try.prog 47 [.agg (cRm R p).toArray] (r1 :: H) (fun v H' => v = .bool true ∧ H' = r1 :: H) := fun r1 => by
      have := room_spec R p (r1 :: H) (hR2 r1)
      rwa [decide_eq_true hok] at this
    refine Fc.mk (callable Try.call23) Try.func23 rfl Try.ntmps23 rfl ?_; dsimp only [fr]
    repeat' (first | (refine XO.op rfl ?_; (first | ((first | refine Xo.ng rfl ?_); (first | (refine Xg.ev (EvF.loadV rfl rfl (LoadV.whole (te rfl) rfl (List.Mem.head _) rfl)) rfl rfl ?_) | (refine Xg.call (EnF.st rfl (Args.cons rfl Args.nil)) rfl rfl (hrs _) ?_; rintro _ H9 ⟨rfl, hH9⟩; subst H9) | (refine Xg.ev (EvF.assign rfl rfl) rfl rfl ?_) | (refine Xg.ev (EvF.not rfl rfl) rfl rfl ?_) | (refine Xg.st (StF.boxAgg rfl rfl) rfl rfl ?_; rintro _ _ ⟨bx, rfl, rfl⟩))))) | (refine XO.done rfl ?_; refine hK _ _ ?_; clear hK K) | refine X.seq rfl ?_ | refine X.region rfl (fun K hK => ?_) | refine X.skip rfl ?_ | refine X.ret rfl ?_ | (refine X.ite rfl rfl (fun hc => ?_); (first | (with_reducible refine Xb.caseB hc (fun h => ?_) (fun h => ?_))) <;> clear hc))
    all_goals try (exfalso; contradiction)
    exact ret_one (v := .int .i64 0) (by first | exact .inr rfl | exact .inl rfl) Try.results23 rfl (H' := H) (by (repeat (first | exact List.Sublist.refl _ | apply List.Sublist.cons_cons | apply List.Sublist.cons)); done) ⟨rfl, rfl⟩
  · rw [if_neg hok]
    have hrs : ∀ r1, Fc Try.prog 47 [.agg (cRm R p).toArray] (r1 :: H) (fun v H' => v = .bool false ∧ H' = r1 :: H) := fun r1 => by
      have := room_spec R p (r1 :: H) (hR2 r1)
      rwa [decide_eq_false hok] at this
    refine Fc.mk (callable Try.call23) Try.func23 rfl Try.ntmps23 rfl ?_; dsimp only [fr]
    repeat' (first | (refine XO.op rfl ?_; (first | ((first | refine Xo.ng rfl ?_); (first | (refine Xg.ev (EvF.loadV rfl rfl (LoadV.whole (te rfl) rfl (List.Mem.head _) rfl)) rfl rfl ?_) | (refine Xg.call (EnF.st rfl (Args.cons rfl Args.nil)) rfl rfl (hrs _) ?_; rintro _ H9 ⟨rfl, hH9⟩; subst H9) | (refine Xg.ev (EvF.assign rfl rfl) rfl rfl ?_) | (refine Xg.ev (EvF.not rfl rfl) rfl rfl ?_) | (refine Xg.st (StF.boxAgg rfl rfl) rfl rfl ?_; rintro _ _ ⟨bx, rfl, rfl⟩))))) | (refine XO.done rfl ?_; refine hK _ _ ?_; clear hK K) | refine X.seq rfl ?_ | refine X.region rfl (fun K hK => ?_) | refine X.skip rfl ?_ | refine X.ret rfl ?_ | (refine X.ite rfl rfl (fun hc => ?_); (first | (with_reducible refine Xb.caseB hc (fun h => ?_) (fun h => ?_))) <;> clear hc))
    all_goals try (exfalso; contradiction)
    exact ret_one (v := .int .i64 10) (by first | exact .inr rfl | exact .inl rfl) Try.results23 rfl (H' := H) (by (repeat (first | exact List.Sublist.refl _ | apply List.Sublist.cons_cons | apply List.Sublist.cons)); done) ⟨rfl, rfl⟩
theorem canF_tup (R : Rm) : ∃ (b : Bool) (e : Int), canF R = .tuple #[.bool b, .int .i64 e] := by
  unfold canF
  split
  · exact ⟨_, _, rfl⟩
  · exact ⟨_, _, rfl⟩
set_option maxHeartbeats 8000000 in
theorem boxTells_spec (R : Rm) (p : Pl) (a b m : Int) (H : List Row) (hR : RmOk H R p) :
    Fc Try.prog 3 [.agg (cRm R p).toArray, .int .i64 a, .int .i64 b, .int .i64 m] H (fun v _ => v = .bool true) := by
  by_cases hg : great R
  · have hgr := great_spec R p
    simp only [decide_eq_true hg] at hgr
    refine Fc.mk (callable Try.call3) Try.func3 rfl Try.ntmps3 rfl ?_; dsimp only [fr]
    repeat' (first | (refine XO.op rfl ?_; (first | ((first | refine Xo.ng rfl ?_); (first | (refine Xg.call (EnF.st rfl (Args.cons rfl Args.nil)) rfl rfl (hgr _) ?_; rintro _ H9 ⟨rfl, hH9⟩; subst H9) | (refine Xg.ev (EvF.assign rfl rfl) rfl rfl ?_) | (refine Xg.ev (EvF.loadV rfl rfl (LoadV.whole (te rfl) rfl (List.Mem.head _) rfl)) rfl rfl ?_) | (refine Xg.st (StF.boxAgg rfl rfl) rfl rfl ?_; rintro _ _ ⟨bx, rfl, rfl⟩))))) | (refine XO.done rfl ?_; refine hK _ _ ?_; clear hK K) | refine X.seq rfl ?_ | refine X.region rfl (fun K hK => ?_) | refine X.ret rfl ?_ | (refine X.ite rfl rfl (fun hc => ?_); (first | (with_reducible refine Xb.t hc ?_)) <;> clear hc))
    all_goals try (exfalso; contradiction)
    exact ret_one (by first | exact .inr rfl | exact .inl rfl) Try.results3 rfl (H' := _) (List.Sublist.refl _) rfl
  · have hgr := great_spec R p
    simp only [decide_eq_false hg] at hgr
    have h1 : R.ages.length ≤ 1000000 := by unfold great at hg; omega
    have h2 : R.boxes.length ≤ 1000000 := by unfold great at hg; omega
    have h3 : R.mats.length ≤ 1000000 := by unfold great at hg; omega
    obtain ⟨cb, ce, hcan⟩ := canF_tup R
    obtain ⟨⟨ys, ye⟩, hy⟩ : ∃ y, y = yelF R a m := ⟨_, rfl⟩
    obtain ⟨⟨ds, de⟩, hd⟩ : ∃ y, y = difF R a b m := ⟨_, rfl⟩
    have kcan := fun p' H' (h : RmOk H' R p') => kCan_spec R p' H' h
    have rcan := fun p' H' (h : RmOk H' R p') => rCan_spec R p' H' h
    have kyel := fun p' H' (h : RmOk H' R p') => kYellow_spec R p' a m H' h h2
    have ryel := fun p' H' (h : RmOk H' R p') => rYellow_spec R p' a m H' h
    have kdif := fun p' H' (h : RmOk H' R p') => kDiffer_spec R p' a b m H' h h2
    have rdif := fun p' H' (h : RmOk H' R p') => rDiffer_spec R p' a b m H' h
    rw [hcan] at kcan rcan
    rw [← hy] at kyel ryel
    rw [← hd] at kdif rdif
    clear hcan hy hd
    refine Fc.mk (callable Try.call3) Try.func3 rfl Try.ntmps3 rfl ?_; dsimp only [fr]
    repeat' (first | (refine XO.op rfl ?_; (first | ((first | refine Xo.ng rfl ?_); (first | (refine Xg.call (EnF.st rfl (Args.cons rfl Args.nil)) rfl rfl (hgr _) ?_; rintro _ H9 ⟨rfl, hH9⟩; subst H9) | (refine Xg.call (EnF.st rfl (by (repeat (first | exact Args.nil | refine Args.cons rfl ?_)); done)) rfl rfl (twin_spec R p _ (hR.sub (fun _ h => by repeat (first | exact h | apply List.Mem.tail))) h1 h2 h3) ?_; rintro _ _ ⟨t1, k1, t2, k2, t3, k3, rfl, rfl⟩) | (refine Xg.ev (EvF.assign rfl rfl) rfl rfl ?_) | (refine Xg.ev (EvF.loadV rfl rfl (LoadV.whole (te rfl) rfl (List.Mem.head _) rfl)) rfl rfl ?_) | (refine Xg.st (StF.boxAgg rfl rfl) rfl rfl ?_; rintro _ _ ⟨bx, rfl, rfl⟩) | (refine Xg.st (StF.alloc rfl Try.zeroValue26 rfl) rfl rfl ?_; rintro _ _ ⟨bx, rfl, rfl⟩) | (refine Xg.st0 (StF.storeAll (i := 0) rfl rfl rfl (te rfl) rfl rfl rfl rfl) rfl ?_; rintro _ _ ⟨rfl, rfl⟩; dsimp only [List.set]))))) | (refine XO.done rfl ?_; refine hK _ _ ?_; clear hK K) | refine X.seq rfl ?_ | refine X.region rfl (fun K hK => ?_) | refine X.skip rfl ?_ | (refine X.ite rfl rfl (fun hc => ?_); (first | (with_reducible refine Xb.f hc ?_)) <;> clear hc))
    all_goals try (exfalso; contradiction)
    have hT : ∀ H', (⟨t1, 0, R.ages.flatMap cSp, some 35, k1 * 2⟩ : Row) ∈ H' → (⟨t2, 0, R.boxes.flatMap cBx, some 81, k2 * 2⟩ : Row) ∈ H' → (⟨t3, 0, R.mats.flatMap cMt, some 114, k3 * 6⟩ : Row) ∈ H' → RmOk H' R ⟨some ⟨t1, 0, none⟩, k1, some ⟨t2, 0, none⟩, k2, some ⟨t3, 0, none⟩, k3⟩ :=
      fun H' m1 m2 m3 => ⟨SlE.ofRow m1 (fun _ _ => rfl), SlE.ofRow m2 (fun _ _ => rfl), SlE.ofRow m3 (fun _ _ => rfl), by omega, by omega, by omega⟩
    obtain ⟨po, hpo⟩ : ∃ po, po = (⟨some ⟨t1, 0, none⟩, k1, some ⟨t2, 0, none⟩, k2, some ⟨t3, 0, none⟩, k3⟩ : Pl) := ⟨_, rfl⟩
    rw [← hpo] at hT ⊢
    clear hpo
    repeat' (first | (refine XO.op rfl ?_; (first | ((first | refine Xo.ng rfl ?_); (first | (refine Xg.ev (EvF.extract rfl rfl rfl) rfl rfl ?_) | (refine Xg.ev (EvF.loadV rfl rfl (LoadV.whole (T := 26) (cs := cRm R po) (te rfl) rfl (by repeat (first | exact List.Mem.head _ | apply List.Mem.tail)) rfl)) rfl rfl ?_) | (refine Xg.ev (EvF.loadV rfl rfl (LoadV.whole (T := 26) (cs := cRm R p) (te rfl) rfl (by repeat (first | exact List.Mem.head _ | apply List.Mem.tail)) rfl)) rfl rfl ?_) | (refine Xg.call (EnF.st rfl (by (repeat (first | exact Args.nil | refine Args.cons rfl ?_)); done)) rfl rfl (kcan _ _ (hT _ (by repeat (first | exact List.Mem.head _ | apply List.Mem.tail)) (by repeat (first | exact List.Mem.head _ | apply List.Mem.tail)) (by repeat (first | exact List.Mem.head _ | apply List.Mem.tail)))) ?_; rintro _ H9 ⟨rfl, hH9⟩; subst H9) | (refine Xg.call (EnF.st rfl (by (repeat (first | exact Args.nil | refine Args.cons rfl ?_)); done)) rfl rfl (rcan p _ (hR.sub (fun _ h => by repeat (first | exact h | apply List.Mem.tail)))) ?_; rintro _ H9 ⟨rfl, hH9⟩; subst H9) | (refine Xg.call (EnF.st rfl (by (repeat (first | exact Args.nil | refine Args.cons rfl ?_)); done)) rfl rfl (kyel _ _ (hT _ (by repeat (first | exact List.Mem.head _ | apply List.Mem.tail)) (by repeat (first | exact List.Mem.head _ | apply List.Mem.tail)) (by repeat (first | exact List.Mem.head _ | apply List.Mem.tail)))) ?_; rintro _ H9 ⟨rfl, hH9⟩; subst H9) | (refine Xg.call (EnF.st rfl (by (repeat (first | exact Args.nil | refine Args.cons rfl ?_)); done)) rfl rfl (ryel p _ (hR.sub (fun _ h => by repeat (first | exact h | apply List.Mem.tail)))) ?_; rintro _ H9 ⟨rfl, hH9⟩; subst H9) | (refine Xg.call (EnF.st rfl (by (repeat (first | exact Args.nil | refine Args.cons rfl ?_)); done)) rfl rfl (kdif _ _ (hT _ (by repeat (first | exact List.Mem.head _ | apply List.Mem.tail)) (by repeat (first | exact List.Mem.head _ | apply List.Mem.tail)) (by repeat (first | exact List.Mem.head _ | apply List.Mem.tail)))) ?_; rintro _ H9 ⟨rfl, hH9⟩; subst H9) | (refine Xg.call (EnF.st rfl (by (repeat (first | exact Args.nil | refine Args.cons rfl ?_)); done)) rfl rfl (rdif p _ (hR.sub (fun _ h => by repeat (first | exact h | apply List.Mem.tail)))) ?_; rintro _ H9 ⟨rfl, hH9⟩; subst H9) | (refine Xg.ev (EvF.move rfl rfl) rfl rfl ?_) | (refine Xg.ev (EvF.assign rfl rfl) rfl rfl ?_) | (refine Xg.st (StF.alloc rfl Try.zeroValue35 rfl) rfl rfl ?_; rintro _ _ ⟨bx, rfl, rfl⟩) | (refine Xg.st0 (StF.storeAll (i := 0) rfl rfl rfl (te rfl) rfl rfl rfl rfl) rfl ?_; rintro _ _ ⟨rfl, rfl⟩; dsimp only [List.set]))))) | (refine XO.done rfl ?_; refine hK _ _ ?_; clear hK K) | (refine XQ.op rfl ?_; (first | ((first | refine Yo.ng rfl ?_ | (refine Yo.g rfl rfl ?_; with_reducible refine Yw.tt ?_)); (first | (refine Yg.ev (EvF.eqSf rfl rfl rfl) rfl rfl ?_) | (refine Yg.ev (EvF.eqSfB rfl rfl rfl (by kernel_rfl)) rfl rfl ?_) | (refine Yg.ev (EvF.eqSt (r := true) (b := true) rfl rfl rfl (by kernel_rfl) (fun w => eqSp_sf _ w) rfl) rfl rfl ?_) | (refine Yg.ev (EvF.loadV rfl rfl (LoadV.whole (T := 26) (cs := cRm R po) (te rfl) rfl (by repeat (first | exact List.Mem.head _ | apply List.Mem.tail)) rfl)) rfl rfl ?_) | (refine Yg.ev (EvF.loadV rfl rfl (LoadV.whole (T := 26) (cs := cRm R p) (te rfl) rfl (by repeat (first | exact List.Mem.head _ | apply List.Mem.tail)) rfl)) rfl rfl ?_) | (refine Yg.ev (EvF.loadV rfl rfl (LoadV.whole (T := 35) (cs := cSp ys) (te rfl) rfl (by repeat (first | exact List.Mem.head _ | apply List.Mem.tail)) rfl)) rfl rfl ?_) | (refine Yg.ev (EvF.loadV rfl rfl (LoadV.whole (T := 35) (cs := cSp ds) (te rfl) rfl (by repeat (first | exact List.Mem.head _ | apply List.Mem.tail)) rfl)) rfl rfl ?_) | (refine Yg.call (EnF.st rfl (by (repeat (first | exact Args.nil | refine Args.cons rfl ?_)); done)) rfl rfl (kCheck2_spec R po _ (hT _ (by repeat (first | exact List.Mem.head _ | apply List.Mem.tail)) (by repeat (first | exact List.Mem.head _ | apply List.Mem.tail)) (by repeat (first | exact List.Mem.head _ | apply List.Mem.tail)))) ?_) | (refine Yg.call (EnF.st rfl (by (repeat (first | exact Args.nil | refine Args.cons rfl ?_)); done)) rfl rfl (rCheck_spec R p _ (hR.sub (fun _ h => by repeat (first | exact h | apply List.Mem.tail)))) ?_) | (refine Yg.call (EnF.st rfl (by (repeat (first | exact Args.nil | refine Args.cons rfl ?_)); done)) rfl rfl (sameR_self R po p _ (hT _ (by repeat (first | exact List.Mem.head _ | apply List.Mem.tail)) (by repeat (first | exact List.Mem.head _ | apply List.Mem.tail)) (by repeat (first | exact List.Mem.head _ | apply List.Mem.tail))) (hR.sub (fun _ h => by repeat (first | exact h | apply List.Mem.tail)))) ?_) | (refine Yg.ev (EvF.move rfl rfl) rfl rfl ?_) | (refine Yg.ev (EvF.assign rfl rfl) rfl rfl ?_) | (refine Yg.ev (EvF.pickT rfl rfl rfl) rfl rfl ?_))))) | (refine XQ.done rfl ?_; refine hK _ ?_; clear hK K) | refine X.seq rfl ?_ | refine X.region rfl (fun K hK => ?_) | refine X.regionD rfl mixed (by kernel_rfl) (fun K hK => ?_) | refine X.ret rfl ?_)
    exact ret_one (by first | exact .inr rfl | exact .inl rfl) Try.results3 rfl (H' := _) (List.Sublist.refl _) rfl
end Go.Proofs.Ythnhignoaoonbaa
end
section
set_option linter.unusedVariables false
namespace Go.Proofs.Ythnhignoaoonbaa
open Go Go.Fw Go.ChangeShapes Go.WideShapes
set_option maxRecDepth 10000
instance : Inhabited Sp := ⟨⟨0, 0⟩⟩
instance : Inhabited Bx := ⟨⟨0, 0⟩⟩
instance : Inhabited Mt := ⟨⟨0, 0, 0, 0, 0, 0⟩⟩
def w64 (n : Int) : Prop := (Lit.int .i64 n).wf = true
section
variable {H : Type} {enc : TypeId × Value → H} {w : World} {base : Nat} {spare : Nat → Bool} {held : Bool} {fuel : Nat} {cs : List Value} {x : DataW H × List MemPlace}
theorem open_i (h : DataW.trod enc Try.prog w base spare held fuel 3 cs = some x) : ∃ q : Int, cs = cI q ∧ w64 q := trod_i (te rfl) h
theorem open_sp (h : DataW.trod enc Try.prog w base spare held fuel 35 cs = some x) : ∃ q : Sp, cs = cSp q ∧ (w64 q.lo ∧ w64 q.hi) := by
  obtain ⟨hl, hf⟩ := trod_st (te rfl) h
  obtain ⟨n0, y0, h0⟩ := hf 0 0 3 _ rfl (te rfl)
  obtain ⟨n1, y1, h1⟩ := hf 1 1 3 _ rfl (te rfl)
  match cs, hl with
  | [a, b], _ =>
    obtain ⟨lo, e0, w0⟩ := open_i h0
    obtain ⟨hi, e1, w1⟩ := open_i h1
    simp [cI] at e0 e1
    subst e0 e1
    exact ⟨⟨lo, hi⟩, rfl, w0, w1⟩
theorem open_bx (h : DataW.trod enc Try.prog w base spare held fuel 81 cs = some x) : ∃ q : Bx, cs = cBx q ∧ (w64 q.id ∧ w64 q.made) := by
  obtain ⟨hl, hf⟩ := trod_st (te rfl) h
  obtain ⟨n0, y0, h0⟩ := hf 0 0 3 _ rfl (te rfl)
  obtain ⟨n1, y1, h1⟩ := hf 1 1 3 _ rfl (te rfl)
  match cs, hl with
  | [a, b], _ =>
    obtain ⟨lo, e0, w0⟩ := open_i h0
    obtain ⟨hi, e1, w1⟩ := open_i h1
    simp [cI] at e0 e1
    subst e0 e1
    exact ⟨⟨lo, hi⟩, rfl, w0, w1⟩
theorem open_mt (h : DataW.trod enc Try.prog w base spare held fuel 114 cs = some x) : ∃ q : Mt, cs = cMt q ∧ (w64 q.number ∧ w64 q.month ∧ w64 q.a ∧ w64 q.b ∧ w64 q.lo ∧ w64 q.hi) := by
  obtain ⟨hl, hf⟩ := trod_st (te rfl) h
  obtain ⟨n0, y0, h0⟩ := hf 0 0 3 _ rfl (te rfl)
  obtain ⟨n1, y1, h1⟩ := hf 1 1 3 _ rfl (te rfl)
  obtain ⟨n2, y2, h2⟩ := hf 2 2 3 _ rfl (te rfl)
  obtain ⟨n3, y3, h3⟩ := hf 3 3 3 _ rfl (te rfl)
  obtain ⟨n4, y4, h4⟩ := hf 4 4 35 _ rfl (te rfl)
  match cs, hl with
  | [a, b, c, d, e, f], _ =>
    obtain ⟨q0, e0, w0⟩ := open_i h0
    obtain ⟨q1, e1, w1⟩ := open_i h1
    obtain ⟨q2, e2, w2⟩ := open_i h2
    obtain ⟨q3, e3, w3⟩ := open_i h3
    obtain ⟨q4, e4, w4⟩ := open_sp h4
    simp [cI, cSp] at e0 e1 e2 e3 e4
    obtain ⟨e4, e5⟩ := e4
    subst e0 e1 e2 e3 e4 e5
    exact ⟨⟨q0, q1, q2, q3, q4.lo, q4.hi⟩, rfl, w0, w1, w2, w3, w4.1, w4.2⟩
end
structure InRm (w : World) (R : Rm) (p : Pl) : Prop where
  ages : InSl w p.a1 cSp 2 R.ages
  boxes : InSl w p.a2 cBx 2 R.boxes
  mats : InSl w p.a3 cMt 6 R.mats
  mo : w64 R.months
  st : w64 R.step
  k1 : R.ages.length ≤ p.c1
  k2 : R.boxes.length ≤ p.c2
  k3 : R.mats.length ≤ p.c3
def rowsRm (R : Rm) (p : Pl) : List Row := rowsOf p.a1 cSp R.ages ++ (rowsOf p.a2 cBx R.boxes ++ rowsOf p.a3 cMt R.mats)
theorem InRm.rm {w : World} {R : Rm} {p : Pl} {H : List Row} (h : InRm w R p) (hs : ∀ r ∈ rowsRm R p, r ∈ H) : RmOk H R p where
  ages := h.ages.sl fun r hr => hs r (List.mem_append_left _ hr)
  boxes := h.boxes.sl fun r hr => hs r (List.mem_append_right _ (List.mem_append_left _ hr))
  mats := h.mats.sl fun r hr => hs r (List.mem_append_right _ (List.mem_append_right _ hr))
  l1 := by have := h.ages.2.1; unfold maxLen at this; omega
  l2 := by have := h.boxes.2.1; unfold maxLen at this; omega
  l3 := by have := h.mats.2.1; unfold maxLen at this; omega
theorem InRm.ok {w : World} {R : Rm} {p : Pl} {B : Nat} (h : InRm w R p) : ∀ r ∈ rowsRm R p, r.own = none ∧ r.ok B w := by
  intro r hr
  rcases List.mem_append.1 hr with hr | hr
  · exact h.ages.ok r hr
  · rcases List.mem_append.1 hr with hr | hr
    · exact h.boxes.ok r hr
    · exact h.mats.ok r hr
section
variable {H : Type} {enc : TypeId × Value → H} {w : World} {base : Nat} {spare : Nat → Bool} {held : Bool} {v : Value} {d : DataW H} {p : List MemPlace} {r : Reach} {b0 : Nat}
theorem open_room (hv : Value.okWide Try.prog w r b0 26 v) (h : DataW.Trod enc Try.prog w base spare held 26 v d p) : ∃ R pl, v = .agg (cRm R pl).toArray ∧ InRm w R pl := by
  obtain ⟨fa, hu, _⟩ := ti_struct (te (T := 26) rfl)
  obtain ⟨⟨cs⟩, rfl, _⟩ := okWide_struct hu hv
  obtain ⟨fuel, hf⟩ := h
  obtain ⟨hl, hf⟩ := trod_st (te rfl) hf
  obtain ⟨n0, y0, h0⟩ := hf 0 0 3 _ rfl (te rfl)
  obtain ⟨n1, y1, h1⟩ := hf 1 1 3 _ rfl (te rfl)
  obtain ⟨n2, y2, h2⟩ := hf 2 2 22 _ rfl (te rfl)
  obtain ⟨n3, y3, h3⟩ := hf 3 3 23 _ rfl (te rfl)
  obtain ⟨n4, y4, h4⟩ := hf 4 4 24 _ rfl (te rfl)
  match cs, hl with
  | [a, b, c, d, e], _ =>
    obtain ⟨q0, e0, w0⟩ := open_i h0
    obtain ⟨q1, e1, w1⟩ := open_i h1
    simp [cI, Value.cells] at e0 e1
    obtain ⟨l2, a2, c2, e2, i2, _, k2⟩ := open_sl (te rfl) (te rfl) rfl (by decide) (fun _ _ _ => open_sp) (fun _ => rfl) h2
    obtain ⟨l3, a3, c3, e3, i3, _, k3⟩ := open_sl (te rfl) (te rfl) rfl (by decide) (fun _ _ _ => open_bx) (fun _ => rfl) h3
    obtain ⟨l4, a4, c4, e4, i4, _, k4⟩ := open_sl (te rfl) (te rfl) rfl (by decide) (fun _ _ _ => open_mt) (fun _ => rfl) h4
    subst e0 e1 e2 e3 e4
    exact ⟨⟨q0, q1, l2, l3, l4⟩, ⟨a2, c2, a3, c3, a4, c4⟩, rfl, i2, i3, i4, w0, w1, k2, k3, k4⟩
end
end Go.Proofs.Ythnhignoaoonbaa
end
section
set_option linter.unusedVariables false
namespace Go.Proofs.Ythnhignoaoonbaa
open Go Go.Fw Go.ChangeShapes Go.WideShapes Go.ChangeAt Go.RowKit
set_option linter.unusedVariables false
set_option maxRecDepth 100000
theorem ownK : ownKnob Try.prog.godebug = none := by kernel_rfl
theorem laidO : laidOutB Try.prog = true := by kernel_rfl
theorem open_in {w : World} {r : Reach} {b0 : Nat} {v : Value} (hv : Value.okWide Try.prog w r b0 3 v) : ∃ q : Int, v = .int .i64 q := okWide_int Try.underlying3 hv
theorem boxTells_run (R : Rm) (p : Pl) (a b m : Int) (w : World) (hR : InRm w R p) :
    Calls Try.prog 3 #[.agg (cRm R p).toArray, .int .i64 a, .int .i64 b, .int .i64 m] w fun e w' => e = .returned (.bool true) ∧ Below w.heap.size w w' :=
  Fc.calls (H := rowsRm R p) (boxTells_spec R p a b m _ (hR.rm (fun _ h => h))) (fun r hr => hR.ok r hr)
theorem lifted (os : Os) (started : os.Started) (H : Type) (enc : TypeId × Value → H) :
    ReturnsInHanded {} Try.checked os 3 .any (Rows.boxTellsSpec.pre6 enc Try.prog Try.f3 Rows.boxTellsRow.domain false) (Rows.boxTellsSpec.post enc Try.prog Try.f3 false true false false) := by
  refine returnsInHanded_of_change (C := Try.checked) ownK started (by kernel_rfl) Try.func3
    (ChangeSpec.witness6 (enc := enc) (C := Try.checked) false ⟨#[], #[.agg (cRm ⟨0, 0, [], [], []⟩ ⟨none, 0, none, 0, none, 0⟩).toArray, .int .i64 0, .int .i64 0, .int .i64 0], []⟩ 8 (by kernel_rfl) (by kernel_rfl) (by kernel_rfl) (by kernel_rfl)) ?_
  intro W base args ds gs before hval0 hW hcnd _
  have hval : ∀ (j : Nat) t v, Try.f3.params[j]? = some t → args[j]? = some v → Value.okWide Try.prog W .any base t v := hval0
  have hW' := hW
  obtain ⟨p, q, hA0, hV, rfl, hfz, hnd⟩ := hW
  have hA : DataW.TrodAll enc Try.prog W 0 (fun _ => true) true Try.f3.params.toList args.toList ds p := hA0
  rw [Try.params3] at hA hval
  obtain ⟨v0, vs0, d0, ds0, p0, q0, hargs, rfl, rfl, h0, r0⟩ := trodAll_cons hA
  obtain ⟨v1, vs1, d1, ds1, p1, q1, rfl, rfl, rfl, h1, r1⟩ := trodAll_cons r0
  obtain ⟨v2, vs2, d2, ds2, p2, q2, rfl, rfl, rfl, h2, r2⟩ := trodAll_cons r1
  obtain ⟨v3, vs3, d3, ds3, p3, q3, rfl, rfl, rfl, h3, r3⟩ := trodAll_cons r2
  obtain ⟨rfl, rfl, rfl⟩ := trodAll_nil r3
  obtain rfl : args = #[v0, v1, v2, v3] := by cases args; simp_all
  obtain ⟨rfl, rfl⟩ := trodVars_none hV
  have lt : ∀ {t v d ps}, DataW.Trod enc Try.prog W 0 (fun _ => true) true t v d ps → ∀ x ∈ ps, x.block < W.heap.size := fun h => by obtain ⟨m, hm⟩ := h; exact DataW.trod_lt m _ _ _ hm
  obtain ⟨R, pl, rfl, hR⟩ := open_room (hval 0 _ v0 rfl rfl) h0
  obtain ⟨a, rfl⟩ := open_in (hval 1 _ v1 rfl rfl)
  obtain ⟨b, rfl⟩ := open_in (hval 2 _ v2 rfl rfl)
  obtain ⟨m, rfl⟩ := open_in (hval 3 _ v3 rfl rfl)
  clear hA0 hval0
  refine (boxTells_run R pl a b m W hR).mono fun e W' ⟨he, bel⟩ => ?_
  subst he
  exact ⟨_, rfl, _, _, _, [], _, [], hW', trodAll_mk1 (shut_bool Try.underlying4 _), (trodAll_cons_mk (Below.trod laidO (by kernel_rfl) (of_decide_eq_true (by kernel_rfl)) h0 bel (lt h0)) (trodAll_cons_mk (Below.trod laidO (by kernel_rfl) (of_decide_eq_true (by kernel_rfl)) h1 bel (lt h1)) (trodAll_cons_mk (Below.trod laidO (by kernel_rfl) (of_decide_eq_true (by kernel_rfl)) h2 bel (lt h2)) (trodAll_cons_mk (Below.trod laidO (by kernel_rfl) (of_decide_eq_true (by kernel_rfl)) h3 bel (lt h3)) trodAll_mk0)))), rfl, bel.frame _, fun h => by cases h⟩
theorem over : Rows.boxTellsRow.holds Try.pinned (OpenSpec.ofChange Rows.boxTellsSpec) :=
  OpenClaim.holds_of_wide 3 Try.f3 rfl rfl rfl rfl rfl rfl rfl ⟨rfl, rfl, rfl, rfl, rfl⟩ rfl rfl rfl rfl rfl (by kernel_rfl) Try.func3 (by kernel_rfl)
    (of_decide_eq_true (by kernel_rfl)) (by unfold Func.isWrapper; first | (rw [if_pos (by decide +kernel)]; kernel_rfl) | (rw [if_neg (by decide +kernel)]; exact ⟨rfl, rfl⟩))
    (fun os started H enc _ => lifted os started H enc)
theorem boxTells_proved : Rows.BoxTellsSaid := over
#print axioms boxTells_proved
end Go.Proofs.Ythnhignoaoonbaa
end
