/- CoreChanges: for every bale, draw, weighing and two lists of numbers the law returns true (which draws and weighings may be wrong, and the bales with a draw more, with a weighing more and without some, or the errors, are those of the reference, and nothing of what is handed in is changed or shared), and each argument reads afterwards as before. No condition. -/
import Derived.Test.YtoflnjgfikchjaaW04
import Derived.OpenShut
import Derived.ProofKit
import Derived.Test.YtoflnjgfikchjaaRows
import Derived.WalkKit
import Derived.ChangeOld
import Derived.ShutString
section
set_option linter.unusedVariables false
set_option linter.unusedSimpArgs false
namespace Go.Proofs.Ytoflnjgfikchjaa
open Go Go.Fw
set_option maxRecDepth 10000
def stp (i : Int) (s : Sp) (x : Dr) : Sp := if x.val = i then ⟨max s.lo x.lo, min s.hi x.hi⟩ else s
def gr1 (l : List Dr) (i : Int) : Sp := l.foldl (stp i) ⟨1, 9⟩
theorem spAt_set {g : List Sp} {i j : Nat} {s : Sp} (h : i < g.length) : spAt (g.set i s) j = if i = j then s else spAt g j := by
  unfold spAt List.getD
  rw [List.getElem?_set]
  by_cases h1 : i = j
  · subst h1; simp [h]
  · simp [h1]
theorem fold_at (i : Nat) : ∀ (l : List Dr) (g : List Sp), g.length = 5 → i < 5 → (∀ x ∈ l, 0 ≤ x.val ∧ x.val < 5) → spAt (l.foldl stepG g) i = l.foldl (stp i) (spAt g i)
  | [], g, _, _, _ => rfl
  | x :: l, g, hg, hi, hx => by
    have h1 := hx x List.mem_cons_self
    rw [List.foldl_cons, List.foldl_cons, fold_at i l (stepG g x) (by rw [stepG_len, hg]) hi (fun y hy => hx y (List.mem_cons_of_mem _ hy))]
    congr 1
    unfold stepG stp
    rw [spAt_set (by omega)]
    by_cases h2 : x.val = i
    · rw [if_pos (by omega), if_pos h2, show x.val.toNat = i by omega]
    · rw [if_neg (by omega), if_neg h2]
theorem initG_at {n i : Nat} (hi : i < n) : spAt (initG n) i = ⟨1, 9⟩ := by
  unfold spAt initG List.getD
  rw [List.getElem?_append_left (by simpa using hi), List.getElem?_replicate, if_pos hi]
  rfl
theorem gr1_eq {B : Bl} (h5 : 1 ≤ B.layers ∧ B.layers ≤ 5) (hd : ∀ x ∈ B.draws, 0 ≤ x.val ∧ x.val < 5) {i : Nat} (hi : i < B.layers.toNat) : gr1 B.draws i = spAt (gradesOf B) i := by
  unfold gr1 gradesOf
  rw [fold_at i B.draws _ (initG_len (by omega)) (by omega) hd, initG_at hi]
/-- a list of spans in memory of one's own, or nil -/
def OutS (l : List Sp) (out : Value) (Z : List Row) : Prop := (l = [] ∧ out = .slice none 0 0 ∧ Z = []) ∨ ∃ b q, out = .slice (some ⟨b, 0, none⟩) l.length q ∧ Z = [⟨b, 0, l.flatMap cSp, some 23, q * 2⟩]
theorem OutS.sl {l : List Sp} {out : Value} {Z H : List Row} (h : OutS l out Z) : ∃ a c, out = .slice a l.length c ∧ SlE (Z ++ H) a cSp 2 l := by
  rcases h with ⟨rfl, rfl, rfl⟩ | ⟨b, q, rfl, rfl⟩
  · exact ⟨none, 0, rfl, sleNil⟩
  · exact ⟨_, _, rfl, SlE.ofRow (List.Mem.head _) (fun _ _ => rfl)⟩
def gsOf (B : Bl) : List Sp := (gradesOf B).take B.layers.toNat
set_option maxHeartbeats 4000000 in
theorem layers_spec (B : Bl) (p : Pb) (H : List Row) (h5 : 1 ≤ B.layers ∧ B.layers ≤ 5) (hd : ∀ x ∈ B.draws, 0 ≤ x.val ∧ x.val < 5) (hB : BlOk H B p) :
    Fc Try.prog 50 [.agg (cBl B p).toArray] H (fun v H' => (hasG B.layers.toNat (gradesOf B) ∧ ∃ out Z, OutS (gsOf B) out Z ∧ v = .tuple #[out, .bool true] ∧ H' = Z ++ H) ∨ (¬ hasG B.layers.toNat (gradesOf B) ∧ v = .tuple #[.slice none 0 0, .bool false] ∧ H' = H)) := by
  obtain ⟨N, hN⟩ : ∃ N : Nat, B.layers.toNat = N := ⟨_, rfl⟩
  obtain ⟨g, hg⟩ : ∃ g, gradesOf B = g := ⟨_, rfl⟩
  have hgl : g.length = 5 := by rw [← hg]; unfold gradesOf; rw [foldG_len, initG_len (by omega)]
  have hgr : ∀ i : Nat, i < N → gr1 B.draws i = spAt g i := fun i hi => by rw [← hg]; exact gr1_eq h5 hd (by omega)
  unfold gsOf
  rw [hN, hg]
  have l1 := hB.l1
  have hBZ : ∀ (Z : List Row) r0 r, BlOk (r0 :: (Z ++ r :: H)) B p := fun Z r0 r => hB.sub (fun _ h => List.Mem.tail _ (List.mem_append_right _ (List.mem_cons_of_mem _ h)))
  obtain ⟨a1, c1, a2, c2⟩ := p
  refine Fc.mk (callable Try.call50) Try.func50 rfl Try.ntmps50 rfl ?_; dsimp only [fr]
  repeat' (first | (refine XO.op rfl ?_; (first | ((first | refine Xo.ng rfl ?_); (first | (refine Xg.ev (EvF.move rfl rfl) rfl rfl ?_) | (refine Xg.ev (EvF.assign rfl rfl) rfl rfl ?_) | (refine Xg.ev (EvF.cmp rfl rfl rfl rfl) rfl rfl ?_) | (refine Xg.ev (EvF.fieldAddr rfl rfl (te rfl) rfl (te rfl) (by decide)) rfl rfl ?_) | (refine Xg.ev (EvF.loadV rfl rfl (LoadV.own (te rfl) rfl (List.Mem.head _) rfl)) rfl rfl ?_) | (refine Xg.ev (EvF.loadV rfl rfl (LoadV.whole (te rfl) rfl (List.Mem.head _) rfl)) rfl rfl ?_) | (refine Xg.st (StF.boxAgg rfl rfl) rfl rfl ?_; rintro _ _ ⟨bx, rfl, rfl⟩))))) | (refine XO.done rfl ?_; refine hK _ _ ?_; clear hK K) | refine X.seq rfl ?_ | refine X.region rfl (fun K hK => ?_) | refine X.block rfl ?_ | (refine X.brk rfl ?_; first | refine blockX_hit rfl ?_ | skip) | refine X.skip rfl ?_ | refine X.ret rfl ?_ | (refine X.ite rfl rfl (fun hc => ?_); (first | (with_reducible refine Xb.case hc (fun h => ?_) (fun h => ?_))) <;> clear hc))
  rename Nat => b1
  refine X.lp rfl (fun m F' H' => ∃ (k : Nat) (out : Value) (Z : List Row), m = N - k ∧ k ≤ N ∧ OutS (g.take k) out Z ∧ (∀ s ∈ g.take k, ¬ s.lo > s.hi) ∧ Z ++ ⟨b1, 0, cBl B ⟨a1, c1, a2, c2⟩, some 27, 6⟩ :: H = H' ∧
      F' = [(1, .pointer (some ⟨b1, 0, none⟩)), (4, out), (5, .int .i64 k)])
    N [(1, .pointer (some ⟨b1, 0, none⟩)), (4, .slice none 0 0), (5, .int .i64 (0 : Nat))] (⟨b1, 0, cBl B ⟨a1, c1, a2, c2⟩, some 27, 6⟩ :: H) (by (repeat (first | exact Sub.nil _ | refine Sub.cons rfl ?_)); done) (List.Sublist.refl _) ⟨0, _, [], by omega, by omega, .inl ⟨rfl, rfl, rfl⟩, by simp, rfl, rfl⟩ ?_
  rintro _ _ H2 ⟨k, out, Z, rfl, hk, hO, hall, hH, rfl⟩
  subst hH
  repeat' (first | (refine XO.op rfl ?_; (first | ((first | refine Xo.ng rfl ?_); (first | (refine Xg.ev (EvF.loadV rfl rfl (LoadV.own (te rfl) rfl (List.mem_append_right _ (List.Mem.head _)) rfl)) rfl rfl ?_) | (refine Xg.ev (EvF.loadV rfl rfl (LoadV.own (te rfl) rfl (List.Mem.tail _ (List.mem_append_right _ (List.Mem.head _))) rfl)) rfl rfl ?_) | (refine Xg.ev (EvF.build (cs := cSp ⟨1, 9⟩) rfl (ArgsP.cons rfl (ArgsP.cons rfl ArgsP.nil)) (te rfl) (Places.cons (te rfl) (Places.cons (te rfl) Places.nil)) Try.zeroValue23 rfl) rfl rfl ?_) | (refine Xg.ev (EvF.move rfl rfl) rfl rfl ?_) | (refine Xg.ev (EvF.assign rfl rfl) rfl rfl ?_) | (refine Xg.ev (EvF.cmp rfl rfl rfl rfl) rfl rfl ?_) | (refine Xg.ev (EvF.fieldAddr rfl rfl (te rfl) rfl (te rfl) (by decide)) rfl rfl ?_) | (refine Xg.ev (EvF.lenSlice rfl rfl (te rfl)) rfl rfl ?_) | (refine Xg.st (StF.alloc rfl Try.zeroValue23 rfl) rfl rfl ?_; rintro _ _ ⟨bx, rfl, rfl⟩) | (refine Xg.st0 (StF.storeAll (i := 0) rfl rfl rfl (te rfl) rfl rfl rfl rfl) rfl ?_; rintro _ _ ⟨rfl, rfl⟩; dsimp only [List.set]))))) | (refine XO.done rfl ?_; refine hK _ _ ?_; clear hK K) | refine X.seq rfl ?_ | refine X.region rfl (fun K hK => ?_) | refine X.block rfl ?_ | (refine X.brk rfl ?_; first | refine blockX_hit rfl ?_ | skip) | refine X.skip rfl ?_ | refine X.ret rfl ?_ | (refine X.ite rfl rfl (fun hc => ?_); (first | (with_reducible refine Xb.case hc (fun h => ?_) (fun h => ?_))) <;> clear hc))
  · rename Nat => bs
    refine X.lp rfl (fun m F' H' => ∃ q : Nat, m = B.draws.length - q ∧ q ≤ B.draws.length ∧ ⟨bs, 0, cSp (gr1 (B.draws.take q) k), some 23, 2⟩ :: (Z ++ ⟨b1, 0, cBl B ⟨a1, c1, a2, c2⟩, some 27, 6⟩ :: H) = H' ∧
        F' = [(1, .pointer (some ⟨b1, 0, none⟩)), (4, out), (5, .int .i64 k), (6, .pointer (some ⟨bs, 0, none⟩)), (17, .slice a1 B.draws.length c1), (18, .int .i64 B.draws.length), (19, .int .i64 q)])
      B.draws.length [(1, .pointer (some ⟨b1, 0, none⟩)), (4, out), (5, .int .i64 k), (6, .pointer (some ⟨bs, 0, none⟩)), (17, .slice a1 B.draws.length c1), (18, .int .i64 B.draws.length), (19, .int .i64 (0 : Nat))] (⟨bs, 0, cSp (gr1 (B.draws.take 0) k), some 23, 2⟩ :: (Z ++ ⟨b1, 0, cBl B ⟨a1, c1, a2, c2⟩, some 27, 6⟩ :: H)) (by (repeat (first | exact Sub.nil _ | refine Sub.cons rfl ?_)); done) (List.Sublist.refl _) ⟨0, by omega, by omega, rfl, rfl⟩ ?_
    rintro _ _ H2 ⟨q, rfl, hq, hH, rfl⟩
    subst hH
    obtain ⟨s, hs⟩ : ∃ s, gr1 (B.draws.take q) k = s := ⟨_, rfl⟩
    rw [hs]
    repeat' (first | (refine XO.op rfl ?_; (first | ((first | refine Xo.ng rfl ?_); (first | (refine Xg.ev (EvF.move rfl rfl) rfl rfl ?_) | (refine Xg.ev (EvF.assign rfl rfl) rfl rfl ?_) | (refine Xg.ev (EvF.cmp rfl rfl rfl rfl) rfl rfl ?_) | (refine Xg.ev (EvF.fieldAddr rfl rfl (te rfl) rfl (te rfl) (by decide)) rfl rfl ?_) | (refine Xg.ev (EvF.loadV rfl rfl (LoadV.own (te rfl) rfl (List.Mem.head _) rfl)) rfl rfl ?_) | (refine Xg.ev (EvF.loadV rfl rfl (LoadV.whole (te rfl) rfl (List.Mem.head _) rfl)) rfl rfl ?_) | (refine Xg.st (StF.boxAgg rfl rfl) rfl rfl ?_; rintro _ _ ⟨bx, rfl, rfl⟩))))) | (refine XO.done rfl ?_; refine hK _ _ ?_; clear hK K) | refine X.seq rfl ?_ | refine X.region rfl (fun K hK => ?_) | refine X.block rfl ?_ | (refine X.brk rfl ?_; first | refine blockX_hit rfl ?_ | skip) | refine X.skip rfl ?_ | refine X.ret rfl ?_ | (refine X.ite rfl rfl (fun hc => ?_); (first | (with_reducible refine Xb.case hc (fun h => ?_) (fun h => ?_))) <;> clear hc))
    · obtain ⟨b, off, e, rfl, he⟩ := hB.draws.elem (i := q) (by omega)
      have hn : gr1 (B.draws.take (q + 1)) k = stp k s e := by unfold gr1 at hs ⊢; rw [take_snoc he, List.foldl_append, hs]; rfl
      unfold stp at hn
      repeat' (first | (refine XO.op rfl ?_; (first | ((first | refine Xo.ng rfl ?_); (first | (refine Xg.ev (EvF.loadV rfl rfl (LoadV.elA0 (hBZ _ _ _).draws he (te rfl) rfl (fun _ hm => hm) rfl)) rfl rfl ?_) | (refine Xg.ev (EvF.build (cs := cSp ⟨max s.lo e.lo, min s.hi e.hi⟩) rfl (ArgsP.cons rfl (ArgsP.cons rfl ArgsP.nil)) (te rfl) (Places.cons (te rfl) (Places.cons (te rfl) Places.nil)) Try.zeroValue23 rfl) rfl rfl ?_) | (refine Xg.ev (EvF.move rfl rfl) rfl rfl ?_) | (refine Xg.ev (EvF.cmp rfl rfl rfl rfl) rfl rfl ?_) | (refine Xg.ev (EvF.add64 rfl rfl rfl (by omega) (by omega)) rfl rfl ?_) | (refine Xg.ev (EvF.fieldAddr rfl rfl (te rfl) rfl (te rfl) (by decide)) rfl rfl ?_) | (refine Xg.ev (EvF.indexSlice rfl rfl rfl (te rfl) (te rfl) (by omega) (by omega)) rfl rfl ?_) | (refine Xg.ev (EvF.loadV rfl rfl (LoadV.own (te rfl) rfl (List.Mem.head _) rfl)) rfl rfl ?_) | (refine Xg.ev (EvF.loadV rfl rfl (LoadV.own (te rfl) rfl (List.Mem.tail _ (List.Mem.head _)) rfl)) rfl rfl ?_) | (refine Xg.ev (EvF.min64 rfl rfl rfl) rfl rfl ?_) | (refine Xg.ev (EvF.max64 rfl rfl rfl) rfl rfl ?_) | (refine Xg.st (StF.alloc rfl Try.zeroValue29 rfl) rfl rfl ?_; rintro _ _ ⟨bx, rfl, rfl⟩) | (refine Xg.st0 (StF.storeAll (i := 0) rfl rfl rfl (te rfl) rfl rfl rfl rfl) rfl ?_; rintro _ _ ⟨rfl, rfl⟩; dsimp only [List.set]) | (refine Xg.st0 (StF.storeAll (i := 1) rfl rfl rfl (te rfl) rfl rfl rfl rfl) rfl ?_; rintro _ _ ⟨rfl, rfl⟩; dsimp only [List.set]))))) | (refine XO.done rfl ?_; refine hK _ _ ?_; clear hK K) | refine X.seq rfl ?_ | refine X.region rfl (fun K hK => ?_) | refine X.skip rfl ?_ | (refine X.ite rfl rfl (fun hc => ?_); (first | (with_reducible refine Xb.case hc (fun h => ?_) (fun h => ?_))) <;> clear hc))
      · rw [if_pos (by assumption)] at hn
        rw [← hn]
        exact ⟨_, _, _, (by (repeat (first | exact Sub.nil _ | refine Sub.cons rfl ?_)); done), List.Sublist.cons _ (List.Sublist.refl _), ⟨q + 1, rfl, by omega, rfl, rfl⟩, by omega⟩
      · rw [if_neg (by assumption)] at hn
        rw [← hn]
        exact ⟨_, _, _, (by (repeat (first | exact Sub.nil _ | refine Sub.cons rfl ?_)); done), List.Sublist.cons _ (List.Sublist.refl _), ⟨q + 1, rfl, by omega, rfl, rfl⟩, by omega⟩
    · have hsk : spAt g k = s := by rw [← hgr k (by omega), ← hs, List.take_of_length_le (by omega)]
      have hkg := spAt_get (g := g) (i := k) (by omega)
      rw [hsk] at hkg
      exact ret_two (by first | exact .inr rfl | exact .inl rfl) Try.results50 rfl rfl (H' := H) (List.Sublist.cons _ ((List.sublist_cons_self _ _).trans (List.sublist_append_right _ _))) (.inr ⟨fun hh => hh s (List.mem_of_getElem? (i := k) (by rw [List.getElem?_take, if_pos (by omega)]; exact hkg)) (by assumption), rfl, rfl⟩)
    · have hsk : spAt g k = s := by rw [← hgr k (by omega), ← hs, List.take_of_length_le (by omega)]
      have hkg := spAt_get (g := g) (i := k) (by omega)
      rw [hsk] at hkg
      have hok : ¬ s.lo > s.hi := by assumption
      have htk := take_snoc hkg
      have hall' : ∀ s ∈ g.take (k + 1), ¬ s.lo > s.hi := by
        intro x hx
        rw [htk, List.mem_append, List.mem_singleton] at hx
        rcases hx with hx | rfl
        · exact hall x hx
        · exact hok
      obtain ⟨l, hlE⟩ : ∃ l, g.take k = l := ⟨_, rfl⟩
      have hlk : l.length ≤ 5 := by rw [← hlE, List.length_take]; omega
      rw [hlE] at hO htk
      rcases hO with ⟨rfl, rfl, rfl⟩ | ⟨b0, q0, rfl, rfl⟩
      · repeat' (first | (refine XO.op rfl ?_; (first | ((first | refine Xo.ng rfl ?_); (first | (refine Xg.st (StF.buildOne rfl el22 rfl rfl rfl (by decide) (by decide)) rfl rfl ?_; rintro _ _ ⟨bo, rfl, rfl⟩) | (refine Xg.st (StF.appendNew rfl el22 rfl rfl (by decide) rfl (Rd.own (List.Mem.head _)) (by decide)) rfl rfl ?_; rintro _ _ ⟨bn, kn, rfl, rfl⟩) | (refine Xg.ev (EvF.move rfl rfl) rfl rfl ?_) | (refine Xg.ev (EvF.assign rfl rfl) rfl rfl ?_) | (refine Xg.ev (EvF.add64 rfl rfl rfl (by omega) (by omega)) rfl rfl ?_))))) | (refine XO.done rfl ?_; refine hK _ _ ?_; clear hK K) | refine X.region rfl (fun K hK => ?_))
        refine ⟨_, _, _, (by (repeat (first | exact Sub.nil _ | refine Sub.cons rfl ?_)); done), ?_, ⟨k + 1, _, [⟨bn, 0, ([] ++ [s]).flatMap cSp, some 23, kn * 2⟩], rfl, by omega, ?_, hall', rfl, rfl⟩, by omega⟩
        · exact List.Sublist.cons_cons _ (List.Sublist.cons _ (List.Sublist.cons _ (List.Sublist.refl _)))
        · rw [htk]; exact .inr ⟨_, _, rfl, rfl⟩
      · have hlen : (l.flatMap cSp).length = l.length * 2 := lenSp l
        repeat' (first | (refine XO.op rfl ?_; (first | ((first | refine Xo.ng rfl ?_); (first | (refine Xg.st (StF.buildOne rfl el22 rfl rfl rfl (by decide) (by decide)) rfl rfl ?_; rintro _ _ ⟨bo, rfl, rfl⟩) | (refine Xg.st (StF.appendOwn (i := 2) rfl el22 rfl rfl rfl hlen rfl (Rd.own (List.Mem.head _)) rfl (by omega)) rfl rfl ?_; rintro _ _ ⟨bn, kn, rfl, rfl⟩; dsimp only [List.eraseIdx]) | (refine Xg.ev (EvF.move rfl rfl) rfl rfl ?_) | (refine Xg.ev (EvF.assign rfl rfl) rfl rfl ?_) | (refine Xg.ev (EvF.add64 rfl rfl rfl (by omega) (by omega)) rfl rfl ?_))))) | (refine XO.done rfl ?_; refine hK _ _ ?_; clear hK K) | refine X.region rfl (fun K hK => ?_))
        refine ⟨_, _, _, (by (repeat (first | exact Sub.nil _ | refine Sub.cons rfl ?_)); done), ?_, ⟨k + 1, _, [⟨bn, 0, (l ++ [s]).flatMap cSp, some 23, kn * 2⟩], rfl, by omega, ?_, hall', rfl, rfl⟩, by omega⟩
        · rw [List.flatMap_append]
          exact List.Sublist.cons_cons _ (List.Sublist.cons _ (List.Sublist.cons _ (List.Sublist.refl _)))
        · rw [htk]; exact .inr ⟨_, _, by rw [List.length_append]; rfl, rfl⟩
  · obtain rfl : k = N := by omega
    exact ret_two (by first | exact .inr rfl | exact .inl rfl) Try.results50 rfl rfl (H' := Z ++ H) (List.Sublist.append (List.Sublist.refl _) (List.sublist_cons_self _ _)) (.inl ⟨hall, out, Z, hO, rfl, rfl⟩)
end Go.Proofs.Ytoflnjgfikchjaa
end
section
set_option linter.unusedVariables false
set_option linter.unusedSimpArgs false
namespace Go.Proofs.Ytoflnjgfikchjaa
open Go Go.Fw
set_option maxRecDepth 10000
/-- the first list of numbers, m more, that is right -/
def stk (ok : List Int → Bool) : List Dr → Nat → List Int → Option (List Int)
  | [], 0, ns => if ok ns = true then some ns else none
  | [], _ + 1, _ => none
  | _ :: _, 0, ns => if ok ns = true then some ns else none
  | x :: t, m + 1, ns => match stk ok t m (ns ++ [x.number]) with
    | some r => some r
    | none => stk ok t (m + 1) ns
theorem stk_zero (ok : List Int → Bool) (t : List Dr) (ns : List Int) : stk ok t 0 ns = if ok ns = true then some ns else none := by cases t <;> rfl
def StkR (ok : List Int → Bool) (t : List Dr) (m : Nat) (ns : List Int) (a : Option Addr) (c : Nat) (H : List Row) (v : Value) (H' : List Row) : Prop :=
  (m = 0 ∧ v = .tuple #[.slice a ns.length c, .bool (ok ns)] ∧ H' = H) ∨ (0 < m ∧ ((∃ r b k, stk ok t m ns = some r ∧ v = .tuple #[.slice (some ⟨b, 0, none⟩) r.length k, .bool true] ∧ H' = ⟨b, 0, r.flatMap cI, some 3, k * 1⟩ :: H) ∨ (stk ok t m ns = none ∧ v = .tuple #[.slice none 0 0, .bool false] ∧ H' = H)))
noncomputable def okNd (B : Bl) (ns : List Int) : Bool := decide (hasG B.layers.toNat (gradesOf (strBl B ns [])))
noncomputable def okNw (B : Bl) (ns : List Int) : Bool := decide ((wts (strBl B [] ns)).length > 0)
def rdS (k : Nat) : List Nat := match k with
  | 16 => [11]
  | _ => []
def rowsS (ns : List Int) (num : Int) (cr : Nat × Nat → List Row) (k : Nat) (env : Env) : List Row :=
  match k with
  | 1 => [⟨(env 1).1, 0, [], some 3, 0⟩]
  | 3 => [⟨(env 3).1, 0, ns.flatMap cI, some 3, (env 3).2 * 1⟩]
  | 10 => [⟨(env 10).1, 0, [.int .i64 num], some 3, 1 * 1⟩]
  | 11 => [⟨(env 11).1, 0, ns.flatMap cI ++ [.int .i64 num], some 3, (env 11).2 * 1⟩]
  | 16 => cr (env 16)
  | _ => []
def valS (b4 off : Nat) (B : Bl) (p : Pb) (ns : List Int) (a : Option Addr) (c : Nat) (dl : Nat) (db doff dc : Nat) (i : Nat) (m : Nat) (num : Int) (cv : Nat × Nat → Nat × Nat → Value) (bv : Bool) (k : Nat) (env : Env) : Value :=
  match k with
  | 0 => .agg (cBl B p).toArray
  | 1 => .slice (some ⟨(env 1).1, 0, none⟩) 0 0
  | 2 => .slice a ns.length c
  | 3 => .slice (some ⟨(env 3).1, 0, none⟩) ns.length (env 3).2
  | 4 => .pointer (some ⟨b4, off, none⟩)
  | 5 => .slice (some ⟨db, doff, none⟩) dl dc
  | 6 => .int .i64 i
  | 7 => .pointer (some ⟨db, doff + i * 4, none⟩)
  | 8 => .pointer (some ⟨db, doff + i * 4 + 0, none⟩)
  | 9 => .int .i64 num
  | 10 => .slice (some ⟨(env 10).1, 0, none⟩) 1 1
  | 11 => .slice (some ⟨(env 11).1, 0, none⟩) (ns.length + 1) (env 11).2
  | 12 => .int .i64 i
  | 13 => .int .i64 (i + 1)
  | 14 => .int .i64 (m + 1 : Nat)
  | 15 => .int .i64 ((m + 1 : Nat) - 1)
  | 16 => .tuple #[cv (env 11) (env 16), .bool bv]
  | 17 => .tuple #[cv (env 11) (env 16), .bool bv]
  | 18 => cv (env 11) (env 16)
  | 19 => .bool bv
  | 20 => cv (env 11) (env 16)
  | 21 => .bool bv
  | _ => undef
def tsstruck : List TOp := [⟨some 35, [], [], []⟩, ⟨some 36, [], [], []⟩, ⟨some 37, [], [], []⟩, ⟨some 38, [1, 2], [1, 2], [1]⟩, ⟨some 39, [], [], []⟩, ⟨some 40, [4], [4], []⟩, ⟨some 41, [], [], []⟩, ⟨some 42, [4, 5, 6], [5, 6], []⟩, ⟨some 43, [4, 5, 6, 7], [7], []⟩, ⟨some 44, [4, 5, 6, 7, 8], [8], []⟩, ⟨some 45, [4, 5, 6, 7, 8, 9], [9], []⟩, ⟨some 46, [1, 2, 3, 4, 5, 6, 7, 8, 9, 10], [3, 10], [3, 10]⟩, ⟨some 47, [], [], []⟩, ⟨some 48, [12], [12], []⟩, ⟨some 49, [], [], []⟩, ⟨some 50, [14], [14], []⟩, ⟨some 51, [0, 1, 2, 3, 4, 5, 6, 7, 8, 9, 10, 11, 12, 13, 14, 15], [0, 11, 13, 15], []⟩, ⟨some 34, [0, 1, 2, 3, 4, 5, 6, 7, 8, 9, 10, 11, 12, 13, 14, 15, 16], [16], []⟩, ⟨some 52, [0, 1, 2, 3, 4, 5, 6, 7, 8, 9, 10, 11, 12, 13, 14, 15, 16, 17], [17], []⟩, ⟨some 53, [0, 1, 2, 3, 4, 5, 6, 7, 8, 9, 10, 11, 12, 13, 14, 15, 16, 17], [17], []⟩, ⟨some 13, [0, 1, 2, 3, 4, 5, 6, 7, 8, 9, 10, 11, 12, 13, 14, 15, 16, 17, 18], [18], []⟩, ⟨some 14, [0, 1, 2, 3, 4, 5, 6, 7, 8, 9, 10, 11, 12, 13, 14, 15, 16, 17, 18, 19, 20], [19], []⟩]
theorem locstruck (b4 : Nat) (B : Bl) (p : Pb) (ns : List Int) (a : Option Addr) (c dl db doff dc j m : Nat) (num : Int) (cv : Nat × Nat → Nat × Nat → Value) (bv : Bool) (cr : Nat × Nat → List Row) : ∀ k env i q9, i ≠ k → (tAt tsstruck k).sup.contains i = false → valS b4 4 B p ns a c dl db doff dc j m num cv bv k (upd env i q9) = valS b4 4 B p ns a c dl db doff dc j m num cv bv k env ∧ rowsS ns num cr k (upd env i q9) = rowsS ns num cr k env := by
  intro k env i q hk hs
  have hu : ∀ j, j ≠ i → upd env i q j = env j := fun j hj => by unfold upd; rw [if_neg hj]
  match k, hk, hs with
  | 0, _, _ => exact ⟨rfl, rfl⟩
  | 1, hk, hs => exact ⟨by simp only [valS, hu 1 (fun e => hk e.symm)], by simp only [rowsS, hu 1 (fun e => hk e.symm)]⟩
  | 2, _, _ => exact ⟨rfl, rfl⟩
  | 3, hk, hs => exact ⟨by simp only [valS, hu 3 (fun e => hk e.symm)], by simp only [rowsS, hu 3 (fun e => hk e.symm)]⟩
  | 4, _, _ => exact ⟨rfl, rfl⟩
  | 5, _, _ => exact ⟨rfl, rfl⟩
  | 6, _, _ => exact ⟨rfl, rfl⟩
  | 7, _, _ => exact ⟨rfl, rfl⟩
  | 8, _, _ => exact ⟨rfl, rfl⟩
  | 9, _, _ => exact ⟨rfl, rfl⟩
  | 10, hk, hs => exact ⟨by simp only [valS, hu 10 (fun e => hk e.symm)], by simp only [rowsS, hu 10 (fun e => hk e.symm)]⟩
  | 11, hk, hs => exact ⟨by simp only [valS, hu 11 (fun e => hk e.symm)], by simp only [rowsS, hu 11 (fun e => hk e.symm)]⟩
  | 12, _, _ => exact ⟨rfl, rfl⟩
  | 13, _, _ => exact ⟨rfl, rfl⟩
  | 14, _, _ => exact ⟨rfl, rfl⟩
  | 15, _, _ => exact ⟨rfl, rfl⟩
  | 16, hk, hs => exact ⟨by simp only [valS, hu 11 (by rintro rfl; cases hs), hu 16 (fun e => hk e.symm)], by simp only [rowsS, hu 11 (by rintro rfl; cases hs), hu 16 (fun e => hk e.symm)]⟩
  | 17, hk, hs => exact ⟨by simp only [valS, hu 11 (by rintro rfl; cases hs), hu 16 (by rintro rfl; cases hs)], by simp only [rowsS, hu 11 (by rintro rfl; cases hs), hu 16 (by rintro rfl; cases hs)]⟩
  | 18, hk, hs => exact ⟨by simp only [valS, hu 11 (by rintro rfl; cases hs), hu 16 (by rintro rfl; cases hs)], by simp only [rowsS, hu 11 (by rintro rfl; cases hs), hu 16 (by rintro rfl; cases hs)]⟩
  | 19, _, _ => exact ⟨rfl, rfl⟩
  | 20, hk, hs => exact ⟨by simp only [valS, hu 11 (by rintro rfl; cases hs), hu 16 (by rintro rfl; cases hs)], by simp only [rowsS, hu 11 (by rintro rfl; cases hs), hu 16 (by rintro rfl; cases hs)]⟩
  | 21, _, _ => exact ⟨rfl, rfl⟩
  | _ + 22, _, _ => exact ⟨rfl, rfl⟩
set_option maxHeartbeats 8000000 in
theorem struck_spec (B : Bl) (p : Pb) (H0 : List Row) (hB0 : BlOk H0 B p) (h5 : 1 ≤ B.layers ∧ B.layers ≤ 5) (hd : ∀ x ∈ B.draws, 0 ≤ x.val ∧ x.val < 5) :
    ∀ (m f : Nat) (mi fi : Int) (ns : List Int) (a : Option Addr) (c : Nat) (H : List Row), mi = m → fi = f → f ≤ B.draws.length → ns.length + m ≤ 1000000 → (∀ r ∈ H0, r ∈ H) → SlE H a cI 1 ns →
    Fc Try.prog 21 [.agg (cBl B p).toArray, .slice a ns.length c, .int .i64 fi, .int .i64 mi] H (StkR (okNd B) (B.draws.drop f) m ns a c H) := by
  have l1 := hB0.l1
  have l2 := hB0.l2
  intro m
  induction m with
  | zero =>
    intro f mi fi ns a c H hmi hfi hfr hacc hH0 hs
    subst hmi
    have hB : BlOk H B p := hB0.sub hH0
    have hB1 : ∀ r, BlOk (r :: H) B p := fun r => hB.sub (fun _ h => List.Mem.tail _ h)
    have hs1 : ∀ r, SlE (r :: H) a cI 1 ns := fun r => hs.sub (fun _ h => List.Mem.tail _ h)
    show Fc Try.prog 21 [.agg (cBl B p).toArray, .slice a ns.length c, .int .i64 fi, .int .i64 ((0 : Nat) : Int)] H _
    refine Fc.mk (callable Try.call21) Try.func21 rfl Try.ntmps21 rfl ?_; dsimp only [fr]
    repeat' (first | (refine XO.op rfl ?_; (first | ((first | refine Xo.ng rfl ?_); (first | (refine Xg.call (EnF.st rfl (Args.cons rfl (Args.cons rfl (Args.cons rfl Args.nil)))) rfl rfl (without3_spec B p ns [] a none c 0 _ (hB1 _) (hs1 _) (by omega) sleNil (Nat.zero_le _)) ?_; rintro _ _ ⟨p', Z, rfl, rfl, hbl⟩) | (refine Xg.call (EnF.st rfl (Args.cons rfl Args.nil)) rfl rfl (layers_spec (strBl B ns []) p' _ h5 (fun x hx => hd x (List.mem_filter.1 hx).1) (hbl.sub (fun _ h => List.mem_append_left _ h))) ?_; rintro _ _ (⟨hg, out, Z2, hO, rfl, rfl⟩ | ⟨hg, rfl, rfl⟩)) | (refine Xg.ev (EvF.move rfl rfl) rfl rfl ?_) | (refine Xg.ev (EvF.assign rfl rfl) rfl rfl ?_) | (refine Xg.ev (EvF.cmp rfl rfl rfl rfl) rfl rfl ?_) | (refine Xg.ev (EvF.loadV rfl rfl (LoadV.whole (te rfl) rfl (List.Mem.head _) rfl)) rfl rfl ?_) | (refine Xg.ev (EvF.extract rfl rfl rfl) rfl rfl ?_) | (refine Xg.st (StF.boxAgg rfl rfl) rfl rfl ?_; rintro _ _ ⟨bx, rfl, rfl⟩))))) | (refine XO.done rfl ?_; refine hK _ _ ?_; clear hK K) | refine X.seq rfl ?_ | refine X.region rfl (fun K hK => ?_) | refine X.block rfl ?_ | refine X.skip rfl ?_ | refine X.ret rfl ?_ | (refine X.ite rfl rfl (fun hc => ?_); (first | (with_reducible refine Xb.case hc (fun h => ?_) (fun h => ?_))) <;> clear hc))
    all_goals try (exfalso; omega)
    · refine ret_two (by first | exact .inr rfl | exact .inl rfl) Try.results21 rfl rfl (H' := H) (((List.sublist_cons_self _ _).trans (List.sublist_append_right _ _)).trans (List.sublist_append_right _ _)) (.inl ⟨rfl, ?_, rfl⟩)
      have e : okNd B ns = true := decide_eq_true hg
      rw [e]
    · refine ret_two (by first | exact .inr rfl | exact .inl rfl) Try.results21 rfl rfl (H' := H) ((List.sublist_cons_self _ _).trans (List.sublist_append_right _ _)) (.inl ⟨rfl, ?_, rfl⟩)
      have e : okNd B ns = false := decide_eq_false hg
      rw [e]
  | succ m ih =>
    intro f mi fi ns a c H hmi hfi hfr hacc hH0 hs
    subst hfi hmi
    have hB : BlOk H B p := hB0.sub hH0
    have hB1 : ∀ r, BlOk (r :: H) B p := fun r => hB.sub (fun _ h => List.Mem.tail _ h)
    obtain ⟨a1, c1, a2, c2⟩ := p
    show Fc Try.prog 21 [.agg (cBl B ⟨a1, c1, a2, c2⟩).toArray, .slice a ns.length c, .int .i64 (f : Int), .int .i64 ((m + 1 : Nat) : Int)] H _
    refine Fc.mk (callable Try.call21) Try.func21 rfl Try.ntmps21 rfl ?_; dsimp only [fr]
    repeat' (first | (refine XO.op rfl ?_; (first | ((first | refine Xo.ng rfl ?_); (first | (refine Xg.ev (EvF.move rfl rfl) rfl rfl ?_) | (refine Xg.ev (EvF.assign rfl rfl) rfl rfl ?_) | (refine Xg.ev (EvF.cmp rfl rfl rfl rfl) rfl rfl ?_) | (refine Xg.ev (EvF.add64 rfl rfl rfl (by omega) (by omega)) rfl rfl ?_) | (refine Xg.ev (EvF.loadV rfl rfl (LoadV.whole (te rfl) rfl (List.Mem.head _) rfl)) rfl rfl ?_) | (refine Xg.st (StF.boxAgg rfl rfl) rfl rfl ?_; rintro _ _ ⟨bx, rfl, rfl⟩))))) | (refine XO.done rfl ?_; refine hK _ _ ?_; clear hK K) | refine X.seq rfl ?_ | refine X.region rfl (fun K hK => ?_) | refine X.block rfl ?_ | refine X.skip rfl ?_ | refine X.ret rfl ?_ | (refine X.ite rfl rfl (fun hc => ?_); (first | (with_reducible refine Xb.t hc ?_) | (with_reducible refine Xb.f hc ?_) | (with_reducible refine Xb.case hc (fun h => ?_) (fun h => ?_))) <;> clear hc))
    · exfalso; omega
    rename Nat => b4
    refine X.lp rfl (fun q F' H' => ∃ i : Nat, q = B.draws.length - i ∧ i ≤ B.draws.length ∧ stk (okNd B) (B.draws.drop f) (m + 1) ns = stk (okNd B) (B.draws.drop i) (m + 1) ns ∧ ⟨b4, 0, cBl B ⟨a1, c1, a2, c2⟩, some 27, 6⟩ :: H = H' ∧ F' = [(1, .slice a ns.length c), (3, .int .i64 (m + 1 : Nat)), (4, .pointer (some ⟨b4, 0, none⟩)), (12, .int .i64 i)])
      (B.draws.length - f) [(1, .slice a ns.length c), (3, .int .i64 (m + 1 : Nat)), (4, .pointer (some ⟨b4, 0, none⟩)), (12, .int .i64 f)] _ (by (repeat (first | exact Sub.nil _ | refine Sub.cons rfl ?_)); done) (List.Sublist.refl _) ⟨f, rfl, hfr, rfl, rfl, rfl⟩ ?_
    rintro _ _ H2 ⟨i, rfl, hi, hst, hH, rfl⟩
    subst hH
    repeat' (first | (refine XO.op rfl ?_; (first | ((first | refine Xo.ng rfl ?_); (first | (refine Xg.ev (EvF.move rfl rfl) rfl rfl ?_) | (refine Xg.ev (EvF.assign rfl rfl) rfl rfl ?_) | (refine Xg.ev (EvF.cmp rfl rfl rfl rfl) rfl rfl ?_) | (refine Xg.ev (EvF.fieldAddr rfl rfl (te rfl) rfl (te rfl) (by decide)) rfl rfl ?_) | (refine Xg.ev (EvF.lenSlice rfl rfl (te rfl)) rfl rfl ?_) | (refine Xg.ev (EvF.loadV rfl rfl (LoadV.own (te rfl) rfl (List.Mem.head _) rfl)) rfl rfl ?_))))) | (refine XO.done rfl ?_; refine hK _ _ ?_; clear hK K) | refine X.seq rfl ?_ | refine X.region rfl (fun K hK => ?_) | refine X.block rfl ?_ | (refine X.brk rfl ?_; first | refine blockX_hit rfl ?_ | skip) | refine X.skip rfl ?_ | refine X.ret rfl ?_ | (refine X.ite rfl rfl (fun hc => ?_); (first | (with_reducible refine Xb.case hc (fun h => ?_) (fun h => ?_))) <;> clear hc))
    · obtain ⟨db, doff, e, rfl, he⟩ := hB.draws.elem (i := i) (by omega)
      have hil := (List.getElem?_eq_some_iff.1 he).1
      have hle : (ns ++ [e.number]).length = ns.length + 1 := by rw [List.length_append]; rfl
      have hfm : ns.flatMap cI ++ [.int .i64 e.number] = (ns ++ [e.number]).flatMap cI := by rw [List.flatMap_append]; rfl
      have hal : (ns.flatMap cI).length = ns.length * 1 := lenI ns
      rw [drop_cons he] at hst
      obtain ⟨cv, bv, cr, hcall, hres⟩ : ∃ (cv : Nat × Nat → Nat × Nat → Value) (bv : Bool) (cr : Nat × Nat → List Row),
          (∀ (q11 : Nat × Nat) (S : List Row), (∀ r ∈ H0, r ∈ S) → SlE S (some ⟨q11.1, 0, none⟩) cI 1 (ns ++ [e.number]) → Fc Try.prog 21 [.agg (cBl B ⟨some ⟨db, doff, none⟩, c1, a2, c2⟩).toArray, .slice (some ⟨q11.1, 0, none⟩) (ns.length + 1) q11.2, .int .i64 (i + 1), .int .i64 ((m + 1 : Nat) - 1)] S (fun v H' => ∃ q, v = .tuple #[cv q11 q, .bool bv] ∧ H' = cr q ++ S)) ∧
          ((bv = true ∧ ∃ r, stk (okNd B) (B.draws.drop (i + 1)) m (ns ++ [e.number]) = some r ∧ ∀ q11 q : Nat × Nat, ∃ b k, cv q11 q = .slice (some ⟨b, 0, none⟩) r.length k ∧ ∀ Z, List.Sublist (⟨b, 0, r.flatMap cI, some 3, k * 1⟩ :: Z) (⟨q11.1, 0, ns.flatMap cI ++ [.int .i64 e.number], some 3, q11.2 * 1⟩ :: (cr q ++ Z))) ∨
            (bv = false ∧ stk (okNd B) (B.draws.drop (i + 1)) m (ns ++ [e.number]) = none)) := by
        rw [← hle]
        rcases Nat.eq_zero_or_pos m with rfl | hm
        · refine ⟨fun q11 _ => .slice (some ⟨q11.1, 0, none⟩) (ns ++ [e.number]).length q11.2, okNd B (ns ++ [e.number]), fun _ => [], fun q11 S hS hs' => (ih (i + 1) _ _ (ns ++ [e.number]) _ _ S (by omega) (by omega) (by omega) (by omega) hS hs').mono (fun v H' h => ?_), ?_⟩
          · rcases h with ⟨_, hv, hH⟩ | ⟨h0, _⟩
            · exact ⟨(0, 0), hv, hH⟩
            · omega
          · rw [stk_zero]
            by_cases hk : okNd B (ns ++ [e.number]) = true
            · exact .inl ⟨hk, ns ++ [e.number], by rw [if_pos hk], fun q11 q => ⟨q11.1, q11.2, rfl, fun Z => by rw [hfm]; exact List.Sublist.refl _⟩⟩
            · exact .inr ⟨Bool.eq_false_iff.2 hk, by rw [if_neg hk]⟩
        · cases hq : stk (okNd B) (B.draws.drop (i + 1)) m (ns ++ [e.number]) with
          | some r =>
            refine ⟨fun _ q => .slice (some ⟨q.1, 0, none⟩) r.length q.2, true, fun q => [⟨q.1, 0, r.flatMap cI, some 3, q.2 * 1⟩], fun q11 S hS hs' => (ih (i + 1) _ _ (ns ++ [e.number]) _ _ S (by omega) (by omega) (by omega) (by omega) hS hs').mono (fun v H' h => ?_), .inl ⟨rfl, r, rfl, fun q11 q => ⟨q.1, q.2, rfl, fun Z => List.Sublist.cons _ (List.Sublist.refl _)⟩⟩⟩
            rcases h with ⟨h0, _⟩ | ⟨_, ⟨r', b, k, hr', hv, hH⟩ | ⟨hn, _⟩⟩
            · omega
            · rw [hq] at hr'
              cases hr'
              exact ⟨(b, k), hv, hH⟩
            · rw [hq] at hn; cases hn
          | none =>
            refine ⟨fun _ _ => .slice none 0 0, false, fun _ => [], fun q11 S hS hs' => (ih (i + 1) _ _ (ns ++ [e.number]) _ _ S (by omega) (by omega) (by omega) (by omega) hS hs').mono (fun v H' h => ?_), .inr ⟨rfl, rfl⟩⟩
            rcases h with ⟨h0, _⟩ | ⟨_, ⟨r', b, k, hr', hv, hH⟩ | ⟨hn, hv, hH⟩⟩
            · omega
            · rw [hq] at hr'; cases hr'
            · exact ⟨(0, 0), hv, hH⟩
      refine X.regionRd tsstruck rdS [1, 3, 4, 12] [(1, .slice a ns.length c), (3, .int .i64 (m + 1 : Nat)), (4, .pointer (some ⟨b4, 0, none⟩)), (12, .int .i64 i)] (valS b4 4 B ⟨some ⟨db, doff, none⟩, c1, a2, c2⟩ ns a c B.draws.length db doff c1 i m e.number cv bv) (rowsS ns e.number cr) (fun _ => (0, 0)) (⟨b4, 0, cBl B ⟨some ⟨db, doff, none⟩, c1, a2, c2⟩, some 27, 6⟩ :: H) rfl mixed (by (repeat (first | exact Sub.nil _ | refine Sub.cons rfl ?_)); done) rfl (by kernel_rfl) (by kernel_rfl) (locstruck b4 B ⟨some ⟨db, doff, none⟩, c1, a2, c2⟩ ns a c B.draws.length db doff c1 i m e.number cv bv cr) (List.Sublist.refl _) ?_ ?_
      · repeat' (first | exact AllF.done rfl | (refine AllF.step rfl ?_ ?_; · (first | exact (Ob.ng rfl (ObK.pure (fun env R hR => by exact ⟨_, EvF.move rfl rfl, rfl⟩) rfl (fun _ => rfl))).toR | exact (Ob.ng rfl (ObK.pure (fun env R hR => by exact ⟨_, EvF.assign rfl rfl, rfl⟩) rfl (fun _ => rfl))).toR | exact (Ob.ng rfl (ObK.pure (fun env R hR => by exact ⟨_, EvF.fieldAddr rfl rfl (te rfl) rfl (te rfl) (by decide), rfl⟩) rfl (fun _ => rfl))).toR | exact (Ob.ng rfl (ObK.pure (fun env R hR => by exact ⟨_, EvF.loadV rfl rfl (LoadV.own (te rfl) rfl (hR _ (List.Mem.head _)) rfl), rfl⟩) rfl (fun _ => rfl))).toR | exact (Ob.ng rfl (ObK.pure (fun env R hR => by exact ⟨_, EvF.loadV rfl rfl (LoadV.whole (te rfl) rfl (hR _ (List.Mem.head _)) rfl), rfl⟩) rfl (fun _ => rfl))).toR | (refine ObR.ng rfl ?_; (first | (exact fun env S hS hrd => (StF.buildNil rfl el55).op.mono (fun v H' ⟨b, hv, hH⟩ => ⟨(b, 0), fun _ => hv, by rw [hH]; exact List.Perm.refl _⟩)) | ((refine fun env S hS hrd => (StF.ofEv (v := .pointer (some ⟨db, doff + i * 4, none⟩)) ?_).op.mono (fun v H' ⟨hv, hH⟩ => ⟨(0, 0), fun _ => hv, by rw [hH]; exact List.Perm.refl _⟩); refine EvF.indexSlice (T := 24) (e := 29) (i := (i : Int)) (off := doff) (b := db) (len := B.draws.length) (ti := ⟨.st [(0, 3), (1, 3), (2, 23)], 4, 32⟩) rfl rfl rfl (te rfl) (te rfl) ?_ ?_ <;> omega)) | (exact fun env S hS hrd => (StF.ofEv (v := .int .i64 e.number) (EvF.loadV rfl rfl (LoadV.el1 (n := i) (j := 0) hB.draws he (te rfl) rfl (fun _ h => hS _ (List.Mem.tail _ h)) rfl))).op.mono (fun v H' ⟨hv, hH⟩ => ⟨(0, 0), fun _ => hv, by rw [hH]; exact List.Perm.refl _⟩)) | (exact fun env S hS hrd => (StF.buildOne rfl el55 rfl rfl rfl (by decide) (by decide)).op.mono (fun v H' ⟨b, hv, hH⟩ => ⟨(b, 0), fun _ => hv, by rw [hH]; exact List.Perm.refl _⟩)) | (exact fun env S hS hrd => (StF.appendSl (i := 0) (l := ns) rfl el55 rfl rfl rfl (hs.sub (fun r hr => List.mem_append_right _ (hS r (List.Mem.tail _ hr)))) (fun e _ => rfl) rfl (by decide) (by omega)).op.mono (fun v H' ⟨b, c, hv, hH⟩ => ⟨(b, c), fun _ => by rw [hv, Nat.zero_add]; rfl, by rw [hH]; exact List.Perm.refl _⟩)) | (exact fun env S hS hrd => (StF.appendOwn (i := 0) rfl el55 rfl rfl rfl hal rfl (Rd.own (List.Mem.tail _ (List.Mem.head _))) rfl (by omega)).op.drop (fun v H' ⟨b, c, hv, hH⟩ => ⟨_, by rw [hH]; exact List.Sublist.cons_cons _ (List.Sublist.cons _ (List.Sublist.refl _)), (b, c), fun _ => hv, List.Perm.refl _⟩)) | (exact fun env S hS hrd => (StF.ofEv (v := .int .i64 ((i : Int) + 1)) (EvF.add64 (p := (i : Int)) (q := 1) rfl rfl rfl (by omega) (by omega))).op.mono (fun v H' ⟨hv, hH⟩ => ⟨(0, 0), fun _ => hv, by rw [hH]; exact List.Perm.refl _⟩)) | (exact fun env S hS hrd => (StF.ofEv (v := .int .i64 (((m + 1 : Nat) : Int) - 1)) (EvF.sub64 (p := ((m + 1 : Nat) : Int)) (q := 1) rfl rfl rfl (by omega) (by omega))).op.mono (fun v H' ⟨hv, hH⟩ => ⟨(0, 0), fun _ => hv, by rw [hH]; exact List.Perm.refl _⟩)) | (exact fun env S hS hrd => (StF.ofEv (v := .bool bv) (EvF.extract rfl rfl rfl)).op.mono (fun v H' ⟨hv, hH⟩ => ⟨(0, 0), fun _ => hv, by rw [hH]; exact List.Perm.refl _⟩)) | (exact fun env S hS hrd => (StF.ofEv (v := cv (env 11) (env 16)) (EvF.extract rfl rfl rfl)).op.mono (fun v H' ⟨hv, hH⟩ => ⟨(0, 0), fun _ => hv, by rw [hH]; exact List.Perm.refl _⟩)) | (exact fun env S hS hrd => (OpF.call (EnF.st rfl (by (repeat (first | exact Args.nil | refine Args.cons rfl ?_)); done)) (hcall (env 11) S (fun r hr => hS r (List.Mem.tail _ (hH0 r hr))) (SlE.ofRow (by rw [← hfm]; exact hrd 11 (List.Mem.head _) _ (List.Mem.head _)) (fun _ _ => rfl)))).mono (fun v H' ⟨q, hv, hH⟩ => ⟨q, fun _ => hv, by rw [hH]; exact List.Perm.refl _⟩)))))))
      · intro env t ha hv
        refine ⟨(14, .bool bv) :: (13, cv (env 11) (env 16)) :: [(1, .slice a ns.length c), (3, .int .i64 (m + 1 : Nat)), (4, .pointer (some ⟨b4, 0, none⟩)), (12, .int .i64 i)], (ha.cons (hv 20 13 (Nat.le_of_ble_eq_true rfl) rfl)).cons (hv 21 14 (Nat.le_of_ble_eq_true rfl) rfl), ?_⟩
        show X _ _ _ _ (⟨(env 11).1, 0, ns.flatMap cI ++ [.int .i64 e.number], some 3, (env 11).2 * 1⟩ :: (cr (env 16) ++ []) ++ ⟨b4, 0, cBl B ⟨some ⟨db, doff, none⟩, c1, a2, c2⟩, some 27, 6⟩ :: H) _
        rw [List.append_nil, List.cons_append]
        generalize env 11 = q11
        generalize env 16 = q16
        rcases hres with ⟨rfl, r, hr, hc⟩ | ⟨rfl, hn⟩
        · obtain ⟨b, k, hcv, hsub⟩ := hc q11 q16
          rw [hcv]
          repeat' (first | (refine XO.op rfl ?_; (first | ((first | refine Xo.ng rfl ?_); (first | (refine Xg.ev (EvF.move rfl rfl) rfl rfl ?_) | (refine Xg.ev (EvF.assign rfl rfl) rfl rfl ?_) | (refine Xg.ev (EvF.cmp rfl rfl rfl rfl) rfl rfl ?_) | (refine Xg.ev (EvF.add64 rfl rfl rfl (by omega) (by omega)) rfl rfl ?_) | (refine Xg.ev (EvF.loadV rfl rfl (LoadV.whole (te rfl) rfl (List.Mem.head _) rfl)) rfl rfl ?_) | (refine Xg.st (StF.boxAgg rfl rfl) rfl rfl ?_; rintro _ _ ⟨bx, rfl, rfl⟩))))) | (refine XO.done rfl ?_; refine hK _ _ ?_; clear hK K) | refine X.seq rfl ?_ | refine X.region rfl (fun K hK => ?_) | refine X.block rfl ?_ | refine X.skip rfl ?_ | refine X.ret rfl ?_ | (refine X.ite rfl rfl (fun hc => ?_); (first | (with_reducible refine Xb.t hc ?_) | (with_reducible refine Xb.f hc ?_) | (with_reducible refine Xb.case hc (fun h => ?_) (fun h => ?_))) <;> clear hc))
          all_goals try (exfalso; contradiction)
          refine ret_two (by first | exact .inr rfl | exact .inl rfl) Try.results21 rfl rfl (H' := ⟨b, 0, r.flatMap cI, some 3, k * 1⟩ :: H) ((List.Sublist.cons_cons _ (List.sublist_cons_self _ _)).trans (hsub _)) (.inr ⟨by omega, .inl ⟨r, b, k, ?_, rfl, rfl⟩⟩)
          rw [hst]; simp only [stk, hr]
        · repeat' (first | (refine XO.op rfl ?_; (first | ((first | refine Xo.ng rfl ?_); (first | (refine Xg.ev (EvF.move rfl rfl) rfl rfl ?_) | (refine Xg.ev (EvF.assign rfl rfl) rfl rfl ?_) | (refine Xg.ev (EvF.cmp rfl rfl rfl rfl) rfl rfl ?_) | (refine Xg.ev (EvF.add64 rfl rfl rfl (by omega) (by omega)) rfl rfl ?_) | (refine Xg.ev (EvF.loadV rfl rfl (LoadV.whole (te rfl) rfl (List.Mem.head _) rfl)) rfl rfl ?_) | (refine Xg.st (StF.boxAgg rfl rfl) rfl rfl ?_; rintro _ _ ⟨bx, rfl, rfl⟩))))) | (refine XO.done rfl ?_; refine hK _ _ ?_; clear hK K) | refine X.seq rfl ?_ | refine X.region rfl (fun K hK => ?_) | refine X.block rfl ?_ | refine X.skip rfl ?_ | refine X.ret rfl ?_ | (refine X.ite rfl rfl (fun hc => ?_); (first | (with_reducible refine Xb.t hc ?_) | (with_reducible refine Xb.f hc ?_) | (with_reducible refine Xb.case hc (fun h => ?_) (fun h => ?_))) <;> clear hc))
          all_goals try (exfalso; contradiction)
          refine ⟨_, _, _, (by (repeat (first | exact Sub.nil _ | refine Sub.cons rfl ?_)); done), (List.sublist_append_right _ _).trans (List.sublist_cons_self _ _), ⟨i + 1, rfl, by omega, ?_, rfl, rfl⟩, by omega⟩
          rw [hst]; simp only [stk, hn]
    · have hi' : i = B.draws.length := by omega
      refine ret_two (by first | exact .inr rfl | exact .inl rfl) Try.results21 rfl rfl (H' := H) (by (repeat (first | exact List.Sublist.refl _ | apply List.Sublist.cons)); done) (.inr ⟨by omega, .inr ⟨?_, rfl, rfl⟩⟩)
      rw [hst, hi', List.drop_length]; rfl
def tslifted : List TOp := [⟨some 31, [], [], []⟩, ⟨some 32, [], [], []⟩, ⟨some 33, [], [], []⟩, ⟨some 34, [1, 2], [1, 2], [1]⟩, ⟨some 35, [], [], []⟩, ⟨some 36, [4], [4], []⟩, ⟨some 37, [], [], []⟩, ⟨some 38, [4, 5, 6], [5, 6], []⟩, ⟨some 39, [4, 5, 6, 7], [7], []⟩, ⟨some 40, [4, 5, 6, 7, 8], [8], []⟩, ⟨some 41, [4, 5, 6, 7, 8, 9], [9], []⟩, ⟨some 42, [1, 2, 3, 4, 5, 6, 7, 8, 9, 10], [3, 10], [3, 10]⟩, ⟨some 43, [], [], []⟩, ⟨some 44, [12], [12], []⟩, ⟨some 45, [], [], []⟩, ⟨some 46, [14], [14], []⟩, ⟨some 47, [0, 1, 2, 3, 4, 5, 6, 7, 8, 9, 10, 11, 12, 13, 14, 15], [0, 11, 13, 15], []⟩, ⟨some 30, [0, 1, 2, 3, 4, 5, 6, 7, 8, 9, 10, 11, 12, 13, 14, 15, 16], [16], []⟩, ⟨some 48, [0, 1, 2, 3, 4, 5, 6, 7, 8, 9, 10, 11, 12, 13, 14, 15, 16, 17], [17], []⟩, ⟨some 49, [0, 1, 2, 3, 4, 5, 6, 7, 8, 9, 10, 11, 12, 13, 14, 15, 16, 17], [17], []⟩, ⟨some 11, [0, 1, 2, 3, 4, 5, 6, 7, 8, 9, 10, 11, 12, 13, 14, 15, 16, 17, 18], [18], []⟩, ⟨some 12, [0, 1, 2, 3, 4, 5, 6, 7, 8, 9, 10, 11, 12, 13, 14, 15, 16, 17, 18, 19, 20], [19], []⟩]
theorem loclifted (b4 : Nat) (B : Bl) (p : Pb) (ns : List Int) (a : Option Addr) (c dl db doff dc j m : Nat) (num : Int) (cv : Nat × Nat → Nat × Nat → Value) (bv : Bool) (cr : Nat × Nat → List Row) : ∀ k env i q9, i ≠ k → (tAt tslifted k).sup.contains i = false → valS b4 5 B p ns a c dl db doff dc j m num cv bv k (upd env i q9) = valS b4 5 B p ns a c dl db doff dc j m num cv bv k env ∧ rowsS ns num cr k (upd env i q9) = rowsS ns num cr k env := by
  intro k env i q hk hs
  have hu : ∀ j, j ≠ i → upd env i q j = env j := fun j hj => by unfold upd; rw [if_neg hj]
  match k, hk, hs with
  | 0, _, _ => exact ⟨rfl, rfl⟩
  | 1, hk, hs => exact ⟨by simp only [valS, hu 1 (fun e => hk e.symm)], by simp only [rowsS, hu 1 (fun e => hk e.symm)]⟩
  | 2, _, _ => exact ⟨rfl, rfl⟩
  | 3, hk, hs => exact ⟨by simp only [valS, hu 3 (fun e => hk e.symm)], by simp only [rowsS, hu 3 (fun e => hk e.symm)]⟩
  | 4, _, _ => exact ⟨rfl, rfl⟩
  | 5, _, _ => exact ⟨rfl, rfl⟩
  | 6, _, _ => exact ⟨rfl, rfl⟩
  | 7, _, _ => exact ⟨rfl, rfl⟩
  | 8, _, _ => exact ⟨rfl, rfl⟩
  | 9, _, _ => exact ⟨rfl, rfl⟩
  | 10, hk, hs => exact ⟨by simp only [valS, hu 10 (fun e => hk e.symm)], by simp only [rowsS, hu 10 (fun e => hk e.symm)]⟩
  | 11, hk, hs => exact ⟨by simp only [valS, hu 11 (fun e => hk e.symm)], by simp only [rowsS, hu 11 (fun e => hk e.symm)]⟩
  | 12, _, _ => exact ⟨rfl, rfl⟩
  | 13, _, _ => exact ⟨rfl, rfl⟩
  | 14, _, _ => exact ⟨rfl, rfl⟩
  | 15, _, _ => exact ⟨rfl, rfl⟩
  | 16, hk, hs => exact ⟨by simp only [valS, hu 11 (by rintro rfl; cases hs), hu 16 (fun e => hk e.symm)], by simp only [rowsS, hu 11 (by rintro rfl; cases hs), hu 16 (fun e => hk e.symm)]⟩
  | 17, hk, hs => exact ⟨by simp only [valS, hu 11 (by rintro rfl; cases hs), hu 16 (by rintro rfl; cases hs)], by simp only [rowsS, hu 11 (by rintro rfl; cases hs), hu 16 (by rintro rfl; cases hs)]⟩
  | 18, hk, hs => exact ⟨by simp only [valS, hu 11 (by rintro rfl; cases hs), hu 16 (by rintro rfl; cases hs)], by simp only [rowsS, hu 11 (by rintro rfl; cases hs), hu 16 (by rintro rfl; cases hs)]⟩
  | 19, _, _ => exact ⟨rfl, rfl⟩
  | 20, hk, hs => exact ⟨by simp only [valS, hu 11 (by rintro rfl; cases hs), hu 16 (by rintro rfl; cases hs)], by simp only [rowsS, hu 11 (by rintro rfl; cases hs), hu 16 (by rintro rfl; cases hs)]⟩
  | 21, _, _ => exact ⟨rfl, rfl⟩
  | _ + 22, _, _ => exact ⟨rfl, rfl⟩
set_option maxHeartbeats 8000000 in
theorem lifted_spec (B : Bl) (p : Pb) (H0 : List Row) (hB0 : BlOk H0 B p) (hdry : 1 ≤ B.dlo ∧ B.dlo ≤ B.dhi ∧ B.dhi ≤ 600) (hw : ∀ x ∈ B.weighs, wgOk x) :
    ∀ (m f : Nat) (mi fi : Int) (ns : List Int) (a : Option Addr) (c : Nat) (H : List Row), mi = m → fi = f → f ≤ B.weighs.length → ns.length + m ≤ 1000000 → (∀ r ∈ H0, r ∈ H) → SlE H a cI 1 ns →
    Fc Try.prog 22 [.agg (cBl B p).toArray, .slice a ns.length c, .int .i64 fi, .int .i64 mi] H (StkR (okNw B) (B.weighs.drop f) m ns a c H) := by
  have l1 := hB0.l1
  have l2 := hB0.l2
  intro m
  induction m with
  | zero =>
    intro f mi fi ns a c H hmi hfi hfr hacc hH0 hs
    subst hmi
    have hB : BlOk H B p := hB0.sub hH0
    have hB1 : ∀ r, BlOk (r :: H) B p := fun r => hB.sub (fun _ h => List.Mem.tail _ h)
    have hs1 : ∀ r, SlE (r :: H) a cI 1 ns := fun r => hs.sub (fun _ h => List.Mem.tail _ h)
    show Fc Try.prog 22 [.agg (cBl B p).toArray, .slice a ns.length c, .int .i64 fi, .int .i64 ((0 : Nat) : Int)] H _
    refine Fc.mk (callable Try.call22) Try.func22 rfl Try.ntmps22 rfl ?_; dsimp only [fr]
    repeat' (first | (refine XO.op rfl ?_; (first | ((first | refine Xo.ng rfl ?_); (first | (refine Xg.call (EnF.st rfl (Args.cons rfl (Args.cons rfl (Args.cons rfl Args.nil)))) rfl rfl (without3_spec B p [] ns none a 0 c _ (hB1 _) sleNil (Nat.zero_le _) (hs1 _) (by omega)) ?_; rintro _ _ ⟨p', Z, rfl, rfl, hbl⟩) | (refine Xg.call (EnF.st rfl (Args.cons rfl Args.nil)) rfl rfl (dries_spec (strBl B [] ns) p' _ hdry (fun x hx => hw x (List.mem_filter.1 hx).1) (hbl.sub (fun _ h => List.mem_append_left _ h))) ?_; rintro _ _ ⟨Z2, hO, rfl⟩; obtain ⟨a9, c9, rfl, _⟩ := hO.sl (H := H)) | (refine Xg.ev (EvF.move rfl rfl) rfl rfl ?_) | (refine Xg.ev (EvF.assign rfl rfl) rfl rfl ?_) | (refine Xg.ev (EvF.cmp rfl rfl rfl rfl) rfl rfl ?_) | (refine Xg.ev (EvF.lenSlice rfl rfl (te rfl)) rfl rfl ?_) | (refine Xg.ev (EvF.loadV rfl rfl (LoadV.whole (te rfl) rfl (List.Mem.head _) rfl)) rfl rfl ?_) | (refine Xg.st (StF.boxAgg rfl rfl) rfl rfl ?_; rintro _ _ ⟨bx, rfl, rfl⟩))))) | (refine XO.done rfl ?_; refine hK _ _ ?_; clear hK K) | refine X.seq rfl ?_ | refine X.region rfl (fun K hK => ?_) | refine X.block rfl ?_ | refine X.skip rfl ?_ | refine X.ret rfl ?_ | (refine X.ite rfl rfl (fun hc => ?_); (first | (with_reducible refine Xb.case hc (fun h => ?_) (fun h => ?_))) <;> clear hc))
    all_goals try (exfalso; omega)
    refine ret_two (by first | exact .inr rfl | exact .inl rfl) Try.results22 rfl rfl (H' := H) (((List.sublist_cons_self _ _).trans (List.sublist_append_right _ _)).trans (List.sublist_append_right _ _)) (.inl ⟨rfl, ?_, rfl⟩)
    have e : okNw B ns = decide (((wts (strBl B [] ns)).length : Int) > 0) := by unfold okNw; exact decide_eq_decide.2 (by omega)
    rw [e]
  | succ m ih =>
    intro f mi fi ns a c H hmi hfi hfr hacc hH0 hs
    subst hfi hmi
    have hB : BlOk H B p := hB0.sub hH0
    have hB1 : ∀ r, BlOk (r :: H) B p := fun r => hB.sub (fun _ h => List.Mem.tail _ h)
    obtain ⟨a1, c1, a2, c2⟩ := p
    show Fc Try.prog 22 [.agg (cBl B ⟨a1, c1, a2, c2⟩).toArray, .slice a ns.length c, .int .i64 (f : Int), .int .i64 ((m + 1 : Nat) : Int)] H _
    refine Fc.mk (callable Try.call22) Try.func22 rfl Try.ntmps22 rfl ?_; dsimp only [fr]
    repeat' (first | (refine XO.op rfl ?_; (first | ((first | refine Xo.ng rfl ?_); (first | (refine Xg.ev (EvF.move rfl rfl) rfl rfl ?_) | (refine Xg.ev (EvF.assign rfl rfl) rfl rfl ?_) | (refine Xg.ev (EvF.cmp rfl rfl rfl rfl) rfl rfl ?_) | (refine Xg.ev (EvF.add64 rfl rfl rfl (by omega) (by omega)) rfl rfl ?_) | (refine Xg.ev (EvF.loadV rfl rfl (LoadV.whole (te rfl) rfl (List.Mem.head _) rfl)) rfl rfl ?_) | (refine Xg.st (StF.boxAgg rfl rfl) rfl rfl ?_; rintro _ _ ⟨bx, rfl, rfl⟩))))) | (refine XO.done rfl ?_; refine hK _ _ ?_; clear hK K) | refine X.seq rfl ?_ | refine X.region rfl (fun K hK => ?_) | refine X.block rfl ?_ | refine X.skip rfl ?_ | refine X.ret rfl ?_ | (refine X.ite rfl rfl (fun hc => ?_); (first | (with_reducible refine Xb.t hc ?_) | (with_reducible refine Xb.f hc ?_) | (with_reducible refine Xb.case hc (fun h => ?_) (fun h => ?_))) <;> clear hc))
    · exfalso; omega
    rename Nat => b4
    refine X.lp rfl (fun q F' H' => ∃ i : Nat, q = B.weighs.length - i ∧ i ≤ B.weighs.length ∧ stk (okNw B) (B.weighs.drop f) (m + 1) ns = stk (okNw B) (B.weighs.drop i) (m + 1) ns ∧ ⟨b4, 0, cBl B ⟨a1, c1, a2, c2⟩, some 27, 6⟩ :: H = H' ∧ F' = [(1, .slice a ns.length c), (3, .int .i64 (m + 1 : Nat)), (4, .pointer (some ⟨b4, 0, none⟩)), (10, .int .i64 i)])
      (B.weighs.length - f) [(1, .slice a ns.length c), (3, .int .i64 (m + 1 : Nat)), (4, .pointer (some ⟨b4, 0, none⟩)), (10, .int .i64 f)] _ (by (repeat (first | exact Sub.nil _ | refine Sub.cons rfl ?_)); done) (List.Sublist.refl _) ⟨f, rfl, hfr, rfl, rfl, rfl⟩ ?_
    rintro _ _ H2 ⟨i, rfl, hi, hst, hH, rfl⟩
    subst hH
    repeat' (first | (refine XO.op rfl ?_; (first | ((first | refine Xo.ng rfl ?_); (first | (refine Xg.ev (EvF.move rfl rfl) rfl rfl ?_) | (refine Xg.ev (EvF.assign rfl rfl) rfl rfl ?_) | (refine Xg.ev (EvF.cmp rfl rfl rfl rfl) rfl rfl ?_) | (refine Xg.ev (EvF.fieldAddr rfl rfl (te rfl) rfl (te rfl) (by decide)) rfl rfl ?_) | (refine Xg.ev (EvF.lenSlice rfl rfl (te rfl)) rfl rfl ?_) | (refine Xg.ev (EvF.loadV rfl rfl (LoadV.own (te rfl) rfl (List.Mem.head _) rfl)) rfl rfl ?_))))) | (refine XO.done rfl ?_; refine hK _ _ ?_; clear hK K) | refine X.seq rfl ?_ | refine X.region rfl (fun K hK => ?_) | refine X.block rfl ?_ | (refine X.brk rfl ?_; first | refine blockX_hit rfl ?_ | skip) | refine X.skip rfl ?_ | refine X.ret rfl ?_ | (refine X.ite rfl rfl (fun hc => ?_); (first | (with_reducible refine Xb.case hc (fun h => ?_) (fun h => ?_))) <;> clear hc))
    · obtain ⟨db, doff, e, rfl, he⟩ := hB.weighs.elem (i := i) (by omega)
      have hil := (List.getElem?_eq_some_iff.1 he).1
      have hle : (ns ++ [e.number]).length = ns.length + 1 := by rw [List.length_append]; rfl
      have hfm : ns.flatMap cI ++ [.int .i64 e.number] = (ns ++ [e.number]).flatMap cI := by rw [List.flatMap_append]; rfl
      have hal : (ns.flatMap cI).length = ns.length * 1 := lenI ns
      rw [drop_cons he] at hst
      obtain ⟨cv, bv, cr, hcall, hres⟩ : ∃ (cv : Nat × Nat → Nat × Nat → Value) (bv : Bool) (cr : Nat × Nat → List Row),
          (∀ (q11 : Nat × Nat) (S : List Row), (∀ r ∈ H0, r ∈ S) → SlE S (some ⟨q11.1, 0, none⟩) cI 1 (ns ++ [e.number]) → Fc Try.prog 22 [.agg (cBl B ⟨a1, c1, some ⟨db, doff, none⟩, c2⟩).toArray, .slice (some ⟨q11.1, 0, none⟩) (ns.length + 1) q11.2, .int .i64 (i + 1), .int .i64 ((m + 1 : Nat) - 1)] S (fun v H' => ∃ q, v = .tuple #[cv q11 q, .bool bv] ∧ H' = cr q ++ S)) ∧
          ((bv = true ∧ ∃ r, stk (okNw B) (B.weighs.drop (i + 1)) m (ns ++ [e.number]) = some r ∧ ∀ q11 q : Nat × Nat, ∃ b k, cv q11 q = .slice (some ⟨b, 0, none⟩) r.length k ∧ ∀ Z, List.Sublist (⟨b, 0, r.flatMap cI, some 3, k * 1⟩ :: Z) (⟨q11.1, 0, ns.flatMap cI ++ [.int .i64 e.number], some 3, q11.2 * 1⟩ :: (cr q ++ Z))) ∨
            (bv = false ∧ stk (okNw B) (B.weighs.drop (i + 1)) m (ns ++ [e.number]) = none)) := by
        rw [← hle]
        rcases Nat.eq_zero_or_pos m with rfl | hm
        · refine ⟨fun q11 _ => .slice (some ⟨q11.1, 0, none⟩) (ns ++ [e.number]).length q11.2, okNw B (ns ++ [e.number]), fun _ => [], fun q11 S hS hs' => (ih (i + 1) _ _ (ns ++ [e.number]) _ _ S (by omega) (by omega) (by omega) (by omega) hS hs').mono (fun v H' h => ?_), ?_⟩
          · rcases h with ⟨_, hv, hH⟩ | ⟨h0, _⟩
            · exact ⟨(0, 0), hv, hH⟩
            · omega
          · rw [stk_zero]
            by_cases hk : okNw B (ns ++ [e.number]) = true
            · exact .inl ⟨hk, ns ++ [e.number], by rw [if_pos hk], fun q11 q => ⟨q11.1, q11.2, rfl, fun Z => by rw [hfm]; exact List.Sublist.refl _⟩⟩
            · exact .inr ⟨Bool.eq_false_iff.2 hk, by rw [if_neg hk]⟩
        · cases hq : stk (okNw B) (B.weighs.drop (i + 1)) m (ns ++ [e.number]) with
          | some r =>
            refine ⟨fun _ q => .slice (some ⟨q.1, 0, none⟩) r.length q.2, true, fun q => [⟨q.1, 0, r.flatMap cI, some 3, q.2 * 1⟩], fun q11 S hS hs' => (ih (i + 1) _ _ (ns ++ [e.number]) _ _ S (by omega) (by omega) (by omega) (by omega) hS hs').mono (fun v H' h => ?_), .inl ⟨rfl, r, rfl, fun q11 q => ⟨q.1, q.2, rfl, fun Z => List.Sublist.cons _ (List.Sublist.refl _)⟩⟩⟩
            rcases h with ⟨h0, _⟩ | ⟨_, ⟨r', b, k, hr', hv, hH⟩ | ⟨hn, _⟩⟩
            · omega
            · rw [hq] at hr'
              cases hr'
              exact ⟨(b, k), hv, hH⟩
            · rw [hq] at hn; cases hn
          | none =>
            refine ⟨fun _ _ => .slice none 0 0, false, fun _ => [], fun q11 S hS hs' => (ih (i + 1) _ _ (ns ++ [e.number]) _ _ S (by omega) (by omega) (by omega) (by omega) hS hs').mono (fun v H' h => ?_), .inr ⟨rfl, rfl⟩⟩
            rcases h with ⟨h0, _⟩ | ⟨_, ⟨r', b, k, hr', hv, hH⟩ | ⟨hn, hv, hH⟩⟩
            · omega
            · rw [hq] at hr'; cases hr'
            · exact ⟨(0, 0), hv, hH⟩
      refine X.regionRd tslifted rdS [1, 3, 4, 10] [(1, .slice a ns.length c), (3, .int .i64 (m + 1 : Nat)), (4, .pointer (some ⟨b4, 0, none⟩)), (10, .int .i64 i)] (valS b4 5 B ⟨a1, c1, some ⟨db, doff, none⟩, c2⟩ ns a c B.weighs.length db doff c2 i m e.number cv bv) (rowsS ns e.number cr) (fun _ => (0, 0)) (⟨b4, 0, cBl B ⟨a1, c1, some ⟨db, doff, none⟩, c2⟩, some 27, 6⟩ :: H) rfl mixed (by (repeat (first | exact Sub.nil _ | refine Sub.cons rfl ?_)); done) rfl (by kernel_rfl) (by kernel_rfl) (loclifted b4 B ⟨a1, c1, some ⟨db, doff, none⟩, c2⟩ ns a c B.weighs.length db doff c2 i m e.number cv bv cr) (List.Sublist.refl _) ?_ ?_
      · repeat' (first | exact AllF.done rfl | (refine AllF.step rfl ?_ ?_; · (first | exact (Ob.ng rfl (ObK.pure (fun env R hR => by exact ⟨_, EvF.move rfl rfl, rfl⟩) rfl (fun _ => rfl))).toR | exact (Ob.ng rfl (ObK.pure (fun env R hR => by exact ⟨_, EvF.assign rfl rfl, rfl⟩) rfl (fun _ => rfl))).toR | exact (Ob.ng rfl (ObK.pure (fun env R hR => by exact ⟨_, EvF.fieldAddr rfl rfl (te rfl) rfl (te rfl) (by decide), rfl⟩) rfl (fun _ => rfl))).toR | exact (Ob.ng rfl (ObK.pure (fun env R hR => by exact ⟨_, EvF.loadV rfl rfl (LoadV.own (te rfl) rfl (hR _ (List.Mem.head _)) rfl), rfl⟩) rfl (fun _ => rfl))).toR | exact (Ob.ng rfl (ObK.pure (fun env R hR => by exact ⟨_, EvF.loadV rfl rfl (LoadV.whole (te rfl) rfl (hR _ (List.Mem.head _)) rfl), rfl⟩) rfl (fun _ => rfl))).toR | (refine ObR.ng rfl ?_; (first | (exact fun env S hS hrd => (StF.buildNil rfl el55).op.mono (fun v H' ⟨b, hv, hH⟩ => ⟨(b, 0), fun _ => hv, by rw [hH]; exact List.Perm.refl _⟩)) | ((refine fun env S hS hrd => (StF.ofEv (v := .pointer (some ⟨db, doff + i * 4, none⟩)) ?_).op.mono (fun v H' ⟨hv, hH⟩ => ⟨(0, 0), fun _ => hv, by rw [hH]; exact List.Perm.refl _⟩); refine EvF.indexSlice (T := 25) (e := 31) (i := (i : Int)) (off := doff) (b := db) (len := B.weighs.length) (ti := ⟨.st [(0, 3), (1, 3), (2, 23)], 4, 32⟩) rfl rfl rfl (te rfl) (te rfl) ?_ ?_ <;> omega)) | (exact fun env S hS hrd => (StF.ofEv (v := .int .i64 e.number) (EvF.loadV rfl rfl (LoadV.el1 (n := i) (j := 0) hB.weighs he (te rfl) rfl (fun _ h => hS _ (List.Mem.tail _ h)) rfl))).op.mono (fun v H' ⟨hv, hH⟩ => ⟨(0, 0), fun _ => hv, by rw [hH]; exact List.Perm.refl _⟩)) | (exact fun env S hS hrd => (StF.buildOne rfl el55 rfl rfl rfl (by decide) (by decide)).op.mono (fun v H' ⟨b, hv, hH⟩ => ⟨(b, 0), fun _ => hv, by rw [hH]; exact List.Perm.refl _⟩)) | (exact fun env S hS hrd => (StF.appendSl (i := 0) (l := ns) rfl el55 rfl rfl rfl (hs.sub (fun r hr => List.mem_append_right _ (hS r (List.Mem.tail _ hr)))) (fun e _ => rfl) rfl (by decide) (by omega)).op.mono (fun v H' ⟨b, c, hv, hH⟩ => ⟨(b, c), fun _ => by rw [hv, Nat.zero_add]; rfl, by rw [hH]; exact List.Perm.refl _⟩)) | (exact fun env S hS hrd => (StF.appendOwn (i := 0) rfl el55 rfl rfl rfl hal rfl (Rd.own (List.Mem.tail _ (List.Mem.head _))) rfl (by omega)).op.drop (fun v H' ⟨b, c, hv, hH⟩ => ⟨_, by rw [hH]; exact List.Sublist.cons_cons _ (List.Sublist.cons _ (List.Sublist.refl _)), (b, c), fun _ => hv, List.Perm.refl _⟩)) | (exact fun env S hS hrd => (StF.ofEv (v := .int .i64 ((i : Int) + 1)) (EvF.add64 (p := (i : Int)) (q := 1) rfl rfl rfl (by omega) (by omega))).op.mono (fun v H' ⟨hv, hH⟩ => ⟨(0, 0), fun _ => hv, by rw [hH]; exact List.Perm.refl _⟩)) | (exact fun env S hS hrd => (StF.ofEv (v := .int .i64 (((m + 1 : Nat) : Int) - 1)) (EvF.sub64 (p := ((m + 1 : Nat) : Int)) (q := 1) rfl rfl rfl (by omega) (by omega))).op.mono (fun v H' ⟨hv, hH⟩ => ⟨(0, 0), fun _ => hv, by rw [hH]; exact List.Perm.refl _⟩)) | (exact fun env S hS hrd => (StF.ofEv (v := .bool bv) (EvF.extract rfl rfl rfl)).op.mono (fun v H' ⟨hv, hH⟩ => ⟨(0, 0), fun _ => hv, by rw [hH]; exact List.Perm.refl _⟩)) | (exact fun env S hS hrd => (StF.ofEv (v := cv (env 11) (env 16)) (EvF.extract rfl rfl rfl)).op.mono (fun v H' ⟨hv, hH⟩ => ⟨(0, 0), fun _ => hv, by rw [hH]; exact List.Perm.refl _⟩)) | (exact fun env S hS hrd => (OpF.call (EnF.st rfl (by (repeat (first | exact Args.nil | refine Args.cons rfl ?_)); done)) (hcall (env 11) S (fun r hr => hS r (List.Mem.tail _ (hH0 r hr))) (SlE.ofRow (by rw [← hfm]; exact hrd 11 (List.Mem.head _) _ (List.Mem.head _)) (fun _ _ => rfl)))).mono (fun v H' ⟨q, hv, hH⟩ => ⟨q, fun _ => hv, by rw [hH]; exact List.Perm.refl _⟩)))))))
      · intro env t ha hv
        refine ⟨(12, .bool bv) :: (11, cv (env 11) (env 16)) :: [(1, .slice a ns.length c), (3, .int .i64 (m + 1 : Nat)), (4, .pointer (some ⟨b4, 0, none⟩)), (10, .int .i64 i)], (ha.cons (hv 20 11 (Nat.le_of_ble_eq_true rfl) rfl)).cons (hv 21 12 (Nat.le_of_ble_eq_true rfl) rfl), ?_⟩
        show X _ _ _ _ (⟨(env 11).1, 0, ns.flatMap cI ++ [.int .i64 e.number], some 3, (env 11).2 * 1⟩ :: (cr (env 16) ++ []) ++ ⟨b4, 0, cBl B ⟨a1, c1, some ⟨db, doff, none⟩, c2⟩, some 27, 6⟩ :: H) _
        rw [List.append_nil, List.cons_append]
        generalize env 11 = q11
        generalize env 16 = q16
        rcases hres with ⟨rfl, r, hr, hc⟩ | ⟨rfl, hn⟩
        · obtain ⟨b, k, hcv, hsub⟩ := hc q11 q16
          rw [hcv]
          repeat' (first | (refine XO.op rfl ?_; (first | ((first | refine Xo.ng rfl ?_); (first | (refine Xg.ev (EvF.move rfl rfl) rfl rfl ?_) | (refine Xg.ev (EvF.assign rfl rfl) rfl rfl ?_) | (refine Xg.ev (EvF.cmp rfl rfl rfl rfl) rfl rfl ?_) | (refine Xg.ev (EvF.add64 rfl rfl rfl (by omega) (by omega)) rfl rfl ?_) | (refine Xg.ev (EvF.loadV rfl rfl (LoadV.whole (te rfl) rfl (List.Mem.head _) rfl)) rfl rfl ?_) | (refine Xg.st (StF.boxAgg rfl rfl) rfl rfl ?_; rintro _ _ ⟨bx, rfl, rfl⟩))))) | (refine XO.done rfl ?_; refine hK _ _ ?_; clear hK K) | refine X.seq rfl ?_ | refine X.region rfl (fun K hK => ?_) | refine X.block rfl ?_ | refine X.skip rfl ?_ | refine X.ret rfl ?_ | (refine X.ite rfl rfl (fun hc => ?_); (first | (with_reducible refine Xb.t hc ?_) | (with_reducible refine Xb.f hc ?_) | (with_reducible refine Xb.case hc (fun h => ?_) (fun h => ?_))) <;> clear hc))
          all_goals try (exfalso; contradiction)
          refine ret_two (by first | exact .inr rfl | exact .inl rfl) Try.results22 rfl rfl (H' := ⟨b, 0, r.flatMap cI, some 3, k * 1⟩ :: H) ((List.Sublist.cons_cons _ (List.sublist_cons_self _ _)).trans (hsub _)) (.inr ⟨by omega, .inl ⟨r, b, k, ?_, rfl, rfl⟩⟩)
          rw [hst]; simp only [stk, hr]
        · repeat' (first | (refine XO.op rfl ?_; (first | ((first | refine Xo.ng rfl ?_); (first | (refine Xg.ev (EvF.move rfl rfl) rfl rfl ?_) | (refine Xg.ev (EvF.assign rfl rfl) rfl rfl ?_) | (refine Xg.ev (EvF.cmp rfl rfl rfl rfl) rfl rfl ?_) | (refine Xg.ev (EvF.add64 rfl rfl rfl (by omega) (by omega)) rfl rfl ?_) | (refine Xg.ev (EvF.loadV rfl rfl (LoadV.whole (te rfl) rfl (List.Mem.head _) rfl)) rfl rfl ?_) | (refine Xg.st (StF.boxAgg rfl rfl) rfl rfl ?_; rintro _ _ ⟨bx, rfl, rfl⟩))))) | (refine XO.done rfl ?_; refine hK _ _ ?_; clear hK K) | refine X.seq rfl ?_ | refine X.region rfl (fun K hK => ?_) | refine X.block rfl ?_ | refine X.skip rfl ?_ | refine X.ret rfl ?_ | (refine X.ite rfl rfl (fun hc => ?_); (first | (with_reducible refine Xb.t hc ?_) | (with_reducible refine Xb.f hc ?_) | (with_reducible refine Xb.case hc (fun h => ?_) (fun h => ?_))) <;> clear hc))
          all_goals try (exfalso; contradiction)
          refine ⟨_, _, _, (by (repeat (first | exact Sub.nil _ | refine Sub.cons rfl ?_)); done), (List.sublist_append_right _ _).trans (List.sublist_cons_self _ _), ⟨i + 1, rfl, by omega, ?_, rfl, rfl⟩, by omega⟩
          rw [hst]; simp only [stk, hn]
    · have hi' : i = B.weighs.length := by omega
      refine ret_two (by first | exact .inr rfl | exact .inl rfl) Try.results22 rfl rfl (H' := H) (by (repeat (first | exact List.Sublist.refl _ | apply List.Sublist.cons)); done) (.inr ⟨by omega, .inr ⟨?_, rfl, rfl⟩⟩)
      rw [hst, hi', List.drop_length]; rfl
end Go.Proofs.Ytoflnjgfikchjaa
end
section
set_option linter.unusedVariables false
set_option linter.unusedSimpArgs false
namespace Go.Proofs.Ytoflnjgfikchjaa
open Go Go.Fw
set_option maxRecDepth 10000
theorem stk_lon (ok : List Dr → Bool) (okN : List Int → Bool) (S : List Dr) (h : ∀ acc, (∀ x ∈ acc, x ∈ S) → okN (acc.map (·.number)) = ok acc) :
    ∀ (t : List Dr) (m : Nat) (acc : List Dr), (∀ x ∈ acc, x ∈ S) → (∀ x ∈ t, x ∈ S) → stk okN t m (acc.map (·.number)) = (lon ok t m acc).map (fun r => r.map (·.number))
  | [], 0, acc, ha, _ => by simp only [stk, lon, h acc ha]; split <;> rfl
  | [], _ + 1, _, _, _ => rfl
  | _ :: _, 0, acc, ha, _ => by simp only [stk, lon, h acc ha]; split <;> rfl
  | x :: t, m + 1, acc, ha, ht => by
    have h1 := stk_lon ok okN S h t m (acc ++ [x]) (fun y hy => by
      rcases List.mem_append.1 hy with hy | hy
      · exact ha y hy
      · rw [List.mem_singleton.1 hy]; exact ht x List.mem_cons_self) (fun y hy => ht y (List.mem_cons_of_mem _ hy))
    have h2 := stk_lon ok okN S h t (m + 1) acc ha (fun y hy => ht y (List.mem_cons_of_mem _ hy))
    rw [List.map_append] at h1
    have h1' : stk okN t m (acc.map (·.number) ++ [x.number]) = (lon ok t m (acc ++ [x])).map (fun r => r.map (·.number)) := h1
    simp only [stk, lon, h1']
    cases lon ok t m (acc ++ [x]) with
    | some r => rfl
    | none => exact h2
theorem few_hit (ok : List Dr → Bool) (l : List Dr) (n : Nat) (r : List Dr) (hn : n < 4) (h0 : ∀ j, j < n → lon ok l j [] = none) (h : lon ok l n [] = some r) : few ok l 4 0 = some r := by
  match n, hn with
  | 0, _ => simp only [few, h]
  | 1, _ => simp only [few, h0 0 (by omega), h]
  | 2, _ => simp only [few, h0 0 (by omega), h0 1 (by omega), h]
  | 3, _ => simp only [few, h0 0 (by omega), h0 1 (by omega), h0 2 (by omega), h]
theorem few_miss (ok : List Dr → Bool) (l : List Dr) (h0 : ∀ j, j < 4 → lon ok l j [] = none) : few ok l 4 0 = none := by
  simp only [few, h0 0 (by omega), h0 1 (by omega), h0 2 (by omega), h0 3 (by omega)]
theorem few_four (ok : List Dr → Bool) (l : List Dr) : few ok l (min 3 l.length + 1) 0 = few ok l 4 0 := by
  by_cases h : 3 ≤ l.length
  · rw [Nat.min_eq_left h]
  · exact (few_more ok l _ _ 0 (by omega) (by omega)).symm
theorem uniqNum : ∀ (l : List Dr), (l.map (·.number)).Nodup → ∀ x ∈ l, ∀ y ∈ l, x.number = y.number → x = y
  | [], _, x, hx, _, _, _ => absurd hx List.not_mem_nil
  | a :: t, h, x, hx, y, hy, e => by
    rw [List.map_cons, List.nodup_cons] at h
    rcases List.mem_cons.1 hx with rfl | hx
    · rcases List.mem_cons.1 hy with rfl | hy
      · rfl
      · exact absurd (List.mem_map.2 ⟨y, hy, e.symm⟩) h.1
    · rcases List.mem_cons.1 hy with h9 | hy
      · exact absurd (List.mem_map.2 ⟨x, hx, h9 ▸ e⟩) h.1
      · exact uniqNum t h.2 x hx y hy e
theorem left_exc (l acc : List Dr) (hn : (l.map (·.number)).Nodup) (ha : ∀ x ∈ acc, x ∈ l) : leftDr l (acc.map (·.number)) = excDr l acc := by
  unfold leftDr excDr
  refine List.filter_congr (fun x hx => ?_)
  congr 1
  refine decide_eq_decide.2 ⟨fun h => ?_, fun h => List.mem_map.2 ⟨x, h, rfl⟩⟩
  obtain ⟨y, hy, e⟩ := List.mem_map.1 h
  exact uniqNum l hn y (ha y hy) x hx e ▸ hy
theorem left_none (l : List Dr) : leftDr l [] = l := by
  unfold leftDr
  exact List.filter_eq_self.2 (fun _ _ => by simp)
theorem okNd_eq {B : Bl} (h : baleOk B) (acc : List Dr) (ha : ∀ x ∈ acc, x ∈ B.draws) : okNd B (acc.map (·.number)) = okD B acc := by
  have e : strBl B (acc.map (·.number)) [] = outD B acc := by
    show ({ B with draws := leftDr B.draws (acc.map (·.number)), weighs := leftDr B.weighs [] } : Bl) = { B with draws := excDr B.draws acc }
    rw [left_exc _ _ (rises_nodupK _ _ h.2.2.2.1.2.1.1) ha, left_none]
  unfold okNd okD
  rw [e]
theorem okNw_eq {B : Bl} (h : baleOk B) (acc : List Dr) (ha : ∀ x ∈ acc, x ∈ B.weighs) : okNw B (acc.map (·.number)) = okWt B acc := by
  have e : strBl B [] (acc.map (·.number)) = outW B acc := by
    show ({ B with draws := leftDr B.draws [], weighs := leftDr B.weighs (acc.map (·.number)) } : Bl) = { B with weighs := excDr B.weighs acc }
    rw [left_exc _ _ (rises_nodupK _ _ h.2.2.2.2.2.1.1) ha, left_none]
  unfold okNw okWt
  rw [e]
theorem stkD {B : Bl} (h : baleOk B) (n : Nat) : stk (okNd B) B.draws n [] = (lon (okD B) B.draws n []).map (fun r => r.map (·.number)) :=
  stk_lon (okD B) (okNd B) B.draws (okNd_eq h) B.draws n [] (fun _ hx => absurd hx List.not_mem_nil) (fun _ hx => hx)
theorem stkW {B : Bl} (h : baleOk B) (n : Nat) : stk (okNw B) B.weighs n [] = (lon (okWt B) B.weighs n []).map (fun r => r.map (·.number)) :=
  stk_lon (okWt B) (okNw B) B.weighs (okNw_eq h) B.weighs n [] (fun _ hx => absurd hx List.not_mem_nil) (fun _ hx => hx)
theorem hitD {B : Bl} (h : baleOk B) {n : Nat} {r : List Int} (hn : n < 4) (h0 : ∀ j, j < n → stk (okNd B) B.draws j [] = none) (hr : stk (okNd B) B.draws n [] = some r) : (fewD B).isSome = true ∧ numsOf (fewD B) = r := by
  rw [stkD h] at hr
  obtain ⟨r', hr', rfl⟩ := Option.map_eq_some_iff.1 hr
  have := few_hit (okD B) B.draws n r' hn (fun j hj => by have := h0 j hj; rw [stkD h] at this; exact Option.map_eq_none_iff.1 this) hr'
  unfold fewD numsOf
  rw [few_four, this]
  exact ⟨rfl, rfl⟩
theorem hitW {B : Bl} (h : baleOk B) {n : Nat} {r : List Int} (hn : n < 4) (h0 : ∀ j, j < n → stk (okNw B) B.weighs j [] = none) (hr : stk (okNw B) B.weighs n [] = some r) : (fewW B).isSome = true ∧ numsOf (fewW B) = r := by
  rw [stkW h] at hr
  obtain ⟨r', hr', rfl⟩ := Option.map_eq_some_iff.1 hr
  have := few_hit (okWt B) B.weighs n r' hn (fun j hj => by have := h0 j hj; rw [stkW h] at this; exact Option.map_eq_none_iff.1 this) hr'
  unfold fewW numsOf
  rw [few_four, this]
  exact ⟨rfl, rfl⟩
theorem missD {B : Bl} (h : baleOk B) (h0 : ∀ j, j < 4 → stk (okNd B) B.draws j [] = none) : (fewD B).isSome = false := by
  unfold fewD
  rw [few_four, few_miss (okD B) B.draws (fun j hj => by have := h0 j hj; rw [stkD h] at this; exact Option.map_eq_none_iff.1 this)]
  rfl
theorem missW {B : Bl} (h : baleOk B) (h0 : ∀ j, j < 4 → stk (okNw B) B.weighs j [] = none) : (fewW B).isSome = false := by
  unfold fewW
  rw [few_four, few_miss (okWt B) B.weighs (fun j hj => by have := h0 j hj; rw [stkW h] at this; exact Option.map_eq_none_iff.1 this)]
  rfl
theorem StkR.top {ok : List Int → Bool} {t : List Dr} {m : Nat} {H : List Row} {v : Value} {H' : List Row} (h : StkR ok t m [] none 0 H v H') :
    (∃ r a c Z, stk ok t m [] = some r ∧ v = .tuple #[.slice a r.length c, .bool true] ∧ SlE (Z ++ H) a cI 1 r ∧ H' = Z ++ H) ∨ (stk ok t m [] = none ∧ v = .tuple #[.slice none 0 0, .bool false] ∧ H' = H) := by
  rcases h with ⟨rfl, rfl, rfl⟩ | ⟨_, ⟨r, b, k, hr, rfl, rfl⟩ | h⟩
  · rw [stk_zero]
    by_cases hk : ok [] = true
    · exact .inl ⟨[], none, 0, [], by rw [if_pos hk], by rw [hk]; (try rfl), sleNil, rfl⟩
    · exact .inr ⟨by rw [if_neg hk], by rw [Bool.eq_false_iff.2 hk]; (try rfl), rfl⟩
  · exact .inl ⟨r, _, _, [⟨b, 0, r.flatMap cI, some 3, k * 1⟩], hr, rfl, SlE.ofRow (List.Mem.head _) (fun _ _ => rfl), rfl⟩
  · exact .inr h
set_option maxHeartbeats 8000000 in
theorem refWrong_spec (B : Bl) (p : Pb) (H : List Row) (hB : BlOk H B p) : Fc Try.prog 7 [.agg (cBl B p).toArray] H (WrongR (wrongF B) H) := by
  have l1 := hB.l1
  have l2 := hB.l2
  have hB1 : ∀ r, BlOk (r :: H) B p := fun r => hB.sub (fun _ h => List.Mem.tail _ h)
  refine Fc.mk (callable Try.call7) Try.func7 rfl Try.ntmps7 rfl ?_; dsimp only [fr]
  repeat' (first | (refine XO.op rfl ?_; (first | ((first | refine Xo.ng rfl ?_); (first | (refine Xg.call (EnF.st rfl (Args.cons rfl Args.nil)) rfl rfl (bale_spec B p _ (hB1 _)) ?_; rintro _ H9 ⟨rfl, hH9⟩; subst H9) | (refine Xg.ev (EvF.assign rfl rfl) rfl rfl ?_) | (refine Xg.ev (EvF.not rfl rfl) rfl rfl ?_) | (refine Xg.ev (EvF.loadV rfl rfl (LoadV.whole (te rfl) rfl (List.Mem.head _) rfl)) rfl rfl ?_) | (refine Xg.st (StF.boxAgg rfl rfl) rfl rfl ?_; rintro _ _ ⟨bx, rfl, rfl⟩))))) | (refine XO.done rfl ?_; refine hK _ _ ?_; clear hK K) | refine X.seq rfl ?_ | refine X.region rfl (fun K hK => ?_) | refine X.block rfl ?_ | refine X.skip rfl ?_ | refine X.ret rfl ?_ | (refine X.ite rfl rfl (fun hc => ?_); (first | (with_reducible refine Xb.caseN hc (fun h => ?_) (fun h => ?_))) <;> clear hc))
  · have e : wrongF B = ([], [], 30) := by unfold wrongF; rw [if_neg (by assumption)]
    unfold WrongR; rw [e]
    exact ret_three (by first | exact .inr rfl | exact .inl rfl) Try.results7 rfl rfl rfl (H' := H) (by (repeat (first | exact List.Sublist.refl _ | apply List.Sublist.cons)); done) ⟨none, 0, none, 0, [], rfl, sleNil, sleNil, rfl⟩
  have hok : baleOk B := by assumption
  have hst := struck_spec B p H hB hok.h5 hok.hd
  have hli := lifted_spec B p H hB hok.hdry hok.wg
  refine X.lp rfl (fun q F' H' => ∃ n : Nat, q = 4 - n ∧ n ≤ 4 ∧ (∀ j, j < n → stk (okNd B) B.draws j [] = none) ∧ ⟨bx, 0, cBl B p, some 27, 6⟩ :: H = H' ∧ F' = [(1, .pointer (some ⟨bx, 0, none⟩)), (5, .int .i64 n)])
    4 [(1, .pointer (some ⟨bx, 0, none⟩)), (5, .int .i64 (0 : Nat))] _ (by (repeat (first | exact Sub.nil _ | refine Sub.cons rfl ?_)); done) (List.Sublist.refl _) ⟨0, rfl, by omega, fun j hj => absurd hj (by omega), rfl, rfl⟩ ?_
  rintro _ _ H2 ⟨n, rfl, hn, h0, hH, rfl⟩
  subst hH
  repeat' (first | (refine XO.op rfl ?_; (first | ((first | refine Xo.ng rfl ?_); (first | (refine Xg.call (EnF.st rfl (by (repeat (first | exact Args.nil | refine Args.cons rfl ?_)); done)) rfl rfl (hst n 0 (n : Int) 0 [] none 0 _ rfl rfl (Nat.zero_le _) (by simp only [List.length_nil]; omega) (fun r h => List.Mem.tail _ h) sleNil) ?_; rintro _ _ hR; rcases hR.top with ⟨r, a, c, Z, hr, rfl, hs, rfl⟩ | ⟨hr, rfl, rfl⟩) | (refine Xg.ev (EvF.move rfl rfl) rfl rfl ?_) | (refine Xg.ev (EvF.assign rfl rfl) rfl rfl ?_) | (refine Xg.ev (EvF.cmp rfl rfl rfl rfl) rfl rfl ?_) | (refine Xg.ev (EvF.add64 rfl rfl rfl (by omega) (by omega)) rfl rfl ?_) | (refine Xg.ev (EvF.not rfl rfl) rfl rfl ?_) | (refine Xg.ev (EvF.loadV rfl rfl (LoadV.whole (te rfl) rfl (List.Mem.head _) rfl)) rfl rfl ?_) | (refine Xg.ev (EvF.extract rfl rfl rfl) rfl rfl ?_))))) | (refine XO.done rfl ?_; refine hK _ _ ?_; clear hK K) | refine X.seq rfl ?_ | refine X.region rfl (fun K hK => ?_) | refine X.block rfl ?_ | (refine X.brk rfl ?_; first | refine blockX_hit rfl ?_ | skip) | refine X.skip rfl ?_ | refine X.ret rfl ?_ | (refine X.ite rfl rfl (fun hc => ?_); (first | (with_reducible refine Xb.case hc (fun h => ?_) (fun h => ?_)) | (with_reducible refine Xb.caseB hc (fun h => ?_) (fun h => ?_))) <;> clear hc))
  all_goals try (exfalso; first | omega | contradiction)
  · obtain ⟨H1, hH1⟩ : ∃ H1, H1 = Z ++ ⟨bx, 0, cBl B p, some 27, 6⟩ :: H := ⟨_, rfl⟩
    have hm1 : (⟨bx, 0, cBl B p, some 27, 6⟩ : Row) ∈ H1 := hH1 ▸ List.mem_append_right _ (List.Mem.head _)
    have hH : ∀ r ∈ H, r ∈ H1 := fun r h => hH1 ▸ List.mem_append_right _ (List.Mem.tail _ h)
    rw [← hH1]
    rw [List.drop_zero] at hr
    obtain ⟨hx1, hx2⟩ := hitD hok (by omega) h0 hr
    refine X.lp rfl (fun q F' H' => ∃ n : Nat, q = 4 - n ∧ n ≤ 4 ∧ (∀ j, j < n → stk (okNw B) B.weighs j [] = none) ∧ H1 = H' ∧ F' = [(1, .pointer (some ⟨bx, 0, none⟩)), (6, .slice a r.length c), (8, .int .i64 n)])
      4 [(1, .pointer (some ⟨bx, 0, none⟩)), (6, .slice a r.length c), (8, .int .i64 (0 : Nat))] _ (by (repeat (first | exact Sub.nil _ | refine Sub.cons rfl ?_)); done) (List.Sublist.refl _) ⟨0, rfl, by omega, fun j hj => absurd hj (by omega), rfl, rfl⟩ ?_
    rintro _ _ H2 ⟨k, rfl, hk, h0', hHH, rfl⟩
    subst hHH
    repeat' (first | (refine XO.op rfl ?_; (first | ((first | refine Xo.ng rfl ?_); (first | (refine Xg.ev (EvF.loadV rfl rfl (LoadV.whole (te rfl) rfl hm1 rfl)) rfl rfl ?_) | (refine Xg.call (EnF.st rfl (by (repeat (first | exact Args.nil | refine Args.cons rfl ?_)); done)) rfl rfl (hli k 0 (k : Int) 0 [] none 0 _ rfl rfl (Nat.zero_le _) (by simp only [List.length_nil]; omega) hH sleNil) ?_; rintro _ _ hR2; rcases hR2.top with ⟨r2, a2, c2, Z2, hr2, rfl, hs2, rfl⟩ | ⟨hr2, rfl, rfl⟩) | (refine Xg.ev (EvF.move rfl rfl) rfl rfl ?_) | (refine Xg.ev (EvF.assign rfl rfl) rfl rfl ?_) | (refine Xg.ev (EvF.cmp rfl rfl rfl rfl) rfl rfl ?_) | (refine Xg.ev (EvF.add64 rfl rfl rfl (by omega) (by omega)) rfl rfl ?_) | (refine Xg.ev (EvF.extract rfl rfl rfl) rfl rfl ?_))))) | (refine XO.done rfl ?_; refine hK _ _ ?_; clear hK K) | refine X.seq rfl ?_ | refine X.region rfl (fun K hK => ?_) | refine X.block rfl ?_ | (refine X.brk rfl ?_; first | refine blockX_hit rfl ?_ | skip) | refine X.skip rfl ?_ | refine X.ret rfl ?_ | (refine X.ite rfl rfl (fun hc => ?_); (first | (with_reducible refine Xb.t hc ?_) | (with_reducible refine Xb.f hc ?_) | (with_reducible refine Xb.case hc (fun h => ?_) (fun h => ?_))) <;> clear hc))
    all_goals try (exfalso; first | omega | contradiction)
    · rw [List.drop_zero] at hr2
      obtain ⟨hy1, hy2⟩ := hitW hok (by omega) h0' hr2
      have e : wrongF B = (r, r2, 0) := by unfold wrongF; rw [if_pos hok, if_pos ⟨hx1, hy1⟩, hx2, hy2]
      unfold WrongR; rw [e]
      subst hH1
      refine ret_three (by first | exact .inr rfl | exact .inl rfl) Try.results7 rfl rfl rfl (H' := _) (List.Sublist.refl _) ⟨a, c, a2, c2, Z2 ++ (Z ++ [⟨bx, 0, cBl B p, some 27, 6⟩]), rfl, ?_, ?_, by simp⟩
      · have := hs.sub (H' := Z2 ++ (Z ++ ⟨bx, 0, cBl B p, some 27, 6⟩ :: H)) (fun _ h => List.mem_append_right _ h)
        simpa using this
      · simpa using hs2
    · rw [List.drop_zero] at hr2
      refine ⟨_, _, _, (by (repeat (first | exact Sub.nil _ | refine Sub.cons rfl ?_)); done), List.Sublist.refl _, ⟨k + 1, rfl, by omega, fun j hj => ?_, rfl, rfl⟩, by omega⟩
      rcases Nat.lt_or_ge j k with h9 | h9
      · exact h0' j h9
      · obtain rfl : j = k := by omega
        exact hr2
    · obtain rfl : k = 4 := by omega
      have e : wrongF B = ([], [], 4) := by unfold wrongF; rw [if_pos hok, if_neg (by rw [missW hok h0']; simp)]
      unfold WrongR; rw [e]
      subst hH1
      exact ret_three (by first | exact .inr rfl | exact .inl rfl) Try.results7 rfl rfl rfl (H' := H) ((List.sublist_cons_self _ _).trans (List.sublist_append_right _ _)) ⟨none, 0, none, 0, [], rfl, sleNil, sleNil, rfl⟩
  · rw [List.drop_zero] at hr
    refine ⟨_, _, _, (by (repeat (first | exact Sub.nil _ | refine Sub.cons rfl ?_)); done), List.Sublist.refl _, ⟨n + 1, rfl, by omega, fun j hj => ?_, rfl, rfl⟩, by omega⟩
    rcases Nat.lt_or_ge j n with h9 | h9
    · exact h0 j h9
    · obtain rfl : j = n := by omega
      exact hr
  · obtain rfl : n = 4 := by omega
    have e : wrongF B = ([], [], 4) := by unfold wrongF; rw [if_pos hok, if_neg (by rw [missD hok h0]; simp)]
    unfold WrongR; rw [e]
    exact ret_three (by first | exact .inr rfl | exact .inl rfl) Try.results7 rfl rfl rfl (H' := H) (by (repeat (first | exact List.Sublist.refl _ | apply List.Sublist.cons)); done) ⟨none, 0, none, 0, [], rfl, sleNil, sleNil, rfl⟩
end Go.Proofs.Ytoflnjgfikchjaa
end
section
set_option linter.unusedVariables false
set_option linter.unusedSimpArgs false
namespace Go.Proofs.Ytoflnjgfikchjaa
open Go Go.Fw
set_option maxRecDepth 10000
set_option maxHeartbeats 8000000 in
theorem spoilB_spec (B : Bl) (t1 k1 t2 k2 : Nat) (H : List Row) (l1 : B.draws.length ≤ 1000000) (l2 : B.weighs.length ≤ 1000000) :
    Fc Try.prog 16 [.agg (cBl B (plB t1 k1 t2 k2)).toArray] (rDraws B t1 k1 :: rWeighs B t2 k2 :: H) (fun v H' => v = .tuple #[] ∧ H' = H) := by
  have hc1 : (B.draws.flatMap cDr).length = B.draws.length * 4 := flat_len (fun _ _ => rfl)
  have hc2 : (B.weighs.flatMap cDr).length = B.weighs.length * 4 := flat_len (fun _ _ => rfl)
  unfold rDraws rWeighs
  generalize B.draws.flatMap cDr = cs1 at hc1 ⊢
  generalize B.weighs.flatMap cDr = cs2 at hc2 ⊢
  refine Fc.mk (callable Try.call16) Try.func16 rfl Try.ntmps16 rfl ?_; dsimp only [fr]
  refine X.seq rfl ?_; refine X.region rfl (fun K hK => ?_); repeat' (first | (refine XO.op rfl ?_; (first | ((first | refine Xo.ng rfl ?_); (first | (refine Xg.st (StF.boxAgg rfl rfl) rfl rfl ?_; rintro _ _ ⟨bx, rfl, rfl⟩))))) | (refine XO.done rfl ?_; refine hK _ _ ?_; clear hK K))
  rename Nat => b1
  repeat' (first | (refine XO.op rfl ?_; (first | ((first | refine Xo.ng rfl ?_); (first | (refine Xg.ev (EvF.move rfl rfl) rfl rfl ?_) | (refine Xg.ev (EvF.assign rfl rfl) rfl rfl ?_) | (refine Xg.ev (EvF.cmp rfl rfl rfl rfl) rfl rfl ?_) | (refine Xg.ev (EvF.fieldAddr rfl rfl (te rfl) rfl (te rfl) (by decide)) rfl rfl ?_) | (refine Xg.ev (EvF.lenSlice rfl rfl (te rfl)) rfl rfl ?_) | (refine Xg.ev (EvF.loadV rfl rfl (LoadV.own (te rfl) rfl (List.Mem.head _) rfl)) rfl rfl ?_))))) | (refine XO.done rfl ?_; refine hK _ _ ?_; clear hK K) | refine X.seq rfl ?_ | refine X.region rfl (fun K hK => ?_) | refine X.block rfl ?_ | (refine X.brk rfl ?_; first | refine blockX_hit rfl ?_ | skip) | refine X.skip rfl ?_ | (refine X.ite rfl rfl (fun hc => ?_); (first | (with_reducible refine Xb.case hc (fun h => ?_) (fun h => ?_))) <;> clear hc))
  refine X.lp rfl (fun q F' H' => ∃ (k : Nat) (ds1 : List Value), q = B.draws.length - k ∧ k ≤ B.draws.length ∧ ds1.length = B.draws.length * 4 ∧ ⟨b1, 0, cBl B (plB t1 k1 t2 k2), some 27, 6⟩ :: ⟨t1, 0, ds1, some 29, k1 * 4⟩ :: ⟨t2, 0, cs2, some 31, k2 * 4⟩ :: H = H' ∧ F' = [(1, .pointer (some ⟨b1, 0, none⟩)), (6, .int .i64 B.draws.length), (7, .int .i64 k)])
    B.draws.length [(1, .pointer (some ⟨b1, 0, none⟩)), (6, .int .i64 B.draws.length), (7, .int .i64 (0 : Nat))] _ (by (repeat (first | exact Sub.nil _ | refine Sub.cons rfl ?_)); done) (List.Sublist.refl _) ⟨0, cs1, rfl, Nat.zero_le _, hc1, rfl, rfl⟩ ?_
  rintro _ _ H2 ⟨k, ds1, rfl, hk, hds1, hH, rfl⟩
  subst hH
  repeat' (first | (refine XO.op rfl ?_; (first | ((first | refine Xo.ng rfl ?_); (first | (refine Xg.st0 (StF.storeOne (i := 1) rfl rfl rfl rfl (te rfl) rfl rfl (by rw [hds1]; show 0 + k * 4 + 1 < _; omega)) rfl ?_; rintro _ _ ⟨rfl, rfl⟩; dsimp only [List.set]) | (refine Xg.ev (EvF.move rfl rfl) rfl rfl ?_) | (refine Xg.ev (EvF.assign rfl rfl) rfl rfl ?_) | (refine Xg.ev (EvF.cmp rfl rfl rfl rfl) rfl rfl ?_) | (refine Xg.ev (EvF.add64 rfl rfl rfl (by omega) (by omega)) rfl rfl ?_) | (refine Xg.ev (EvF.fieldAddr rfl rfl (te rfl) rfl (te rfl) (by decide)) rfl rfl ?_) | (refine Xg.ev (EvF.lenSlice rfl rfl (te rfl)) rfl rfl ?_) | (refine Xg.ev (EvF.indexSlice rfl rfl rfl (te rfl) (te rfl) (by omega) (by omega)) rfl rfl ?_) | (refine Xg.ev (EvF.loadV rfl rfl (LoadV.own (te rfl) rfl (List.Mem.head _) rfl)) rfl rfl ?_))))) | (refine XO.done rfl ?_; refine hK _ _ ?_; clear hK K) | refine X.seq rfl ?_ | refine X.region rfl (fun K hK => ?_) | refine X.block rfl ?_ | (refine X.brk rfl ?_; first | refine blockX_hit rfl ?_ | skip) | refine X.skip rfl ?_ | (refine X.ite rfl rfl (fun hc => ?_); (first | (with_reducible refine Xb.case hc (fun h => ?_) (fun h => ?_))) <;> clear hc))
  · exact ⟨_, [(1, .pointer (some ⟨b1, 0, none⟩)), (6, .int .i64 B.draws.length), (7, .int .i64 (k + 1 : Nat))], _, (by (repeat (first | exact Sub.nil _ | refine Sub.cons rfl ?_)); done), List.Sublist.refl _, ⟨k + 1, _, rfl, by omega, by rw [List.length_set]; exact hds1, rfl, rfl⟩, by omega⟩
  clear h hk
  refine X.lp rfl (fun q F' H' => ∃ (k : Nat) (ds2 : List Value), q = B.weighs.length - k ∧ k ≤ B.weighs.length ∧ ds2.length = B.weighs.length * 4 ∧ ⟨b1, 0, cBl B (plB t1 k1 t2 k2), some 27, 6⟩ :: ⟨t1, 0, ds1, some 29, k1 * 4⟩ :: ⟨t2, 0, ds2, some 31, k2 * 4⟩ :: H = H' ∧ F' = [(1, .pointer (some ⟨b1, 0, none⟩)), (18, .int .i64 B.weighs.length), (19, .int .i64 k)])
    B.weighs.length [(1, .pointer (some ⟨b1, 0, none⟩)), (18, .int .i64 B.weighs.length), (19, .int .i64 (0 : Nat))] _ (by (repeat (first | exact Sub.nil _ | refine Sub.cons rfl ?_)); done) (List.Sublist.refl _) ⟨0, cs2, rfl, Nat.zero_le _, hc2, rfl, rfl⟩ ?_
  rintro _ _ H2 ⟨k, ds2, rfl, hk, hds2, hH, rfl⟩
  subst hH
  repeat' (first | (refine XO.op rfl ?_; (first | ((first | refine Xo.ng rfl ?_); (first | (refine Xg.st0 (StF.storeOne (i := 2) rfl rfl rfl rfl (te rfl) rfl rfl (by rw [hds2]; show 0 + k * 4 + 1 < _; omega)) rfl ?_; rintro _ _ ⟨rfl, rfl⟩; dsimp only [List.set]) | (refine Xg.ev (EvF.move rfl rfl) rfl rfl ?_) | (refine Xg.ev (EvF.assign rfl rfl) rfl rfl ?_) | (refine Xg.ev (EvF.cmp rfl rfl rfl rfl) rfl rfl ?_) | (refine Xg.ev (EvF.add64 rfl rfl rfl (by omega) (by omega)) rfl rfl ?_) | (refine Xg.ev (EvF.fieldAddr rfl rfl (te rfl) rfl (te rfl) (by decide)) rfl rfl ?_) | (refine Xg.ev (EvF.indexSlice rfl rfl rfl (te rfl) (te rfl) (by omega) (by omega)) rfl rfl ?_) | (refine Xg.ev (EvF.loadV rfl rfl (LoadV.own (te rfl) rfl (List.Mem.head _) rfl)) rfl rfl ?_))))) | (refine XO.done rfl ?_; refine hK _ _ ?_; clear hK K) | refine X.seq rfl ?_ | refine X.region rfl (fun K hK => ?_) | refine X.block rfl ?_ | (refine X.brk rfl ?_; first | refine blockX_hit rfl ?_ | skip) | refine X.skip rfl ?_ | (refine X.ite rfl rfl (fun hc => ?_); (first | (with_reducible refine Xb.case hc (fun h => ?_) (fun h => ?_))) <;> clear hc))
  · exact ⟨_, [(1, .pointer (some ⟨b1, 0, none⟩)), (18, .int .i64 B.weighs.length), (19, .int .i64 (k + 1 : Nat))], _, (by (repeat (first | exact Sub.nil _ | refine Sub.cons rfl ?_)); done), List.Sublist.refl _, ⟨k + 1, _, rfl, by omega, by rw [List.length_set]; exact hds2, rfl, rfl⟩, by omega⟩
  clear h hk
  exact ret_none (by first | exact .inr rfl | exact .inl rfl) Try.results16 (H' := H) (by (repeat (first | exact List.Sublist.refl _ | apply List.Sublist.cons)); done) ⟨rfl, rfl⟩
set_option maxHeartbeats 8000000 in
theorem spoilB0_spec (H : List Row) : Fc Try.prog 16 [.agg (cBl Bz pzb).toArray] H (fun v H' => v = .tuple #[] ∧ H' = H) := by
  refine Fc.mk (callable Try.call16) Try.func16 rfl Try.ntmps16 rfl ?_; dsimp only [fr]
  refine X.seq rfl ?_; refine X.region rfl (fun K hK => ?_); repeat' (first | (refine XO.op rfl ?_; (first | ((first | refine Xo.ng rfl ?_); (first | (refine Xg.st (StF.boxAgg rfl rfl) rfl rfl ?_; rintro _ _ ⟨bx, rfl, rfl⟩))))) | (refine XO.done rfl ?_; refine hK _ _ ?_; clear hK K))
  rename Nat => b1
  repeat' (first | (refine XO.op rfl ?_; (first | ((first | refine Xo.ng rfl ?_); (first | (refine Xg.ev (EvF.move rfl rfl) rfl rfl ?_) | (refine Xg.ev (EvF.assign rfl rfl) rfl rfl ?_) | (refine Xg.ev (EvF.cmp rfl rfl rfl rfl) rfl rfl ?_) | (refine Xg.ev (EvF.fieldAddr rfl rfl (te rfl) rfl (te rfl) (by decide)) rfl rfl ?_) | (refine Xg.ev (EvF.lenSlice rfl rfl (te rfl)) rfl rfl ?_) | (refine Xg.ev (EvF.loadV rfl rfl (LoadV.own (te rfl) rfl (List.Mem.head _) rfl)) rfl rfl ?_))))) | (refine XO.done rfl ?_; refine hK _ _ ?_; clear hK K) | refine X.seq rfl ?_ | refine X.region rfl (fun K hK => ?_) | refine X.block rfl ?_ | (refine X.brk rfl ?_; first | refine blockX_hit rfl ?_ | skip) | refine X.skip rfl ?_ | (refine X.ite rfl rfl (fun hc => ?_); (first | (with_reducible refine Xb.case hc (fun h => ?_) (fun h => ?_))) <;> clear hc))
  refine X.lp rfl (fun q F' H' => ⟨b1, 0, cBl Bz pzb, some 27, 6⟩ :: H = H' ∧ F' = [(1, .pointer (some ⟨b1, 0, none⟩)), (6, .int .i64 (0 : Nat)), (7, .int .i64 (0 : Nat))]) 0 [(1, .pointer (some ⟨b1, 0, none⟩)), (6, .int .i64 (0 : Nat)), (7, .int .i64 (0 : Nat))] _ (by (repeat (first | exact Sub.nil _ | refine Sub.cons rfl ?_)); done) (List.Sublist.refl _) ⟨rfl, rfl⟩ ?_
  rintro _ _ H2 ⟨hH, rfl⟩
  subst hH
  repeat' (first | (refine XO.op rfl ?_; (first | ((first | refine Xo.ng rfl ?_); (first | (refine Xg.ev (EvF.move rfl rfl) rfl rfl ?_) | (refine Xg.ev (EvF.assign rfl rfl) rfl rfl ?_) | (refine Xg.ev (EvF.cmp rfl rfl rfl rfl) rfl rfl ?_) | (refine Xg.ev (EvF.fieldAddr rfl rfl (te rfl) rfl (te rfl) (by decide)) rfl rfl ?_) | (refine Xg.ev (EvF.lenSlice rfl rfl (te rfl)) rfl rfl ?_) | (refine Xg.ev (EvF.loadV rfl rfl (LoadV.own (te rfl) rfl (List.Mem.head _) rfl)) rfl rfl ?_))))) | (refine XO.done rfl ?_; refine hK _ _ ?_; clear hK K) | refine X.seq rfl ?_ | refine X.region rfl (fun K hK => ?_) | refine X.block rfl ?_ | (refine X.brk rfl ?_; first | refine blockX_hit rfl ?_ | skip) | refine X.skip rfl ?_ | (refine X.ite rfl rfl (fun hc => ?_); (first | (with_reducible refine Xb.case hc (fun h => ?_) (fun h => ?_))) <;> clear hc))
  any_goals (exfalso; omega)
  refine X.lp rfl (fun q F' H' => ⟨b1, 0, cBl Bz pzb, some 27, 6⟩ :: H = H' ∧ F' = [(1, .pointer (some ⟨b1, 0, none⟩)), (18, .int .i64 (0 : Nat)), (19, .int .i64 (0 : Nat))]) 0 [(1, .pointer (some ⟨b1, 0, none⟩)), (18, .int .i64 (0 : Nat)), (19, .int .i64 (0 : Nat))] _ (by (repeat (first | exact Sub.nil _ | refine Sub.cons rfl ?_)); done) (List.Sublist.refl _) ⟨rfl, rfl⟩ ?_
  rintro _ _ H2 ⟨hH, rfl⟩
  subst hH
  repeat' (first | (refine XO.op rfl ?_; (first | ((first | refine Xo.ng rfl ?_); (first | (refine Xg.ev (EvF.move rfl rfl) rfl rfl ?_) | (refine Xg.ev (EvF.assign rfl rfl) rfl rfl ?_) | (refine Xg.ev (EvF.cmp rfl rfl rfl rfl) rfl rfl ?_) | (refine Xg.ev (EvF.fieldAddr rfl rfl (te rfl) rfl (te rfl) (by decide)) rfl rfl ?_) | (refine Xg.ev (EvF.lenSlice rfl rfl (te rfl)) rfl rfl ?_) | (refine Xg.ev (EvF.loadV rfl rfl (LoadV.own (te rfl) rfl (List.Mem.head _) rfl)) rfl rfl ?_))))) | (refine XO.done rfl ?_; refine hK _ _ ?_; clear hK K) | refine X.seq rfl ?_ | refine X.region rfl (fun K hK => ?_) | refine X.block rfl ?_ | (refine X.brk rfl ?_; first | refine blockX_hit rfl ?_ | skip) | refine X.skip rfl ?_ | (refine X.ite rfl rfl (fun hc => ?_); (first | (with_reducible refine Xb.case hc (fun h => ?_) (fun h => ?_))) <;> clear hc))
  any_goals (exfalso; omega)
  exact ret_none (by first | exact .inr rfl | exact .inl rfl) Try.results16 (H' := H) (by (repeat (first | exact List.Sublist.refl _ | apply List.Sublist.cons)); done) ⟨rfl, rfl⟩
end Go.Proofs.Ytoflnjgfikchjaa
end
section
set_option linter.unusedVariables false
set_option linter.unusedSimpArgs false
namespace Go.Proofs.Ytoflnjgfikchjaa
open Go Go.Fw
set_option maxRecDepth 10000
theorem xoPermH {P : Program} {n : Nat} {ops : Array Oper} {i : Nat} {F : FS} {H H' : List Row} {N : FS → List Row → Prop} (hp : H'.Perm H) (k : XO P n ops i F H' N) : XO P n ops i F H N := by
  unfold XO WO at *
  intro t ha ρ ds B w0 w hS
  exact k t ha ρ ds B w0 w (hS.perm hp)
theorem xoWeakH {P : Program} {n : Nat} {ops : Array Oper} {i : Nat} {F : FS} {H H' : List Row} {N : FS → List Row → Prop} (hp : H'.Sublist H) (k : XO P n ops i F H' N) : XO P n ops i F H N := by
  unfold XO WO at *
  intro t ha ρ ds B w0 w hS
  exact k t ha ρ ds B w0 w (hS.sub hp)
theorem cmpSelfK {P : Program} {n : Nat} {H : List Row} {F : FS} {o : Oper} {T T' : TypeId} {x y : Operand} {k : IntKind} {p : Int} (h : o.op = .binOp .eql T x y T') (hx : evF F x = some (.int k p)) (hy : evF F y = some (.int k p)) : EvF P n H F o (.bool true) := by
  have := EvF.cmp (P := P) (n := n) (H := H) h hx hy rfl
  rwa [decide_eq_true rfl] at this
theorem cmpSelfN {P : Program} {n : Nat} {H : List Row} {F : FS} {o : Oper} {T T' : TypeId} {x y : Operand} {k : IntKind} {p : Int} (h : o.op = .binOp .neq T x y T') (hx : evF F x = some (.int k p)) (hy : evF F y = some (.int k p)) : EvF P n H F o (.bool false) := by
  have := EvF.cmp (P := P) (n := n) (H := H) h hx hy rfl
  rwa [decide_eq_true rfl] at this
theorem perm1K {α : Type} (V A Z T : List α) : (Z ++ (V ++ (A ++ T))).Perm (V ++ (A ++ (Z ++ T))) :=
  ((List.perm_append_comm_assoc Z V (A ++ T))).trans (List.Perm.append_left V (List.perm_append_comm_assoc Z A T))
theorem OwnBl.ok {Z : List Row} {B : Bl} {p : Pb} (h : OwnBl Z B p) (h1 : B.draws.length ≤ 1000000) (h2 : B.weighs.length ≤ 1000000) : BlOk Z B p := by
  rcases h with ⟨rfl, rfl, rfl⟩ | ⟨t1, k1, t2, k2, rfl, hp⟩
  · exact BlOk.zero _
  · exact ⟨ownSlB (fun _ => rfl) (hp.mem_iff.2 (List.Mem.head _)), ownSlB (fun _ => rfl) (hp.mem_iff.2 (List.Mem.tail _ (List.Mem.head _))), h1, h2⟩
theorem spoilOwnB {Z : List Row} {B : Bl} {p : Pb} (h : OwnBl Z B p) (h1 : B.draws.length ≤ 1000000) (h2 : B.weighs.length ≤ 1000000) (H : List Row) : Fc Try.prog 16 [.agg (cBl B p).toArray] (Z ++ H) (fun v H' => v = .tuple #[] ∧ H' = H) := by
  rcases h with ⟨rfl, rfl, rfl⟩ | ⟨t1, k1, t2, k2, rfl, hp⟩
  · exact spoilB0_spec H
  · exact (spoilB_spec B t1 k1 t2 k2 H h1 h2).permR (List.Perm.append_right H hp.symm)
theorem sameB_self (B : Bl) (p q : Pb) (H : List Row) (hB : BlOk H B p) (hS : BlOk H B q) : Fc Try.prog 15 [.agg (cBl B p).toArray, .agg (cBl B q).toArray] H (fun v H' => v = .bool true ∧ H' = H) :=
  (sameB_spec B B p q H hB hS).mono (fun v H' ⟨h1, h2⟩ => ⟨by rw [h1, decide_eq_true rfl], h2⟩)
theorem sameInts3_self (l : List Int) (a a' : Option Addr) (c c' : Nat) (H : List Row) (hl : SlE H a cI 1 l) (hm : SlE H a' cI 1 l) (hb : l.length ≤ 9223372036854775807) : Fc Try.prog 8 [.slice a l.length c, .slice a' l.length c'] H (fun v H' => v = .bool true ∧ H' = H) :=
  (sameInts3_spec l l a a' c c' H hl hm hb).mono (fun v H' ⟨h1, h2⟩ => ⟨by rw [h1, decide_eq_true rfl], h2⟩)
def smallB (B : Bl) (n : Nat) : Prop := B.draws.length ≤ n ∧ B.weighs.length ≤ n
theorem smallB_zero (n : Nat) : smallB Bz n := ⟨Nat.zero_le _, Nat.zero_le _⟩
theorem smallB_put {B : Bl} (x : Dr) (h : smallB B 1000) : smallB (bputF B x).1 1001 := by
  obtain ⟨h1, h2⟩ := h
  have := insDr_len x B.draws
  unfold bputF putBl
  split
  · split
    · exact smallB_zero _
    · split
      · exact ⟨by dsimp only; omega, by dsimp only; omega⟩
      · exact smallB_zero _
  · exact smallB_zero _
theorem smallB_wed {B : Bl} (x : Dr) (h : smallB B 1000) : smallB (bwedF B x).1 1001 := by
  obtain ⟨h1, h2⟩ := h
  have := insWg_len x B.weighs
  unfold bwedF wedBl
  split
  · split
    · exact smallB_zero _
    · split
      · exact ⟨by dsimp only; omega, by dsimp only; omega⟩
      · exact smallB_zero _
  · exact smallB_zero _
theorem smallB_str {B : Bl} (l m : List Int) (h : smallB B 1000) : smallB (bstrF B l m).1 1001 := by
  obtain ⟨h1, h2⟩ := h
  have e1 : (leftDr B.draws l).length ≤ B.draws.length := List.length_filter_le _ _
  have e2 : (leftWg B.weighs m).length ≤ B.weighs.length := List.length_filter_le _ _
  unfold bstrF strBl
  split
  · split
    · split
      · exact ⟨by dsimp only; omega, by dsimp only; omega⟩
      · exact smallB_zero _
    · exact smallB_zero _
  · exact smallB_zero _
theorem wrongF_len {B : Bl} : (wrongF B).1.length ≤ 1000000 ∧ (wrongF B).2.1.length ≤ 1000000 := by
  have h1 := few_getD (okD B) B.draws (min 3 B.draws.length + 1)
  have h2 := few_getD (okWt B) B.weighs (min 3 B.weighs.length + 1)
  unfold wrongF
  split
  · split
    · unfold numsOf fewD fewW
      rw [List.length_map, List.length_map]
      omega
    · exact ⟨Nat.zero_le _, Nat.zero_le _⟩
  · exact ⟨Nat.zero_le _, Nat.zero_le _⟩
set_option maxHeartbeats 8000000 in
theorem coreChanges_spec (B : Bl) (p : Pb) (x : Dr) (y : Wg) (l m : List Int) (al am : Option Addr) (cl cm : Nat) (H : List Row) (hdr : SlE H p.a1 cDr 4 B.draws) (hwg : SlE H p.a2 cDr 4 B.weighs) (hl : SlE H al cI 1 l) (hm : SlE H am cI 1 m) (hc1 : B.draws.length ≤ p.c1) (hc2 : B.weighs.length ≤ p.c2) :
    Fc Try.prog 3 [.agg (cBl B p).toArray, .agg (cDr x).toArray, .agg (cDr y).toArray, .slice al l.length cl, .slice am m.length cm] H (fun v _ => v = .bool true) := by
  refine Fc.mk (callable Try.call3) Try.func3 rfl Try.ntmps3 rfl ?_; dsimp only [fr]
  refine X.seq rfl ?_; refine X.region rfl (fun K hK => ?_); repeat' (first | (refine XO.op rfl ?_; (first | ((first | refine Xo.ng rfl ?_); (first | (refine Xg.ev (EvF.assign rfl rfl) rfl rfl ?_) | (refine Xg.st (StF.boxAgg rfl rfl) rfl rfl ?_; rintro _ _ ⟨bx, rfl, rfl⟩))))) | (refine XO.done rfl ?_; refine hK _ _ ?_; clear hK K))
  rename_i b5 b6
  rename Nat => b7
  repeat' (first | (refine XO.op rfl ?_; (first | ((first | refine Xo.ng rfl ?_ | (refine Xo.g rfl rfl ?_; with_reducible refine Xw.ff ?_)); (first | (refine Xg.call (EnF.st rfl (by (repeat (first | exact Args.nil | refine Args.cons rfl ?_)); done)) rfl rfl (greatB_spec B p _) ?_; rintro _ H9 ⟨rfl, hH9⟩; subst H9) | (refine Xg.ev (EvF.move rfl rfl) rfl rfl ?_) | (refine Xg.ev (EvF.assign rfl rfl) rfl rfl ?_) | (refine Xg.ev (EvF.pickT rfl rfl rfl) rfl rfl ?_) | (refine Xg.ev (EvF.pickF rfl rfl rfl) rfl rfl ?_) | (refine Xg.ev (EvF.cmp rfl rfl rfl rfl) rfl rfl ?_) | (refine Xg.ev (EvF.lenSlice rfl rfl (te rfl)) rfl rfl ?_) | (refine Xg.ev (EvF.loadV rfl rfl (LoadV.whole (te rfl) rfl (List.Mem.tail _ (List.Mem.tail _ (List.Mem.head _))) rfl)) rfl rfl ?_))) | (refine Xo.g rfl rfl ?_; (first | (with_reducible refine Xw.tf rfl rfl ?_) | (with_reducible refine Xw.case (fun h => ?_) (fun h => ?_) <;> simp only [h, decide_true, decide_false, Bool.not_true, Bool.not_false, and_self, and_true, true_and, and_false, false_and]))))) | (refine XO.done rfl ?_; refine hK _ _ ?_; clear hK K) | refine X.seq rfl ?_ | refine X.region rfl (fun K hK => ?_) | refine X.skip rfl ?_ | refine X.ret rfl ?_ | (refine X.ite rfl rfl (fun hc => ?_); (first | (with_reducible refine Xb.t hc ?_) | (with_reducible refine Xb.case hc (fun h => ?_) (fun h => ?_))) <;> clear hc))
  all_goals try exact ret_one (by first | exact .inr rfl | exact .inl rfl) Try.results3 rfl (List.Sublist.refl _) rfl
  have h1 : B.draws.length ≤ 1000 := by omega
  have h2 : B.weighs.length ≤ 1000 := by omega
  have hB : BlOk H B p := ⟨hdr, hwg, by omega, by omega⟩
  have hB3 : ∀ r1 r2 r3, BlOk (r1 :: r2 :: r3 :: H) B p := fun r1 r2 r3 => hB.sub (fun _ h => List.Mem.tail _ (List.Mem.tail _ (List.Mem.tail _ h)))
  have h7 : l.length ≤ 1000 := by omega
  have h8 : m.length ≤ 1000 := by omega
  obtain ⟨q1, q2⟩ := smallB_put x ⟨h1, h2⟩
  obtain ⟨q3, q4⟩ := smallB_wed y ⟨h1, h2⟩
  obtain ⟨q5, q6⟩ := smallB_str l m ⟨h1, h2⟩
  obtain ⟨w1, w2⟩ := wrongF_len (B := B)
  repeat' (first | (refine XO.op rfl ?_; (first | ((first | refine Xo.ng rfl ?_); (first | (refine Xg.call (EnF.st rfl (by (repeat (first | exact Args.nil | refine Args.cons rfl ?_)); done)) rfl rfl (twinB_spec B _ _ (hB3 _ _ _)) ?_; rintro _ _ ⟨t1, k1, t2, k2, rfl, rfl⟩) | (refine Xg.st (StF.buildNil rfl el55) rfl rfl ?_; rintro _ _ ⟨bz, rfl, rfl⟩) | (refine Xg.st (StF.appendSl (i := 0) (l := l) rfl el55 rfl rfl rfl (hl.sub (fun _ hm => by repeat (first | exact hm | apply List.Mem.tail))) (fun e _ => rfl) rfl (by decide) (by omega)) rfl rfl ?_; rintro _ _ ⟨bm, km, rfl, rfl⟩; dsimp only [List.eraseIdx]; simp only [Nat.zero_add, List.nil_append]) | (refine Xg.st (StF.appendSl (i := 0) (l := m) rfl el55 rfl rfl rfl (hm.sub (fun _ hm => by repeat (first | exact hm | apply List.Mem.tail))) (fun e _ => rfl) rfl (by decide) (by omega)) rfl rfl ?_; rintro _ _ ⟨bn, kn, rfl, rfl⟩; dsimp only [List.eraseIdx]; simp only [Nat.zero_add, List.nil_append]) | (refine Xg.ev (EvF.move rfl rfl) rfl rfl ?_) | (refine Xg.ev (EvF.assign rfl rfl) rfl rfl ?_) | (refine Xg.ev (EvF.loadV rfl rfl (LoadV.whole (te rfl) rfl (List.Mem.head _) rfl)) rfl rfl ?_) | (refine Xg.st (StF.alloc rfl Try.zeroValue27 rfl) rfl rfl ?_; rintro _ _ ⟨bx, rfl, rfl⟩) | (refine Xg.st0 (StF.storeAll (i := 0) rfl rfl rfl (te rfl) rfl rfl rfl rfl) rfl ?_; rintro _ _ ⟨rfl, rfl⟩; dsimp only [List.set]))))) | (refine XO.done rfl ?_; refine hK _ _ ?_; clear hK K) | refine X.seq rfl ?_ | refine X.region rfl (fun K hK => ?_))
  rename Nat => b11
  obtain ⟨T3, hT3⟩ : ∃ T, T = ⟨bn, 0, m.flatMap cI, some 3, kn * 1⟩ :: ⟨bm, 0, l.flatMap cI, some 3, km * 1⟩ :: rDraws B t1 k1 :: rWeighs B t2 k2 :: H := ⟨_, rfl⟩
  have hBo : BlOk T3 B (plB t1 k1 t2 k2) := by
    rw [hT3]
    exact ⟨ownSlB (fun _ => rfl) (List.Mem.tail _ (List.Mem.tail _ (List.Mem.head _))), ownSlB (fun _ => rfl) (List.Mem.tail _ (List.Mem.tail _ (List.Mem.tail _ (List.Mem.head _)))), by omega, by omega⟩
  have hBr : BlOk T3 B p := by rw [hT3]; exact hB.sub (fun _ h => List.Mem.tail _ (List.Mem.tail _ (List.Mem.tail _ (List.Mem.tail _ h))))
  have hll : SlE T3 al cI 1 l := by rw [hT3]; exact hl.sub (fun _ h => List.Mem.tail _ (List.Mem.tail _ (List.Mem.tail _ (List.Mem.tail _ h))))
  have hmm : SlE T3 am cI 1 m := by rw [hT3]; exact hm.sub (fun _ h => List.Mem.tail _ (List.Mem.tail _ (List.Mem.tail _ (List.Mem.tail _ h))))
  have hlm : SlE T3 (some ⟨bm, 0, none⟩) cI 1 l := by rw [hT3]; exact ownSlB (fun _ => rfl) (List.Mem.tail _ (List.Mem.head _))
  have hmn : SlE T3 (some ⟨bn, 0, none⟩) cI 1 m := by rw [hT3]; exact ownSlB (fun _ => rfl) (List.Mem.head _)
  refine xoPermH (H' := ⟨b11, 0, cBl B (plB t1 k1 t2 k2), some 27, 6⟩ :: ⟨b7, 0, cDr y, some 31, 4⟩ :: ⟨b6, 0, cDr x, some 29, 4⟩ :: ⟨b5, 0, cBl B p, some 27, 6⟩ :: T3) (by rw [hT3]; exact List.Perm.cons _ (List.perm_append_comm_assoc [_, _, _] [_, _, _, _] H)) ?_
  clear hT3
  repeat' (first | (refine XO.op rfl ?_; (first | ((first | refine Xo.ng rfl ?_); (first | (refine Xg.call (EnF.st rfl (by (repeat (first | exact Args.nil | refine Args.cons rfl ?_)); done)) rfl rfl (kwrong_spec B ⟨t1, 0, none⟩ k1 ⟨t2, 0, none⟩ k2 _ (hBo.sub (fun r h => by simp [h]))) ?_; rintro _ _ ⟨u1, v1, u2, v2, Zw, rfl, hw1, hw2, rfl⟩) | (refine Xg.ev (EvF.move rfl rfl) rfl rfl ?_) | (refine Xg.ev (EvF.assign rfl rfl) rfl rfl ?_) | (refine Xg.ev (EvF.extract rfl rfl rfl) rfl rfl ?_))))) | (refine XO.done rfl ?_; refine hK _ _ ?_; clear hK K) | refine X.seq rfl ?_ | refine X.region rfl (fun K hK => ?_))
  refine xoPermH (H' := ⟨b11, 0, cBl B (plB t1 k1 t2 k2), some 27, 6⟩ :: ⟨b7, 0, cDr y, some 31, 4⟩ :: ⟨b6, 0, cDr x, some 29, 4⟩ :: ⟨b5, 0, cBl B p, some 27, 6⟩ :: (Zw ++ T3)) (List.perm_append_comm_assoc [_, _, _, _] Zw _) ?_
  repeat' (first | (refine XO.op rfl ?_; (first | ((first | refine Xo.ng rfl ?_); (first | (refine Xg.call (EnF.st rfl (by (repeat (first | exact Args.nil | refine Args.cons rfl ?_)); done)) rfl rfl (refWrong_spec B p _ (hBr.sub (fun r h => by simp [h]))) ?_; rintro _ _ ⟨u3, v3, u4, v4, Zv, rfl, hv1, hv2, rfl⟩) | (refine Xg.ev (EvF.move rfl rfl) rfl rfl ?_) | (refine Xg.ev (EvF.assign rfl rfl) rfl rfl ?_) | (refine Xg.ev (EvF.loadV rfl rfl (LoadV.whole (te rfl) rfl (List.Mem.tail _ (List.Mem.tail _ (List.Mem.tail _ (List.Mem.head _)))) rfl)) rfl rfl ?_) | (refine Xg.ev (EvF.extract rfl rfl rfl) rfl rfl ?_))))) | (refine XO.done rfl ?_; refine hK _ _ ?_; clear hK K) | refine X.seq rfl ?_ | refine X.region rfl (fun K hK => ?_))
  refine xoPermH (H' := ⟨b11, 0, cBl B (plB t1 k1 t2 k2), some 27, 6⟩ :: ⟨b7, 0, cDr y, some 31, 4⟩ :: ⟨b6, 0, cDr x, some 29, 4⟩ :: ⟨b5, 0, cBl B p, some 27, 6⟩ :: (Zv ++ (Zw ++ T3))) (List.perm_append_comm_assoc [_, _, _, _] Zv _) ?_
  have g1 : SlE (⟨b11, 0, cBl B (plB t1 k1 t2 k2), some 27, 6⟩ :: ⟨b7, 0, cDr y, some 31, 4⟩ :: ⟨b6, 0, cDr x, some 29, 4⟩ :: ⟨b5, 0, cBl B p, some 27, 6⟩ :: (Zv ++ (Zw ++ T3))) u1 cI 1 (wrongF B).1 := hw1.sub (fun r h => by simp only [List.mem_append, List.mem_cons] at h ⊢; rcases h with h | h | h | h | h | h <;> simp [h])
  have g2 : SlE (⟨b11, 0, cBl B (plB t1 k1 t2 k2), some 27, 6⟩ :: ⟨b7, 0, cDr y, some 31, 4⟩ :: ⟨b6, 0, cDr x, some 29, 4⟩ :: ⟨b5, 0, cBl B p, some 27, 6⟩ :: (Zv ++ (Zw ++ T3))) u2 cI 1 (wrongF B).2.1 := hw2.sub (fun r h => by simp only [List.mem_append, List.mem_cons] at h ⊢; rcases h with h | h | h | h | h | h <;> simp [h])
  have g3 : SlE (⟨b11, 0, cBl B (plB t1 k1 t2 k2), some 27, 6⟩ :: ⟨b7, 0, cDr y, some 31, 4⟩ :: ⟨b6, 0, cDr x, some 29, 4⟩ :: ⟨b5, 0, cBl B p, some 27, 6⟩ :: (Zv ++ (Zw ++ T3))) u3 cI 1 (wrongF B).1 := hv1.sub (fun r h => by simp only [List.mem_append, List.mem_cons] at h ⊢; rcases h with h | h | h | h | h | h | h <;> simp [h])
  have g4 : SlE (⟨b11, 0, cBl B (plB t1 k1 t2 k2), some 27, 6⟩ :: ⟨b7, 0, cDr y, some 31, 4⟩ :: ⟨b6, 0, cDr x, some 29, 4⟩ :: ⟨b5, 0, cBl B p, some 27, 6⟩ :: (Zv ++ (Zw ++ T3))) u4 cI 1 (wrongF B).2.1 := hv2.sub (fun r h => by simp only [List.mem_append, List.mem_cons] at h ⊢; rcases h with h | h | h | h | h | h | h <;> simp [h])
  repeat' (first | (refine XO.op rfl ?_; (first | ((first | refine Xo.ng rfl ?_ | (refine Xo.g rfl rfl ?_; with_reducible refine Xw.ff ?_)); (first | (refine Xg.ev (cmpSelfN rfl rfl rfl) rfl rfl ?_) | (refine Xg.call (EnF.st rfl (Args.cons rfl (Args.cons rfl Args.nil))) rfl rfl (sameInts3_self (wrongF B).1 u1 u3 v1 v3 _ g1 g3 (by omega)) ?_; rintro _ H9 ⟨rfl, hH9⟩; subst H9) | (refine Xg.call (EnF.st rfl (Args.cons rfl (Args.cons rfl Args.nil))) rfl rfl (sameInts3_self (wrongF B).2.1 u2 u4 v2 v4 _ g2 g4 (by omega)) ?_; rintro _ H9 ⟨rfl, hH9⟩; subst H9) | (refine Xg.ev (EvF.move rfl rfl) rfl rfl ?_) | (refine Xg.ev (EvF.assign rfl rfl) rfl rfl ?_) | (refine Xg.ev (EvF.pickT rfl rfl rfl) rfl rfl ?_) | (refine Xg.ev (EvF.pickF rfl rfl rfl) rfl rfl ?_) | (refine Xg.ev (EvF.not rfl rfl) rfl rfl ?_) | (refine Xg.ev (EvF.loadV rfl rfl (LoadV.whole (te rfl) rfl (List.Mem.head _) rfl)) rfl rfl ?_) | (refine Xg.ev (EvF.loadV rfl rfl (LoadV.whole (te rfl) rfl (List.Mem.tail _ (List.Mem.tail _ (List.Mem.head _))) rfl)) rfl rfl ?_))) | (refine Xo.g rfl rfl ?_; (first | (with_reducible refine Xw.tf rfl rfl ?_) | (with_reducible refine Xw.caseB (fun h => ?_) (fun h => ?_) <;> simp only [h, decide_true, decide_false, Bool.not_true, Bool.not_false, and_self, and_true, true_and, and_false, false_and]))))) | (refine XO.done rfl ?_; refine hK _ _ ?_; clear hK K) | refine X.seq rfl ?_ | refine X.region rfl (fun K hK => ?_) | refine X.skip rfl ?_ | refine X.ret rfl ?_ | (refine X.ite rfl rfl (fun hc => ?_); (first | (with_reducible refine Xb.t hc ?_) | (with_reducible refine Xb.f hc ?_)) <;> clear hc))
  all_goals try (exfalso; contradiction)
  clear g1 g2 g3 g4 hw1 hw2 hv1 hv2
  refine xoWeakH (H' := ⟨b11, 0, cBl B (plB t1 k1 t2 k2), some 27, 6⟩ :: ⟨b7, 0, cDr y, some 31, 4⟩ :: ⟨b6, 0, cDr x, some 29, 4⟩ :: ⟨b5, 0, cBl B p, some 27, 6⟩ :: T3) ((List.Sublist.cons_cons _ (List.Sublist.cons_cons _ (List.Sublist.cons_cons _ (List.Sublist.cons_cons _ ((List.sublist_append_right Zw _).trans (List.sublist_append_right Zv _))))))) ?_
  repeat' (first | (refine XO.op rfl ?_; (first | ((first | refine Xo.ng rfl ?_); (first | (refine Xg.call (EnF.st rfl (by (repeat (first | exact Args.nil | refine Args.cons rfl ?_)); done)) rfl rfl (putBl_spec B x ⟨t1, 0, none⟩ k1 ⟨t2, 0, none⟩ k2 _ (hBo.sub (fun r h => by simp [h]))) ?_; rintro _ _ ⟨pa, Za, rfl, rfl, ha⟩; dsimp only [tupB]) | (refine Xg.ev (EvF.move rfl rfl) rfl rfl ?_) | (refine Xg.ev (EvF.assign rfl rfl) rfl rfl ?_) | (refine Xg.ev (EvF.extract rfl rfl rfl) rfl rfl ?_) | (refine Xg.st (StF.alloc rfl Try.zeroValue27 rfl) rfl rfl ?_; rintro _ _ ⟨bx, rfl, rfl⟩) | (refine Xg.st0 (StF.storeAll (i := 0) rfl rfl rfl (te rfl) rfl rfl rfl rfl) rfl ?_; rintro _ _ ⟨rfl, rfl⟩; dsimp only [List.set]))))) | (refine XO.done rfl ?_; refine hK _ _ ?_; clear hK K) | refine X.seq rfl ?_ | refine X.region rfl (fun K hK => ?_))
  rename Nat => b20
  refine xoPermH (H' := ⟨b20, 0, cBl (bputF B x).1 pa, some 27, 6⟩ :: ⟨b11, 0, cBl B (plB t1 k1 t2 k2), some 27, 6⟩ :: ⟨b7, 0, cDr y, some 31, 4⟩ :: ⟨b6, 0, cDr x, some 29, 4⟩ :: ⟨b5, 0, cBl B p, some 27, 6⟩ :: (Za ++ T3)) (List.Perm.cons _ (List.perm_append_comm_assoc [_, _, _, _] Za _)) ?_
  repeat' (first | (refine XO.op rfl ?_; (first | ((first | refine Xo.ng rfl ?_); (first | (refine Xg.call (EnF.st rfl (by (repeat (first | exact Args.nil | refine Args.cons rfl ?_)); done)) rfl rfl (refPut3_spec B p x _ (hBr.sub (fun r h => by simp [h])) hc1) ?_; rintro _ _ ⟨pb, Zb, rfl, rfl, hb⟩; dsimp only [tupB]) | (refine Xg.ev (EvF.move rfl rfl) rfl rfl ?_) | (refine Xg.ev (EvF.assign rfl rfl) rfl rfl ?_) | (refine Xg.ev (EvF.loadV rfl rfl (LoadV.whole (te rfl) rfl (List.Mem.tail _ (List.Mem.tail _ (List.Mem.tail _ (List.Mem.head _)))) rfl)) rfl rfl ?_) | (refine Xg.ev (EvF.loadV rfl rfl (LoadV.whole (te rfl) rfl (List.Mem.tail _ (List.Mem.tail _ (List.Mem.tail _ (List.Mem.tail _ (List.Mem.head _))))) rfl)) rfl rfl ?_) | (refine Xg.ev (EvF.extract rfl rfl rfl) rfl rfl ?_) | (refine Xg.st (StF.alloc rfl Try.zeroValue27 rfl) rfl rfl ?_; rintro _ _ ⟨bx, rfl, rfl⟩) | (refine Xg.st0 (StF.storeAll (i := 0) rfl rfl rfl (te rfl) rfl rfl rfl rfl) rfl ?_; rintro _ _ ⟨rfl, rfl⟩; dsimp only [List.set]))))) | (refine XO.done rfl ?_; refine hK _ _ ?_; clear hK K) | refine X.seq rfl ?_ | refine X.region rfl (fun K hK => ?_))
  rename Nat => b21
  refine xoPermH (H' := ⟨b21, 0, cBl (bputF B x).1 pb, some 27, 6⟩ :: ⟨b20, 0, cBl (bputF B x).1 pa, some 27, 6⟩ :: ⟨b11, 0, cBl B (plB t1 k1 t2 k2), some 27, 6⟩ :: ⟨b7, 0, cDr y, some 31, 4⟩ :: ⟨b6, 0, cDr x, some 29, 4⟩ :: ⟨b5, 0, cBl B p, some 27, 6⟩ :: (Zb ++ (Za ++ T3))) (List.Perm.cons _ (List.perm_append_comm_assoc [_, _, _, _, _] Zb _)) ?_
  repeat' (first | (refine XO.op rfl ?_; (first | ((first | refine Xo.ng rfl ?_); (first | (refine Xg.call (EnF.st rfl (by (repeat (first | exact Args.nil | refine Args.cons rfl ?_)); done)) rfl rfl (wedBl_spec B y ⟨t1, 0, none⟩ k1 ⟨t2, 0, none⟩ k2 _ (hBo.sub (fun r h => by simp [h]))) ?_; rintro _ _ ⟨pc, Zc, rfl, rfl, hc⟩; dsimp only [tupB]) | (refine Xg.ev (EvF.move rfl rfl) rfl rfl ?_) | (refine Xg.ev (EvF.assign rfl rfl) rfl rfl ?_) | (refine Xg.ev (EvF.loadV rfl rfl (LoadV.whole (te rfl) rfl (List.Mem.tail _ (List.Mem.tail _ (List.Mem.head _))) rfl)) rfl rfl ?_) | (refine Xg.ev (EvF.loadV rfl rfl (LoadV.whole (te rfl) rfl (List.Mem.tail _ (List.Mem.tail _ (List.Mem.tail _ (List.Mem.head _)))) rfl)) rfl rfl ?_) | (refine Xg.ev (EvF.extract rfl rfl rfl) rfl rfl ?_) | (refine Xg.st (StF.alloc rfl Try.zeroValue27 rfl) rfl rfl ?_; rintro _ _ ⟨bx, rfl, rfl⟩) | (refine Xg.st0 (StF.storeAll (i := 0) rfl rfl rfl (te rfl) rfl rfl rfl rfl) rfl ?_; rintro _ _ ⟨rfl, rfl⟩; dsimp only [List.set]))))) | (refine XO.done rfl ?_; refine hK _ _ ?_; clear hK K) | refine X.seq rfl ?_ | refine X.region rfl (fun K hK => ?_))
  rename Nat => b22
  refine xoPermH (H' := ⟨b22, 0, cBl (bwedF B y).1 pc, some 27, 6⟩ :: ⟨b21, 0, cBl (bputF B x).1 pb, some 27, 6⟩ :: ⟨b20, 0, cBl (bputF B x).1 pa, some 27, 6⟩ :: ⟨b11, 0, cBl B (plB t1 k1 t2 k2), some 27, 6⟩ :: ⟨b7, 0, cDr y, some 31, 4⟩ :: ⟨b6, 0, cDr x, some 29, 4⟩ :: ⟨b5, 0, cBl B p, some 27, 6⟩ :: (Zc ++ (Zb ++ (Za ++ T3)))) (List.Perm.cons _ (List.perm_append_comm_assoc [_, _, _, _, _, _] Zc _)) ?_
  repeat' (first | (refine XO.op rfl ?_; (first | ((first | refine Xo.ng rfl ?_); (first | (refine Xg.call (EnF.st rfl (by (repeat (first | exact Args.nil | refine Args.cons rfl ?_)); done)) rfl rfl (refWed3_spec B p y _ (hBr.sub (fun r h => by simp [h])) hc2) ?_; rintro _ _ ⟨pd, Zd, rfl, rfl, hd⟩; dsimp only [tupB]) | (refine Xg.ev (EvF.move rfl rfl) rfl rfl ?_) | (refine Xg.ev (EvF.assign rfl rfl) rfl rfl ?_) | (refine Xg.ev (EvF.loadV rfl rfl (LoadV.whole (te rfl) rfl (List.Mem.tail _ (List.Mem.tail _ (List.Mem.tail _ (List.Mem.tail _ (List.Mem.head _))))) rfl)) rfl rfl ?_) | (refine Xg.ev (EvF.loadV rfl rfl (LoadV.whole (te rfl) rfl (List.Mem.tail _ (List.Mem.tail _ (List.Mem.tail _ (List.Mem.tail _ (List.Mem.tail _ (List.Mem.tail _ (List.Mem.head _))))))) rfl)) rfl rfl ?_) | (refine Xg.ev (EvF.extract rfl rfl rfl) rfl rfl ?_) | (refine Xg.st (StF.alloc rfl Try.zeroValue27 rfl) rfl rfl ?_; rintro _ _ ⟨bx, rfl, rfl⟩) | (refine Xg.st0 (StF.storeAll (i := 0) rfl rfl rfl (te rfl) rfl rfl rfl rfl) rfl ?_; rintro _ _ ⟨rfl, rfl⟩; dsimp only [List.set]))))) | (refine XO.done rfl ?_; refine hK _ _ ?_; clear hK K) | refine X.seq rfl ?_ | refine X.region rfl (fun K hK => ?_))
  rename Nat => b24
  refine xoPermH (H' := ⟨b24, 0, cBl (bwedF B y).1 pd, some 27, 6⟩ :: ⟨b22, 0, cBl (bwedF B y).1 pc, some 27, 6⟩ :: ⟨b21, 0, cBl (bputF B x).1 pb, some 27, 6⟩ :: ⟨b20, 0, cBl (bputF B x).1 pa, some 27, 6⟩ :: ⟨b11, 0, cBl B (plB t1 k1 t2 k2), some 27, 6⟩ :: ⟨b7, 0, cDr y, some 31, 4⟩ :: ⟨b6, 0, cDr x, some 29, 4⟩ :: ⟨b5, 0, cBl B p, some 27, 6⟩ :: (Zd ++ (Zc ++ (Zb ++ (Za ++ T3))))) (List.Perm.cons _ (List.perm_append_comm_assoc [_, _, _, _, _, _, _] Zd _)) ?_
  repeat' (first | (refine XO.op rfl ?_; (first | ((first | refine Xo.ng rfl ?_); (first | (refine Xg.call (EnF.st rfl (by (repeat (first | exact Args.nil | refine Args.cons rfl ?_)); done)) rfl rfl (strB_spec B l m (some ⟨bm, 0, none⟩) (some ⟨bn, 0, none⟩) km kn ⟨t1, 0, none⟩ k1 ⟨t2, 0, none⟩ k2 _ (hBo.sub (fun r h => by simp [h])) (hlm.sub (fun r h => by simp [h])) (by omega) (hmn.sub (fun r h => by simp [h])) (by omega)) ?_; rintro _ _ ⟨pe, Ze, rfl, rfl, he⟩; dsimp only [tupB]) | (refine Xg.ev (EvF.move rfl rfl) rfl rfl ?_) | (refine Xg.ev (EvF.assign rfl rfl) rfl rfl ?_) | (refine Xg.ev (EvF.loadV rfl rfl (LoadV.whole (te rfl) rfl (List.Mem.tail _ (List.Mem.tail _ (List.Mem.tail _ (List.Mem.tail _ (List.Mem.head _))))) rfl)) rfl rfl ?_) | (refine Xg.ev (EvF.extract rfl rfl rfl) rfl rfl ?_) | (refine Xg.st (StF.alloc rfl Try.zeroValue27 rfl) rfl rfl ?_; rintro _ _ ⟨bx, rfl, rfl⟩) | (refine Xg.st0 (StF.storeAll (i := 0) rfl rfl rfl (te rfl) rfl rfl rfl rfl) rfl ?_; rintro _ _ ⟨rfl, rfl⟩; dsimp only [List.set]))))) | (refine XO.done rfl ?_; refine hK _ _ ?_; clear hK K) | refine X.seq rfl ?_ | refine X.region rfl (fun K hK => ?_))
  rename Nat => b26
  refine xoPermH (H' := ⟨b26, 0, cBl (bstrF B l m).1 pe, some 27, 6⟩ :: ⟨b24, 0, cBl (bwedF B y).1 pd, some 27, 6⟩ :: ⟨b22, 0, cBl (bwedF B y).1 pc, some 27, 6⟩ :: ⟨b21, 0, cBl (bputF B x).1 pb, some 27, 6⟩ :: ⟨b20, 0, cBl (bputF B x).1 pa, some 27, 6⟩ :: ⟨b11, 0, cBl B (plB t1 k1 t2 k2), some 27, 6⟩ :: ⟨b7, 0, cDr y, some 31, 4⟩ :: ⟨b6, 0, cDr x, some 29, 4⟩ :: ⟨b5, 0, cBl B p, some 27, 6⟩ :: (Ze ++ (Zd ++ (Zc ++ (Zb ++ (Za ++ T3)))))) (List.Perm.cons _ (List.perm_append_comm_assoc [_, _, _, _, _, _, _, _] Ze _)) ?_
  repeat' (first | (refine XO.op rfl ?_; (first | ((first | refine Xo.ng rfl ?_); (first | (refine Xg.call (EnF.st rfl (by (repeat (first | exact Args.nil | refine Args.cons rfl ?_)); done)) rfl rfl (refStrB_spec B p l m al am cl cm _ (hBr.sub (fun r h => by simp [h])) (hll.sub (fun r h => by simp [h])) (by omega) (hmm.sub (fun r h => by simp [h])) (by omega)) ?_; rintro _ _ ⟨pf, Zf, rfl, rfl, hf⟩; dsimp only [tupB]) | (refine Xg.ev (EvF.loadV rfl rfl (LoadV.whole (te rfl) rfl (List.Mem.tail _ (List.Mem.tail _ (List.Mem.tail _ (List.Mem.tail _ (List.Mem.tail _ (List.Mem.tail _ (List.Mem.tail _ (List.Mem.tail _ (List.Mem.head _))))))))) rfl)) rfl rfl ?_) | (refine Xg.ev (EvF.move rfl rfl) rfl rfl ?_) | (refine Xg.ev (EvF.assign rfl rfl) rfl rfl ?_) | (refine Xg.ev (EvF.extract rfl rfl rfl) rfl rfl ?_) | (refine Xg.st (StF.alloc rfl Try.zeroValue27 rfl) rfl rfl ?_; rintro _ _ ⟨bx, rfl, rfl⟩) | (refine Xg.st0 (StF.storeAll (i := 0) rfl rfl rfl (te rfl) rfl rfl rfl rfl) rfl ?_; rintro _ _ ⟨rfl, rfl⟩; dsimp only [List.set]))))) | (refine XO.done rfl ?_; refine hK _ _ ?_; clear hK K) | refine X.seq rfl ?_ | refine X.region rfl (fun K hK => ?_))
  rename Nat => b28
  refine xoPermH (H' := ⟨b28, 0, cBl (bstrF B l m).1 pf, some 27, 6⟩ :: ⟨b26, 0, cBl (bstrF B l m).1 pe, some 27, 6⟩ :: ⟨b24, 0, cBl (bwedF B y).1 pd, some 27, 6⟩ :: ⟨b22, 0, cBl (bwedF B y).1 pc, some 27, 6⟩ :: ⟨b21, 0, cBl (bputF B x).1 pb, some 27, 6⟩ :: ⟨b20, 0, cBl (bputF B x).1 pa, some 27, 6⟩ :: ⟨b11, 0, cBl B (plB t1 k1 t2 k2), some 27, 6⟩ :: ⟨b7, 0, cDr y, some 31, 4⟩ :: ⟨b6, 0, cDr x, some 29, 4⟩ :: ⟨b5, 0, cBl B p, some 27, 6⟩ :: (Zf ++ (Ze ++ (Zd ++ (Zc ++ (Zb ++ (Za ++ T3))))))) (List.Perm.cons _ (List.perm_append_comm_assoc [_, _, _, _, _, _, _, _, _] Zf _)) ?_
  have oa := ha.ok (by omega) (by omega)
  have oc := hc.ok (by omega) (by omega)
  have oe := he.ok (by omega) (by omega)
  have e1 : ∀ S, (∀ r, r ∈ Za ∨ r ∈ Zb → r ∈ S) → Fc Try.prog 15 [.agg (cBl (bputF B x).1 pa).toArray, .agg (cBl (bputF B x).1 pb).toArray] S (fun v H' => v = .bool true ∧ H' = S) := fun S hS => sameB_self _ _ _ _ (oa.sub (fun r h => hS r (.inl h))) (hb.sub (fun r h => hS r (.inr h)))
  have e2 : ∀ S, (∀ r, r ∈ Zc ∨ r ∈ Zd → r ∈ S) → Fc Try.prog 15 [.agg (cBl (bwedF B y).1 pc).toArray, .agg (cBl (bwedF B y).1 pd).toArray] S (fun v H' => v = .bool true ∧ H' = S) := fun S hS => sameB_self _ _ _ _ (oc.sub (fun r h => hS r (.inl h))) (hd.sub (fun r h => hS r (.inr h)))
  have e3 : ∀ S, (∀ r, r ∈ Ze ∨ r ∈ Zf → r ∈ S) → Fc Try.prog 15 [.agg (cBl (bstrF B l m).1 pe).toArray, .agg (cBl (bstrF B l m).1 pf).toArray] S (fun v H' => v = .bool true ∧ H' = S) := fun S hS => sameB_self _ _ _ _ (oe.sub (fun r h => hS r (.inl h))) (hf.sub (fun r h => hS r (.inr h)))
  repeat' (first | (refine XO.op rfl ?_; (first | ((first | refine Xo.ng rfl ?_); (first | (refine Xg.ev (EvF.loadV rfl rfl (LoadV.whole (te rfl) rfl (List.Mem.tail _ (List.Mem.tail _ (List.Mem.tail _ (List.Mem.tail _ (List.Mem.head _))))) rfl)) rfl rfl ?_) | (refine Xg.ev (EvF.loadV rfl rfl (LoadV.whole (te rfl) rfl (List.Mem.tail _ (List.Mem.tail _ (List.Mem.tail _ (List.Mem.tail _ (List.Mem.tail _ (List.Mem.head _)))))) rfl)) rfl rfl ?_))))))
  refine XO.op rfl ?_
  refine Xo.ng rfl ?_
  refine Xg.call (EnF.st rfl (Args.cons rfl (Args.cons rfl Args.nil))) rfl rfl (e1 _ (fun r h => by rcases h with h | h <;> simp [h])) ?_
  rintro _ H9 ⟨rfl, hH9⟩
  subst H9
  repeat' (first | (refine XO.op rfl ?_; (first | ((first | refine Xo.ng rfl ?_ | (refine Xo.g rfl rfl ?_; with_reducible refine Xw.tt ?_)); (first | (refine Xg.ev (cmpSelfK rfl rfl rfl) rfl rfl ?_) | (refine Xg.ev (EvF.move rfl rfl) rfl rfl ?_) | (refine Xg.ev (EvF.pickT rfl rfl rfl) rfl rfl ?_) | (refine Xg.ev (EvF.loadV rfl rfl (LoadV.whole (te rfl) rfl (List.Mem.tail _ (List.Mem.tail _ (List.Mem.head _))) rfl)) rfl rfl ?_) | (refine Xg.ev (EvF.loadV rfl rfl (LoadV.whole (te rfl) rfl (List.Mem.tail _ (List.Mem.tail _ (List.Mem.tail _ (List.Mem.head _)))) rfl)) rfl rfl ?_))))))
  refine XO.op rfl ?_
  refine Xo.g rfl rfl ?_
  refine Xw.tt ?_
  refine Xg.call (EnF.st rfl (Args.cons rfl (Args.cons rfl Args.nil))) rfl rfl (e2 _ (fun r h => by rcases h with h | h <;> simp [h])) ?_
  rintro _ H9 ⟨rfl, hH9⟩
  subst H9
  repeat' (first | (refine XO.op rfl ?_; (first | ((first | refine Xo.ng rfl ?_ | (refine Xo.g rfl rfl ?_; with_reducible refine Xw.tt ?_)); (first | (refine Xg.ev (cmpSelfK rfl rfl rfl) rfl rfl ?_) | (refine Xg.ev (EvF.move rfl rfl) rfl rfl ?_) | (refine Xg.ev (EvF.pickT rfl rfl rfl) rfl rfl ?_) | (refine Xg.ev (EvF.loadV rfl rfl (LoadV.whole (te rfl) rfl (List.Mem.head _) rfl)) rfl rfl ?_) | (refine Xg.ev (EvF.loadV rfl rfl (LoadV.whole (te rfl) rfl (List.Mem.tail _ (List.Mem.head _)) rfl)) rfl rfl ?_))))))
  refine XO.op rfl ?_
  refine Xo.g rfl rfl ?_
  refine Xw.tt ?_
  refine Xg.call (EnF.st rfl (Args.cons rfl (Args.cons rfl Args.nil))) rfl rfl (e3 _ (fun r h => by rcases h with h | h <;> simp [h])) ?_
  rintro _ H9 ⟨rfl, hH9⟩
  subst H9
  repeat' (first | (refine XO.op rfl ?_; (first | ((first | refine Xo.ng rfl ?_ | (refine Xo.g rfl rfl ?_; with_reducible refine Xw.tt ?_)); (first | (refine Xg.ev (cmpSelfK rfl rfl rfl) rfl rfl ?_) | (refine Xg.ev (EvF.move rfl rfl) rfl rfl ?_) | (refine Xg.ev (EvF.assign rfl rfl) rfl rfl ?_) | (refine Xg.ev (EvF.pickT rfl rfl rfl) rfl rfl ?_) | (refine Xg.ev (EvF.loadV rfl rfl (LoadV.whole (te rfl) rfl (List.Mem.tail _ (List.Mem.tail _ (List.Mem.tail _ (List.Mem.tail _ (List.Mem.tail _ (List.Mem.head _)))))) rfl)) rfl rfl ?_))))) | (refine XO.done rfl ?_; refine hK _ _ ?_; clear hK K) | refine X.seq rfl ?_ | refine X.region rfl (fun K hK => ?_))
  have s1 : ((Ze ++ Zc) ++ (Za ++ T3)).Sublist (Zf ++ (Ze ++ (Zd ++ (Zc ++ (Zb ++ (Za ++ T3)))))) := by
    rw [List.append_assoc]
    exact (List.Sublist.append (List.Sublist.refl Ze) ((List.Sublist.append (List.Sublist.refl Zc) (List.sublist_append_right Zb _)).trans (List.sublist_append_right Zd _))).trans (List.sublist_append_right Zf _)
  refine xoWeakH (H' := ⟨b26, 0, cBl (bstrF B l m).1 pe, some 27, 6⟩ :: ⟨b22, 0, cBl (bwedF B y).1 pc, some 27, 6⟩ :: ⟨b20, 0, cBl (bputF B x).1 pa, some 27, 6⟩ :: ⟨b11, 0, cBl B (plB t1 k1 t2 k2), some 27, 6⟩ :: ⟨b5, 0, cBl B p, some 27, 6⟩ :: ((Ze ++ Zc) ++ (Za ++ T3))) (List.Sublist.cons _ (List.Sublist.cons_cons _ (List.Sublist.cons _ (List.Sublist.cons_cons _ (List.Sublist.cons _ (List.Sublist.cons_cons _ (List.Sublist.cons_cons _ (List.Sublist.cons _ (List.Sublist.cons _ (List.Sublist.cons_cons _ s1)))))))))) ?_
  refine xoPermH (H' := Za ++ (⟨b26, 0, cBl (bstrF B l m).1 pe, some 27, 6⟩ :: ⟨b22, 0, cBl (bwedF B y).1 pc, some 27, 6⟩ :: ⟨b20, 0, cBl (bputF B x).1 pa, some 27, 6⟩ :: ⟨b11, 0, cBl B (plB t1 k1 t2 k2), some 27, 6⟩ :: ⟨b5, 0, cBl B p, some 27, 6⟩ :: ((Ze ++ Zc) ++ T3))) (perm1K (α := Row) [⟨b26, 0, cBl (bstrF B l m).1 pe, some 27, 6⟩, ⟨b22, 0, cBl (bwedF B y).1 pc, some 27, 6⟩, ⟨b20, 0, cBl (bputF B x).1 pa, some 27, 6⟩, ⟨b11, 0, cBl B (plB t1 k1 t2 k2), some 27, 6⟩, ⟨b5, 0, cBl B p, some 27, 6⟩] (Ze ++ Zc) Za T3) ?_
  repeat' (first | (refine XO.op rfl ?_; (first | ((first | refine Xo.ng rfl ?_); (first | (refine Xg.call (EnF.st rfl (by (repeat (first | exact Args.nil | refine Args.cons rfl ?_)); done)) rfl rfl (spoilOwnB ha (by omega) (by omega) _) ?_; rintro _ H9 ⟨rfl, hH9⟩; subst H9) | (refine Xg.ev (EvF.loadV rfl rfl (LoadV.whole (te rfl) rfl (List.Mem.tail _ (List.Mem.head _)) rfl)) rfl rfl ?_))))) | (refine XO.done rfl ?_; refine hK _ _ ?_; clear hK K) | refine X.seq rfl ?_ | refine X.region rfl (fun K hK => ?_))
  refine xoPermH (H' := Zc ++ (⟨b26, 0, cBl (bstrF B l m).1 pe, some 27, 6⟩ :: ⟨b22, 0, cBl (bwedF B y).1 pc, some 27, 6⟩ :: ⟨b20, 0, cBl (bputF B x).1 pa, some 27, 6⟩ :: ⟨b11, 0, cBl B (plB t1 k1 t2 k2), some 27, 6⟩ :: ⟨b5, 0, cBl B p, some 27, 6⟩ :: (Ze ++ T3))) (by rw [List.append_assoc]; exact perm1K (α := Row) [⟨b26, 0, cBl (bstrF B l m).1 pe, some 27, 6⟩, ⟨b22, 0, cBl (bwedF B y).1 pc, some 27, 6⟩, ⟨b20, 0, cBl (bputF B x).1 pa, some 27, 6⟩, ⟨b11, 0, cBl B (plB t1 k1 t2 k2), some 27, 6⟩, ⟨b5, 0, cBl B p, some 27, 6⟩] Ze Zc T3) ?_
  repeat' (first | (refine XO.op rfl ?_; (first | ((first | refine Xo.ng rfl ?_); (first | (refine Xg.call (EnF.st rfl (by (repeat (first | exact Args.nil | refine Args.cons rfl ?_)); done)) rfl rfl (spoilOwnB hc (by omega) (by omega) _) ?_; rintro _ H9 ⟨rfl, hH9⟩; subst H9) | (refine Xg.ev (EvF.loadV rfl rfl (LoadV.whole (te rfl) rfl (List.Mem.head _) rfl)) rfl rfl ?_))))) | (refine XO.done rfl ?_; refine hK _ _ ?_; clear hK K) | refine X.seq rfl ?_ | refine X.region rfl (fun K hK => ?_))
  refine xoPermH (H' := Ze ++ (⟨b26, 0, cBl (bstrF B l m).1 pe, some 27, 6⟩ :: ⟨b22, 0, cBl (bwedF B y).1 pc, some 27, 6⟩ :: ⟨b20, 0, cBl (bputF B x).1 pa, some 27, 6⟩ :: ⟨b11, 0, cBl B (plB t1 k1 t2 k2), some 27, 6⟩ :: ⟨b5, 0, cBl B p, some 27, 6⟩ :: T3)) (List.perm_append_comm_assoc (α := Row) Ze [⟨b26, 0, cBl (bstrF B l m).1 pe, some 27, 6⟩, ⟨b22, 0, cBl (bwedF B y).1 pc, some 27, 6⟩, ⟨b20, 0, cBl (bputF B x).1 pa, some 27, 6⟩, ⟨b11, 0, cBl B (plB t1 k1 t2 k2), some 27, 6⟩, ⟨b5, 0, cBl B p, some 27, 6⟩] T3) ?_
  repeat' (first | (refine XO.op rfl ?_; (first | ((first | refine Xo.ng rfl ?_ | (refine Xo.g rfl rfl ?_; with_reducible refine Xw.tt ?_)); (first | (refine Xg.call (EnF.st rfl (by (repeat (first | exact Args.nil | refine Args.cons rfl ?_)); done)) rfl rfl (spoilOwnB he (by omega) (by omega) _) ?_; rintro _ H9 ⟨rfl, hH9⟩; subst H9) | (refine Xg.call (EnF.st rfl (by (repeat (first | exact Args.nil | refine Args.cons rfl ?_)); done)) rfl rfl (sameB_self B _ _ _ (hBo.sub (fun r h => by simp [h])) (hBr.sub (fun r h => by simp [h]))) ?_; rintro _ H9 ⟨rfl, hH9⟩; subst H9) | (refine Xg.call (EnF.st rfl (Args.cons rfl (Args.cons rfl Args.nil))) rfl rfl (sameInts3_self l (some ⟨bm, 0, none⟩) al km cl _ (hlm.sub (fun r h => by simp [h])) (hll.sub (fun r h => by simp [h])) (by omega)) ?_; rintro _ H9 ⟨rfl, hH9⟩; subst H9) | (refine Xg.call (EnF.st rfl (Args.cons rfl (Args.cons rfl Args.nil))) rfl rfl (sameInts3_self m (some ⟨bn, 0, none⟩) am kn cm _ (hmn.sub (fun r h => by simp [h])) (hmm.sub (fun r h => by simp [h])) (by omega)) ?_; rintro _ H9 ⟨rfl, hH9⟩; subst H9) | (refine Xg.ev (EvF.move rfl rfl) rfl rfl ?_) | (refine Xg.ev (EvF.assign rfl rfl) rfl rfl ?_) | (refine Xg.ev (EvF.pickT rfl rfl rfl) rfl rfl ?_) | (refine Xg.ev (EvF.loadV rfl rfl (LoadV.whole (te rfl) rfl (List.Mem.tail _ (List.Mem.tail _ (List.Mem.tail _ (List.Mem.head _)))) rfl)) rfl rfl ?_) | (refine Xg.ev (EvF.loadV rfl rfl (LoadV.whole (te rfl) rfl (List.Mem.tail _ (List.Mem.tail _ (List.Mem.tail _ (List.Mem.tail _ (List.Mem.head _))))) rfl)) rfl rfl ?_))))) | (refine XO.done rfl ?_; refine hK _ _ ?_; clear hK K) | refine X.seq rfl ?_ | refine X.region rfl (fun K hK => ?_) | refine X.ret rfl ?_)
  exact ret_one (by first | exact .inr rfl | exact .inl rfl) Try.results3 rfl (List.Sublist.refl _) rfl
end Go.Proofs.Ytoflnjgfikchjaa
end
section
set_option linter.unusedVariables false
namespace Go.Proofs.Ytoflnjgfikchjaa
open Go Go.Fw Go.ChangeShapes Go.WideShapes
set_option maxRecDepth 10000
instance : Inhabited Sp := ⟨⟨0, 0⟩⟩
instance : Inhabited Bx := ⟨⟨0, 0⟩⟩
instance : Inhabited Mt := ⟨⟨0, 0, 0, 0, 0, 0⟩⟩
def w64 (n : Int) : Prop := (Lit.int .i64 n).wf = true
section
variable {H : Type} {enc : TypeId × Value → H} {w : World} {base : Nat} {spare : Nat → Bool} {held : Bool} {fuel : Nat} {cs : List Value} {x : DataW H × List MemPlace}
theorem open_i (h : DataW.trod enc Try.prog w base spare held fuel 3 cs = some x) : ∃ q : Int, cs = cI q ∧ w64 q := trod_i (te rfl) h
theorem open_sp (h : DataW.trod enc Try.prog w base spare held fuel 23 cs = some x) : ∃ q : Sp, cs = cSp q ∧ (w64 q.lo ∧ w64 q.hi) := by
  obtain ⟨hl, hf⟩ := trod_st (te rfl) h
  obtain ⟨n0, y0, h0⟩ := hf 0 0 3 _ rfl (te rfl)
  obtain ⟨n1, y1, h1⟩ := hf 1 1 3 _ rfl (te rfl)
  match cs, hl with
  | [a, b], _ =>
    obtain ⟨lo, e0, w0⟩ := open_i h0
    obtain ⟨hi, e1, w1⟩ := open_i h1
    simp [cI] at e0 e1
    subst e0 e1
    exact ⟨⟨lo, hi⟩, rfl, w0, w1⟩
end
structure InRm (w : World) (R : Rm) (p : Pl) : Prop where
  ages : InSl w p.a1 cSp 2 R.ages
  boxes : InSl w p.a2 cBx 2 R.boxes
  mats : InSl w p.a3 cMt 6 R.mats
  mo : w64 R.months
  st : w64 R.step
  k1 : R.ages.length ≤ p.c1
  k2 : R.boxes.length ≤ p.c2
  k3 : R.mats.length ≤ p.c3
def rowsRm (R : Rm) (p : Pl) : List Row := rowsOf p.a1 cSp R.ages ++ (rowsOf p.a2 cBx R.boxes ++ rowsOf p.a3 cMt R.mats)
theorem InRm.ok {w : World} {R : Rm} {p : Pl} {B : Nat} (h : InRm w R p) : ∀ r ∈ rowsRm R p, r.own = none ∧ r.ok B w := by
  intro r hr
  rcases List.mem_append.1 hr with hr | hr
  · exact h.ages.ok r hr
  · rcases List.mem_append.1 hr with hr | hr
    · exact h.boxes.ok r hr
    · exact h.mats.ok r hr
section
variable {H : Type} {enc : TypeId × Value → H} {w : World} {base : Nat} {spare : Nat → Bool} {held : Bool} {v : Value} {d : DataW H} {p : List MemPlace} {r : Reach} {b0 : Nat}
theorem open_list (hv : Value.okWide Try.prog w r b0 32 v) (h : DataW.Trod enc Try.prog w base spare held 32 v d p) : ∃ (l : List Int) (a : Option Addr) (c : Nat), v = .slice a l.length c ∧ InSl w a cI 1 l ∧ (∀ q ∈ l, w64 q) ∧ l.length ≤ c := by
  obtain ⟨a, len, cap, rfl⟩ := okWide_slice Try.underlying32 hv
  obtain ⟨fuel, hf⟩ := h
  exact open_sl (te rfl) (te rfl) rfl (by decide) (fun _ _ _ => open_i) (fun _ => rfl) hf
end
end Go.Proofs.Ytoflnjgfikchjaa
end
section
set_option linter.unusedVariables false
namespace Go.Proofs.Ytoflnjgfikchjaa
open Go Go.Fw Go.ChangeShapes Go.WideShapes Go.ChangeAt Go.RowKit
set_option linter.unusedVariables false
set_option maxRecDepth 100000
instance instDrCC : Inhabited Dr := ⟨⟨0, 0, 0, 0⟩⟩
section
variable {H : Type} {enc : TypeId × Value → H} {w : World} {base : Nat} {spare : Nat → Bool} {held : Bool} {fuel : Nat} {cs : List Value} {x : DataW H × List MemPlace}
theorem openC_dr (h : DataW.trod enc Try.prog w base spare held fuel 29 cs = some x) : ∃ q : Dr, cs = cDr q ∧ True := by
  obtain ⟨hl, hf⟩ := trod_st (te rfl) h
  obtain ⟨n0, y0, h0⟩ := hf 0 0 3 _ rfl (te rfl)
  obtain ⟨n1, y1, h1⟩ := hf 1 1 3 _ rfl (te rfl)
  obtain ⟨n2, y2, h2⟩ := hf 2 2 23 _ rfl (te rfl)
  match cs, hl with
  | [a, b, c, d], _ =>
    obtain ⟨q0, e0, w0⟩ := open_i h0
    obtain ⟨q1, e1, w1⟩ := open_i h1
    obtain ⟨q2, e2, w2⟩ := open_sp h2
    simp [cI, cSp] at e0 e1 e2
    obtain ⟨e2, e3⟩ := e2
    subst e0 e1 e2 e3
    exact ⟨⟨q0, q1, q2.lo, q2.hi⟩, rfl, trivial⟩
theorem openC_wg (h : DataW.trod enc Try.prog w base spare held fuel 31 cs = some x) : ∃ q : Dr, cs = cDr q ∧ True := by
  obtain ⟨hl, hf⟩ := trod_st (te rfl) h
  obtain ⟨n0, y0, h0⟩ := hf 0 0 3 _ rfl (te rfl)
  obtain ⟨n1, y1, h1⟩ := hf 1 1 3 _ rfl (te rfl)
  obtain ⟨n2, y2, h2⟩ := hf 2 2 23 _ rfl (te rfl)
  match cs, hl with
  | [a, b, c, d], _ =>
    obtain ⟨q0, e0, w0⟩ := open_i h0
    obtain ⟨q1, e1, w1⟩ := open_i h1
    obtain ⟨q2, e2, w2⟩ := open_sp h2
    simp [cI, cSp] at e0 e1 e2
    obtain ⟨e2, e3⟩ := e2
    subst e0 e1 e2 e3
    exact ⟨⟨q0, q1, q2.lo, q2.hi⟩, rfl, trivial⟩
end
structure InBlC (w : World) (B : Bl) (p : Pb) : Prop where
  draws : InSl w p.a1 cDr 4 B.draws
  weighs : InSl w p.a2 cDr 4 B.weighs
  k1 : B.draws.length ≤ p.c1
  k2 : B.weighs.length ≤ p.c2
def rowsBlC (B : Bl) (p : Pb) : List Row := rowsOf p.a1 cDr B.draws ++ rowsOf p.a2 cDr B.weighs
theorem InBlC.ok {w : World} {B : Bl} {p : Pb} {N : Nat} (h : InBlC w B p) : ∀ r ∈ rowsBlC B p, r.own = none ∧ r.ok N w := by
  intro r hr
  rcases List.mem_append.1 hr with hr | hr
  · exact h.draws.ok r hr
  · exact h.weighs.ok r hr
section
variable {H : Type} {enc : TypeId × Value → H} {w : World} {base : Nat} {spare : Nat → Bool} {held : Bool} {v : Value} {d : DataW H} {p : List MemPlace} {r : Reach} {b0 : Nat}
theorem open_baleC (hv : Value.okWide Try.prog w r b0 27 v) (h : DataW.Trod enc Try.prog w base spare held 27 v d p) : ∃ B pl, v = .agg (cBl B pl).toArray ∧ InBlC w B pl := by
  obtain ⟨fa, hu, _⟩ := ti_struct (te (T := 27) rfl)
  obtain ⟨⟨cs⟩, rfl, _⟩ := okWide_struct hu hv
  obtain ⟨fuel, hf⟩ := h
  obtain ⟨hl, hf⟩ := trod_st (te rfl) hf
  obtain ⟨n0, y0, h0⟩ := hf 0 0 3 _ rfl (te rfl)
  obtain ⟨n1, y1, h1⟩ := hf 1 1 3 _ rfl (te rfl)
  obtain ⟨n2, y2, h2⟩ := hf 2 2 23 _ rfl (te rfl)
  obtain ⟨n3, y3, h3⟩ := hf 3 4 24 _ rfl (te rfl)
  obtain ⟨n4, y4, h4⟩ := hf 4 5 25 _ rfl (te rfl)
  match cs, hl with
  | [a, b, c, d, e, f], _ =>
    obtain ⟨q0, e0, w0⟩ := open_i h0
    obtain ⟨q1, e1, w1⟩ := open_i h1
    obtain ⟨q2, e2, w2⟩ := open_sp h2
    simp [cI, cSp, Value.cells] at e0 e1 e2
    obtain ⟨l3, a3, c3, e3, i3, _, k3⟩ := open_sl (te rfl) (te rfl) rfl (by decide) (fun _ _ _ => openC_dr) (fun _ => rfl) h3
    obtain ⟨l4, a4, c4, e4, i4, _, k4⟩ := open_sl (te rfl) (te rfl) rfl (by decide) (fun _ _ _ => openC_wg) (fun _ => rfl) h4
    obtain ⟨ea, eb⟩ := e2
    subst e0 e1 ea eb e3 e4
    exact ⟨⟨q0, q1, q2.lo, q2.hi, l3, l4⟩, ⟨a3, c3, a4, c4⟩, rfl, i3, i4, k3, k4⟩
theorem open1_dr (hv : Value.okWide Try.prog w r b0 29 v) (h : DataW.Trod enc Try.prog w base spare held 29 v d p) : ∃ q : Dr, v = .agg (cDr q).toArray := by
  obtain ⟨fa, hu, _⟩ := ti_struct (te (T := 29) rfl)
  obtain ⟨⟨cs⟩, rfl, _⟩ := okWide_struct hu hv
  obtain ⟨fuel, hf⟩ := h
  obtain ⟨q, e, _⟩ := openC_dr hf
  simp only [Value.cells] at e
  exact ⟨q, by rw [← e]⟩
theorem open1_wg (hv : Value.okWide Try.prog w r b0 31 v) (h : DataW.Trod enc Try.prog w base spare held 31 v d p) : ∃ q : Dr, v = .agg (cDr q).toArray := by
  obtain ⟨fa, hu, _⟩ := ti_struct (te (T := 31) rfl)
  obtain ⟨⟨cs⟩, rfl, _⟩ := okWide_struct hu hv
  obtain ⟨fuel, hf⟩ := h
  obtain ⟨q, e, _⟩ := openC_wg hf
  simp only [Value.cells] at e
  exact ⟨q, by rw [← e]⟩
end
theorem ownKC : ownKnob Try.prog.godebug = none := by kernel_rfl
theorem laidOC : laidOutB Try.prog = true := by kernel_rfl
theorem coreChanges_run (B : Bl) (p : Pb) (x : Dr) (y : Wg) (l m : List Int) (al am : Option Addr) (cl cm : Nat) (w : World) (hB : InBlC w B p) (hl : InSl w al cI 1 l) (hm : InSl w am cI 1 m) :
    Calls Try.prog 3 #[.agg (cBl B p).toArray, .agg (cDr x).toArray, .agg (cDr y).toArray, .slice al l.length cl, .slice am m.length cm] w fun e w' => e = .returned (.bool true) ∧ Below w.heap.size w w' := by
  refine Fc.calls (H := rowsBlC B p ++ (rowsOf al cI l ++ rowsOf am cI m)) (coreChanges_spec B p x y l m al am cl cm _ (hB.draws.sl (fun r h => List.mem_append_left _ (List.mem_append_left _ h))) (hB.weighs.sl (fun r h => List.mem_append_left _ (List.mem_append_right _ h))) (hl.sl (fun r h => List.mem_append_right _ (List.mem_append_left _ h))) (hm.sl (fun r h => List.mem_append_right _ (List.mem_append_right _ h))) hB.k1 hB.k2) (fun r hr => ?_)
  rcases List.mem_append.1 hr with hr | hr
  · exact hB.ok r hr
  rcases List.mem_append.1 hr with hr | hr
  · exact hl.ok r hr
  · exact hm.ok r hr
theorem liftedC (os : Os) (started : os.Started) (H : Type) (enc : TypeId × Value → H) :
    ReturnsInHanded {} Try.checked os 3 .any (Rows.coreChangesSpec.pre6 enc Try.prog Try.f3 Rows.coreChangesRow.domain false) (Rows.coreChangesSpec.post enc Try.prog Try.f3 false true false false) := by
  refine returnsInHanded_of_change (C := Try.checked) ownKC started (by kernel_rfl) Try.func3
    (ChangeSpec.witness6 (enc := enc) (C := Try.checked) false ⟨#[], #[.agg (cBl Bz pzb).toArray, .agg (cDr ⟨0, 0, 0, 0⟩).toArray, .agg (cDr ⟨0, 0, 0, 0⟩).toArray, .slice none 0 0, .slice none 0 0], []⟩ 8 (by kernel_rfl) (by kernel_rfl) (by kernel_rfl) (by kernel_rfl)) ?_
  intro W base args ds gs before hval0 hW hcnd _
  have hval : ∀ (j : Nat) t v, Try.f3.params[j]? = some t → args[j]? = some v → Value.okWide Try.prog W .any base t v := hval0
  have hW' := hW
  obtain ⟨p, q, hA0, hV, rfl, hfz, hnd⟩ := hW
  have hA : DataW.TrodAll enc Try.prog W 0 (fun _ => true) true Try.f3.params.toList args.toList ds p := hA0
  rw [Try.params3] at hA hval
  obtain ⟨v0, vs0, d0, ds0, p0, q0, hargs, rfl, rfl, h0, r0⟩ := trodAll_cons hA
  obtain ⟨v1, vs1, d1, ds1, p1, q1, rfl, rfl, rfl, h1, r1⟩ := trodAll_cons r0
  obtain ⟨v2, vs2, d2, ds2, p2, q2, rfl, rfl, rfl, h2, r2⟩ := trodAll_cons r1
  obtain ⟨v3, vs3, d3, ds3, p3, q3, rfl, rfl, rfl, h3, r3⟩ := trodAll_cons r2
  obtain ⟨v4, vs4, d4, ds4, p4, q4, rfl, rfl, rfl, h4, r4⟩ := trodAll_cons r3
  obtain ⟨rfl, rfl, rfl⟩ := trodAll_nil r4
  obtain rfl : args = #[v0, v1, v2, v3, v4] := by cases args; simp_all
  obtain ⟨rfl, rfl⟩ := trodVars_none hV
  have lt : ∀ {t v d ps}, DataW.Trod enc Try.prog W 0 (fun _ => true) true t v d ps → ∀ x ∈ ps, x.block < W.heap.size := fun h => by obtain ⟨m, hm⟩ := h; exact DataW.trod_lt m _ _ _ hm
  obtain ⟨B, pl, rfl, hB⟩ := open_baleC (hval 0 _ v0 rfl rfl) h0
  obtain ⟨x, rfl⟩ := open1_dr (hval 1 _ v1 rfl rfl) h1
  obtain ⟨y, rfl⟩ := open1_wg (hval 2 _ v2 rfl rfl) h2
  obtain ⟨l, al, cl, rfl, hl, _, _⟩ := open_list (hval 3 _ v3 rfl rfl) h3
  obtain ⟨m, am, cm, rfl, hm, _, _⟩ := open_list (hval 4 _ v4 rfl rfl) h4
  clear hA0 hval0
  refine (coreChanges_run B pl x y l m al am cl cm W hB hl hm).mono fun e W' ⟨he, bel⟩ => ?_
  subst he
  exact ⟨_, rfl, _, _, _, [], _, [], hW', trodAll_mk1 (shut_bool Try.underlying4 _), (trodAll_cons_mk (Below.trod laidOC (by kernel_rfl) (of_decide_eq_true (by kernel_rfl)) h0 bel (lt h0)) (trodAll_cons_mk (Below.trod laidOC (by kernel_rfl) (of_decide_eq_true (by kernel_rfl)) h1 bel (lt h1)) (trodAll_cons_mk (Below.trod laidOC (by kernel_rfl) (of_decide_eq_true (by kernel_rfl)) h2 bel (lt h2)) (trodAll_cons_mk (Below.trod laidOC (by kernel_rfl) (of_decide_eq_true (by kernel_rfl)) h3 bel (lt h3)) (trodAll_cons_mk (Below.trod laidOC (by kernel_rfl) (of_decide_eq_true (by kernel_rfl)) h4 bel (lt h4)) trodAll_mk0))))), rfl, bel.frame _, fun h => by cases h⟩
theorem overC : Rows.coreChangesRow.holds Try.pinned (OpenSpec.ofChange Rows.coreChangesSpec) :=
  OpenClaim.holds_of_wide 3 Try.f3 rfl rfl rfl rfl rfl rfl rfl ⟨rfl, rfl, rfl, rfl, rfl⟩ rfl rfl rfl rfl rfl (by kernel_rfl) Try.func3 (by kernel_rfl)
    (of_decide_eq_true (by kernel_rfl)) (by unfold Func.isWrapper; first | (rw [if_pos (by decide +kernel)]; kernel_rfl) | (rw [if_neg (by decide +kernel)]; exact ⟨rfl, rfl⟩))
    (fun os started H enc _ => liftedC os started H enc)
theorem coreChanges_proved : Rows.CoreChangesSaid := overC
#print axioms coreChanges_proved
end Go.Proofs.Ytoflnjgfikchjaa
end
