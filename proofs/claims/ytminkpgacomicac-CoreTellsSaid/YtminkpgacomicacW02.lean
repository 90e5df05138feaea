/- Own work: contracts of functions, from rows of what is known of the memory; Own work: slices of slices, rows in another order. No condition.; contracts of functions, from rows of what is known of the memory; contracts of functions, from rows of what is known of the memory; contracts of functions, from rows of what is known of the memory; contracts of functions, from rows of what is known of the memory; contracts of functions, from rows of what is known of the memory; contracts of functions, from rows of what is known of the memory; Own work: what came in, opened as rows that are only read. No condition.; contracts of functions, from rows of what is known of the memory; contracts of functions, from rows of what is known of the memory; contracts of functions, from rows of what is known of the memory;  -/
import Derived.Test.YtminkpgacomicacW01
import Derived.Deep.Slices
import Derived.ChangeSame
section
set_option linter.unusedVariables false
set_option linter.unusedSimpArgs false
namespace Go.Proofs.Ytminkpgacomicac
open Go Go.Fw
set_option maxRecDepth 10000
/-- a draw, or a weighing: its Number, its layer or its pounds, its span -/
structure Dr where
  number : Int
  val : Int
  lo : Int
  hi : Int
abbrev Wg := Dr
def cDr (s : Dr) : List Value := [.int .i64 s.number, .int .i64 s.val, .int .i64 s.lo, .int .i64 s.hi]
theorem one_dr (e : Dr) : (cDr e).all (·.oneCell') = true := rfl
theorem elDr : ElT Try.prog 24 62 4 32 := ⟨Try.underlying24, Try.t62, .agg #[.int .i64 0, .int .i64 0, .int .i64 0, .int .i64 0], by kernel_rfl, by kernel_rfl, by kernel_rfl, by kernel_rfl, rfl⟩
theorem elWg : ElT Try.prog 25 64 4 32 := ⟨Try.underlying25, Try.t64, .agg #[.int .i64 0, .int .i64 0, .int .i64 0, .int .i64 0], by kernel_rfl, by kernel_rfl, by kernel_rfl, by kernel_rfl, rfl⟩
structure Bl where
  id : Int
  layers : Int
  dlo : Int
  dhi : Int
  draws : List Dr
  weighs : List Wg
/-- where a bale's lists lie -/
structure Pb where
  a1 : Option Addr
  c1 : Nat
  a2 : Option Addr
  c2 : Nat
def cBl (B : Bl) (p : Pb) : List Value := [.int .i64 B.id, .int .i64 B.layers, .int .i64 B.dlo, .int .i64 B.dhi, .slice p.a1 B.draws.length p.c1, .slice p.a2 B.weighs.length p.c2]
structure BlOk (H : List Row) (B : Bl) (p : Pb) : Prop where
  draws : SlE H p.a1 cDr 4 B.draws
  weighs : SlE H p.a2 cDr 4 B.weighs
  l1 : B.draws.length ≤ 1000000
  l2 : B.weighs.length ≤ 1000000
theorem BlOk.sub {H H' : List Row} {B : Bl} {p : Pb} (h : BlOk H B p) (hs : ∀ r ∈ H, r ∈ H') : BlOk H' B p := ⟨h.draws.sub hs, h.weighs.sub hs, h.l1, h.l2⟩
theorem numberDr_spec (m : Dr) (H : List Row) : Fc Try.prog 39 ([.agg (cDr m).toArray] ++ []) H (fun v H' => v = .int .i64 m.number ∧ H' = H) := by
  show Fc Try.prog 39 [.agg (cDr m).toArray] H _
  refine Fc.mk (callable Try.call39) Try.func39 rfl Try.ntmps39 rfl ?_; dsimp only [fr]
  repeat' (first | (refine XO.op rfl ?_; (first | ((first | refine Xo.ng rfl ?_); (first | (refine Xg.ev (EvF.move rfl rfl) rfl rfl ?_) | (refine Xg.ev (EvF.assign rfl rfl) rfl rfl ?_) | (refine Xg.ev (EvF.cmp rfl rfl rfl rfl) rfl rfl ?_) | (refine Xg.ev (EvF.fieldAddr rfl rfl (te rfl) rfl (te rfl) (by decide)) rfl rfl ?_) | (refine Xg.ev (EvF.lenSlice rfl rfl (te rfl)) rfl rfl ?_) | (refine Xg.ev (EvF.loadV rfl rfl (LoadV.own (te rfl) rfl (List.Mem.head _) rfl)) rfl rfl ?_) | (refine Xg.st (StF.boxAgg rfl rfl) rfl rfl ?_; rintro _ _ ⟨bx, rfl, rfl⟩))))) | (refine XO.done rfl ?_; refine hK _ _ ?_; clear hK K) | refine X.seq rfl ?_ | refine X.region rfl (fun K hK => ?_) | refine X.block rfl ?_ | (refine X.brk rfl ?_; first | refine blockX_hit rfl ?_ | skip) | refine X.skip rfl ?_ | refine X.ret rfl ?_ | (refine X.ite rfl rfl (fun hc => ?_); (first | (with_reducible refine Xb.case hc (fun h => ?_) (fun h => ?_))) <;> clear hc))
  refine ret_one (by first | exact .inr rfl | exact .inl rfl) Try.results39 rfl (H' := H) (by (repeat (first | exact List.Sublist.refl _ | apply List.Sublist.cons)); done) ?_; simp only [and_true, true_and]
theorem numberWg_spec (m : Wg) (H : List Row) : Fc Try.prog 44 ([.agg (cDr m).toArray] ++ []) H (fun v H' => v = .int .i64 m.number ∧ H' = H) := by
  show Fc Try.prog 44 [.agg (cDr m).toArray] H _
  refine Fc.mk (callable Try.call44) Try.func44 rfl Try.ntmps44 rfl ?_; dsimp only [fr]
  repeat' (first | (refine XO.op rfl ?_; (first | ((first | refine Xo.ng rfl ?_); (first | (refine Xg.ev (EvF.move rfl rfl) rfl rfl ?_) | (refine Xg.ev (EvF.assign rfl rfl) rfl rfl ?_) | (refine Xg.ev (EvF.cmp rfl rfl rfl rfl) rfl rfl ?_) | (refine Xg.ev (EvF.fieldAddr rfl rfl (te rfl) rfl (te rfl) (by decide)) rfl rfl ?_) | (refine Xg.ev (EvF.lenSlice rfl rfl (te rfl)) rfl rfl ?_) | (refine Xg.ev (EvF.loadV rfl rfl (LoadV.own (te rfl) rfl (List.Mem.head _) rfl)) rfl rfl ?_) | (refine Xg.st (StF.boxAgg rfl rfl) rfl rfl ?_; rintro _ _ ⟨bx, rfl, rfl⟩))))) | (refine XO.done rfl ?_; refine hK _ _ ?_; clear hK K) | refine X.seq rfl ?_ | refine X.region rfl (fun K hK => ?_) | refine X.block rfl ?_ | (refine X.brk rfl ?_; first | refine blockX_hit rfl ?_ | skip) | refine X.skip rfl ?_ | refine X.ret rfl ?_ | (refine X.ite rfl rfl (fun hc => ?_); (first | (with_reducible refine Xb.case hc (fun h => ?_) (fun h => ?_))) <;> clear hc))
  refine ret_one (by first | exact .inr rfl | exact .inl rfl) Try.results44 rfl (H' := H) (by (repeat (first | exact List.Sublist.refl _ | apply List.Sublist.cons)); done) ?_; simp only [and_true, true_and]
theorem indexFunc_specDr (l : List Dr) (a : Option Addr) (c g : Nat) (p : Dr → Bool) (cap : List Value) (H : List Row) (hl : SlE H a cDr 4 l) (hb : l.length ≤ 9223372036854775807) (hf : ∀ e ∈ l, Fc Try.prog g ([.agg (cDr e).toArray] ++ cap) H (fun v H' => v = .bool (p e) ∧ H' = H)) :
    Fc Try.prog 53 [.slice a l.length c, .func (.func g) #[] cap.toArray] H (fun v H' => (∃ z, v = .int .i64 z ∧ IdxR p l z) ∧ H' = H) := by
  refine Fc.mk (callable Try.call53) Try.func53 rfl Try.ntmps53 rfl ?_; dsimp only [fr]
  repeat' (first | (refine XO.op rfl ?_; (first | ((first | refine Xo.ng rfl ?_); (first | (refine Xg.ev (EvF.move rfl rfl) rfl rfl ?_) | (refine Xg.ev (EvF.assign rfl rfl) rfl rfl ?_) | (refine Xg.ev (EvF.cmp rfl rfl rfl rfl) rfl rfl ?_) | (refine Xg.ev (EvF.fieldAddr rfl rfl (te rfl) rfl (te rfl) (by decide)) rfl rfl ?_) | (refine Xg.ev (EvF.lenSlice rfl rfl (te rfl)) rfl rfl ?_) | (refine Xg.ev (EvF.loadV rfl rfl (LoadV.own (te rfl) rfl (List.Mem.head _) rfl)) rfl rfl ?_) | (refine Xg.st (StF.boxAgg rfl rfl) rfl rfl ?_; rintro _ _ ⟨bx, rfl, rfl⟩))))) | (refine XO.done rfl ?_; refine hK _ _ ?_; clear hK K) | refine X.seq rfl ?_ | refine X.region rfl (fun K hK => ?_) | refine X.block rfl ?_ | (refine X.brk rfl ?_; first | refine blockX_hit rfl ?_ | skip) | refine X.skip rfl ?_ | refine X.ret rfl ?_ | (refine X.ite rfl rfl (fun hc => ?_); (first | (with_reducible refine Xb.case hc (fun h => ?_) (fun h => ?_))) <;> clear hc))
  refine X.lp rfl (fun q F' H' => ∃ k : Nat, q = l.length - k ∧ k ≤ l.length ∧ (∀ i e, i < k → l[i]? = some e → p e = false) ∧ H = H' ∧
      F' = [(0, .slice a l.length c), (1, .func (.func g) #[] cap.toArray), (7, .int .i64 l.length), (8, .int .i64 k)])
    l.length [(0, .slice a l.length c), (1, .func (.func g) #[] cap.toArray), (7, .int .i64 l.length), (8, .int .i64 (0 : Nat))] _ (by (repeat (first | exact Sub.nil _ | refine Sub.cons rfl ?_)); done) (by (repeat (first | exact List.Sublist.refl _ | apply List.Sublist.cons_cons | apply List.Sublist.cons)); done) ⟨0, by omega, by omega, (fun i e hi => absurd hi (by omega)), rfl, rfl⟩ ?_
  rintro _ _ H2 ⟨k, rfl, hk, hn, hH, rfl⟩
  subst hH
  repeat' (first | (refine XO.op rfl ?_; (first | ((first | refine Xo.ng rfl ?_); (first | (refine Xg.ev (EvF.move rfl rfl) rfl rfl ?_) | (refine Xg.ev (EvF.assign rfl rfl) rfl rfl ?_) | (refine Xg.ev (EvF.cmp rfl rfl rfl rfl) rfl rfl ?_) | (refine Xg.ev (EvF.fieldAddr rfl rfl (te rfl) rfl (te rfl) (by decide)) rfl rfl ?_) | (refine Xg.ev (EvF.lenSlice rfl rfl (te rfl)) rfl rfl ?_) | (refine Xg.ev (EvF.loadV rfl rfl (LoadV.own (te rfl) rfl (List.Mem.head _) rfl)) rfl rfl ?_) | (refine Xg.st (StF.boxAgg rfl rfl) rfl rfl ?_; rintro _ _ ⟨bx, rfl, rfl⟩))))) | (refine XO.done rfl ?_; refine hK _ _ ?_; clear hK K) | refine X.seq rfl ?_ | refine X.region rfl (fun K hK => ?_) | refine X.block rfl ?_ | (refine X.brk rfl ?_; first | refine blockX_hit rfl ?_ | skip) | refine X.skip rfl ?_ | refine X.ret rfl ?_ | (refine X.ite rfl rfl (fun hc => ?_); (first | (with_reducible refine Xb.case hc (fun h => ?_) (fun h => ?_))) <;> clear hc))
  · obtain ⟨b, off, e, rfl, he⟩ := hl.elem (i := k) (by omega)
    repeat' (first | (refine XO.op rfl ?_; (first | ((first | refine Xo.ng rfl ?_); (first | (refine Xg.ev (EvF.loadV rfl rfl (LoadV.elA0 hl he (te rfl) rfl (fun _ hm => hm) rfl)) rfl rfl ?_) | (refine Xg.call (EnF.dyn0 rfl rfl (by (repeat (first | exact Args.nil | refine Args.cons rfl ?_)); done)) rfl rfl (hf e (List.mem_of_getElem? he)) ?_; rintro _ H9 ⟨rfl, hH9⟩; subst H9) | (refine Xg.ev (EvF.move rfl rfl) rfl rfl ?_) | (refine Xg.ev (EvF.assign rfl rfl) rfl rfl ?_) | (refine Xg.ev (EvF.add64 rfl rfl rfl (by omega) (by omega)) rfl rfl ?_) | (refine Xg.ev (EvF.indexSlice rfl rfl rfl (te rfl) (te rfl) (by omega) (by omega)) rfl rfl ?_))))) | (refine XO.done rfl ?_; refine hK _ _ ?_; clear hK K) | refine X.seq rfl ?_ | refine X.region rfl (fun K hK => ?_) | refine X.skip rfl ?_ | refine X.ret rfl ?_ | (refine X.ite rfl rfl (fun hc => ?_); (first | (with_reducible refine Xb.caseB hc (fun h => ?_) (fun h => ?_))) <;> clear hc))
    · refine ret_one (by first | exact .inr rfl | exact .inl rfl) Try.results53 rfl (H' := H) (by (repeat (first | exact List.Sublist.refl _ | apply List.Sublist.cons)); done) ?_; simp only [and_true, true_and]
      exact ⟨_, rfl, .inr ⟨k, e, rfl, he, by assumption, hn⟩⟩
    · refine ⟨_, _, _, (by (repeat (first | exact Sub.nil _ | refine Sub.cons rfl ?_)); done), (by (repeat (first | exact List.Sublist.refl _ | apply List.Sublist.cons_cons | apply List.Sublist.cons)); done), ⟨k + 1, rfl, by omega, (fun i e' hi he' => ?_), rfl, rfl⟩, by omega⟩
      rcases Nat.lt_or_ge i k with h1 | h1
      · exact hn i e' h1 he'
      · obtain rfl : i = k := by omega
        rw [he] at he'; cases he'; assumption
  · refine ret_one (by first | exact .inr rfl | exact .inl rfl) Try.results53 rfl (H' := H) (by (repeat (first | exact List.Sublist.refl _ | apply List.Sublist.cons)); done) ?_; simp only [and_true, true_and]
    refine ⟨_, rfl, .inl ⟨rfl, fun e he => ?_⟩⟩
    obtain ⟨i, hi, rfl⟩ := List.mem_iff_getElem.1 he
    exact hn i _ (by omega) (List.getElem?_eq_getElem hi)
theorem indexFunc_specWg (l : List Wg) (a : Option Addr) (c g : Nat) (p : Wg → Bool) (cap : List Value) (H : List Row) (hl : SlE H a cDr 4 l) (hb : l.length ≤ 9223372036854775807) (hf : ∀ e ∈ l, Fc Try.prog g ([.agg (cDr e).toArray] ++ cap) H (fun v H' => v = .bool (p e) ∧ H' = H)) :
    Fc Try.prog 54 [.slice a l.length c, .func (.func g) #[] cap.toArray] H (fun v H' => (∃ z, v = .int .i64 z ∧ IdxR p l z) ∧ H' = H) := by
  refine Fc.mk (callable Try.call54) Try.func54 rfl Try.ntmps54 rfl ?_; dsimp only [fr]
  repeat' (first | (refine XO.op rfl ?_; (first | ((first | refine Xo.ng rfl ?_); (first | (refine Xg.ev (EvF.move rfl rfl) rfl rfl ?_) | (refine Xg.ev (EvF.assign rfl rfl) rfl rfl ?_) | (refine Xg.ev (EvF.cmp rfl rfl rfl rfl) rfl rfl ?_) | (refine Xg.ev (EvF.fieldAddr rfl rfl (te rfl) rfl (te rfl) (by decide)) rfl rfl ?_) | (refine Xg.ev (EvF.lenSlice rfl rfl (te rfl)) rfl rfl ?_) | (refine Xg.ev (EvF.loadV rfl rfl (LoadV.own (te rfl) rfl (List.Mem.head _) rfl)) rfl rfl ?_) | (refine Xg.st (StF.boxAgg rfl rfl) rfl rfl ?_; rintro _ _ ⟨bx, rfl, rfl⟩))))) | (refine XO.done rfl ?_; refine hK _ _ ?_; clear hK K) | refine X.seq rfl ?_ | refine X.region rfl (fun K hK => ?_) | refine X.block rfl ?_ | (refine X.brk rfl ?_; first | refine blockX_hit rfl ?_ | skip) | refine X.skip rfl ?_ | refine X.ret rfl ?_ | (refine X.ite rfl rfl (fun hc => ?_); (first | (with_reducible refine Xb.case hc (fun h => ?_) (fun h => ?_))) <;> clear hc))
  refine X.lp rfl (fun q F' H' => ∃ k : Nat, q = l.length - k ∧ k ≤ l.length ∧ (∀ i e, i < k → l[i]? = some e → p e = false) ∧ H = H' ∧
      F' = [(0, .slice a l.length c), (1, .func (.func g) #[] cap.toArray), (7, .int .i64 l.length), (8, .int .i64 k)])
    l.length [(0, .slice a l.length c), (1, .func (.func g) #[] cap.toArray), (7, .int .i64 l.length), (8, .int .i64 (0 : Nat))] _ (by (repeat (first | exact Sub.nil _ | refine Sub.cons rfl ?_)); done) (by (repeat (first | exact List.Sublist.refl _ | apply List.Sublist.cons_cons | apply List.Sublist.cons)); done) ⟨0, by omega, by omega, (fun i e hi => absurd hi (by omega)), rfl, rfl⟩ ?_
  rintro _ _ H2 ⟨k, rfl, hk, hn, hH, rfl⟩
  subst hH
  repeat' (first | (refine XO.op rfl ?_; (first | ((first | refine Xo.ng rfl ?_); (first | (refine Xg.ev (EvF.move rfl rfl) rfl rfl ?_) | (refine Xg.ev (EvF.assign rfl rfl) rfl rfl ?_) | (refine Xg.ev (EvF.cmp rfl rfl rfl rfl) rfl rfl ?_) | (refine Xg.ev (EvF.fieldAddr rfl rfl (te rfl) rfl (te rfl) (by decide)) rfl rfl ?_) | (refine Xg.ev (EvF.lenSlice rfl rfl (te rfl)) rfl rfl ?_) | (refine Xg.ev (EvF.loadV rfl rfl (LoadV.own (te rfl) rfl (List.Mem.head _) rfl)) rfl rfl ?_) | (refine Xg.st (StF.boxAgg rfl rfl) rfl rfl ?_; rintro _ _ ⟨bx, rfl, rfl⟩))))) | (refine XO.done rfl ?_; refine hK _ _ ?_; clear hK K) | refine X.seq rfl ?_ | refine X.region rfl (fun K hK => ?_) | refine X.block rfl ?_ | (refine X.brk rfl ?_; first | refine blockX_hit rfl ?_ | skip) | refine X.skip rfl ?_ | refine X.ret rfl ?_ | (refine X.ite rfl rfl (fun hc => ?_); (first | (with_reducible refine Xb.case hc (fun h => ?_) (fun h => ?_))) <;> clear hc))
  · obtain ⟨b, off, e, rfl, he⟩ := hl.elem (i := k) (by omega)
    repeat' (first | (refine XO.op rfl ?_; (first | ((first | refine Xo.ng rfl ?_); (first | (refine Xg.ev (EvF.loadV rfl rfl (LoadV.elA0 hl he (te rfl) rfl (fun _ hm => hm) rfl)) rfl rfl ?_) | (refine Xg.call (EnF.dyn0 rfl rfl (by (repeat (first | exact Args.nil | refine Args.cons rfl ?_)); done)) rfl rfl (hf e (List.mem_of_getElem? he)) ?_; rintro _ H9 ⟨rfl, hH9⟩; subst H9) | (refine Xg.ev (EvF.move rfl rfl) rfl rfl ?_) | (refine Xg.ev (EvF.assign rfl rfl) rfl rfl ?_) | (refine Xg.ev (EvF.add64 rfl rfl rfl (by omega) (by omega)) rfl rfl ?_) | (refine Xg.ev (EvF.indexSlice rfl rfl rfl (te rfl) (te rfl) (by omega) (by omega)) rfl rfl ?_))))) | (refine XO.done rfl ?_; refine hK _ _ ?_; clear hK K) | refine X.seq rfl ?_ | refine X.region rfl (fun K hK => ?_) | refine X.skip rfl ?_ | refine X.ret rfl ?_ | (refine X.ite rfl rfl (fun hc => ?_); (first | (with_reducible refine Xb.caseB hc (fun h => ?_) (fun h => ?_))) <;> clear hc))
    · refine ret_one (by first | exact .inr rfl | exact .inl rfl) Try.results54 rfl (H' := H) (by (repeat (first | exact List.Sublist.refl _ | apply List.Sublist.cons)); done) ?_; simp only [and_true, true_and]
      exact ⟨_, rfl, .inr ⟨k, e, rfl, he, by assumption, hn⟩⟩
    · refine ⟨_, _, _, (by (repeat (first | exact Sub.nil _ | refine Sub.cons rfl ?_)); done), (by (repeat (first | exact List.Sublist.refl _ | apply List.Sublist.cons_cons | apply List.Sublist.cons)); done), ⟨k + 1, rfl, by omega, (fun i e' hi he' => ?_), rfl, rfl⟩, by omega⟩
      rcases Nat.lt_or_ge i k with h1 | h1
      · exact hn i e' h1 he'
      · obtain rfl : i = k := by omega
        rw [he] at he'; cases he'; assumption
  · refine ret_one (by first | exact .inr rfl | exact .inl rfl) Try.results54 rfl (H' := H) (by (repeat (first | exact List.Sublist.refl _ | apply List.Sublist.cons)); done) ?_; simp only [and_true, true_and]
    refine ⟨_, rfl, .inl ⟨rfl, fun e he => ?_⟩⟩
    obtain ⟨i, hi, rfl⟩ := List.mem_iff_getElem.1 he
    exact hn i _ (by omega) (List.getElem?_eq_getElem hi)
theorem indexFunc_specSp (l : List Sp) (a : Option Addr) (c g : Nat) (p : Sp → Bool) (cap : List Value) (H : List Row) (hl : SlE H a cSp 2 l) (hb : l.length ≤ 9223372036854775807) (hf : ∀ e ∈ l, Fc Try.prog g ([.agg (cSp e).toArray] ++ cap) H (fun v H' => v = .bool (p e) ∧ H' = H)) :
    Fc Try.prog 55 [.slice a l.length c, .func (.func g) #[] cap.toArray] H (fun v H' => (∃ z, v = .int .i64 z ∧ IdxR p l z) ∧ H' = H) := by
  refine Fc.mk (callable Try.call55) Try.func55 rfl Try.ntmps55 rfl ?_; dsimp only [fr]
  repeat' (first | (refine XO.op rfl ?_; (first | ((first | refine Xo.ng rfl ?_); (first | (refine Xg.ev (EvF.move rfl rfl) rfl rfl ?_) | (refine Xg.ev (EvF.assign rfl rfl) rfl rfl ?_) | (refine Xg.ev (EvF.cmp rfl rfl rfl rfl) rfl rfl ?_) | (refine Xg.ev (EvF.fieldAddr rfl rfl (te rfl) rfl (te rfl) (by decide)) rfl rfl ?_) | (refine Xg.ev (EvF.lenSlice rfl rfl (te rfl)) rfl rfl ?_) | (refine Xg.ev (EvF.loadV rfl rfl (LoadV.own (te rfl) rfl (List.Mem.head _) rfl)) rfl rfl ?_) | (refine Xg.st (StF.boxAgg rfl rfl) rfl rfl ?_; rintro _ _ ⟨bx, rfl, rfl⟩))))) | (refine XO.done rfl ?_; refine hK _ _ ?_; clear hK K) | refine X.seq rfl ?_ | refine X.region rfl (fun K hK => ?_) | refine X.block rfl ?_ | (refine X.brk rfl ?_; first | refine blockX_hit rfl ?_ | skip) | refine X.skip rfl ?_ | refine X.ret rfl ?_ | (refine X.ite rfl rfl (fun hc => ?_); (first | (with_reducible refine Xb.case hc (fun h => ?_) (fun h => ?_))) <;> clear hc))
  refine X.lp rfl (fun q F' H' => ∃ k : Nat, q = l.length - k ∧ k ≤ l.length ∧ (∀ i e, i < k → l[i]? = some e → p e = false) ∧ H = H' ∧
      F' = [(0, .slice a l.length c), (1, .func (.func g) #[] cap.toArray), (7, .int .i64 l.length), (8, .int .i64 k)])
    l.length [(0, .slice a l.length c), (1, .func (.func g) #[] cap.toArray), (7, .int .i64 l.length), (8, .int .i64 (0 : Nat))] _ (by (repeat (first | exact Sub.nil _ | refine Sub.cons rfl ?_)); done) (by (repeat (first | exact List.Sublist.refl _ | apply List.Sublist.cons_cons | apply List.Sublist.cons)); done) ⟨0, by omega, by omega, (fun i e hi => absurd hi (by omega)), rfl, rfl⟩ ?_
  rintro _ _ H2 ⟨k, rfl, hk, hn, hH, rfl⟩
  subst hH
  repeat' (first | (refine XO.op rfl ?_; (first | ((first | refine Xo.ng rfl ?_); (first | (refine Xg.ev (EvF.move rfl rfl) rfl rfl ?_) | (refine Xg.ev (EvF.assign rfl rfl) rfl rfl ?_) | (refine Xg.ev (EvF.cmp rfl rfl rfl rfl) rfl rfl ?_) | (refine Xg.ev (EvF.fieldAddr rfl rfl (te rfl) rfl (te rfl) (by decide)) rfl rfl ?_) | (refine Xg.ev (EvF.lenSlice rfl rfl (te rfl)) rfl rfl ?_) | (refine Xg.ev (EvF.loadV rfl rfl (LoadV.own (te rfl) rfl (List.Mem.head _) rfl)) rfl rfl ?_) | (refine Xg.st (StF.boxAgg rfl rfl) rfl rfl ?_; rintro _ _ ⟨bx, rfl, rfl⟩))))) | (refine XO.done rfl ?_; refine hK _ _ ?_; clear hK K) | refine X.seq rfl ?_ | refine X.region rfl (fun K hK => ?_) | refine X.block rfl ?_ | (refine X.brk rfl ?_; first | refine blockX_hit rfl ?_ | skip) | refine X.skip rfl ?_ | refine X.ret rfl ?_ | (refine X.ite rfl rfl (fun hc => ?_); (first | (with_reducible refine Xb.case hc (fun h => ?_) (fun h => ?_))) <;> clear hc))
  · obtain ⟨b, off, e, rfl, he⟩ := hl.elem (i := k) (by omega)
    repeat' (first | (refine XO.op rfl ?_; (first | ((first | refine Xo.ng rfl ?_); (first | (refine Xg.ev (EvF.loadV rfl rfl (LoadV.elA0 hl he (te rfl) rfl (fun _ hm => hm) rfl)) rfl rfl ?_) | (refine Xg.call (EnF.dyn0 rfl rfl (by (repeat (first | exact Args.nil | refine Args.cons rfl ?_)); done)) rfl rfl (hf e (List.mem_of_getElem? he)) ?_; rintro _ H9 ⟨rfl, hH9⟩; subst H9) | (refine Xg.ev (EvF.move rfl rfl) rfl rfl ?_) | (refine Xg.ev (EvF.assign rfl rfl) rfl rfl ?_) | (refine Xg.ev (EvF.add64 rfl rfl rfl (by omega) (by omega)) rfl rfl ?_) | (refine Xg.ev (EvF.indexSlice rfl rfl rfl (te rfl) (te rfl) (by omega) (by omega)) rfl rfl ?_))))) | (refine XO.done rfl ?_; refine hK _ _ ?_; clear hK K) | refine X.seq rfl ?_ | refine X.region rfl (fun K hK => ?_) | refine X.skip rfl ?_ | refine X.ret rfl ?_ | (refine X.ite rfl rfl (fun hc => ?_); (first | (with_reducible refine Xb.caseB hc (fun h => ?_) (fun h => ?_))) <;> clear hc))
    · refine ret_one (by first | exact .inr rfl | exact .inl rfl) Try.results55 rfl (H' := H) (by (repeat (first | exact List.Sublist.refl _ | apply List.Sublist.cons)); done) ?_; simp only [and_true, true_and]
      exact ⟨_, rfl, .inr ⟨k, e, rfl, he, by assumption, hn⟩⟩
    · refine ⟨_, _, _, (by (repeat (first | exact Sub.nil _ | refine Sub.cons rfl ?_)); done), (by (repeat (first | exact List.Sublist.refl _ | apply List.Sublist.cons_cons | apply List.Sublist.cons)); done), ⟨k + 1, rfl, by omega, (fun i e' hi he' => ?_), rfl, rfl⟩, by omega⟩
      rcases Nat.lt_or_ge i k with h1 | h1
      · exact hn i e' h1 he'
      · obtain rfl : i = k := by omega
        rw [he] at he'; cases he'; assumption
  · refine ret_one (by first | exact .inr rfl | exact .inl rfl) Try.results55 rfl (H' := H) (by (repeat (first | exact List.Sublist.refl _ | apply List.Sublist.cons)); done) ?_; simp only [and_true, true_and]
    refine ⟨_, rfl, .inl ⟨rfl, fun e he => ?_⟩⟩
    obtain ⟨i, hi, rfl⟩ := List.mem_iff_getElem.1 he
    exact hn i _ (by omega) (List.getElem?_eq_getElem hi)
theorem containsFunc_specDr (l : List Dr) (a : Option Addr) (c g : Nat) (p : Dr → Bool) (cap : List Value) (H : List Row) (hl : SlE H a cDr 4 l) (hb : l.length ≤ 9223372036854775807) (hf : ∀ e ∈ l, Fc Try.prog g ([.agg (cDr e).toArray] ++ cap) H (fun v H' => v = .bool (p e) ∧ H' = H)) :
    Fc Try.prog 40 [.slice a l.length c, .func (.func g) #[] cap.toArray] H (fun v H' => v = .bool (decide (∃ e ∈ l, p e = true)) ∧ H' = H) := by
  refine Fc.mk (callable Try.call40) Try.func40 rfl Try.ntmps40 rfl ?_; dsimp only [fr]
  repeat' (first | (refine XO.op rfl ?_; (first | ((first | refine Xo.ng rfl ?_); (first | (refine Xg.call (EnF.st rfl (by (repeat (first | exact Args.nil | refine Args.cons rfl ?_)); done)) rfl rfl (indexFunc_specDr l a c g p cap H hl hb hf) ?_; rintro _ H9 ⟨⟨z, rfl, hz⟩, hH9⟩; subst H9) | (refine Xg.ev (EvF.move rfl rfl) rfl rfl ?_) | (refine Xg.ev (EvF.assign rfl rfl) rfl rfl ?_) | (refine Xg.ev (EvF.cmp rfl rfl rfl rfl) rfl rfl ?_))))) | (refine XO.done rfl ?_; refine hK _ _ ?_; clear hK K) | refine X.seq rfl ?_ | refine X.region rfl (fun K hK => ?_) | refine X.ret rfl ?_)
  refine ret_one (by first | exact .inr rfl | exact .inl rfl) Try.results40 rfl (H' := H) (by (repeat (first | exact List.Sublist.refl _ | apply List.Sublist.cons)); done) ?_; simp only [and_true, true_and]
  congr 1
  exact decide_eq_decide.2 hz.ge
theorem containsFunc_specWg (l : List Wg) (a : Option Addr) (c g : Nat) (p : Wg → Bool) (cap : List Value) (H : List Row) (hl : SlE H a cDr 4 l) (hb : l.length ≤ 9223372036854775807) (hf : ∀ e ∈ l, Fc Try.prog g ([.agg (cDr e).toArray] ++ cap) H (fun v H' => v = .bool (p e) ∧ H' = H)) :
    Fc Try.prog 45 [.slice a l.length c, .func (.func g) #[] cap.toArray] H (fun v H' => v = .bool (decide (∃ e ∈ l, p e = true)) ∧ H' = H) := by
  refine Fc.mk (callable Try.call45) Try.func45 rfl Try.ntmps45 rfl ?_; dsimp only [fr]
  repeat' (first | (refine XO.op rfl ?_; (first | ((first | refine Xo.ng rfl ?_); (first | (refine Xg.call (EnF.st rfl (by (repeat (first | exact Args.nil | refine Args.cons rfl ?_)); done)) rfl rfl (indexFunc_specWg l a c g p cap H hl hb hf) ?_; rintro _ H9 ⟨⟨z, rfl, hz⟩, hH9⟩; subst H9) | (refine Xg.ev (EvF.move rfl rfl) rfl rfl ?_) | (refine Xg.ev (EvF.assign rfl rfl) rfl rfl ?_) | (refine Xg.ev (EvF.cmp rfl rfl rfl rfl) rfl rfl ?_))))) | (refine XO.done rfl ?_; refine hK _ _ ?_; clear hK K) | refine X.seq rfl ?_ | refine X.region rfl (fun K hK => ?_) | refine X.ret rfl ?_)
  refine ret_one (by first | exact .inr rfl | exact .inl rfl) Try.results45 rfl (H' := H) (by (repeat (first | exact List.Sublist.refl _ | apply List.Sublist.cons)); done) ?_; simp only [and_true, true_and]
  congr 1
  exact decide_eq_decide.2 hz.ge
theorem containsFunc_specSp (l : List Sp) (a : Option Addr) (c g : Nat) (p : Sp → Bool) (cap : List Value) (H : List Row) (hl : SlE H a cSp 2 l) (hb : l.length ≤ 9223372036854775807) (hf : ∀ e ∈ l, Fc Try.prog g ([.agg (cSp e).toArray] ++ cap) H (fun v H' => v = .bool (p e) ∧ H' = H)) :
    Fc Try.prog 47 [.slice a l.length c, .func (.func g) #[] cap.toArray] H (fun v H' => v = .bool (decide (∃ e ∈ l, p e = true)) ∧ H' = H) := by
  refine Fc.mk (callable Try.call47) Try.func47 rfl Try.ntmps47 rfl ?_; dsimp only [fr]
  repeat' (first | (refine XO.op rfl ?_; (first | ((first | refine Xo.ng rfl ?_); (first | (refine Xg.call (EnF.st rfl (by (repeat (first | exact Args.nil | refine Args.cons rfl ?_)); done)) rfl rfl (indexFunc_specSp l a c g p cap H hl hb hf) ?_; rintro _ H9 ⟨⟨z, rfl, hz⟩, hH9⟩; subst H9) | (refine Xg.ev (EvF.move rfl rfl) rfl rfl ?_) | (refine Xg.ev (EvF.assign rfl rfl) rfl rfl ?_) | (refine Xg.ev (EvF.cmp rfl rfl rfl rfl) rfl rfl ?_))))) | (refine XO.done rfl ?_; refine hK _ _ ?_; clear hK K) | refine X.seq rfl ?_ | refine X.region rfl (fun K hK => ?_) | refine X.ret rfl ?_)
  refine ret_one (by first | exact .inr rfl | exact .inl rfl) Try.results47 rfl (H' := H) (by (repeat (first | exact List.Sublist.refl _ | apply List.Sublist.cons)); done) ?_; simp only [and_true, true_and]
  congr 1
  exact decide_eq_decide.2 hz.ge
theorem numbersO_specDr (g : Nat) (f : Dr → Int) (hg : ∀ e H, Fc Try.prog g ([.agg (cDr e).toArray] ++ []) H (fun v H' => v = .int .i64 (f e) ∧ H' = H)) (l : List Dr) (a : Option Addr) (c : Nat) (H : List Row) (hl : SlE H a cDr 4 l) (hb : l.length ≤ 1000000) :
    Fc Try.prog 38 [.slice a l.length c, .func (.func g) #[] #[]] H (fun v H' => (l = [] ∧ v = .slice none 0 0 ∧ H' = H) ∨ ∃ b q, l ≠ [] ∧ v = .slice (some ⟨b, 0, none⟩) (l.map f).length q ∧ H' = ⟨b, 0, (l.map f).flatMap cI, some 3, q * 1⟩ :: H) := by
  refine Fc.mk (callable Try.call38) Try.func38 rfl Try.ntmps38 rfl ?_; dsimp only [fr]
  repeat' (first | (refine XO.op rfl ?_; (first | ((first | refine Xo.ng rfl ?_); (first | (refine Xg.ev (EvF.move rfl rfl) rfl rfl ?_) | (refine Xg.ev (EvF.assign rfl rfl) rfl rfl ?_) | (refine Xg.ev (EvF.cmp rfl rfl rfl rfl) rfl rfl ?_) | (refine Xg.ev (EvF.fieldAddr rfl rfl (te rfl) rfl (te rfl) (by decide)) rfl rfl ?_) | (refine Xg.ev (EvF.lenSlice rfl rfl (te rfl)) rfl rfl ?_) | (refine Xg.ev (EvF.loadV rfl rfl (LoadV.own (te rfl) rfl (List.Mem.head _) rfl)) rfl rfl ?_) | (refine Xg.st (StF.boxAgg rfl rfl) rfl rfl ?_; rintro _ _ ⟨bx, rfl, rfl⟩))))) | (refine XO.done rfl ?_; refine hK _ _ ?_; clear hK K) | refine X.seq rfl ?_ | refine X.region rfl (fun K hK => ?_) | refine X.block rfl ?_ | (refine X.brk rfl ?_; first | refine blockX_hit rfl ?_ | skip) | refine X.skip rfl ?_ | refine X.ret rfl ?_ | (refine X.ite rfl rfl (fun hc => ?_); (first | (with_reducible refine Xb.case hc (fun h => ?_) (fun h => ?_))) <;> clear hc))
  refine X.lp rfl (fun q F' H' => ∃ (k : Nat) (out : Value) (Z : List Row), q = l.length - k ∧ k ≤ l.length ∧ ((k = 0 ∧ out = .slice none 0 0 ∧ Z = []) ∨ ∃ b q, 0 < k ∧ out = .slice (some ⟨b, 0, none⟩) k q ∧ Z = [⟨b, 0, ((l.take k).map f).flatMap cI, some 3, q * 1⟩]) ∧ Z ++ H = H' ∧
      F' = [(1, .func (.func g) #[] #[]), (5, out), (8, .slice a l.length c), (9, .int .i64 l.length), (10, .int .i64 k)])
    l.length [(1, .func (.func g) #[] #[]), (5, .slice none 0 0), (8, .slice a l.length c), (9, .int .i64 l.length), (10, .int .i64 (0 : Nat))] _ (by (repeat (first | exact Sub.nil _ | refine Sub.cons rfl ?_)); done) (by (repeat (first | exact List.Sublist.refl _ | apply List.Sublist.cons_cons | apply List.Sublist.cons)); done) ⟨0, _, [], by omega, by omega, .inl ⟨rfl, rfl, rfl⟩, rfl, rfl⟩ ?_
  rintro _ _ H2 ⟨k, out, Z, rfl, hk, ⟨rfl, rfl, rfl⟩ | ⟨b0, q0, hk0, rfl, rfl⟩, hH, rfl⟩
  · rw [List.nil_append] at hH
    subst hH
    repeat' (first | (refine XO.op rfl ?_; (first | ((first | refine Xo.ng rfl ?_); (first | (refine Xg.ev (EvF.move rfl rfl) rfl rfl ?_) | (refine Xg.ev (EvF.assign rfl rfl) rfl rfl ?_) | (refine Xg.ev (EvF.cmp rfl rfl rfl rfl) rfl rfl ?_) | (refine Xg.ev (EvF.fieldAddr rfl rfl (te rfl) rfl (te rfl) (by decide)) rfl rfl ?_) | (refine Xg.ev (EvF.lenSlice rfl rfl (te rfl)) rfl rfl ?_) | (refine Xg.ev (EvF.loadV rfl rfl (LoadV.own (te rfl) rfl (List.Mem.head _) rfl)) rfl rfl ?_) | (refine Xg.st (StF.boxAgg rfl rfl) rfl rfl ?_; rintro _ _ ⟨bx, rfl, rfl⟩))))) | (refine XO.done rfl ?_; refine hK _ _ ?_; clear hK K) | refine X.seq rfl ?_ | refine X.region rfl (fun K hK => ?_) | refine X.block rfl ?_ | (refine X.brk rfl ?_; first | refine blockX_hit rfl ?_ | skip) | refine X.skip rfl ?_ | refine X.ret rfl ?_ | (refine X.ite rfl rfl (fun hc => ?_); (first | (with_reducible refine Xb.case hc (fun h => ?_) (fun h => ?_))) <;> clear hc))
    · obtain ⟨b, off, e, rfl, he⟩ := hl.elem (i := 0) (by omega)
      repeat' (first | (refine XO.op rfl ?_; (first | ((first | refine Xo.ng rfl ?_); (first | (refine Xg.ev (EvF.loadV rfl rfl (LoadV.elA0 hl he (te rfl) rfl (fun _ hm => hm) rfl)) rfl rfl ?_) | (refine Xg.call (EnF.dyn0 rfl rfl (by (repeat (first | exact Args.nil | refine Args.cons rfl ?_)); done)) rfl rfl (hg _ _) ?_; rintro _ H9 ⟨rfl, hH9⟩; subst H9) | (refine Xg.st (StF.buildOne rfl el55 rfl rfl rfl (by decide) (by decide)) rfl rfl ?_; rintro _ _ ⟨bs, rfl, rfl⟩) | (refine Xg.st (StF.appendNew rfl el55 rfl rfl (by decide) rfl (Rd.own (List.Mem.head _)) (by decide)) rfl rfl ?_; rintro _ _ ⟨bn, kn, rfl, rfl⟩) | (refine Xg.ev (EvF.move rfl rfl) rfl rfl ?_) | (refine Xg.ev (EvF.assign rfl rfl) rfl rfl ?_) | (refine Xg.ev (EvF.add64 rfl rfl rfl (by omega) (by omega)) rfl rfl ?_) | (refine Xg.ev (EvF.indexSlice rfl rfl rfl (te rfl) (te rfl) (by omega) (by omega)) rfl rfl ?_) | (refine Xg.ev (EvF.loadV rfl rfl (LoadV.whole (te rfl) rfl (List.Mem.head _) rfl)) rfl rfl ?_) | (refine Xg.st (StF.alloc rfl Try.zeroValue62 rfl) rfl rfl ?_; rintro _ _ ⟨bx, rfl, rfl⟩) | (refine Xg.st0 (StF.storeAll (i := 0) rfl rfl rfl (te rfl) rfl rfl rfl rfl) rfl ?_; rintro _ _ ⟨rfl, rfl⟩; dsimp only [List.set]))))) | (refine XO.done rfl ?_; refine hK _ _ ?_; clear hK K) | refine X.region rfl (fun K hK => ?_))
      refine ⟨_, _, _, (by (repeat (first | exact Sub.nil _ | refine Sub.cons rfl ?_)); done), ?_, ⟨0 + 1, _, [⟨bn, 0, ((l.take (0 + 1)).map f).flatMap cI, some 3, kn * 1⟩], rfl, by omega, .inr ⟨_, _, by omega, rfl, rfl⟩, rfl, rfl⟩, by omega⟩
      rw [take_snoc he]
      exact (by (repeat (first | exact List.Sublist.refl _ | apply List.Sublist.cons_cons | apply List.Sublist.cons)); done)
    · obtain rfl : l = [] := List.eq_nil_of_length_eq_zero (by omega)
      exact ret_one (by first | exact .inr rfl | exact .inl rfl) Try.results38 rfl (H' := H) (by (repeat (first | exact List.Sublist.refl _ | apply List.Sublist.cons_cons | apply List.Sublist.cons)); done) (.inl ⟨rfl, rfl, rfl⟩)
  · have hlen : (((l.take k).map f).flatMap cI).length = k * 1 := by rw [lenI, List.length_map, List.length_take]; omega
    simp only [List.cons_append, List.nil_append] at hH
    subst hH
    repeat' (first | (refine XO.op rfl ?_; (first | ((first | refine Xo.ng rfl ?_); (first | (refine Xg.ev (EvF.move rfl rfl) rfl rfl ?_) | (refine Xg.ev (EvF.assign rfl rfl) rfl rfl ?_) | (refine Xg.ev (EvF.cmp rfl rfl rfl rfl) rfl rfl ?_) | (refine Xg.ev (EvF.fieldAddr rfl rfl (te rfl) rfl (te rfl) (by decide)) rfl rfl ?_) | (refine Xg.ev (EvF.lenSlice rfl rfl (te rfl)) rfl rfl ?_) | (refine Xg.ev (EvF.loadV rfl rfl (LoadV.own (te rfl) rfl (List.Mem.head _) rfl)) rfl rfl ?_) | (refine Xg.st (StF.boxAgg rfl rfl) rfl rfl ?_; rintro _ _ ⟨bx, rfl, rfl⟩))))) | (refine XO.done rfl ?_; refine hK _ _ ?_; clear hK K) | refine X.seq rfl ?_ | refine X.region rfl (fun K hK => ?_) | refine X.block rfl ?_ | (refine X.brk rfl ?_; first | refine blockX_hit rfl ?_ | skip) | refine X.skip rfl ?_ | refine X.ret rfl ?_ | (refine X.ite rfl rfl (fun hc => ?_); (first | (with_reducible refine Xb.case hc (fun h => ?_) (fun h => ?_))) <;> clear hc))
    · obtain ⟨b, off, e, rfl, he⟩ := hl.elem (i := k) (by omega)
      have hl1 : ∀ r, SlE (r :: H) (some ⟨b, off, none⟩) cDr 4 l := fun r => hl.sub (fun _ h => List.mem_cons_of_mem _ h)
      repeat' (first | (refine XO.op rfl ?_; (first | ((first | refine Xo.ng rfl ?_); (first | (refine Xg.ev (EvF.loadV rfl rfl (LoadV.elA0 (hl1 _) he (te rfl) rfl (fun _ hm => hm) rfl)) rfl rfl ?_) | (refine Xg.call (EnF.dyn0 rfl rfl (by (repeat (first | exact Args.nil | refine Args.cons rfl ?_)); done)) rfl rfl (hg _ _) ?_; rintro _ H9 ⟨rfl, hH9⟩; subst H9) | (refine Xg.st (StF.buildOne rfl el55 rfl rfl rfl (by decide) (by decide)) rfl rfl ?_; rintro _ _ ⟨bs, rfl, rfl⟩) | (refine Xg.st (StF.appendOwn (i := 2) rfl el55 rfl rfl rfl hlen rfl (Rd.own (List.Mem.head _)) rfl (by omega)) rfl rfl ?_; rintro _ _ ⟨bn, kn, rfl, rfl⟩; dsimp only [List.eraseIdx]) | (refine Xg.ev (EvF.move rfl rfl) rfl rfl ?_) | (refine Xg.ev (EvF.assign rfl rfl) rfl rfl ?_) | (refine Xg.ev (EvF.add64 rfl rfl rfl (by omega) (by omega)) rfl rfl ?_) | (refine Xg.ev (EvF.indexSlice rfl rfl rfl (te rfl) (te rfl) (by omega) (by omega)) rfl rfl ?_) | (refine Xg.ev (EvF.loadV rfl rfl (LoadV.whole (te rfl) rfl (List.Mem.head _) rfl)) rfl rfl ?_) | (refine Xg.st (StF.alloc rfl Try.zeroValue62 rfl) rfl rfl ?_; rintro _ _ ⟨bx, rfl, rfl⟩) | (refine Xg.st0 (StF.storeAll (i := 0) rfl rfl rfl (te rfl) rfl rfl rfl rfl) rfl ?_; rintro _ _ ⟨rfl, rfl⟩; dsimp only [List.set]))))) | (refine XO.done rfl ?_; refine hK _ _ ?_; clear hK K) | refine X.region rfl (fun K hK => ?_))
      refine ⟨_, _, _, (by (repeat (first | exact Sub.nil _ | refine Sub.cons rfl ?_)); done), ?_, ⟨k + 1, _, [⟨bn, 0, ((l.take (k + 1)).map f).flatMap cI, some 3, kn * 1⟩], rfl, by omega, .inr ⟨_, _, by omega, rfl, rfl⟩, rfl, rfl⟩, by omega⟩
      rw [take_snoc he, List.map_append, List.flatMap_append]
      exact (by (repeat (first | exact List.Sublist.refl _ | apply List.Sublist.cons_cons | apply List.Sublist.cons)); done)
    · obtain rfl : k = l.length := by omega
      rw [List.take_length]
      refine ret_one (by first | exact .inr rfl | exact .inl rfl) Try.results38 rfl (H' := ⟨b0, 0, (l.map f).flatMap cI, some 3, q0 * 1⟩ :: H) (by (repeat (first | exact List.Sublist.refl _ | apply List.Sublist.cons_cons | apply List.Sublist.cons)); done) (.inr ⟨b0, q0, (fun e => by rw [e] at hk0; exact absurd hk0 (Nat.lt_irrefl 0)), by rw [List.length_map], rfl⟩)
theorem numbersF_specDr (g : Nat) (f : Dr → Int) (hg : ∀ e H, Fc Try.prog g ([.agg (cDr e).toArray] ++ []) H (fun v H' => v = .int .i64 (f e) ∧ H' = H)) (l : List Dr) (a : Option Addr) (c : Nat) (H : List Row) (hl : SlE H a cDr 4 l) (hb : l.length ≤ 1000000) :
    Fc Try.prog 38 [.slice a l.length c, .func (.func g) #[] #[]] H (fun v H' => ∃ a' c' Z, v = .slice a' (l.map f).length c' ∧ H' = Z ++ H ∧ SlE (Z ++ H) a' cI 1 (l.map f)) := by
  refine (numbersO_specDr g f hg l a c H hl hb).mono ?_
  rintro v H' (⟨rfl, rfl, rfl⟩ | ⟨b, q, _, rfl, rfl⟩)
  · exact ⟨none, 0, [], rfl, rfl, sleNil⟩
  · exact ⟨some ⟨b, 0, none⟩, q, [_], rfl, rfl, SlE.ofRow (List.Mem.head _) (fun _ _ => rfl)⟩
theorem numbersO_specWg (g : Nat) (f : Wg → Int) (hg : ∀ e H, Fc Try.prog g ([.agg (cDr e).toArray] ++ []) H (fun v H' => v = .int .i64 (f e) ∧ H' = H)) (l : List Wg) (a : Option Addr) (c : Nat) (H : List Row) (hl : SlE H a cDr 4 l) (hb : l.length ≤ 1000000) :
    Fc Try.prog 43 [.slice a l.length c, .func (.func g) #[] #[]] H (fun v H' => (l = [] ∧ v = .slice none 0 0 ∧ H' = H) ∨ ∃ b q, l ≠ [] ∧ v = .slice (some ⟨b, 0, none⟩) (l.map f).length q ∧ H' = ⟨b, 0, (l.map f).flatMap cI, some 3, q * 1⟩ :: H) := by
  refine Fc.mk (callable Try.call43) Try.func43 rfl Try.ntmps43 rfl ?_; dsimp only [fr]
  repeat' (first | (refine XO.op rfl ?_; (first | ((first | refine Xo.ng rfl ?_); (first | (refine Xg.ev (EvF.move rfl rfl) rfl rfl ?_) | (refine Xg.ev (EvF.assign rfl rfl) rfl rfl ?_) | (refine Xg.ev (EvF.cmp rfl rfl rfl rfl) rfl rfl ?_) | (refine Xg.ev (EvF.fieldAddr rfl rfl (te rfl) rfl (te rfl) (by decide)) rfl rfl ?_) | (refine Xg.ev (EvF.lenSlice rfl rfl (te rfl)) rfl rfl ?_) | (refine Xg.ev (EvF.loadV rfl rfl (LoadV.own (te rfl) rfl (List.Mem.head _) rfl)) rfl rfl ?_) | (refine Xg.st (StF.boxAgg rfl rfl) rfl rfl ?_; rintro _ _ ⟨bx, rfl, rfl⟩))))) | (refine XO.done rfl ?_; refine hK _ _ ?_; clear hK K) | refine X.seq rfl ?_ | refine X.region rfl (fun K hK => ?_) | refine X.block rfl ?_ | (refine X.brk rfl ?_; first | refine blockX_hit rfl ?_ | skip) | refine X.skip rfl ?_ | refine X.ret rfl ?_ | (refine X.ite rfl rfl (fun hc => ?_); (first | (with_reducible refine Xb.case hc (fun h => ?_) (fun h => ?_))) <;> clear hc))
  refine X.lp rfl (fun q F' H' => ∃ (k : Nat) (out : Value) (Z : List Row), q = l.length - k ∧ k ≤ l.length ∧ ((k = 0 ∧ out = .slice none 0 0 ∧ Z = []) ∨ ∃ b q, 0 < k ∧ out = .slice (some ⟨b, 0, none⟩) k q ∧ Z = [⟨b, 0, ((l.take k).map f).flatMap cI, some 3, q * 1⟩]) ∧ Z ++ H = H' ∧
      F' = [(1, .func (.func g) #[] #[]), (5, out), (8, .slice a l.length c), (9, .int .i64 l.length), (10, .int .i64 k)])
    l.length [(1, .func (.func g) #[] #[]), (5, .slice none 0 0), (8, .slice a l.length c), (9, .int .i64 l.length), (10, .int .i64 (0 : Nat))] _ (by (repeat (first | exact Sub.nil _ | refine Sub.cons rfl ?_)); done) (by (repeat (first | exact List.Sublist.refl _ | apply List.Sublist.cons_cons | apply List.Sublist.cons)); done) ⟨0, _, [], by omega, by omega, .inl ⟨rfl, rfl, rfl⟩, rfl, rfl⟩ ?_
  rintro _ _ H2 ⟨k, out, Z, rfl, hk, ⟨rfl, rfl, rfl⟩ | ⟨b0, q0, hk0, rfl, rfl⟩, hH, rfl⟩
  · rw [List.nil_append] at hH
    subst hH
    repeat' (first | (refine XO.op rfl ?_; (first | ((first | refine Xo.ng rfl ?_); (first | (refine Xg.ev (EvF.move rfl rfl) rfl rfl ?_) | (refine Xg.ev (EvF.assign rfl rfl) rfl rfl ?_) | (refine Xg.ev (EvF.cmp rfl rfl rfl rfl) rfl rfl ?_) | (refine Xg.ev (EvF.fieldAddr rfl rfl (te rfl) rfl (te rfl) (by decide)) rfl rfl ?_) | (refine Xg.ev (EvF.lenSlice rfl rfl (te rfl)) rfl rfl ?_) | (refine Xg.ev (EvF.loadV rfl rfl (LoadV.own (te rfl) rfl (List.Mem.head _) rfl)) rfl rfl ?_) | (refine Xg.st (StF.boxAgg rfl rfl) rfl rfl ?_; rintro _ _ ⟨bx, rfl, rfl⟩))))) | (refine XO.done rfl ?_; refine hK _ _ ?_; clear hK K) | refine X.seq rfl ?_ | refine X.region rfl (fun K hK => ?_) | refine X.block rfl ?_ | (refine X.brk rfl ?_; first | refine blockX_hit rfl ?_ | skip) | refine X.skip rfl ?_ | refine X.ret rfl ?_ | (refine X.ite rfl rfl (fun hc => ?_); (first | (with_reducible refine Xb.case hc (fun h => ?_) (fun h => ?_))) <;> clear hc))
    · obtain ⟨b, off, e, rfl, he⟩ := hl.elem (i := 0) (by omega)
      repeat' (first | (refine XO.op rfl ?_; (first | ((first | refine Xo.ng rfl ?_); (first | (refine Xg.ev (EvF.loadV rfl rfl (LoadV.elA0 hl he (te rfl) rfl (fun _ hm => hm) rfl)) rfl rfl ?_) | (refine Xg.call (EnF.dyn0 rfl rfl (by (repeat (first | exact Args.nil | refine Args.cons rfl ?_)); done)) rfl rfl (hg _ _) ?_; rintro _ H9 ⟨rfl, hH9⟩; subst H9) | (refine Xg.st (StF.buildOne rfl el55 rfl rfl rfl (by decide) (by decide)) rfl rfl ?_; rintro _ _ ⟨bs, rfl, rfl⟩) | (refine Xg.st (StF.appendNew rfl el55 rfl rfl (by decide) rfl (Rd.own (List.Mem.head _)) (by decide)) rfl rfl ?_; rintro _ _ ⟨bn, kn, rfl, rfl⟩) | (refine Xg.ev (EvF.move rfl rfl) rfl rfl ?_) | (refine Xg.ev (EvF.assign rfl rfl) rfl rfl ?_) | (refine Xg.ev (EvF.add64 rfl rfl rfl (by omega) (by omega)) rfl rfl ?_) | (refine Xg.ev (EvF.indexSlice rfl rfl rfl (te rfl) (te rfl) (by omega) (by omega)) rfl rfl ?_) | (refine Xg.ev (EvF.loadV rfl rfl (LoadV.whole (te rfl) rfl (List.Mem.head _) rfl)) rfl rfl ?_) | (refine Xg.st (StF.alloc rfl Try.zeroValue62 rfl) rfl rfl ?_; rintro _ _ ⟨bx, rfl, rfl⟩) | (refine Xg.st0 (StF.storeAll (i := 0) rfl rfl rfl (te rfl) rfl rfl rfl rfl) rfl ?_; rintro _ _ ⟨rfl, rfl⟩; dsimp only [List.set]))))) | (refine XO.done rfl ?_; refine hK _ _ ?_; clear hK K) | refine X.region rfl (fun K hK => ?_))
      refine ⟨_, _, _, (by (repeat (first | exact Sub.nil _ | refine Sub.cons rfl ?_)); done), ?_, ⟨0 + 1, _, [⟨bn, 0, ((l.take (0 + 1)).map f).flatMap cI, some 3, kn * 1⟩], rfl, by omega, .inr ⟨_, _, by omega, rfl, rfl⟩, rfl, rfl⟩, by omega⟩
      rw [take_snoc he]
      exact (by (repeat (first | exact List.Sublist.refl _ | apply List.Sublist.cons_cons | apply List.Sublist.cons)); done)
    · obtain rfl : l = [] := List.eq_nil_of_length_eq_zero (by omega)
      exact ret_one (by first | exact .inr rfl | exact .inl rfl) Try.results43 rfl (H' := H) (by (repeat (first | exact List.Sublist.refl _ | apply List.Sublist.cons_cons | apply List.Sublist.cons)); done) (.inl ⟨rfl, rfl, rfl⟩)
  · have hlen : (((l.take k).map f).flatMap cI).length = k * 1 := by rw [lenI, List.length_map, List.length_take]; omega
    simp only [List.cons_append, List.nil_append] at hH
    subst hH
    repeat' (first | (refine XO.op rfl ?_; (first | ((first | refine Xo.ng rfl ?_); (first | (refine Xg.ev (EvF.move rfl rfl) rfl rfl ?_) | (refine Xg.ev (EvF.assign rfl rfl) rfl rfl ?_) | (refine Xg.ev (EvF.cmp rfl rfl rfl rfl) rfl rfl ?_) | (refine Xg.ev (EvF.fieldAddr rfl rfl (te rfl) rfl (te rfl) (by decide)) rfl rfl ?_) | (refine Xg.ev (EvF.lenSlice rfl rfl (te rfl)) rfl rfl ?_) | (refine Xg.ev (EvF.loadV rfl rfl (LoadV.own (te rfl) rfl (List.Mem.head _) rfl)) rfl rfl ?_) | (refine Xg.st (StF.boxAgg rfl rfl) rfl rfl ?_; rintro _ _ ⟨bx, rfl, rfl⟩))))) | (refine XO.done rfl ?_; refine hK _ _ ?_; clear hK K) | refine X.seq rfl ?_ | refine X.region rfl (fun K hK => ?_) | refine X.block rfl ?_ | (refine X.brk rfl ?_; first | refine blockX_hit rfl ?_ | skip) | refine X.skip rfl ?_ | refine X.ret rfl ?_ | (refine X.ite rfl rfl (fun hc => ?_); (first | (with_reducible refine Xb.case hc (fun h => ?_) (fun h => ?_))) <;> clear hc))
    · obtain ⟨b, off, e, rfl, he⟩ := hl.elem (i := k) (by omega)
      have hl1 : ∀ r, SlE (r :: H) (some ⟨b, off, none⟩) cDr 4 l := fun r => hl.sub (fun _ h => List.mem_cons_of_mem _ h)
      repeat' (first | (refine XO.op rfl ?_; (first | ((first | refine Xo.ng rfl ?_); (first | (refine Xg.ev (EvF.loadV rfl rfl (LoadV.elA0 (hl1 _) he (te rfl) rfl (fun _ hm => hm) rfl)) rfl rfl ?_) | (refine Xg.call (EnF.dyn0 rfl rfl (by (repeat (first | exact Args.nil | refine Args.cons rfl ?_)); done)) rfl rfl (hg _ _) ?_; rintro _ H9 ⟨rfl, hH9⟩; subst H9) | (refine Xg.st (StF.buildOne rfl el55 rfl rfl rfl (by decide) (by decide)) rfl rfl ?_; rintro _ _ ⟨bs, rfl, rfl⟩) | (refine Xg.st (StF.appendOwn (i := 2) rfl el55 rfl rfl rfl hlen rfl (Rd.own (List.Mem.head _)) rfl (by omega)) rfl rfl ?_; rintro _ _ ⟨bn, kn, rfl, rfl⟩; dsimp only [List.eraseIdx]) | (refine Xg.ev (EvF.move rfl rfl) rfl rfl ?_) | (refine Xg.ev (EvF.assign rfl rfl) rfl rfl ?_) | (refine Xg.ev (EvF.add64 rfl rfl rfl (by omega) (by omega)) rfl rfl ?_) | (refine Xg.ev (EvF.indexSlice rfl rfl rfl (te rfl) (te rfl) (by omega) (by omega)) rfl rfl ?_) | (refine Xg.ev (EvF.loadV rfl rfl (LoadV.whole (te rfl) rfl (List.Mem.head _) rfl)) rfl rfl ?_) | (refine Xg.st (StF.alloc rfl Try.zeroValue62 rfl) rfl rfl ?_; rintro _ _ ⟨bx, rfl, rfl⟩) | (refine Xg.st0 (StF.storeAll (i := 0) rfl rfl rfl (te rfl) rfl rfl rfl rfl) rfl ?_; rintro _ _ ⟨rfl, rfl⟩; dsimp only [List.set]))))) | (refine XO.done rfl ?_; refine hK _ _ ?_; clear hK K) | refine X.region rfl (fun K hK => ?_))
      refine ⟨_, _, _, (by (repeat (first | exact Sub.nil _ | refine Sub.cons rfl ?_)); done), ?_, ⟨k + 1, _, [⟨bn, 0, ((l.take (k + 1)).map f).flatMap cI, some 3, kn * 1⟩], rfl, by omega, .inr ⟨_, _, by omega, rfl, rfl⟩, rfl, rfl⟩, by omega⟩
      rw [take_snoc he, List.map_append, List.flatMap_append]
      exact (by (repeat (first | exact List.Sublist.refl _ | apply List.Sublist.cons_cons | apply List.Sublist.cons)); done)
    · obtain rfl : k = l.length := by omega
      rw [List.take_length]
      refine ret_one (by first | exact .inr rfl | exact .inl rfl) Try.results43 rfl (H' := ⟨b0, 0, (l.map f).flatMap cI, some 3, q0 * 1⟩ :: H) (by (repeat (first | exact List.Sublist.refl _ | apply List.Sublist.cons_cons | apply List.Sublist.cons)); done) (.inr ⟨b0, q0, (fun e => by rw [e] at hk0; exact absurd hk0 (Nat.lt_irrefl 0)), by rw [List.length_map], rfl⟩)
theorem numbersF_specWg (g : Nat) (f : Wg → Int) (hg : ∀ e H, Fc Try.prog g ([.agg (cDr e).toArray] ++ []) H (fun v H' => v = .int .i64 (f e) ∧ H' = H)) (l : List Wg) (a : Option Addr) (c : Nat) (H : List Row) (hl : SlE H a cDr 4 l) (hb : l.length ≤ 1000000) :
    Fc Try.prog 43 [.slice a l.length c, .func (.func g) #[] #[]] H (fun v H' => ∃ a' c' Z, v = .slice a' (l.map f).length c' ∧ H' = Z ++ H ∧ SlE (Z ++ H) a' cI 1 (l.map f)) := by
  refine (numbersO_specWg g f hg l a c H hl hb).mono ?_
  rintro v H' (⟨rfl, rfl, rfl⟩ | ⟨b, q, _, rfl, rfl⟩)
  · exact ⟨none, 0, [], rfl, rfl, sleNil⟩
  · exact ⟨some ⟨b, 0, none⟩, q, [_], rfl, rfl, SlE.ofRow (List.Mem.head _) (fun _ _ => rfl)⟩
end Go.Proofs.Ytminkpgacomicac
end
section
set_option linter.unusedVariables false
namespace Go.Fw
open Go Go.RowKit
section
variable {P : Program} {n : Nat} {ops : Array Oper} {i : Nat} {o : Oper} {F : FS} {H : List Row}
/-- rows in another order -/
theorem X.permH {c : Code} {Q : QX} {H' : List Row} (hp : H'.Perm H) (k : X P n c F H' Q) : X P n c F H Q := by
  unfold X W at *
  intro t ha ρ ds B w0 w hS
  exact k t ha ρ ds B w0 w (hS.perm hp)
/-- a piece of a row can be read -/
theorem Rd.piece {b j cap : Nat} {xs ys zs : List Value} {ow : Option Kd} (hr : ⟨b, 0, xs ++ ys ++ zs, ow, cap⟩ ∈ H) (hj : xs.length = j) : Rd H ⟨b, 0 + j, none⟩ ys := by
  intro k v hk
  refine ⟨_, hr, j + k, rfl, rfl, by show 0 + (j + k) = 0 + j + k; omega, ?_⟩
  subst hj
  have hk' := (List.getElem?_eq_some_iff.1 hk).1
  rw [List.append_assoc, List.getElem?_append_right (by omega), Nat.add_sub_cancel_left, List.getElem?_append_left hk']
  exact hk
/-- a table of a region whose last operation alone does something: nothing is drawn -/
def valL (vs : List Value) (k : Nat) (_ : Env) : Value := vs.getD k undef
def rowsL (m : Nat) (new old : Row) (k : Nat) (_ : Env) : List Row := match Nat.beq k m with
  | true => [new]
  | false => match Nat.beq k (m + 1) with
    | true => [old]
    | false => []
end
end Go.Fw
end
section
set_option linter.unusedVariables false
namespace Go.Fw
open Go Go.RowKit
section
variable {P : Program} {n : Nat} {ops : Array Oper} {i : Nat} {o : Oper} {F : FS} {H : List Row}
theorem EvF.mul64 {T T' : TypeId} {x y : Operand} {p q : Int} (h : o.op = .binOp .mul T x y T') (hx : evF F x = some (.int .i64 p)) (hy : evF F y = some (.int .i64 q))
    (h1 : -9223372036854775808 ≤ p * q) (h2 : p * q ≤ 9223372036854775807) : EvF P n H F o (.int .i64 (p * q)) := by
  have := EvF.arith (P := P) (n := n) (H := H) (r := IntKind.i64.wrap (p * q)) h hx hy rfl
  rwa [wrap_i64 h1 h2] at this
/-- division of what is not below zero, rounded down -/
theorem EvF.quo64 {T T' : TypeId} {x y : Operand} {p q : Int} (h : o.op = .binOp .quo T x y T') (hx : evF F x = some (.int .i64 p)) (hy : evF F y = some (.int .i64 q))
    (h0 : 0 ≤ p) (h2 : p ≤ 9223372036854775807) (hq : 0 < q) : EvF P n H F o (.int .i64 (p / q)) := by
  unfold EvF EvOp
  intro t ha B w0 w hS
  have e : p.tdiv q = p / q := Int.tdiv_eq_ediv_of_nonneg h0
  have h3 : 0 ≤ p / q := Int.ediv_nonneg h0 (by omega)
  have h4 : p / q ≤ p := Int.ediv_le_self _ h0
  have hw := wrap_i64 (n := p / q) (by omega) (by omega)
  have hz : ¬ q = 0 := by omega
  simp [execOp, h, ha.ev hx, ha.ev hy, eqGuard, binOp, Op.intDiv, hz, e, hw]
theorem EvF.nilCheck {x : Operand} {a : Addr} (h : o.op = .nilCheck x) (hx : evF F x = some (.pointer (some a))) : EvF P n H F o (.pointer (some a)) := by
  unfold EvF EvOp
  intro t ha B w0 w hS
  simp [execOp, h, ha.ev hx]
theorem EvF.cmpB {op : BinOp} {T T' : TypeId} {x y : Operand} {p q b : Bool} (h : o.op = .binOp op T x y T') (hx : evF F x = some (.bool p)) (hy : evF F y = some (.bool q)) (hu : P.underlying T = some .bool)
    (hb : (match op with | .eql => some (p == q) | .neq => some (!(p == q)) | _ => none) = some b) : EvF P n H F o (.bool b) := by
  unfold EvF EvOp
  intro t ha B w0 w hS
  have e1 := ha.ev hx
  have e2 := ha.ev hy
  have e3 := run_equalIn_bool (P := P) w 9999 T p q hu
  cases op <;> simp only [Option.some.injEq, reduceCtorEq] at hb <;> subst hb <;> simp [execOp, h, e1, e2, eqGuard, binOp, Op.equal, Op.maxDepth, e3]
theorem EvF.buildArr {T e : TypeId} {l : List (Nat × Operand)} {vs : List (Nat × Value)} {len s y : Nat} {ti : TI} {zs cs : List Value} (h : o.op = .build T l.toArray) (hv : ArgsP F l vs) (hT : tiOf P T = some ⟨.ar len e, s, y⟩) (he : tiOf P e = some ti)
    (hz : ∀ w, (zeroValue T).run P w = .ok (.agg zs.toArray) w) (hf : fillL (fun i => some (i * ti.size, ti.size)) zs vs = some cs) : EvF P n H F o (.agg cs.toArray) := by
  unfold EvF EvOp
  intro t ha B w0 w hS
  have hu := ti_array hT
  have h2 := fill_eq (fun i => some (i * ti.size, ti.size)) vs zs.toArray cs (by simpa using hf)
  have h3 := hv.ev ha
  have h5 := ti_size he w
  have h6 : l.map (fun x => (x.1, Fw.ev t x.2)) = vs := h3
  simp [execOp, h, Instr.build, hz, underlying, hu, h5, Value.cells, h6, h2]
/-- an array of one's own, sliced up to some element -/
theorem EvF.sliceArr {T e : TypeId} {x q : Operand} {b off len hh s y : Nat} {kk : IntKind} {ti : TI} (h : o.op = .slice T x none (some q) none) (hx : evF F x = some (.pointer (some ⟨b, off, none⟩))) (hT : tiOf P T = some ⟨.ar len e, s, y⟩) (he : tiOf P e = some ti) (hq : evF F q = some (.int kk (hh : Int))) (h1 : hh ≤ len) :
    EvF P n H F o (.slice (some ⟨b, off, none⟩) hh len) := by
  unfold EvF EvOp
  intro t ha B w0 w hS
  have hu := ti_array hT
  have hsz := ti_size he w
  have hxv := ha.ev hx
  have hqv := ha.ev hq
  have hbd : (Instr.sliceBounds false len len none (some (.int kk (hh : Int))) none).run P w = .ok (0, hh, len) w := by
    simp [Instr.sliceBounds, Instr.sliceBound, asIntOf, h1]
  simp [execOp, h, hxv, hqv, Instr.sliceAt, Instr.sureAddr, underlying, hu, hbd, hsz, add_none]
end
section
variable {P : Program} {n : Nat} {c : Code} {F : FS} {H : List Row} {Q : QX}
abbrev ngX (Q : QX) : QX
  | .goto _, _, _ => False
  | e, F, H => Q e F H
theorem X.label {l : Nat} (h : c = .label l) (hq : Q .normal F H) : X P n c F H Q := by
  unfold X W
  intro t ha ρ ds B w0 w hS
  subst h
  exact wpIn_label ⟨rfl, H, ⟨F, by simpa using ha, hq⟩, hS⟩
theorem wpIn_scope_straight {F : Fence} {n : Nat} {P : Program} {Q : Exit → Act → World → Prop} {a : Act} {w : World} {c : Code} (h : c.wpIn F n P (Exit.noGoto Q) a w) : (Code.scope c).wpIn F n P Q a w := by
  intro b k cs hro hb hr
  obtain ⟨e, a₁, w₁, hq, harr⟩ := h b (.inScope c :: k) cs hro hb hr
  have h0 : (lone (b.atR a (.code (.scope c) :: k)) cs w).fenced P F := fenced_calm hb hr rfl
  have hs : step P (lone (b.atR a (.code (.scope c) :: k)) cs w) = .next (lone (b.atR a (.code c :: .inScope c :: k)) cs w) :=
    step_lone_go (by simp [stepG, stepG.exec, Frame.atR])
  cases e with
  | normal => exact ⟨.normal, a₁, w₁, hq, .head h0 hs (StepsIn.trans harr (.one (fenced_calm hb hr rfl) (step_lone_go (by simp [stepG, stepG.exec, Frame.atR]))))⟩
  | exit id =>
    exact ⟨.exit id, a₁, w₁, hq, (fun k' hk => .head h0 hs (harr.1 k' (by simpa [exitTo] using hk))),
      (fun hr' hk => let ⟨k₁, h1, h2⟩ := harr.2 hr' (by simpa [exitTo] using hk); ⟨k₁, h1, .head h0 hs h2⟩)⟩
  | goto l => exact hq.elim
  | ret => exact ⟨_, a₁, w₁, hq, .of_steps (.one h0 hs) harr⟩
  | panic ch => exact ⟨_, a₁, w₁, hq, .of_steps (.one h0 hs) harr⟩
  | outgrown => exact ⟨_, a₁, w₁, hq, .of_steps (.one h0 hs) harr⟩
theorem X.scope (h : c = .scope (cfst c)) (hx : X P n (cfst c) F H (ngX Q)) : X P n c F H Q := by
  unfold X W at hx ⊢
  intro t ha ρ ds B w0 w hS
  rw [h]
  refine wpIn_scope_straight (wpIn_mono (hx t ha ρ ds B w0 w hS) ?_)
  rintro e a w' ⟨hd, H', ⟨F', ha', hq⟩, hS'⟩
  cases e with
  | goto l => exact hq.elim
  | _ => exact ⟨hd, H', ⟨F', ha', hq⟩, hS'⟩
end
end Go.Fw
end
section
set_option linter.unusedVariables false
set_option linter.unusedSimpArgs false
namespace Go.Proofs.Ytminkpgacomicac
open Go Go.Fw
set_option maxRecDepth 10000
def partOk (s : Sp) (a b : Int) : Prop := s.lo ≤ s.hi ∧ a ≤ s.lo ∧ s.hi ≤ b
instance (s : Sp) (a b : Int) : Decidable (partOk s a b) := by unfold partOk; infer_instance
theorem isPart_spec (s : Sp) (a b : Int) (H : List Row) : Fc Try.prog 26 [.agg (cSp s).toArray, .int .i64 a, .int .i64 b] H (fun v H' => v = .bool (decide (partOk s a b)) ∧ H' = H) := by
  refine Fc.mk (callable Try.call26) Try.func26 rfl Try.ntmps26 rfl ?_; dsimp only [fr]
  repeat' (first | (refine XO.op rfl ?_; (first | ((first | refine Xo.ng rfl ?_ | (refine Xo.g rfl rfl ?_; with_reducible refine Xw.tt ?_)); (first | (refine Xg.ev (EvF.build (cs := cSp ⟨a, b⟩) rfl (ArgsP.cons rfl (ArgsP.cons rfl ArgsP.nil)) (te rfl) (Places.cons (te rfl) (Places.cons (te rfl) Places.nil)) Try.zeroValue23 rfl) rfl rfl ?_) | (refine Xg.st (StF.buildTwo rfl el55 rfl rfl rfl rfl rfl rfl (by decide) (by decide)) rfl rfl ?_; rintro _ _ ⟨bo, rfl, rfl⟩) | (refine Xg.call (EnF.st rfl (Args.cons rfl (Args.cons rfl Args.nil))) rfl rfl (withinL_spec ⟨a, b⟩ [s.lo, s.hi] _ _ _ (SlE.ofRow (l := [s.lo, s.hi]) (List.Mem.head _) (fun _ _ => rfl)) (by simp)) ?_; rintro _ H9 ⟨rfl, hH9⟩; subst H9) | (refine Xg.ev (EvF.move rfl rfl) rfl rfl ?_) | (refine Xg.ev (EvF.assign rfl rfl) rfl rfl ?_) | (refine Xg.ev (EvF.pickT rfl rfl rfl) rfl rfl ?_) | (refine Xg.ev (EvF.pickF rfl rfl rfl) rfl rfl ?_) | (refine Xg.ev (EvF.cmp rfl rfl rfl rfl) rfl rfl ?_) | (refine Xg.ev (EvF.fieldAddr rfl rfl (te rfl) rfl (te rfl) (by decide)) rfl rfl ?_) | (refine Xg.ev (EvF.loadV rfl rfl (LoadV.own (te rfl) rfl (List.Mem.head _) rfl)) rfl rfl ?_) | (refine Xg.st (StF.boxAgg rfl rfl) rfl rfl ?_; rintro _ _ ⟨bx, rfl, rfl⟩))) | (refine Xo.g rfl rfl ?_; (first | (with_reducible refine Xw.ft rfl rfl ?_) | (with_reducible refine Xw.case (fun h => ?_) (fun h => ?_) <;> simp only [h, decide_true, decide_false, Bool.not_true, Bool.not_false, and_self, and_true, true_and, and_false, false_and]))))) | (refine XO.done rfl ?_; refine hK _ _ ?_; clear hK K) | refine X.seq rfl ?_ | refine X.region rfl (fun K hK => ?_) | refine X.ret rfl ?_)
  all_goals (refine ret_one (by first | exact .inr rfl | exact .inl rfl) Try.results26 rfl (H' := H) (by (repeat (first | exact List.Sublist.refl _ | apply List.Sublist.cons)); done) ?_; simp only [and_true, true_and])
  · congr 1; symm
    refine decide_eq_decide.2 ?_
    unfold partOk
    simp
    omega
  · congr 1; symm
    exact decide_eq_false (fun q => absurd q.1 (by assumption))
theorem areLayers_spec (B : Bl) (p : Pb) (l : List Int) (a : Option Addr) (c : Nat) (H : List Row) (h5 : ∀ n ∈ [B.layers], (Sp.mk 1 5).lo ≤ n ∧ n ≤ (Sp.mk 1 5).hi) (hl : SlE H a cI 1 l) (hb : l.length ≤ 9223372036854775807) :
    Fc Try.prog 42 [.agg (cBl B p).toArray, .slice a l.length c] H (fun v H' => v = .bool (decide (∀ n ∈ l, (Sp.mk 0 (B.layers - 1)).lo ≤ n ∧ n ≤ (Sp.mk 0 (B.layers - 1)).hi)) ∧ H' = H) := by
  have h6 : 1 ≤ B.layers ∧ B.layers ≤ 5 := by simpa using h5
  have hl1 : ∀ r, SlE (r :: H) a cI 1 l := fun r => hl.sub (fun _ h => List.mem_cons_of_mem _ h)
  obtain ⟨a1, c1, a2, c2⟩ := p
  refine Fc.mk (callable Try.call42) Try.func42 rfl Try.ntmps42 rfl ?_; dsimp only [fr]
  repeat' (first | (refine XO.op rfl ?_; (first | ((first | refine Xo.ng rfl ?_); (first | (refine Xg.ev (EvF.build (cs := cSp ⟨0, B.layers - 1⟩) rfl (ArgsP.cons rfl (ArgsP.cons rfl ArgsP.nil)) (te rfl) (Places.cons (te rfl) (Places.cons (te rfl) Places.nil)) Try.zeroValue23 rfl) rfl rfl ?_) | (refine Xg.call (EnF.st rfl (Args.cons rfl (Args.cons rfl Args.nil))) rfl rfl (withinL_spec ⟨0, B.layers - 1⟩ l a c _ (hl1 _) hb) ?_; rintro _ H9 ⟨rfl, hH9⟩; subst H9) | (refine Xg.ev (EvF.move rfl rfl) rfl rfl ?_) | (refine Xg.ev (EvF.assign rfl rfl) rfl rfl ?_) | (refine Xg.ev (EvF.sub64 rfl rfl rfl (by omega) (by omega)) rfl rfl ?_) | (refine Xg.ev (EvF.fieldAddr rfl rfl (te rfl) rfl (te rfl) (by decide)) rfl rfl ?_) | (refine Xg.ev (EvF.loadV rfl rfl (LoadV.own (te rfl) rfl (List.Mem.head _) rfl)) rfl rfl ?_) | (refine Xg.st (StF.boxAgg rfl rfl) rfl rfl ?_; rintro _ _ ⟨bx, rfl, rfl⟩))))) | (refine XO.done rfl ?_; refine hK _ _ ?_; clear hK K) | refine X.seq rfl ?_ | refine X.region rfl (fun K hK => ?_) | refine X.ret rfl ?_)
  refine ret_one (by first | exact .inr rfl | exact .inl rfl) Try.results42 rfl (H' := H) (by (repeat (first | exact List.Sublist.refl _ | apply List.Sublist.cons)); done) ?_; simp only [and_true, true_and]
def drawOk (B : Bl) (x : Dr) : Prop := (∀ n ∈ [x.val], (Sp.mk 0 (B.layers - 1)).lo ≤ n ∧ n ≤ (Sp.mk 0 (B.layers - 1)).hi) ∧ partOk ⟨x.lo, x.hi⟩ 1 9
instance (B : Bl) (x : Dr) : Decidable (drawOk B x) := by unfold drawOk; infer_instance
def weighOk (x : Wg) : Prop := (∀ n ∈ [x.val], (Sp.mk 1 1200).lo ≤ n ∧ n ≤ (Sp.mk 1 1200).hi) ∧ partOk ⟨x.lo, x.hi⟩ 0 200
instance (x : Wg) : Decidable (weighOk x) := by unfold weighOk; infer_instance
theorem hasValidDraws1_spec (B : Bl) (p : Pb) (x : Dr) (bb : Nat) (ow : Option Kd) (cap : Nat) (H : List Row) (h5 : ∀ n ∈ [B.layers], (Sp.mk 1 5).lo ≤ n ∧ n ≤ (Sp.mk 1 5).hi) (hm : ⟨bb, 0, cBl B p, ow, cap⟩ ∈ H) :
    Fc Try.prog 41 ([.agg (cDr x).toArray] ++ [.pointer (some ⟨bb, 0, none⟩)]) H (fun v H' => v = .bool (!decide (drawOk B x)) ∧ H' = H) := by
  show Fc Try.prog 41 [.agg (cDr x).toArray, .pointer (some ⟨bb, 0, none⟩)] H _
  refine Fc.mk (callable Try.call41) Try.func41 rfl Try.ntmps41 rfl ?_; dsimp only [fr]
  repeat' (first | (refine XO.op rfl ?_; (first | ((first | refine Xo.ng rfl ?_ | (refine Xo.g rfl rfl ?_; with_reducible refine Xw.ff ?_)); (first | (refine Xg.ev (EvF.loadV rfl rfl (LoadV.whole (te rfl) rfl (List.mem_cons_of_mem _ hm) rfl)) rfl rfl ?_) | (refine Xg.st (StF.buildOne rfl el55 rfl rfl rfl (by decide) (by decide)) rfl rfl ?_; rintro _ _ ⟨bo, rfl, rfl⟩) | (refine Xg.call (EnF.st rfl (Args.cons rfl (Args.cons rfl Args.nil))) rfl rfl (areLayers_spec B p [x.val] _ _ _ h5 (SlE.ofRow (l := [x.val]) (List.Mem.head _) (fun _ _ => rfl)) (by simp)) ?_; rintro _ H9 ⟨rfl, hH9⟩; subst H9) | (refine Xg.call (EnF.st rfl (Args.cons rfl (Args.cons rfl (Args.cons rfl Args.nil)))) rfl rfl (isPart_spec ⟨x.lo, x.hi⟩ 1 9 _) ?_; rintro _ H9 ⟨rfl, hH9⟩; subst H9) | (refine Xg.ev (EvF.move rfl rfl) rfl rfl ?_) | (refine Xg.ev (EvF.assign rfl rfl) rfl rfl ?_) | (refine Xg.ev (EvF.pickT rfl rfl rfl) rfl rfl ?_) | (refine Xg.ev (EvF.pickF rfl rfl rfl) rfl rfl ?_) | (refine Xg.ev (EvF.not rfl rfl) rfl rfl ?_) | (refine Xg.ev (EvF.fieldAddr rfl rfl (te rfl) rfl (te rfl) (by decide)) rfl rfl ?_) | (refine Xg.ev (EvF.loadV rfl rfl (LoadV.own (te rfl) rfl (List.Mem.head _) rfl)) rfl rfl ?_) | (refine Xg.ev (EvF.loadV rfl rfl (LoadV.ownAgg (te rfl) rfl (List.Mem.tail _ (List.Mem.head _)) rfl rfl)) rfl rfl ?_) | (refine Xg.st (StF.boxAgg rfl rfl) rfl rfl ?_; rintro _ _ ⟨bx, rfl, rfl⟩))) | (refine Xo.g rfl rfl ?_; (first | (with_reducible refine Xw.tf rfl rfl ?_) | (with_reducible refine Xw.caseN (fun h => ?_) (fun h => ?_) <;> simp only [h, decide_true, decide_false, Bool.not_true, Bool.not_false, and_self, and_true, true_and, and_false, false_and]) | (with_reducible refine Xw.caseB (fun h => ?_) (fun h => ?_) <;> simp only [h, decide_true, decide_false, Bool.not_true, Bool.not_false, and_self, and_true, true_and, and_false, false_and]))))) | (refine XO.done rfl ?_; refine hK _ _ ?_; clear hK K) | refine X.seq rfl ?_ | refine X.region rfl (fun K hK => ?_) | refine X.ret rfl ?_)
  all_goals (refine ret_one (by first | exact .inr rfl | exact .inl rfl) Try.results41 rfl (H' := H) (by (repeat (first | exact List.Sublist.refl _ | apply List.Sublist.cons)); done) ?_; simp only [and_true, true_and])
  all_goals (unfold drawOk; simp_all)
  all_goals (exact .inl (by omega))
theorem hasValidWeighs1_spec (x : Wg) (H : List Row) :
    Fc Try.prog 46 ([.agg (cDr x).toArray] ++ []) H (fun v H' => v = .bool (!decide (weighOk x)) ∧ H' = H) := by
  show Fc Try.prog 46 [.agg (cDr x).toArray] H _
  refine Fc.mk (callable Try.call46) Try.func46 rfl Try.ntmps46 rfl ?_; dsimp only [fr]
  repeat' (first | (refine XO.op rfl ?_; (first | ((first | refine Xo.ng rfl ?_ | (refine Xo.g rfl rfl ?_; with_reducible refine Xw.ff ?_)); (first | (refine Xg.ev (EvF.build (cs := cSp ⟨1, 1200⟩) rfl (ArgsP.cons rfl (ArgsP.cons rfl ArgsP.nil)) (te rfl) (Places.cons (te rfl) (Places.cons (te rfl) Places.nil)) Try.zeroValue23 rfl) rfl rfl ?_) | (refine Xg.st (StF.buildOne rfl el55 rfl rfl rfl (by decide) (by decide)) rfl rfl ?_; rintro _ _ ⟨bo, rfl, rfl⟩) | (refine Xg.call (EnF.st rfl (Args.cons rfl (Args.cons rfl Args.nil))) rfl rfl (withinL_spec ⟨1, 1200⟩ [x.val] _ _ _ (SlE.ofRow (l := [x.val]) (List.Mem.head _) (fun _ _ => rfl)) (by simp)) ?_; rintro _ H9 ⟨rfl, hH9⟩; subst H9) | (refine Xg.call (EnF.st rfl (Args.cons rfl (Args.cons rfl (Args.cons rfl Args.nil)))) rfl rfl (isPart_spec ⟨x.lo, x.hi⟩ 0 200 _) ?_; rintro _ H9 ⟨rfl, hH9⟩; subst H9) | (refine Xg.ev (EvF.move rfl rfl) rfl rfl ?_) | (refine Xg.ev (EvF.assign rfl rfl) rfl rfl ?_) | (refine Xg.ev (EvF.pickT rfl rfl rfl) rfl rfl ?_) | (refine Xg.ev (EvF.pickF rfl rfl rfl) rfl rfl ?_) | (refine Xg.ev (EvF.not rfl rfl) rfl rfl ?_) | (refine Xg.ev (EvF.fieldAddr rfl rfl (te rfl) rfl (te rfl) (by decide)) rfl rfl ?_) | (refine Xg.ev (EvF.loadV rfl rfl (LoadV.own (te rfl) rfl (List.Mem.head _) rfl)) rfl rfl ?_) | (refine Xg.ev (EvF.loadV rfl rfl (LoadV.ownAgg (te rfl) rfl (List.Mem.tail _ (List.Mem.head _)) rfl rfl)) rfl rfl ?_) | (refine Xg.st (StF.boxAgg rfl rfl) rfl rfl ?_; rintro _ _ ⟨bx, rfl, rfl⟩))) | (refine Xo.g rfl rfl ?_; (first | (with_reducible refine Xw.tf rfl rfl ?_) | (with_reducible refine Xw.caseN (fun h => ?_) (fun h => ?_) <;> simp only [h, decide_true, decide_false, Bool.not_true, Bool.not_false, and_self, and_true, true_and, and_false, false_and]) | (with_reducible refine Xw.caseB (fun h => ?_) (fun h => ?_) <;> simp only [h, decide_true, decide_false, Bool.not_true, Bool.not_false, and_self, and_true, true_and, and_false, false_and]))))) | (refine XO.done rfl ?_; refine hK _ _ ?_; clear hK K) | refine X.seq rfl ?_ | refine X.region rfl (fun K hK => ?_) | refine X.ret rfl ?_)
  all_goals (refine ret_one (by first | exact .inr rfl | exact .inl rfl) Try.results46 rfl (H' := H) (by (repeat (first | exact List.Sublist.refl _ | apply List.Sublist.cons)); done) ?_; simp only [and_true, true_and])
  all_goals (unfold weighOk; simp_all)
  all_goals (exact .inl (by omega))
def drawsOk (B : Bl) : Prop := B.draws.length ≤ 10 ∧ risesOk (B.draws.map (·.number)) ∧ ∀ x ∈ B.draws, drawOk B x
noncomputable instance (B : Bl) : Decidable (drawsOk B) := Classical.propDecidable _
def weighsOk (B : Bl) : Prop := B.weighs.length ≤ 8 ∧ risesOk (B.weighs.map (·.number)) ∧ ∀ x ∈ B.weighs, weighOk x
noncomputable instance (B : Bl) : Decidable (weighsOk B) := Classical.propDecidable _
theorem not_ex {α : Type} {p : α → Prop} [DecidablePred p] {l : List α} : (!decide (∃ e ∈ l, (!decide (p e)) = true)) = decide (∀ e ∈ l, p e) := by
  rw [Bool.not_eq_eq_eq_not, ← decide_not]
  refine decide_eq_decide.2 ?_
  simp
set_option maxHeartbeats 2000000 in
theorem hasValidDraws_spec (B : Bl) (p : Pb) (H : List Row) (h5 : ∀ n ∈ [B.layers], (Sp.mk 1 5).lo ≤ n ∧ n ≤ (Sp.mk 1 5).hi) (hB : BlOk H B p) : Fc Try.prog 27 [.agg (cBl B p).toArray] H (fun v H' => v = .bool (decide (drawsOk B)) ∧ H' = H) := by
  have hB1 : ∀ r, BlOk (r :: H) B p := fun r => hB.sub (fun _ h => List.mem_cons_of_mem _ h)
  have l1 := hB.l1
  obtain ⟨a1, c1, a2, c2⟩ := p
  refine Fc.mk (callable Try.call27) Try.func27 rfl Try.ntmps27 rfl ?_; dsimp only [fr]
  repeat' (first | (refine XO.op rfl ?_; (first | ((first | refine Xo.ng rfl ?_ | (refine Xo.g rfl rfl ?_; with_reducible refine Xw.ff ?_)); (first | (refine Xg.call (EnF.st rfl (Args.cons rfl (Args.cons rfl Args.nil))) rfl rfl (numbersF_specDr 39 (·.number) numberDr_spec B.draws _ _ _ (hB1 _).draws (by omega)) ?_; rintro _ _ ⟨a', c', Z, rfl, rfl, hz⟩) | (refine Xg.call (EnF.st rfl (Args.cons rfl Args.nil)) rfl rfl (rising_spec (B.draws.map (·.number)) a' c' _ hz (by rw [List.length_map]; omega)) ?_; rintro _ H9 ⟨rfl, hH9⟩; subst H9) | (refine Xg.ev (EvF.loadV rfl rfl (LoadV.own (te rfl) rfl (List.mem_append_right _ (List.Mem.head _)) rfl)) rfl rfl ?_) | (refine Xg.ev (EvF.makeFunc (fl := []) rfl Args.nil (Args.cons rfl Args.nil)) rfl rfl ?_) | (refine Xg.call (EnF.st rfl (Args.cons rfl (Args.cons rfl Args.nil))) rfl rfl (containsFunc_specDr B.draws _ _ 41 (fun x => !decide (drawOk B x)) [_] _ ((hB1 _).draws.sub (fun r h => List.mem_append_right _ h)) (by omega) (fun e _ => hasValidDraws1_spec B ⟨a1, c1, a2, c2⟩ e _ _ _ _ h5 (List.mem_append_right _ (List.Mem.head _)))) ?_; rintro _ H9 ⟨rfl, hH9⟩; subst H9) | (refine Xg.ev (EvF.move rfl rfl) rfl rfl ?_) | (refine Xg.ev (EvF.assign rfl rfl) rfl rfl ?_) | (refine Xg.ev (EvF.pickT rfl rfl rfl) rfl rfl ?_) | (refine Xg.ev (EvF.pickF rfl rfl rfl) rfl rfl ?_) | (refine Xg.ev (EvF.cmp rfl rfl rfl rfl) rfl rfl ?_) | (refine Xg.ev (EvF.not rfl rfl) rfl rfl ?_) | (refine Xg.ev (EvF.fieldAddr rfl rfl (te rfl) rfl (te rfl) (by decide)) rfl rfl ?_) | (refine Xg.ev (EvF.lenSlice rfl rfl (te rfl)) rfl rfl ?_) | (refine Xg.ev (EvF.loadV rfl rfl (LoadV.own (te rfl) rfl (List.Mem.head _) rfl)) rfl rfl ?_) | (refine Xg.st (StF.boxAgg rfl rfl) rfl rfl ?_; rintro _ _ ⟨bx, rfl, rfl⟩))) | (refine Xo.g rfl rfl ?_; (first | (with_reducible refine Xw.tf rfl rfl ?_) | (with_reducible refine Xw.case (fun h => ?_) (fun h => ?_) <;> simp only [h, decide_true, decide_false, Bool.not_true, Bool.not_false, and_self, and_true, true_and, and_false, false_and]))))) | (refine XO.done rfl ?_; refine hK _ _ ?_; clear hK K) | refine X.seq rfl ?_ | refine X.region rfl (fun K hK => ?_) | refine X.skip rfl ?_ | refine X.ret rfl ?_ | (refine X.ite rfl rfl (fun hc => ?_); (first | (with_reducible refine Xb.t hc ?_) | (with_reducible refine Xb.caseN hc (fun h => ?_) (fun h => ?_))) <;> clear hc))
  all_goals (refine ret_one (by first | exact .inr rfl | exact .inl rfl) Try.results27 rfl (H' := H) (by first | exact List.sublist_cons_self _ _ | exact (List.sublist_cons_self _ _).trans (List.sublist_append_right _ _)) ⟨?_, rfl⟩)
  all_goals (congr 1)
  all_goals first
    | (rw [not_ex]; exact decide_eq_decide.2 ⟨fun q => ⟨by omega, by assumption, q⟩, fun q => q.2.2⟩)
    | (symm; exact decide_eq_false (fun q => by have := q.1; omega))
    | (symm; exact decide_eq_false (fun q => absurd q.2.1 (by assumption)))
set_option maxHeartbeats 2000000 in
theorem hasValidWeighs_spec (B : Bl) (p : Pb) (H : List Row) (hB : BlOk H B p) : Fc Try.prog 28 [.agg (cBl B p).toArray] H (fun v H' => v = .bool (decide (weighsOk B)) ∧ H' = H) := by
  have hB1 : ∀ r, BlOk (r :: H) B p := fun r => hB.sub (fun _ h => List.mem_cons_of_mem _ h)
  have l2 := hB.l2
  obtain ⟨a1, c1, a2, c2⟩ := p
  refine Fc.mk (callable Try.call28) Try.func28 rfl Try.ntmps28 rfl ?_; dsimp only [fr]
  repeat' (first | (refine XO.op rfl ?_; (first | ((first | refine Xo.ng rfl ?_ | (refine Xo.g rfl rfl ?_; with_reducible refine Xw.ff ?_)); (first | (refine Xg.call (EnF.st rfl (Args.cons rfl (Args.cons rfl Args.nil))) rfl rfl (numbersF_specWg 44 (·.number) numberWg_spec B.weighs _ _ _ (hB1 _).weighs (by omega)) ?_; rintro _ _ ⟨a', c', Z, rfl, rfl, hz⟩) | (refine Xg.call (EnF.st rfl (Args.cons rfl Args.nil)) rfl rfl (rising_spec (B.weighs.map (·.number)) a' c' _ hz (by rw [List.length_map]; omega)) ?_; rintro _ H9 ⟨rfl, hH9⟩; subst H9) | (refine Xg.ev (EvF.loadV rfl rfl (LoadV.own (te rfl) rfl (List.mem_append_right _ (List.Mem.head _)) rfl)) rfl rfl ?_) | (refine Xg.call (EnF.st rfl (Args.cons rfl (Args.cons rfl Args.nil))) rfl rfl (containsFunc_specWg B.weighs _ _ 46 (fun x => !decide (weighOk x)) [] _ ((hB1 _).weighs.sub (fun r h => List.mem_append_right _ h)) (by omega) (fun e _ => hasValidWeighs1_spec e _)) ?_; rintro _ H9 ⟨rfl, hH9⟩; subst H9) | (refine Xg.ev (EvF.move rfl rfl) rfl rfl ?_) | (refine Xg.ev (EvF.assign rfl rfl) rfl rfl ?_) | (refine Xg.ev (EvF.pickT rfl rfl rfl) rfl rfl ?_) | (refine Xg.ev (EvF.pickF rfl rfl rfl) rfl rfl ?_) | (refine Xg.ev (EvF.cmp rfl rfl rfl rfl) rfl rfl ?_) | (refine Xg.ev (EvF.not rfl rfl) rfl rfl ?_) | (refine Xg.ev (EvF.fieldAddr rfl rfl (te rfl) rfl (te rfl) (by decide)) rfl rfl ?_) | (refine Xg.ev (EvF.lenSlice rfl rfl (te rfl)) rfl rfl ?_) | (refine Xg.ev (EvF.loadV rfl rfl (LoadV.own (te rfl) rfl (List.Mem.head _) rfl)) rfl rfl ?_) | (refine Xg.st (StF.boxAgg rfl rfl) rfl rfl ?_; rintro _ _ ⟨bx, rfl, rfl⟩))) | (refine Xo.g rfl rfl ?_; (first | (with_reducible refine Xw.tf rfl rfl ?_) | (with_reducible refine Xw.case (fun h => ?_) (fun h => ?_) <;> simp only [h, decide_true, decide_false, Bool.not_true, Bool.not_false, and_self, and_true, true_and, and_false, false_and]))))) | (refine XO.done rfl ?_; refine hK _ _ ?_; clear hK K) | refine X.seq rfl ?_ | refine X.region rfl (fun K hK => ?_) | refine X.skip rfl ?_ | refine X.ret rfl ?_ | (refine X.ite rfl rfl (fun hc => ?_); (first | (with_reducible refine Xb.t hc ?_) | (with_reducible refine Xb.caseN hc (fun h => ?_) (fun h => ?_))) <;> clear hc))
  all_goals (refine ret_one (by first | exact .inr rfl | exact .inl rfl) Try.results28 rfl (H' := H) (by first | exact List.sublist_cons_self _ _ | exact (List.sublist_cons_self _ _).trans (List.sublist_append_right _ _)) ⟨?_, rfl⟩)
  all_goals (congr 1)
  all_goals first
    | (rw [not_ex]; exact decide_eq_decide.2 ⟨fun q => ⟨by omega, by assumption, q⟩, fun q => q.2.2⟩)
    | (symm; exact decide_eq_false (fun q => by have := q.1; omega))
    | (symm; exact decide_eq_false (fun q => absurd q.2.1 (by assumption)))
/-- a valid bale, as the program asks it -/
def baleOk (B : Bl) : Prop := (∀ n ∈ [B.id], (Sp.mk 1 9999).lo ≤ n ∧ n ≤ (Sp.mk 1 9999).hi) ∧ (∀ n ∈ [B.layers], (Sp.mk 1 5).lo ≤ n ∧ n ≤ (Sp.mk 1 5).hi) ∧ partOk ⟨B.dlo, B.dhi⟩ 1 600 ∧ drawsOk B ∧ weighsOk B
noncomputable instance (B : Bl) : Decidable (baleOk B) := Classical.propDecidable _
end Go.Proofs.Ytminkpgacomicac
end
section
set_option linter.unusedVariables false
set_option linter.unusedSimpArgs false
namespace Go.Proofs.Ytminkpgacomicac
open Go Go.Fw
set_option maxRecDepth 10000
set_option maxHeartbeats 4000000 in
theorem kcheck_spec (B : Bl) (p : Pb) (H : List Row) (hB : BlOk H B p) : Fc Try.prog 10 [.agg (cBl B p).toArray] H (fun v H' => v = .int .i64 (if baleOk B then 0 else 30) ∧ H' = H) := by
  have hB1 : ∀ r, BlOk (r :: H) B p := fun r => hB.sub (fun _ h => List.mem_cons_of_mem _ h)
  have hB2 : ∀ r1 r2, BlOk (r1 :: r2 :: H) B p := fun r1 r2 => hB.sub (fun _ h => List.Mem.tail _ (List.Mem.tail _ h))
  have hB3 : ∀ r1 r2 r3, BlOk (r1 :: r2 :: r3 :: H) B p := fun r1 r2 r3 => hB.sub (fun _ h => List.Mem.tail _ (List.Mem.tail _ (List.Mem.tail _ h)))
  obtain ⟨a1, c1, a2, c2⟩ := p
  refine Fc.mk (callable Try.call10) Try.func10 rfl Try.ntmps10 rfl ?_; dsimp only [fr]
  repeat' (first | (refine XO.op rfl ?_; (first | ((first | refine Xo.ng rfl ?_ | (refine Xo.g rfl rfl ?_; with_reducible refine Xw.ff ?_)); (first | (refine Xg.ev (EvF.build (cs := cSp ⟨1, 9999⟩) rfl (ArgsP.cons rfl (ArgsP.cons rfl ArgsP.nil)) (te rfl) (Places.cons (te rfl) (Places.cons (te rfl) Places.nil)) Try.zeroValue23 rfl) rfl rfl ?_) | (refine Xg.ev (EvF.build (cs := cSp ⟨1, 5⟩) rfl (ArgsP.cons rfl (ArgsP.cons rfl ArgsP.nil)) (te rfl) (Places.cons (te rfl) (Places.cons (te rfl) Places.nil)) Try.zeroValue23 rfl) rfl rfl ?_) | (refine Xg.st (StF.buildOne rfl el55 rfl rfl rfl (by decide) (by decide)) rfl rfl ?_; rintro _ _ ⟨bo, rfl, rfl⟩) | (refine Xg.call (EnF.st rfl (Args.cons rfl (Args.cons rfl Args.nil))) rfl rfl (withinL_spec ⟨1, 9999⟩ [B.id] _ _ _ (SlE.ofRow (l := [B.id]) (List.Mem.head _) (fun _ _ => rfl)) (by simp)) ?_; rintro _ H9 ⟨rfl, hH9⟩; subst H9) | (refine Xg.call (EnF.st rfl (Args.cons rfl (Args.cons rfl Args.nil))) rfl rfl (withinL_spec ⟨1, 5⟩ [B.layers] _ _ _ (SlE.ofRow (l := [B.layers]) (List.Mem.head _) (fun _ _ => rfl)) (by simp)) ?_; rintro _ H9 ⟨rfl, hH9⟩; subst H9) | (refine Xg.call (EnF.st rfl (Args.cons rfl (Args.cons rfl (Args.cons rfl Args.nil)))) rfl rfl (isPart_spec ⟨B.dlo, B.dhi⟩ 1 600 _) ?_; rintro _ H9 ⟨rfl, hH9⟩; subst H9) | (refine Xg.call (EnF.st rfl (Args.cons rfl Args.nil)) rfl rfl (hasValidDraws_spec B ⟨a1, c1, a2, c2⟩ _ (by assumption) (hB3 _ _ _)) ?_; rintro _ H9 ⟨rfl, hH9⟩; subst H9) | (refine Xg.call (EnF.st rfl (Args.cons rfl Args.nil)) rfl rfl (hasValidWeighs_spec B ⟨a1, c1, a2, c2⟩ _ (hB3 _ _ _)) ?_; rintro _ H9 ⟨rfl, hH9⟩; subst H9) | (refine Xg.ev (EvF.move rfl rfl) rfl rfl ?_) | (refine Xg.ev (EvF.assign rfl rfl) rfl rfl ?_) | (refine Xg.ev (EvF.pickT rfl rfl rfl) rfl rfl ?_) | (refine Xg.ev (EvF.pickF rfl rfl rfl) rfl rfl ?_) | (refine Xg.ev (EvF.not rfl rfl) rfl rfl ?_) | (refine Xg.ev (EvF.fieldAddr rfl rfl (te rfl) rfl (te rfl) (by decide)) rfl rfl ?_) | (refine Xg.ev (EvF.loadV rfl rfl (LoadV.own (te rfl) rfl (List.Mem.head _) rfl)) rfl rfl ?_) | (refine Xg.ev (EvF.loadV rfl rfl (LoadV.own (te rfl) rfl (List.Mem.tail _ (List.Mem.head _)) rfl)) rfl rfl ?_) | (refine Xg.ev (EvF.loadV rfl rfl (LoadV.whole (te rfl) rfl (List.Mem.tail _ (List.Mem.tail _ (List.Mem.head _))) rfl)) rfl rfl ?_) | (refine Xg.ev (EvF.loadV rfl rfl (LoadV.ownAgg (te rfl) rfl (List.Mem.tail _ (List.Mem.tail _ (List.Mem.head _))) rfl rfl)) rfl rfl ?_) | (refine Xg.st (StF.boxAgg rfl rfl) rfl rfl ?_; rintro _ _ ⟨bx, rfl, rfl⟩))) | (refine Xo.g rfl rfl ?_; (first | (with_reducible refine Xw.tf rfl rfl ?_) | (with_reducible refine Xw.caseN (fun h => ?_) (fun h => ?_) <;> simp only [h, decide_true, decide_false, Bool.not_true, Bool.not_false, and_self, and_true, true_and, and_false, false_and]) | (with_reducible refine Xw.caseB (fun h => ?_) (fun h => ?_) <;> simp only [h, decide_true, decide_false, Bool.not_true, Bool.not_false, and_self, and_true, true_and, and_false, false_and]))))) | (refine XO.done rfl ?_; refine hK _ _ ?_; clear hK K) | refine X.seq rfl ?_ | refine X.region rfl (fun K hK => ?_) | refine X.skip rfl ?_ | refine X.ret rfl ?_ | (refine X.ite rfl rfl (fun hc => ?_); (first | (with_reducible refine Xb.t hc ?_) | (with_reducible refine Xb.caseN hc (fun h => ?_) (fun h => ?_))) <;> clear hc))
  all_goals (refine ret_one (by first | exact .inr rfl | exact .inl rfl) Try.results10 rfl (H' := H) (by (repeat (first | exact List.Sublist.refl _ | apply List.Sublist.cons)); done) ⟨?_, rfl⟩)
  all_goals first
    | (rw [if_pos (show baleOk B from ⟨by assumption, by assumption, by assumption, by assumption, by assumption⟩)])
    | (rw [if_neg (show ¬ baleOk B from fun q => by first | exact absurd q.1 (by assumption) | exact absurd q.2.1 (by assumption) | exact absurd q.2.2.1 (by assumption) | exact absurd q.2.2.2.1 (by assumption) | exact absurd q.2.2.2.2 (by assumption))])
    | (exfalso; simp_all; done)
end Go.Proofs.Ytminkpgacomicac
end
section
set_option linter.unusedVariables false
set_option linter.unusedSimpArgs false
namespace Go.Proofs.Ytminkpgacomicac
open Go Go.Fw
set_option maxRecDepth 10000
theorem within3_spec (n lo hi : Int) (H : List Row) : Fc Try.prog 23 [.int .i64 n, .int .i64 lo, .int .i64 hi] H (fun v H' => v = .bool (decide (lo ≤ n ∧ n ≤ hi)) ∧ H' = H) := by
  refine Fc.mk (callable Try.call23) Try.func23 rfl Try.ntmps23 rfl ?_; dsimp only [fr]
  repeat' (first | (refine XO.op rfl ?_; (first | ((first | refine Xo.ng rfl ?_ | (refine Xo.g rfl rfl ?_; with_reducible refine Xw.tt ?_)); (first | (refine Xg.ev (EvF.move rfl rfl) rfl rfl ?_) | (refine Xg.ev (EvF.assign rfl rfl) rfl rfl ?_) | (refine Xg.ev (EvF.pickT rfl rfl rfl) rfl rfl ?_) | (refine Xg.ev (EvF.pickF rfl rfl rfl) rfl rfl ?_) | (refine Xg.ev (EvF.cmp rfl rfl rfl rfl) rfl rfl ?_) | (refine Xg.ev (EvF.fieldAddr rfl rfl (te rfl) rfl (te rfl) (by decide)) rfl rfl ?_) | (refine Xg.ev (EvF.lenSlice rfl rfl (te rfl)) rfl rfl ?_) | (refine Xg.ev (EvF.loadV rfl rfl (LoadV.own (te rfl) rfl (List.Mem.head _) rfl)) rfl rfl ?_))) | (refine Xo.g rfl rfl ?_; (first | (with_reducible refine Xw.ft rfl rfl ?_) | (with_reducible refine Xw.case (fun h => ?_) (fun h => ?_) <;> simp only [h, decide_true, decide_false, Bool.not_true, Bool.not_false, and_self, and_true, true_and, and_false, false_and]))))) | (refine XO.done rfl ?_; refine hK _ _ ?_; clear hK K) | refine X.seq rfl ?_ | refine X.region rfl (fun K hK => ?_) | refine X.block rfl ?_ | (refine X.brk rfl ?_; first | refine blockX_hit rfl ?_ | skip) | refine X.skip rfl ?_ | refine X.ret rfl ?_ | (refine X.ite rfl rfl (fun hc => ?_); (first | (with_reducible refine Xb.case hc (fun h => ?_) (fun h => ?_))) <;> clear hc))
  all_goals (refine ret_one (by first | exact .inr rfl | exact .inl rfl) Try.results23 rfl (H' := H) (by (repeat (first | exact List.Sublist.refl _ | apply List.Sublist.cons)); done) ?_; simp only [and_true, true_and])
  all_goals simp [*]
def rz (ok : Dr → Prop) : Int → List Dr → Prop
  | _, [] => True
  | last, x :: t => last + 1 ≤ x.number ∧ x.number ≤ 9999 ∧ ok x ∧ rz ok x.number t
theorem rises_le' : ∀ (l : List Int) (last : Int), rises last l → last ≤ lastOf last l
  | [], _, _ => by simp [lastOf]
  | n :: t, last, h => by
    have := rises_le' t n h.2
    have h1 : last < n := h.1
    show last ≤ lastOf n t
    omega
theorem rz_iff (ok : Dr → Prop) : ∀ (l : List Dr) (last : Int), last ≤ 9999 → (rz ok last l ↔ (rises last (l.map (·.number)) ∧ lastOf last (l.map (·.number)) ≤ 9999) ∧ ∀ x ∈ l, ok x)
  | [], last, h => by simp [rz, rises, lastOf, h]
  | x :: t, last, h => by
    constructor
    · rintro ⟨h1, h2, h3, h4⟩
      obtain ⟨⟨q1, q2⟩, q3⟩ := (rz_iff ok t x.number h2).1 h4
      refine ⟨⟨⟨show last < x.number by omega, q1⟩, q2⟩, fun y hy => ?_⟩
      rcases List.mem_cons.1 hy with rfl | hy
      · exact h3
      · exact q3 y hy
    · rintro ⟨⟨⟨h1, h2⟩, h3⟩, h4⟩
      have h5 : x.number ≤ lastOf x.number (t.map (·.number)) := rises_le' _ _ h2
      have h1' : last < x.number := h1
      have h3' : lastOf x.number (t.map (·.number)) ≤ 9999 := h3
      exact ⟨by omega, by omega, h4 x List.mem_cons_self, (rz_iff ok t x.number (by omega)).2 ⟨⟨h2, h3'⟩, fun y hy => h4 y (List.mem_cons_of_mem _ hy)⟩⟩
def rdOk (B : Bl) (x : Dr) : Prop := (0 ≤ x.val ∧ x.val ≤ B.layers - 1) ∧ (1 ≤ x.lo ∧ x.lo ≤ x.hi) ∧ x.hi ≤ 9
def rwOk (x : Dr) : Prop := (1 ≤ x.val ∧ x.val ≤ 1200) ∧ (0 ≤ x.lo ∧ x.lo ≤ x.hi) ∧ x.hi ≤ 200
theorem rdOk_iff (B : Bl) (x : Dr) : rdOk B x ↔ drawOk B x := by
  unfold rdOk drawOk partOk; simp; omega
theorem rwOk_iff (x : Dr) : rwOk x ↔ weighOk x := by
  unfold rwOk weighOk partOk; simp; omega
def refBale (B : Bl) : Prop := (1 ≤ B.id ∧ B.id ≤ 9999) ∧ (1 ≤ B.layers ∧ B.layers ≤ 5) ∧ (1 ≤ B.dlo ∧ B.dlo ≤ B.dhi) ∧ B.dhi ≤ 600 ∧ B.draws.length ≤ 10 ∧ B.weighs.length ≤ 8 ∧ rz (rdOk B) 0 B.draws ∧ rz rwOk 0 B.weighs
noncomputable instance (B : Bl) : Decidable (refBale B) := Classical.propDecidable _
theorem refBale_iff (B : Bl) : refBale B ↔ baleOk B := by
  unfold refBale baleOk drawsOk weighsOk risesOk partOk
  rw [rz_iff _ _ _ (by omega), rz_iff _ _ _ (by omega)]
  simp only [List.mem_singleton, forall_eq, rdOk_iff, rwOk_iff]
  constructor
  · rintro ⟨h1, h2, h3, h4, h5, h6, ⟨h7, h8⟩, h9, h10⟩
    exact ⟨h1, h2, ⟨h3.2, h3.1, h4⟩, ⟨h5, h7, h8⟩, h6, h9, h10⟩
  · rintro ⟨h1, h2, h3, ⟨h5, h7, h8⟩, h6, h9, h10⟩
    exact ⟨h1, h2, ⟨h3.2.1, h3.1⟩, h3.2.2, h5, h6, ⟨h7, h8⟩, h9, h10⟩
set_option maxHeartbeats 4000000 in
theorem bale_spec (B : Bl) (p : Pb) (H : List Row) (hB : BlOk H B p) : Fc Try.prog 19 [.agg (cBl B p).toArray] H (fun v H' => v = .bool (decide (baleOk B)) ∧ H' = H) := by
  rw [show decide (baleOk B) = decide (refBale B) from decide_eq_decide.2 (refBale_iff B).symm]
  have hB1 : ∀ r, BlOk (r :: H) B p := fun r => hB.sub (fun _ h => List.mem_cons_of_mem _ h)
  have l1 := hB.l1
  have l2 := hB.l2
  obtain ⟨a1, c1, a2, c2⟩ := p
  refine Fc.mk (callable Try.call19) Try.func19 rfl Try.ntmps19 rfl ?_; dsimp only [fr]
  repeat' (first | (refine XO.op rfl ?_; (first | ((first | refine Xo.ng rfl ?_ | (refine Xo.g rfl rfl ?_; with_reducible refine Xw.ff ?_)); (first | (refine Xg.call (EnF.st rfl (Args.cons rfl (Args.cons rfl (Args.cons rfl Args.nil)))) rfl rfl (within3_spec _ _ _ _) ?_; rintro _ H9 ⟨rfl, hH9⟩; subst H9) | (refine Xg.ev (EvF.move rfl rfl) rfl rfl ?_) | (refine Xg.ev (EvF.assign rfl rfl) rfl rfl ?_) | (refine Xg.ev (EvF.pickT rfl rfl rfl) rfl rfl ?_) | (refine Xg.ev (EvF.pickF rfl rfl rfl) rfl rfl ?_) | (refine Xg.ev (EvF.cmp rfl rfl rfl rfl) rfl rfl ?_) | (refine Xg.ev (EvF.not rfl rfl) rfl rfl ?_) | (refine Xg.ev (EvF.fieldAddr rfl rfl (te rfl) rfl (te rfl) (by decide)) rfl rfl ?_) | (refine Xg.ev (EvF.lenSlice rfl rfl (te rfl)) rfl rfl ?_) | (refine Xg.ev (EvF.loadV rfl rfl (LoadV.own (te rfl) rfl (List.Mem.head _) rfl)) rfl rfl ?_) | (refine Xg.st (StF.boxAgg rfl rfl) rfl rfl ?_; rintro _ _ ⟨bx, rfl, rfl⟩))) | (refine Xo.g rfl rfl ?_; (first | (with_reducible refine Xw.tf rfl rfl ?_) | (with_reducible refine Xw.case (fun h => ?_) (fun h => ?_) <;> simp only [h, decide_true, decide_false, Bool.not_true, Bool.not_false, and_self, and_true, true_and, and_false, false_and]) | (with_reducible refine Xw.caseN (fun h => ?_) (fun h => ?_) <;> simp only [h, decide_true, decide_false, Bool.not_true, Bool.not_false, and_self, and_true, true_and, and_false, false_and]))))) | (refine XO.done rfl ?_; refine hK _ _ ?_; clear hK K) | refine X.seq rfl ?_ | refine X.region rfl (fun K hK => ?_) | refine X.block rfl ?_ | refine X.skip rfl ?_ | refine X.ret rfl ?_ | (refine X.ite rfl rfl (fun hc => ?_); (first | (with_reducible refine Xb.t hc ?_) | (with_reducible refine Xb.case hc (fun h => ?_) (fun h => ?_))) <;> clear hc))
  any_goals (refine ret_one (by first | exact .inr rfl | exact .inl rfl) Try.results19 rfl (H' := H) (by (repeat (first | exact List.Sublist.refl _ | apply List.Sublist.cons)); done) ?_; simp only [and_true, true_and]; congr 1; symm; exact decide_eq_false (fun q => by obtain ⟨q1, q2, q3, q4, q5, q6, _⟩ := q; omega))
  refine X.lp rfl (fun m F' H' => ∃ (k : Nat) (last : Int), m = B.draws.length - k ∧ k ≤ B.draws.length ∧ (rz (rdOk B) 0 B.draws ↔ rz (rdOk B) last (B.draws.drop k)) ∧ 0 ≤ last ∧ last ≤ 9999 ∧ H' = ⟨bx, 0, cBl B ⟨a1, c1, a2, c2⟩, some 27, 6⟩ :: H ∧
      F' = [(1, .pointer (some ⟨bx, 0, none⟩)), (3, .int .i64 last), (47, .slice a1 B.draws.length c1), (48, .int .i64 B.draws.length), (49, .int .i64 k)])
    B.draws.length [(1, .pointer (some ⟨bx, 0, none⟩)), (3, .int .i64 0), (47, .slice a1 B.draws.length c1), (48, .int .i64 B.draws.length), (49, .int .i64 (0 : Nat))] _ (by (repeat (first | exact Sub.nil _ | refine Sub.cons rfl ?_)); done) (List.Sublist.refl _) ⟨0, 0, by omega, by omega, by simp, by omega, by omega, rfl, rfl⟩ ?_
  rintro _ _ _ ⟨k, last, rfl, hk, hn, hl0, hl9, rfl, rfl⟩
  repeat' (first | (refine XO.op rfl ?_; (first | ((first | refine Xo.ng rfl ?_ | (refine Xo.g rfl rfl ?_; with_reducible refine Xw.tt ?_)); (first | (refine Xg.ev (EvF.move rfl rfl) rfl rfl ?_) | (refine Xg.ev (EvF.assign rfl rfl) rfl rfl ?_) | (refine Xg.ev (EvF.pickT rfl rfl rfl) rfl rfl ?_) | (refine Xg.ev (EvF.pickF rfl rfl rfl) rfl rfl ?_) | (refine Xg.ev (EvF.cmp rfl rfl rfl rfl) rfl rfl ?_) | (refine Xg.ev (EvF.fieldAddr rfl rfl (te rfl) rfl (te rfl) (by decide)) rfl rfl ?_) | (refine Xg.ev (EvF.lenSlice rfl rfl (te rfl)) rfl rfl ?_) | (refine Xg.ev (EvF.loadV rfl rfl (LoadV.own (te rfl) rfl (List.Mem.head _) rfl)) rfl rfl ?_))) | (refine Xo.g rfl rfl ?_; (first | (with_reducible refine Xw.ft rfl rfl ?_) | (with_reducible refine Xw.case (fun h => ?_) (fun h => ?_) <;> simp only [h, decide_true, decide_false, Bool.not_true, Bool.not_false, and_self, and_true, true_and, and_false, false_and]))))) | (refine XO.done rfl ?_; refine hK _ _ ?_; clear hK K) | refine X.seq rfl ?_ | refine X.region rfl (fun K hK => ?_) | refine X.block rfl ?_ | (refine X.brk rfl ?_; first | refine blockX_hit rfl ?_ | skip) | refine X.skip rfl ?_ | refine X.ret rfl ?_ | (refine X.ite rfl rfl (fun hc => ?_); (first | (with_reducible refine Xb.case hc (fun h => ?_) (fun h => ?_))) <;> clear hc))
  · obtain ⟨b, off, e, rfl, he⟩ := hB.draws.elem (i := k) (by omega)
    rw [drop_cons he] at hn
    repeat' (first | (refine XO.op rfl ?_; (first | ((first | refine Xo.ng rfl ?_ | (refine Xo.g rfl rfl ?_; with_reducible refine Xw.ff ?_)); (first | (refine Xg.ev (EvF.loadV rfl rfl (LoadV.elA0 (hB1 _).draws he (te rfl) rfl (fun _ hm => hm) rfl)) rfl rfl ?_) | (refine Xg.call (EnF.st rfl (Args.cons rfl (Args.cons rfl (Args.cons rfl Args.nil)))) rfl rfl (within3_spec _ _ _ _) ?_; rintro _ H9 ⟨rfl, hH9⟩; subst H9) | (refine Xg.ev (EvF.move rfl rfl) rfl rfl ?_) | (refine Xg.ev (EvF.assign rfl rfl) rfl rfl ?_) | (refine Xg.ev (EvF.pickT rfl rfl rfl) rfl rfl ?_) | (refine Xg.ev (EvF.pickF rfl rfl rfl) rfl rfl ?_) | (refine Xg.ev (EvF.cmp rfl rfl rfl rfl) rfl rfl ?_) | (refine Xg.ev (EvF.add64 rfl rfl rfl (by omega) (by omega)) rfl rfl ?_) | (refine Xg.ev (EvF.sub64 rfl rfl rfl (by omega) (by omega)) rfl rfl ?_) | (refine Xg.ev (EvF.not rfl rfl) rfl rfl ?_) | (refine Xg.ev (EvF.fieldAddr rfl rfl (te rfl) rfl (te rfl) (by decide)) rfl rfl ?_) | (refine Xg.ev (EvF.indexSlice rfl rfl rfl (te rfl) (te rfl) (by omega) (by omega)) rfl rfl ?_) | (refine Xg.ev (EvF.loadV rfl rfl (LoadV.own (te rfl) rfl (List.Mem.head _) rfl)) rfl rfl ?_) | (refine Xg.ev (EvF.loadV rfl rfl (LoadV.own (te rfl) rfl (List.Mem.tail _ (List.Mem.head _)) rfl)) rfl rfl ?_) | (refine Xg.st (StF.alloc rfl Try.zeroValue62 rfl) rfl rfl ?_; rintro _ _ ⟨bx, rfl, rfl⟩) | (refine Xg.st0 (StF.storeAll (i := 0) rfl rfl rfl (te rfl) rfl rfl rfl rfl) rfl ?_; rintro _ _ ⟨rfl, rfl⟩; dsimp only [List.set]))) | (refine Xo.g rfl rfl ?_; (first | (with_reducible refine Xw.tf rfl rfl ?_) | (with_reducible refine Xw.caseN (fun h => ?_) (fun h => ?_) <;> simp only [h, decide_true, decide_false, Bool.not_true, Bool.not_false, and_self, and_true, true_and, and_false, false_and]))))) | (refine XO.done rfl ?_; refine hK _ _ ?_; clear hK K) | refine X.seq rfl ?_ | refine X.region rfl (fun K hK => ?_) | refine X.skip rfl ?_ | refine X.ret rfl ?_ | (refine X.ite rfl rfl (fun hc => ?_); (first | (with_reducible refine Xb.t hc ?_) | (with_reducible refine Xb.case hc (fun h => ?_) (fun h => ?_))) <;> clear hc))
    any_goals (refine ret_one (by first | exact .inr rfl | exact .inl rfl) Try.results19 rfl (H' := H) (by (repeat (first | exact List.Sublist.refl _ | apply List.Sublist.cons)); done) ?_; simp only [and_true, true_and]; congr 1; symm; exact decide_eq_false (fun q => by have := hn.1 q.2.2.2.2.2.2.1; unfold rz rdOk at this; omega))
    refine ⟨_, _, _, (by (repeat (first | exact Sub.nil _ | refine Sub.cons rfl ?_)); done), (by (repeat (first | exact List.Sublist.refl _ | apply List.Sublist.cons)); done), ⟨k + 1, e.number, rfl, by omega, hn.trans ⟨fun q => q.2.2.2, fun q => ⟨by omega, by omega, ⟨by omega, by omega, by omega⟩, q⟩⟩, by omega, by omega, rfl, rfl⟩, by omega⟩
  have hD : rz (rdOk B) 0 B.draws := hn.2 (by rw [List.drop_eq_nil_of_le (by omega)]; trivial)
  clear hn
  refine X.lp rfl (fun m F' H' => ∃ (k : Nat) (last : Int), m = B.weighs.length - k ∧ k ≤ B.weighs.length ∧ (rz rwOk 0 B.weighs ↔ rz rwOk last (B.weighs.drop k)) ∧ 0 ≤ last ∧ last ≤ 9999 ∧ H' = ⟨bx, 0, cBl B ⟨a1, c1, a2, c2⟩, some 27, 6⟩ :: H ∧
      F' = [(1, .pointer (some ⟨bx, 0, none⟩)), (3, .int .i64 last), (88, .slice a2 B.weighs.length c2), (89, .int .i64 B.weighs.length), (90, .int .i64 k)])
    B.weighs.length [(1, .pointer (some ⟨bx, 0, none⟩)), (3, .int .i64 0), (88, .slice a2 B.weighs.length c2), (89, .int .i64 B.weighs.length), (90, .int .i64 (0 : Nat))] _ (by (repeat (first | exact Sub.nil _ | refine Sub.cons rfl ?_)); done) (List.Sublist.refl _) ⟨0, 0, by omega, by omega, by simp, by omega, by omega, rfl, rfl⟩ ?_
  rintro _ _ _ ⟨k, last, rfl, hk, hn, hl0, hl9, rfl, rfl⟩
  repeat' (first | (refine XO.op rfl ?_; (first | ((first | refine Xo.ng rfl ?_ | (refine Xo.g rfl rfl ?_; with_reducible refine Xw.tt ?_)); (first | (refine Xg.ev (EvF.move rfl rfl) rfl rfl ?_) | (refine Xg.ev (EvF.assign rfl rfl) rfl rfl ?_) | (refine Xg.ev (EvF.pickT rfl rfl rfl) rfl rfl ?_) | (refine Xg.ev (EvF.pickF rfl rfl rfl) rfl rfl ?_) | (refine Xg.ev (EvF.cmp rfl rfl rfl rfl) rfl rfl ?_) | (refine Xg.ev (EvF.fieldAddr rfl rfl (te rfl) rfl (te rfl) (by decide)) rfl rfl ?_) | (refine Xg.ev (EvF.lenSlice rfl rfl (te rfl)) rfl rfl ?_) | (refine Xg.ev (EvF.loadV rfl rfl (LoadV.own (te rfl) rfl (List.Mem.head _) rfl)) rfl rfl ?_))) | (refine Xo.g rfl rfl ?_; (first | (with_reducible refine Xw.ft rfl rfl ?_) | (with_reducible refine Xw.case (fun h => ?_) (fun h => ?_) <;> simp only [h, decide_true, decide_false, Bool.not_true, Bool.not_false, and_self, and_true, true_and, and_false, false_and]))))) | (refine XO.done rfl ?_; refine hK _ _ ?_; clear hK K) | refine X.seq rfl ?_ | refine X.region rfl (fun K hK => ?_) | refine X.block rfl ?_ | (refine X.brk rfl ?_; first | refine blockX_hit rfl ?_ | skip) | refine X.skip rfl ?_ | refine X.ret rfl ?_ | (refine X.ite rfl rfl (fun hc => ?_); (first | (with_reducible refine Xb.case hc (fun h => ?_) (fun h => ?_))) <;> clear hc))
  · obtain ⟨b, off, e, rfl, he⟩ := hB.weighs.elem (i := k) (by omega)
    rw [drop_cons he] at hn
    repeat' (first | (refine XO.op rfl ?_; (first | ((first | refine Xo.ng rfl ?_ | (refine Xo.g rfl rfl ?_; with_reducible refine Xw.ff ?_)); (first | (refine Xg.ev (EvF.loadV rfl rfl (LoadV.elA0 (hB1 _).weighs he (te rfl) rfl (fun _ hm => hm) rfl)) rfl rfl ?_) | (refine Xg.call (EnF.st rfl (Args.cons rfl (Args.cons rfl (Args.cons rfl Args.nil)))) rfl rfl (within3_spec _ _ _ _) ?_; rintro _ H9 ⟨rfl, hH9⟩; subst H9) | (refine Xg.ev (EvF.move rfl rfl) rfl rfl ?_) | (refine Xg.ev (EvF.assign rfl rfl) rfl rfl ?_) | (refine Xg.ev (EvF.pickT rfl rfl rfl) rfl rfl ?_) | (refine Xg.ev (EvF.pickF rfl rfl rfl) rfl rfl ?_) | (refine Xg.ev (EvF.cmp rfl rfl rfl rfl) rfl rfl ?_) | (refine Xg.ev (EvF.add64 rfl rfl rfl (by omega) (by omega)) rfl rfl ?_) | (refine Xg.ev (EvF.not rfl rfl) rfl rfl ?_) | (refine Xg.ev (EvF.fieldAddr rfl rfl (te rfl) rfl (te rfl) (by decide)) rfl rfl ?_) | (refine Xg.ev (EvF.indexSlice rfl rfl rfl (te rfl) (te rfl) (by omega) (by omega)) rfl rfl ?_) | (refine Xg.ev (EvF.loadV rfl rfl (LoadV.own (te rfl) rfl (List.Mem.head _) rfl)) rfl rfl ?_) | (refine Xg.st (StF.alloc rfl Try.zeroValue62 rfl) rfl rfl ?_; rintro _ _ ⟨bx, rfl, rfl⟩) | (refine Xg.st0 (StF.storeAll (i := 0) rfl rfl rfl (te rfl) rfl rfl rfl rfl) rfl ?_; rintro _ _ ⟨rfl, rfl⟩; dsimp only [List.set]))) | (refine Xo.g rfl rfl ?_; (first | (with_reducible refine Xw.tf rfl rfl ?_) | (with_reducible refine Xw.caseN (fun h => ?_) (fun h => ?_) <;> simp only [h, decide_true, decide_false, Bool.not_true, Bool.not_false, and_self, and_true, true_and, and_false, false_and]))))) | (refine XO.done rfl ?_; refine hK _ _ ?_; clear hK K) | refine X.seq rfl ?_ | refine X.region rfl (fun K hK => ?_) | refine X.skip rfl ?_ | refine X.ret rfl ?_ | (refine X.ite rfl rfl (fun hc => ?_); (first | (with_reducible refine Xb.t hc ?_) | (with_reducible refine Xb.case hc (fun h => ?_) (fun h => ?_))) <;> clear hc))
    any_goals (refine ret_one (by first | exact .inr rfl | exact .inl rfl) Try.results19 rfl (H' := H) (by (repeat (first | exact List.Sublist.refl _ | apply List.Sublist.cons)); done) ?_; simp only [and_true, true_and]; congr 1; symm; exact decide_eq_false (fun q => by have := hn.1 q.2.2.2.2.2.2.2; unfold rz rwOk at this; omega))
    refine ⟨_, _, _, (by (repeat (first | exact Sub.nil _ | refine Sub.cons rfl ?_)); done), (by (repeat (first | exact List.Sublist.refl _ | apply List.Sublist.cons)); done), ⟨k + 1, e.number, rfl, by omega, hn.trans ⟨fun q => q.2.2.2, fun q => ⟨by omega, by omega, ⟨by omega, by omega, by omega⟩, q⟩⟩, by omega, by omega, rfl, rfl⟩, by omega⟩
  have hW : rz rwOk 0 B.weighs := hn.2 (by rw [List.drop_eq_nil_of_le (by omega)]; trivial)
  refine ret_one (by first | exact .inr rfl | exact .inl rfl) Try.results19 rfl (H' := H) (by (repeat (first | exact List.Sublist.refl _ | apply List.Sublist.cons)); done) ?_; simp only [and_true, true_and]
  congr 1; symm
  exact decide_eq_true ⟨by omega, by omega, by omega, by omega, by omega, by omega, hD, hW⟩
end Go.Proofs.Ytminkpgacomicac
end
section
set_option linter.unusedVariables false
set_option linter.unusedSimpArgs false
namespace Go.Proofs.Ytminkpgacomicac
open Go Go.Fw
set_option maxRecDepth 10000
theorem greatB_spec (B : Bl) (p : Pb) (H : List Row) : Fc Try.prog 4 [.agg (cBl B p).toArray] H (fun v H' => v = .bool (decide (B.draws.length > 20 ∨ B.weighs.length > 16)) ∧ H' = H) := by
  obtain ⟨a1, c1, a2, c2⟩ := p
  refine Fc.mk (callable Try.call4) Try.func4 rfl Try.ntmps4 rfl ?_; dsimp only [fr]
  repeat' (first | (refine XO.op rfl ?_; (first | ((first | refine Xo.ng rfl ?_ | (refine Xo.g rfl rfl ?_; with_reducible refine Xw.ff ?_)); (first | (refine Xg.ev (EvF.move rfl rfl) rfl rfl ?_) | (refine Xg.ev (EvF.assign rfl rfl) rfl rfl ?_) | (refine Xg.ev (EvF.pickT rfl rfl rfl) rfl rfl ?_) | (refine Xg.ev (EvF.pickF rfl rfl rfl) rfl rfl ?_) | (refine Xg.ev (EvF.cmp rfl rfl rfl rfl) rfl rfl ?_) | (refine Xg.ev (EvF.fieldAddr rfl rfl (te rfl) rfl (te rfl) (by decide)) rfl rfl ?_) | (refine Xg.ev (EvF.lenSlice rfl rfl (te rfl)) rfl rfl ?_) | (refine Xg.ev (EvF.loadV rfl rfl (LoadV.own (te rfl) rfl (List.Mem.head _) rfl)) rfl rfl ?_) | (refine Xg.st (StF.boxAgg rfl rfl) rfl rfl ?_; rintro _ _ ⟨bx, rfl, rfl⟩))) | (refine Xo.g rfl rfl ?_; (first | (with_reducible refine Xw.tf rfl rfl ?_) | (with_reducible refine Xw.case (fun h => ?_) (fun h => ?_) <;> simp only [h, decide_true, decide_false, Bool.not_true, Bool.not_false, and_self, and_true, true_and, and_false, false_and]))))) | (refine XO.done rfl ?_; refine hK _ _ ?_; clear hK K) | refine X.seq rfl ?_ | refine X.region rfl (fun K hK => ?_) | refine X.ret rfl ?_)
  all_goals (refine ret_one (by first | exact .inr rfl | exact .inl rfl) Try.results4 rfl (H' := H) (by (repeat (first | exact List.Sublist.refl _ | apply List.Sublist.cons)); done) ?_; simp only [and_true, true_and])
  all_goals (congr 1; symm)
  all_goals first
    | exact decide_eq_true (.inl (by omega))
    | exact decide_eq_decide.2 ⟨fun q => by omega, fun q => by omega⟩
def tsTw : List TOp := [⟨some 3, [], [], []⟩, ⟨some 4, [0], [0], []⟩, ⟨some 5, [], [], []⟩, ⟨some 6, [2], [2], []⟩, ⟨some 7, [], [], []⟩, ⟨some 8, [4], [4], []⟩, ⟨some 9, [], [], []⟩, ⟨some 10, [], [], []⟩, ⟨some 11, [7], [7], []⟩, ⟨some 12, [6, 7, 8], [6, 8], [6]⟩, ⟨some 13, [], [], []⟩, ⟨some 14, [], [], []⟩, ⟨some 15, [11], [11], []⟩, ⟨some 16, [6, 7, 8, 9, 10, 11, 12], [10, 12], [10]⟩, ⟨some 17, [0, 1, 2, 3, 4, 5, 6, 7, 8, 9, 10, 11, 12, 13], [1, 3, 5, 9, 13], []⟩, ⟨none, [0, 1, 2, 3, 4, 5, 6, 7, 8, 9, 10, 11, 12, 13, 14], [14], [16]⟩, ⟨none, [], [], []⟩]
def plTw (env : Env) : Pb := ⟨some ⟨(env 9).1, 0, none⟩, (env 9).2, some ⟨(env 13).1, 0, none⟩, (env 13).2⟩
def cZb : List Value := [.int .i64 0, .int .i64 0, .int .i64 0, .int .i64 0, .slice none 0 0, .slice none 0 0]
def valTw (b1 : Nat) (B : Bl) (p : Pb) (k : Nat) (env : Env) : Value :=
  match k with
  | 0 => .pointer (some ⟨b1, 0, none⟩)
  | 1 => .int .i64 B.id
  | 2 => .pointer (some ⟨b1, 1, none⟩)
  | 3 => .int .i64 B.layers
  | 4 => .pointer (some ⟨b1, 2, none⟩)
  | 5 => .agg (cSp ⟨B.dlo, B.dhi⟩).toArray
  | 6 => .slice (some ⟨(env 6).1, 0, none⟩) 0 0
  | 7 => .pointer (some ⟨b1, 4, none⟩)
  | 8 => .slice p.a1 B.draws.length p.c1
  | 9 => .slice (some ⟨(env 9).1, 0, none⟩) B.draws.length (env 9).2
  | 10 => .slice (some ⟨(env 10).1, 0, none⟩) 0 0
  | 11 => .pointer (some ⟨b1, 5, none⟩)
  | 12 => .slice p.a2 B.weighs.length p.c2
  | 13 => .slice (some ⟨(env 13).1, 0, none⟩) B.weighs.length (env 13).2
  | 14 => .agg (cBl B ⟨some ⟨(env 9).1, 0, none⟩, (env 9).2, some ⟨(env 13).1, 0, none⟩, (env 13).2⟩).toArray
  | _ => undef
def rowsTw (b2 : Nat) (B : Bl) (k : Nat) (env : Env) : List Row :=
  match k with
  | 6 => [⟨(env 6).1, 0, [], some 62, 0⟩]
  | 9 => [⟨(env 9).1, 0, B.draws.flatMap cDr, some 62, (env 9).2 * 4⟩]
  | 10 => [⟨(env 10).1, 0, [], some 64, 0⟩]
  | 13 => [⟨(env 13).1, 0, B.weighs.flatMap cDr, some 64, (env 13).2 * 4⟩]
  | 15 => [⟨b2, 0, cBl B ⟨some ⟨(env 9).1, 0, none⟩, (env 9).2, some ⟨(env 13).1, 0, none⟩, (env 13).2⟩, some 27, 6⟩]
  | 16 => [⟨b2, 0, cZb, some 27, 6⟩]
  | _ => []
theorem locTw (b1 b2 : Nat) (B : Bl) (p : Pb) : ∀ k env i q9, i ≠ k → (tAt tsTw k).sup.contains i = false → valTw b1 B p k (upd env i q9) = valTw b1 B p k env ∧ rowsTw b2 B k (upd env i q9) = rowsTw b2 B k env := by
  intro k env i q hk hs
  have hu : ∀ j, j ≠ i → upd env i q j = env j := fun j hj => by unfold upd; rw [if_neg hj]
  match k, hk, hs with
  | 0, _, _ => exact ⟨rfl, rfl⟩
  | 1, _, _ => exact ⟨rfl, rfl⟩
  | 2, _, _ => exact ⟨rfl, rfl⟩
  | 3, _, _ => exact ⟨rfl, rfl⟩
  | 4, _, _ => exact ⟨rfl, rfl⟩
  | 5, _, _ => exact ⟨rfl, rfl⟩
  | 6, hk, hs => exact ⟨by simp only [valTw, hu 6 (fun e => hk e.symm)], by simp only [rowsTw, hu 6 (fun e => hk e.symm)]⟩
  | 7, _, _ => exact ⟨rfl, rfl⟩
  | 8, _, _ => exact ⟨rfl, rfl⟩
  | 9, hk, hs => exact ⟨by simp only [valTw, hu 9 (fun e => hk e.symm)], by simp only [rowsTw, hu 9 (fun e => hk e.symm)]⟩
  | 10, hk, hs => exact ⟨by simp only [valTw, hu 10 (fun e => hk e.symm)], by simp only [rowsTw, hu 10 (fun e => hk e.symm)]⟩
  | 11, _, _ => exact ⟨rfl, rfl⟩
  | 12, _, _ => exact ⟨rfl, rfl⟩
  | 13, hk, hs => exact ⟨by simp only [valTw, hu 13 (fun e => hk e.symm)], by simp only [rowsTw, hu 13 (fun e => hk e.symm)]⟩
  | 14, hk, hs => exact ⟨by simp only [valTw, hu 9 (by rintro rfl; cases hs), hu 13 (by rintro rfl; cases hs)], by simp only [rowsTw, hu 9 (by rintro rfl; cases hs), hu 13 (by rintro rfl; cases hs)]⟩
  | 15, hk, hs => exact ⟨by simp only [valTw, hu 9 (by rintro rfl; cases hs), hu 13 (by rintro rfl; cases hs)], by simp only [rowsTw, hu 9 (by rintro rfl; cases hs), hu 13 (by rintro rfl; cases hs)]⟩
  | 16, _, _ => exact ⟨rfl, rfl⟩
  | _ + 17, _, _ => exact ⟨rfl, rfl⟩
theorem oneBl (B : Bl) (p : Pb) : (cBl B p).all (·.oneCell') = true := rfl
set_option maxHeartbeats 2000000 in
theorem twinB_spec (B : Bl) (p : Pb) (H : List Row) (hB : BlOk H B p) : Fc Try.prog 5 [.agg (cBl B p).toArray] H (fun v H' => ∃ b1 k1 b2 k2, v = .agg (cBl B ⟨some ⟨b1, 0, none⟩, k1, some ⟨b2, 0, none⟩, k2⟩).toArray ∧
    H' = ⟨b1, 0, B.draws.flatMap cDr, some 62, k1 * 4⟩ :: ⟨b2, 0, B.weighs.flatMap cDr, some 64, k2 * 4⟩ :: H) := by
  have l1 := hB.l1
  have l2 := hB.l2
  refine Fc.mk (callable Try.call5) Try.func5 rfl Try.ntmps5 rfl ?_; dsimp only [fr]
  refine X.seq rfl ?_; refine X.region rfl (fun K hK => ?_); repeat' (first | (refine XO.op rfl ?_; (first | ((first | refine Xo.ng rfl ?_); (first | (refine Xg.st (StF.boxAgg rfl rfl) rfl rfl ?_; rintro _ _ ⟨bx, rfl, rfl⟩) | (refine Xg.st (StF.alloc rfl Try.zeroValue27 rfl) rfl rfl ?_; rintro _ _ ⟨bx, rfl, rfl⟩))))) | (refine XO.done rfl ?_; refine hK _ _ ?_; clear hK K))
  rename_i b1; rename Nat => b2
  refine X.seq rfl ?_
  refine X.regionOb tsTw [1, 2] [(1, .pointer (some ⟨b1, 0, none⟩)), (2, .pointer (some ⟨b2, 0, none⟩))] (valTw b1 B p) (rowsTw b2 B) (fun _ => (0, 0)) (⟨b1, 0, cBl B p, some 27, 6⟩ :: H) rfl mixed (by (repeat (first | exact Sub.nil _ | refine Sub.cons rfl ?_)); done) rfl (by kernel_rfl) (locTw b1 b2 B p) (List.Sublist.refl _) ?_ ?_
  · have hs : ∀ {α : Type} {a : Option Addr} {enc : α → List Value} {sz : Nat} {l : List α} (S Z : List Row), (∀ r ∈ ⟨b1, 0, cBl B p, some 27, 6⟩ :: H, r ∈ S) → SlE H a enc sz l → SlE (Z ++ S) a enc sz l :=
      fun S Z hS h => h.sub (fun r hr => List.mem_append_right _ (hS r (List.mem_cons_of_mem _ hr)))
    repeat' (first | exact AllF.done rfl | (refine AllF.step rfl ?_ ?_; · (first | fail | ((first | refine Ob.ng rfl ?_); (first | exact ObK.pure (fun env R hR => by exact ⟨_, EvF.fieldAddr rfl rfl (te rfl) rfl (te rfl) (by decide), rfl⟩) rfl (fun _ => rfl) | exact ObK.pure (fun env R hR => by exact ⟨_, EvF.loadV rfl rfl (LoadV.own (te rfl) rfl (hR _ (List.Mem.head _)) rfl), rfl⟩) rfl (fun _ => rfl) | exact ObK.pure (fun env R hR => by exact ⟨_, EvF.loadV rfl rfl (LoadV.ownAgg (te rfl) rfl (hR _ (List.Mem.head _)) rfl rfl), rfl⟩) rfl (fun _ => rfl) | (exact fun env S hS => (StF.buildNil rfl elDr).op.mono (fun v H' ⟨b, hv, hH⟩ => ⟨(b, 0), fun _ => hv, by rw [hH]; exact List.Perm.refl _⟩)) | (exact fun env S hS => (StF.buildNil rfl elWg).op.mono (fun v H' ⟨b, hv, hH⟩ => ⟨(b, 0), fun _ => hv, by rw [hH]; exact List.Perm.refl _⟩)) | (exact fun env S hS => (StF.appendSl (i := 0) rfl elDr rfl rfl rfl (hs S _ hS hB.draws) (fun e _ => one_dr e) rfl (by decide) (by omega)).op.mono (fun v H' ⟨b, c, hv, hH⟩ => ⟨(b, c), fun _ => by rw [hv, Nat.zero_add]; rfl, by rw [hH]; exact List.Perm.refl _⟩)) | (exact fun env S hS => (StF.appendSl (i := 0) rfl elWg rfl rfl rfl (hs S _ hS hB.weighs) (fun e _ => one_dr e) rfl (by decide) (by omega)).op.mono (fun v H' ⟨b, c, hv, hH⟩ => ⟨(b, c), fun _ => by rw [hv, Nat.zero_add]; rfl, by rw [hH]; exact List.Perm.refl _⟩)) | (exact ObK.pure (fun env S hS => ⟨_, EvF.build (cs := cBl B (plTw env)) rfl (ArgsP.cons rfl (ArgsP.cons rfl (ArgsP.cons rfl (ArgsP.cons rfl (ArgsP.cons rfl ArgsP.nil))))) (te rfl) (Places.cons (te rfl) (Places.cons (te rfl) (Places.cons (te rfl) (Places.cons (te rfl) (Places.cons (te rfl) Places.nil))))) Try.zeroValue27 rfl, rfl⟩) rfl (fun _ => rfl)) | (exact fun env S hS => (StF.storeAll (i := 0) (vs := cBl B (plTw env)) (cs := cZb) rfl rfl rfl (te rfl) rfl rfl rfl rfl).op.mono (fun v H' ⟨hv, hH⟩ => ⟨(0, 0), fun h => absurd rfl h, by rw [hH]; exact List.Perm.refl _⟩)))))))
  · intro env t ha hv
    refine ⟨[(2, .pointer (some ⟨b2, 0, none⟩))], ha.sub (by (repeat (first | exact Sub.nil _ | refine Sub.cons rfl ?_)); done), ?_⟩
    show X _ _ _ _ (⟨(env 9).1, 0, B.draws.flatMap cDr, some 62, (env 9).2 * 4⟩ :: ⟨(env 13).1, 0, B.weighs.flatMap cDr, some 64, (env 13).2 * 4⟩ :: ⟨b2, 0, cBl B ⟨some ⟨(env 9).1, 0, none⟩, (env 9).2, some ⟨(env 13).1, 0, none⟩, (env 13).2⟩, some 27, 6⟩ :: ⟨b1, 0, cBl B p, some 27, 6⟩ :: H) _
    repeat' (first | (refine XO.op rfl ?_; (first | ((first | refine Xo.ng rfl ?_ | (refine Xo.g rfl rfl ?_; with_reducible refine Xw.ff ?_)); (first | (refine Xg.ev (EvF.move rfl rfl) rfl rfl ?_) | (refine Xg.ev (EvF.assign rfl rfl) rfl rfl ?_) | (refine Xg.ev (EvF.pickT rfl rfl rfl) rfl rfl ?_) | (refine Xg.ev (EvF.pickF rfl rfl rfl) rfl rfl ?_) | (refine Xg.ev (EvF.cmp rfl rfl rfl rfl) rfl rfl ?_) | (refine Xg.ev (EvF.fieldAddr rfl rfl (te rfl) rfl (te rfl) (by decide)) rfl rfl ?_) | (refine Xg.ev (EvF.lenSlice rfl rfl (te rfl)) rfl rfl ?_) | (refine Xg.ev (EvF.loadV rfl rfl (LoadV.own (te rfl) rfl (List.Mem.head _) rfl)) rfl rfl ?_) | (refine Xg.st (StF.boxAgg rfl rfl) rfl rfl ?_; rintro _ _ ⟨bx, rfl, rfl⟩))) | (refine Xo.g rfl rfl ?_; (first | (with_reducible refine Xw.tf rfl rfl ?_) | (with_reducible refine Xw.case (fun h => ?_) (fun h => ?_) <;> simp only [h, decide_true, decide_false, Bool.not_true, Bool.not_false, and_self, and_true, true_and, and_false, false_and]))))) | (refine XO.done rfl ?_; refine hK _ _ ?_; clear hK K) | refine X.seq rfl ?_ | refine X.region rfl (fun K hK => ?_) | refine X.ret rfl ?_)
    exact ret_one (.inr rfl) Try.results5 ⟨_, rfl, LoadV.whole (te rfl) rfl (List.Mem.tail _ (List.Mem.tail _ (List.Mem.head _))) rfl⟩ (H' := ⟨(env 9).1, 0, B.draws.flatMap cDr, some 62, (env 9).2 * 4⟩ :: ⟨(env 13).1, 0, B.weighs.flatMap cDr, some 64, (env 13).2 * 4⟩ :: H) (by (repeat (first | exact List.Sublist.refl _ | apply List.Sublist.cons_cons | apply List.Sublist.cons)); done) ⟨_, _, _, _, rfl, rfl⟩
end Go.Proofs.Ytminkpgacomicac
end
section
set_option linter.unusedVariables false
set_option linter.unusedSimpArgs false
namespace Go.Proofs.Ytminkpgacomicac
open Go Go.Fw
set_option maxRecDepth 10000
noncomputable instance : DecidableEq Dr := fun _ _ => Classical.propDecidable _
noncomputable instance : DecidableEq Bl := fun _ _ => Classical.propDecidable _
theorem eqDr (d : Nat) (e f : Dr) (w : World) : (Op.equalIn (d + 3) 62 (.agg (cDr e).toArray) (.agg (cDr f).toArray)).run Try.prog w = .ok (decide (e = f)) w := by
  have hS : Try.prog.underlying 62 = some (.struct (Try.prog.fieldsOf 62)) := by kernel_rfl
  rw [run_equalIn_agg w (d + 2) 62 _ _ hS (by kernel_rfl)]
  simp only [Program.fieldsOf, Try.underlying62]
  go_simp
  have h34 := fun a b a' b' => eqSp d ⟨a, b⟩ ⟨a', b'⟩ w
  simp only [cSp] at h34
  obtain ⟨e1, e2, e3, e4⟩ := e
  obtain ⟨f1, f2, f3, f4⟩ := f
  by_cases h1 : e1 = f1
  · by_cases h2 : e2 = f2
    · by_cases h3 : e3 = f3 <;> by_cases h4 : e4 = f4 <;> simp [cDr, eqI, h34, Result.andThen, h1, h2, h3, h4]
    · simp [cDr, eqI, Result.andThen, h1, h2]
  · simp [cDr, eqI, Result.andThen, h1]
theorem eqWg (d : Nat) (e f : Wg) (w : World) : (Op.equalIn (d + 3) 64 (.agg (cDr e).toArray) (.agg (cDr f).toArray)).run Try.prog w = .ok (decide (e = f)) w := by
  have hS : Try.prog.underlying 64 = some (.struct (Try.prog.fieldsOf 64)) := by kernel_rfl
  rw [run_equalIn_agg w (d + 2) 64 _ _ hS (by kernel_rfl)]
  simp only [Program.fieldsOf, Try.underlying64]
  go_simp
  have h34 := fun a b a' b' => eqSp d ⟨a, b⟩ ⟨a', b'⟩ w
  simp only [cSp] at h34
  obtain ⟨e1, e2, e3, e4⟩ := e
  obtain ⟨f1, f2, f3, f4⟩ := f
  by_cases h1 : e1 = f1
  · by_cases h2 : e2 = f2
    · by_cases h3 : e3 = f3 <;> by_cases h4 : e4 = f4 <;> simp [cDr, eqI, h34, Result.andThen, h1, h2, h3, h4]
    · simp [cDr, eqI, Result.andThen, h1, h2]
  · simp [cDr, eqI, Result.andThen, h1]
theorem Bl.ext' {B C : Bl} (h1 : B.id = C.id) (h2 : B.layers = C.layers) (h3 : (⟨B.dlo, B.dhi⟩ : Sp) = ⟨C.dlo, C.dhi⟩) (h4 : B.draws = C.draws) (h5 : B.weighs = C.weighs) : B = C := by
  cases B; cases C; simp only [Sp.mk.injEq] at h3; simp_all
set_option maxHeartbeats 4000000 in
theorem sameB_spec (B C : Bl) (p q : Pb) (H : List Row) (hB : BlOk H B p) (hC : BlOk H C q) : Fc Try.prog 16 [.agg (cBl B p).toArray, .agg (cBl C q).toArray] H (fun v H' => v = .bool (decide (B = C)) ∧ H' = H) := by
  have l1 := hB.l1
  have l2 := hB.l2
  have m1 := hC.l1
  have m2 := hC.l2
  obtain ⟨a1, c1, a2, c2⟩ := p
  obtain ⟨b1, d1, b2, d2⟩ := q
  have hB2 : ∀ r r', BlOk (r :: r' :: H) B ⟨a1, c1, a2, c2⟩ := fun r r' => hB.sub (fun _ h => List.mem_cons_of_mem _ (List.mem_cons_of_mem _ h))
  have hC2 : ∀ r r', BlOk (r :: r' :: H) C ⟨b1, d1, b2, d2⟩ := fun r r' => hC.sub (fun _ h => List.mem_cons_of_mem _ (List.mem_cons_of_mem _ h))
  refine Fc.mk (callable Try.call16) Try.func16 rfl Try.ntmps16 rfl ?_; dsimp only [fr]
  repeat' (first | (refine XO.op rfl ?_; (first | ((first | refine Xo.ng rfl ?_ | (refine Xo.g rfl rfl ?_; with_reducible refine Xw.ff ?_)); (first | (refine Xg.ev (EvF.eqSt rfl rfl rfl (by kernel_rfl) (fun w => eqSp 9998 ⟨B.dlo, B.dhi⟩ ⟨C.dlo, C.dhi⟩ w) rfl) rfl rfl ?_) | (refine Xg.ev (EvF.move rfl rfl) rfl rfl ?_) | (refine Xg.ev (EvF.assign rfl rfl) rfl rfl ?_) | (refine Xg.ev (EvF.pickT rfl rfl rfl) rfl rfl ?_) | (refine Xg.ev (EvF.pickF rfl rfl rfl) rfl rfl ?_) | (refine Xg.ev (EvF.cmp rfl rfl rfl rfl) rfl rfl ?_) | (refine Xg.ev (EvF.fieldAddr rfl rfl (te rfl) rfl (te rfl) (by decide)) rfl rfl ?_) | (refine Xg.ev (EvF.lenSlice rfl rfl (te rfl)) rfl rfl ?_) | (refine Xg.ev (EvF.loadV rfl rfl (LoadV.own (te rfl) rfl (List.Mem.head _) rfl)) rfl rfl ?_) | (refine Xg.ev (EvF.loadV rfl rfl (LoadV.own (te rfl) rfl (List.Mem.tail _ (List.Mem.head _)) rfl)) rfl rfl ?_) | (refine Xg.ev (EvF.loadV rfl rfl (LoadV.ownAgg (te rfl) rfl (List.Mem.head _) rfl rfl)) rfl rfl ?_) | (refine Xg.ev (EvF.loadV rfl rfl (LoadV.ownAgg (te rfl) rfl (List.Mem.tail _ (List.Mem.head _)) rfl rfl)) rfl rfl ?_) | (refine Xg.st (StF.boxAgg rfl rfl) rfl rfl ?_; rintro _ _ ⟨bx, rfl, rfl⟩))) | (refine Xo.g rfl rfl ?_; (first | (with_reducible refine Xw.tf rfl rfl ?_) | (with_reducible refine Xw.caseN (fun h => ?_) (fun h => ?_) <;> simp only [h, decide_true, decide_false, Bool.not_true, Bool.not_false, and_self, and_true, true_and, and_false, false_and]))))) | (refine XO.done rfl ?_; refine hK _ _ ?_; clear hK K) | refine X.seq rfl ?_ | refine X.region rfl (fun K hK => ?_) | refine X.block rfl ?_ | refine X.skip rfl ?_ | refine X.ret rfl ?_ | (refine X.ite rfl rfl (fun hc => ?_); (first | (with_reducible refine Xb.t hc ?_) | (with_reducible refine Xb.caseN hc (fun h => ?_) (fun h => ?_))) <;> clear hc))
  any_goals (refine ret_one (by first | exact .inr rfl | exact .inl rfl) Try.results16 rfl (H' := H) (by (repeat (first | exact List.Sublist.refl _ | apply List.Sublist.cons)); done) ?_; simp only [and_true, true_and]; congr 1; symm; exact decide_eq_false (fun hh => by subst hh; first | omega | (exact absurd rfl (by assumption))))
  rename_i bx1 e1 e2 e3 e4
  have e5 := h
  refine X.lp rfl (fun m F' H' => ∃ k : Nat, m = B.draws.length - k ∧ k ≤ B.draws.length ∧ (B.draws = C.draws ↔ B.draws.drop k = C.draws.drop k) ∧ ⟨bx, 0, cBl C ⟨b1, d1, b2, d2⟩, some 27, 6⟩ :: ⟨bx1, 0, cBl B ⟨a1, c1, a2, c2⟩, some 27, 6⟩ :: H = H' ∧
      F' = [(2, .pointer (some ⟨bx1, 0, none⟩)), (3, .pointer (some ⟨bx, 0, none⟩)), (5, .int .i64 k)])
    B.draws.length [(2, .pointer (some ⟨bx1, 0, none⟩)), (3, .pointer (some ⟨bx, 0, none⟩)), (5, .int .i64 (0 : Nat))] _ (by (repeat (first | exact Sub.nil _ | refine Sub.cons rfl ?_)); done) (List.Sublist.refl _) ⟨0, by omega, by omega, by simp, rfl, rfl⟩ ?_
  rintro _ _ _ ⟨k, rfl, hk, hn, rfl, rfl⟩
  repeat' (first | (refine XO.op rfl ?_; (first | ((first | refine Xo.ng rfl ?_); (first | (refine Xg.ev (EvF.move rfl rfl) rfl rfl ?_) | (refine Xg.ev (EvF.assign rfl rfl) rfl rfl ?_) | (refine Xg.ev (EvF.cmp rfl rfl rfl rfl) rfl rfl ?_) | (refine Xg.ev (EvF.fieldAddr rfl rfl (te rfl) rfl (te rfl) (by decide)) rfl rfl ?_) | (refine Xg.ev (EvF.lenSlice rfl rfl (te rfl)) rfl rfl ?_) | (refine Xg.ev (EvF.loadV rfl rfl (LoadV.own (te rfl) rfl (List.Mem.tail _ (List.Mem.head _)) rfl)) rfl rfl ?_))))) | (refine XO.done rfl ?_; refine hK _ _ ?_; clear hK K) | (refine XQ.op rfl ?_; (first | ((first | refine Yo.ng rfl ?_); (first | (refine Yg.ev (EvF.move rfl rfl) rfl rfl ?_) | (refine Yg.ev (EvF.fieldAddr rfl rfl (te rfl) rfl (te rfl) (by decide)) rfl rfl ?_) | (refine Yg.ev (EvF.loadV rfl rfl (LoadV.own (te rfl) rfl (List.Mem.tail _ (List.Mem.head _)) rfl)) rfl rfl ?_))))) | refine X.seq rfl ?_ | refine X.region rfl (fun K hK => ?_) | refine X.regionD rfl mixed (by kernel_rfl) (fun K hK => ?_) | refine X.block rfl ?_ | (refine X.brk rfl ?_; first | refine blockX_hit rfl ?_ | skip) | refine X.skip rfl ?_ | refine X.ret rfl ?_ | (refine X.ite rfl rfl (fun hc => ?_); (first | (with_reducible refine Xb.case hc (fun h => ?_) (fun h => ?_))) <;> clear hc))
  · obtain ⟨b, off, e, rfl, he⟩ := hB.draws.elem (i := k) (by omega)
    obtain ⟨b', off', f, rfl, hf⟩ := hC.draws.elem (i := k) (by omega)
    rw [drop_cons he, drop_cons hf, List.cons.injEq] at hn
    repeat' (first | (refine XO.op rfl ?_; (first | ((first | refine Xo.ng rfl ?_); (first | (refine Xg.ev (EvF.move rfl rfl) rfl rfl ?_) | (refine Xg.ev (EvF.assign rfl rfl) rfl rfl ?_) | (refine Xg.ev (EvF.add64 rfl rfl rfl (by omega) (by omega)) rfl rfl ?_))))) | (refine XO.done rfl ?_; refine hK _ _ ?_; clear hK K) | (refine XQ.op rfl ?_; (first | ((first | refine Yo.ng rfl ?_); (first | (refine Yg.ev (EvF.loadV rfl rfl (LoadV.elA0 (hB2 _ _).draws he (te rfl) rfl (fun _ hm => hm) rfl)) rfl rfl ?_) | (refine Yg.ev (EvF.loadV rfl rfl (LoadV.elA0 (hC2 _ _).draws hf (te rfl) rfl (fun _ hm => hm) rfl)) rfl rfl ?_) | (refine Yg.ev (EvF.eqSt rfl rfl rfl (by kernel_rfl) (fun w => eqDr 9997 e f w) rfl) rfl rfl ?_) | (refine Yg.ev (EvF.move rfl rfl) rfl rfl ?_) | (refine Yg.ev (EvF.fieldAddr rfl rfl (te rfl) rfl (te rfl) (by decide)) rfl rfl ?_) | (refine Yg.ev (EvF.indexSlice rfl rfl rfl (te rfl) (te rfl) (by omega) (by omega)) rfl rfl ?_) | (refine Yg.ev (EvF.loadV rfl rfl (LoadV.own (te rfl) rfl (List.Mem.head _) rfl)) rfl rfl ?_))))) | (refine XQ.done rfl ?_; refine hK _ ?_; clear hK K) | refine X.seq rfl ?_ | refine X.region rfl (fun K hK => ?_) | refine X.skip rfl ?_ | refine X.ret rfl ?_ | (refine X.ite rfl rfl (fun hc => ?_); (first | (with_reducible refine Xb.caseN hc (fun h => ?_) (fun h => ?_))) <;> clear hc))
    · refine ret_one (by first | exact .inr rfl | exact .inl rfl) Try.results16 rfl (H' := H) (by (repeat (first | exact List.Sublist.refl _ | apply List.Sublist.cons)); done) ?_; simp only [and_true, true_and]
      congr 1; symm; exact decide_eq_false (fun q => by subst q; exact absurd (hn.1 rfl).1 (by assumption))
    · refine ⟨_, _, _, (by (repeat (first | exact Sub.nil _ | refine Sub.cons rfl ?_)); done), (by (repeat (first | exact List.Sublist.refl _ | apply List.Sublist.cons)); done), ⟨k + 1, rfl, by omega, hn.trans (and_iff_right (by assumption)), rfl, rfl⟩, by omega⟩
  have hA : B.draws = C.draws := hn.2 (by rw [List.drop_eq_nil_of_le (by omega), List.drop_eq_nil_of_le (by omega)])
  clear hn
  refine X.lp rfl (fun m F' H' => ∃ k : Nat, m = B.weighs.length - k ∧ k ≤ B.weighs.length ∧ (B.weighs = C.weighs ↔ B.weighs.drop k = C.weighs.drop k) ∧ ⟨bx, 0, cBl C ⟨b1, d1, b2, d2⟩, some 27, 6⟩ :: ⟨bx1, 0, cBl B ⟨a1, c1, a2, c2⟩, some 27, 6⟩ :: H = H' ∧
      F' = [(2, .pointer (some ⟨bx1, 0, none⟩)), (3, .pointer (some ⟨bx, 0, none⟩)), (6, .int .i64 k)])
    B.weighs.length [(2, .pointer (some ⟨bx1, 0, none⟩)), (3, .pointer (some ⟨bx, 0, none⟩)), (6, .int .i64 (0 : Nat))] _ (by (repeat (first | exact Sub.nil _ | refine Sub.cons rfl ?_)); done) (List.Sublist.refl _) ⟨0, by omega, by omega, by simp, rfl, rfl⟩ ?_
  rintro _ _ _ ⟨k, rfl, hk, hn, rfl, rfl⟩
  repeat' (first | (refine XO.op rfl ?_; (first | ((first | refine Xo.ng rfl ?_); (first | (refine Xg.ev (EvF.move rfl rfl) rfl rfl ?_) | (refine Xg.ev (EvF.assign rfl rfl) rfl rfl ?_) | (refine Xg.ev (EvF.cmp rfl rfl rfl rfl) rfl rfl ?_) | (refine Xg.ev (EvF.fieldAddr rfl rfl (te rfl) rfl (te rfl) (by decide)) rfl rfl ?_) | (refine Xg.ev (EvF.lenSlice rfl rfl (te rfl)) rfl rfl ?_) | (refine Xg.ev (EvF.loadV rfl rfl (LoadV.own (te rfl) rfl (List.Mem.tail _ (List.Mem.head _)) rfl)) rfl rfl ?_))))) | (refine XO.done rfl ?_; refine hK _ _ ?_; clear hK K) | (refine XQ.op rfl ?_; (first | ((first | refine Yo.ng rfl ?_); (first | (refine Yg.ev (EvF.move rfl rfl) rfl rfl ?_) | (refine Yg.ev (EvF.fieldAddr rfl rfl (te rfl) rfl (te rfl) (by decide)) rfl rfl ?_) | (refine Yg.ev (EvF.loadV rfl rfl (LoadV.own (te rfl) rfl (List.Mem.tail _ (List.Mem.head _)) rfl)) rfl rfl ?_))))) | refine X.seq rfl ?_ | refine X.region rfl (fun K hK => ?_) | refine X.regionD rfl mixed (by kernel_rfl) (fun K hK => ?_) | refine X.block rfl ?_ | (refine X.brk rfl ?_; first | refine blockX_hit rfl ?_ | skip) | refine X.skip rfl ?_ | refine X.ret rfl ?_ | (refine X.ite rfl rfl (fun hc => ?_); (first | (with_reducible refine Xb.case hc (fun h => ?_) (fun h => ?_))) <;> clear hc))
  · obtain ⟨b, off, e, rfl, he⟩ := hB.weighs.elem (i := k) (by omega)
    obtain ⟨b', off', f, rfl, hf⟩ := hC.weighs.elem (i := k) (by omega)
    rw [drop_cons he, drop_cons hf, List.cons.injEq] at hn
    repeat' (first | (refine XO.op rfl ?_; (first | ((first | refine Xo.ng rfl ?_); (first | (refine Xg.ev (EvF.move rfl rfl) rfl rfl ?_) | (refine Xg.ev (EvF.assign rfl rfl) rfl rfl ?_) | (refine Xg.ev (EvF.add64 rfl rfl rfl (by omega) (by omega)) rfl rfl ?_))))) | (refine XO.done rfl ?_; refine hK _ _ ?_; clear hK K) | (refine XQ.op rfl ?_; (first | ((first | refine Yo.ng rfl ?_); (first | (refine Yg.ev (EvF.loadV rfl rfl (LoadV.elA0 (hB2 _ _).weighs he (te rfl) rfl (fun _ hm => hm) rfl)) rfl rfl ?_) | (refine Yg.ev (EvF.loadV rfl rfl (LoadV.elA0 (hC2 _ _).weighs hf (te rfl) rfl (fun _ hm => hm) rfl)) rfl rfl ?_) | (refine Yg.ev (EvF.eqSt rfl rfl rfl (by kernel_rfl) (fun w => eqWg 9997 e f w) rfl) rfl rfl ?_) | (refine Yg.ev (EvF.move rfl rfl) rfl rfl ?_) | (refine Yg.ev (EvF.fieldAddr rfl rfl (te rfl) rfl (te rfl) (by decide)) rfl rfl ?_) | (refine Yg.ev (EvF.indexSlice rfl rfl rfl (te rfl) (te rfl) (by omega) (by omega)) rfl rfl ?_) | (refine Yg.ev (EvF.loadV rfl rfl (LoadV.own (te rfl) rfl (List.Mem.head _) rfl)) rfl rfl ?_))))) | (refine XQ.done rfl ?_; refine hK _ ?_; clear hK K) | refine X.seq rfl ?_ | refine X.region rfl (fun K hK => ?_) | refine X.skip rfl ?_ | refine X.ret rfl ?_ | (refine X.ite rfl rfl (fun hc => ?_); (first | (with_reducible refine Xb.caseN hc (fun h => ?_) (fun h => ?_))) <;> clear hc))
    · refine ret_one (by first | exact .inr rfl | exact .inl rfl) Try.results16 rfl (H' := H) (by (repeat (first | exact List.Sublist.refl _ | apply List.Sublist.cons)); done) ?_; simp only [and_true, true_and]
      congr 1; symm; exact decide_eq_false (fun q => by subst q; exact absurd (hn.1 rfl).1 (by assumption))
    · refine ⟨_, _, _, (by (repeat (first | exact Sub.nil _ | refine Sub.cons rfl ?_)); done), (by (repeat (first | exact List.Sublist.refl _ | apply List.Sublist.cons)); done), ⟨k + 1, rfl, by omega, hn.trans (and_iff_right (by assumption)), rfl, rfl⟩, by omega⟩
  have hW : B.weighs = C.weighs := hn.2 (by rw [List.drop_eq_nil_of_le (by omega), List.drop_eq_nil_of_le (by omega)])
  refine ret_one (by first | exact .inr rfl | exact .inl rfl) Try.results16 rfl (H' := H) (by (repeat (first | exact List.Sublist.refl _ | apply List.Sublist.cons)); done) ?_; simp only [and_true, true_and]
  congr 1; symm; exact decide_eq_true (Bl.ext' e1 e2 e3 hA hW)
end Go.Proofs.Ytminkpgacomicac
end
section
set_option linter.unusedVariables false
namespace Go.Fw
open Go Go.RowKit Go.ChangeShapes Go.WideShapes Go.Deep
theorem flat_at {α : Type} {enc : α → List Value} {sz : Nat} : ∀ {l : List α}, (∀ e ∈ l, (enc e).length = sz) → ∀ (i : Nat) (e : α) (j : Nat) (v : Value), l[i]? = some e → (enc e)[j]? = some v → (l.flatMap enc)[i * sz + j]? = some v
  | [], _, i, e, j, v, hi, _ => by simp at hi
  | q :: l, hl, i, e, j, v, hi, hj => by
    rw [List.flatMap_cons, List.getElem?_append]
    have hq := hl q (List.mem_cons_self ..)
    cases i with
    | zero =>
      simp only [List.getElem?_cons_zero, Option.some.injEq] at hi
      subst hi
      rw [if_pos (by have := (List.getElem?_eq_some_iff.1 hj).1; omega)]
      simpa using hj
    | succ i =>
      rw [if_neg (by rw [hq, Nat.add_mul]; omega), hq, show (i + 1) * sz + j - sz = i * sz + j by rw [Nat.add_mul]; omega]
      exact flat_at (fun e he => hl e (List.mem_cons_of_mem _ he)) i e j v (by simpa using hi) hj
section
variable {H : Type} {enc : TypeId × Value → H} {P : Program} {w : World} {base : Nat} {spare : Nat → Bool} {held : Bool}
theorem cellsOf_ti {T : TypeId} {ti : TI} (h : tiOf P T = some ti) : P.cellsOf T = ti.size := by
  obtain ⟨i, d, hi, _, _, hs, _⟩ := ti_spec h
  simp [Program.cellsOf, hi, hs]
theorem trod_st {T : TypeId} {fs : List (Nat × TypeId)} {s y fuel : Nat} {cs : List Value} {x : DataW H × List MemPlace} (hT : tiOf P T = some ⟨.st fs, s, y⟩) (h : DataW.trod enc P w base spare held fuel T cs = some x) :
    cs.length = s ∧ ∀ (i o F : Nat) (ti : TI), fs[i]? = some (o, F) → tiOf P F = some ti → ∃ n x', DataW.trod enc P w base spare held n F ((cs.drop o).take ti.size) = some x' := by
  obtain ⟨fa, hu, hm⟩ := ti_struct hT
  obtain ⟨xs, n, _, _, hl, hxl, hf⟩ := DataW.trod_struct hu h
  refine ⟨by rw [hl, cellsOf_ti hT], fun i o F ti hi hF => ?_⟩
  rw [← hm] at hi
  simp only [List.getElem?_map, Option.map_eq_some_iff] at hi
  obtain ⟨f, h1, h2⟩ := hi
  simp only [Prod.mk.injEq] at h2
  obtain ⟨rfl, rfl⟩ := h2
  have h3 := hf i f (by simpa using h1)
  rw [cellsOf_ti hF] at h3
  have hlt : i < xs.length := by
    have := (List.getElem?_eq_some_iff.1 h1).1
    rw [hxl]; simpa using this
  exact ⟨n, xs[i], by rw [h3, List.getElem?_eq_getElem hlt]⟩
theorem trod_i {T : TypeId} {k : IntKind} {s y fuel : Nat} {cs : List Value} {x : DataW H × List MemPlace} (hT : tiOf P T = some ⟨.int k, s, y⟩) (h : DataW.trod enc P w base spare held fuel T cs = some x) : ∃ n, cs = [.int k n] ∧ (Lit.int k n).wf = true := by
  obtain ⟨i, d, _, hd, hk, _, _⟩ := ti_spec hT
  cases d <;> simp only [tkOf, reduceCtorEq, TK.int.injEq] at hk
  subst hk
  obtain ⟨n, h1, _, h2⟩ := DataW.trod_int hd h
  exact ⟨n, h1, h2⟩
/-- What is known of a slice that came in. -/
def InSl {α : Type} (w : World) (a : Option Addr) (e : α → List Value) (sz : Nat) (l : List α) : Prop :=
  (∀ q ∈ l, (e q).length = sz) ∧ l.length ≤ maxLen ∧ (0 < l.length → ∃ b off, a = some ⟨b, off, none⟩ ∧ b < w.heap.size ∧ ∀ i q j v, l[i]? = some q → (e q)[j]? = some v → w.cell? ⟨b, off + (i * sz + j), none⟩ = some v)
theorem open_sl {α : Type} [Inhabited α] {e : α → List Value} {ok : α → Prop} {T E sz s y : Nat} {ti : TI} {fuel : Nat} {v : Value} {x : DataW H × List MemPlace} (hT : tiOf P T = some ⟨.sl E, s, y⟩) (hE : tiOf P E = some ti) (hsz : ti.size = sz) (hpos : 0 < sz)
    (hel : ∀ n cs x, DataW.trod enc P w base spare held n E cs = some x → ∃ q : α, cs = e q ∧ ok q) (hlen : ∀ q, (e q).length = sz) (h : DataW.trod enc P w base spare held fuel T [v] = some x) :
    ∃ (l : List α) (a : Option Addr) (c : Nat), v = .slice a l.length c ∧ InSl w a e sz l ∧ (∀ q ∈ l, ok q) ∧ l.length ≤ c := by
  rcases open_slice (ti_slice hT) h with ⟨hc, _⟩ | ⟨a, len, cap, m, n, D, Pl, hcs, _, hl, hm, hmm, _, hi⟩
  · simp only [List.cons.injEq, and_true] at hc
    subst hc
    exact ⟨[], none, 0, rfl, ⟨by simp, by simp, by simp⟩, by simp, Nat.le_refl _⟩
  · simp only [List.cons.injEq, and_true] at hcs
    subst hcs
    have hlm : len ≤ m := by rw [hmm]; split <;> omega
    have hex : ∀ i, ∃ q : α, i < len → ok q ∧ w.cells? base (a.add (i * sz)) sz = some (e q) := by
      intro i
      by_cases hil : i < len
      · obtain ⟨cs', h1, h2⟩ := hi i (by omega)
        obtain ⟨q, rfl, hq⟩ := hel _ _ _ h2
        rw [cellsOf_ti hE, hsz] at h1
        exact ⟨q, fun _ => ⟨hq, h1⟩⟩
      · exact ⟨default, fun h => absurd h hil⟩
    let f : Nat → α := fun i => Classical.choose (hex i)
    have hf : ∀ i, i < len → ok (f i) ∧ w.cells? base (a.add (i * sz)) sz = some (e (f i)) := fun i => Classical.choose_spec (hex i)
    refine ⟨(List.range len).map f, some a, cap, by simp, ⟨fun q _ => hlen q, by simp; omega, fun hp => ?_⟩, ?_, by simp; omega⟩
    · simp only [List.length_map, List.length_range] at hp
      have h0 := (hf 0 hp).2
      obtain ⟨_, _, hat⟩ := World.cells?_some h0
      have hc0 := hat 0 hpos
      have hv0 : (e (f 0))[0]? = some ((e (f 0))[0]'(by rw [hlen]; exact hpos)) := List.getElem?_eq_getElem _
      rw [hv0, Nat.zero_mul] at hc0
      have hadd : ((a.add 0).add 0) = a := rfl
      rw [hadd] at hc0
      obtain ⟨b, off, sp⟩ := a
      have hsp : sp = none := by
        cases sp with
        | none => rfl
        | some q => unfold World.cell? at hc0; simp only at hc0; split at hc0 <;> simp at hc0
      subst hsp
      refine ⟨b, off, rfl, World.block_lt_of_cell? _ _ hc0, fun i q j v hq hj => ?_⟩
      have hil : i < len := by have := (List.getElem?_eq_some_iff.1 hq).1; simpa using this
      have hqe : f i = q := by
        rw [List.getElem?_map, List.getElem?_range hil] at hq
        simpa using hq
      obtain ⟨_, _, hat⟩ := World.cells?_some (hf i hil).2
      have hjl : j < sz := by have := (List.getElem?_eq_some_iff.1 hj).1; rw [hlen] at this; exact this
      have := hat j hjl
      rw [hqe, hj, add_none, add_none, Nat.add_assoc] at this
      exact this
    · intro q hq
      obtain ⟨i, hi, rfl⟩ := List.mem_map.1 hq
      exact (hf i (List.mem_range.1 hi)).1
end
/-- the row of a slice that came in -/
def rowsOf {α : Type} (a : Option Addr) (e : α → List Value) (l : List α) : List Row :=
  match a, l with
  | some ⟨b, off, _⟩, _ :: _ => [⟨b, off, l.flatMap e, none, 0⟩]
  | _, _ => []
theorem InSl.ok {α : Type} {w : World} {a : Option Addr} {e : α → List Value} {sz B : Nat} {l : List α} (h : InSl w a e sz l) : ∀ r ∈ rowsOf a e l, r.own = none ∧ r.ok B w := by
  intro r hr
  cases l with
  | nil => cases a with | none => cases hr | some a => cases hr
  | cons q l =>
    obtain ⟨b, off, rfl, hb, hc⟩ := h.2.2 (by simp)
    simp only [rowsOf, List.mem_singleton] at hr
    subst hr
    refine ⟨rfl, hb, fun j v hj => ?_⟩
    obtain ⟨i, q', k, rfl, hi, hk⟩ := flat_get h.1 hj
    exact hc i q' k v hi hk
theorem InSl.sl {α : Type} {w : World} {a : Option Addr} {e : α → List Value} {sz : Nat} {l : List α} {H : List Row} (h : InSl w a e sz l) (hs : ∀ r ∈ rowsOf a e l, r ∈ H) : SlE H a e sz l := by
  refine ⟨h.1, fun hp => ?_⟩
  obtain ⟨b, off, rfl, _, _⟩ := h.2.2 hp
  cases l with
  | nil => simp at hp
  | cons q l =>
    refine ⟨b, off, rfl, _, 0, hs _ (List.mem_singleton.2 rfl), rfl, rfl, fun i q' j v hi hj => ?_⟩
    rw [Nat.zero_add]
    exact flat_at h.1 i q' j v hi hj
/-- the start: only what came in is known -/
theorem St.start {w : World} {H : List Row} (h : ∀ r ∈ H, r.own = none ∧ r.ok w.heap.size w) : St w.heap.size w H w := by
  refine ⟨Below.refl _ _, Nat.le_refl _, fun r hr => (h r hr).2, ?_⟩
  rw [List.pairwise_iff_getElem]
  intro i j hi hj _ ho
  have h1 := (h _ (List.getElem_mem hi)).1
  have h2 := (h _ (List.getElem_mem hj)).1
  rw [h1, h2] at ho
  simp at ho
/-- from a contract to the call in a world -/
theorem Fc.calls {P : Program} {f : FuncId} {args : List Value} {H : List Row} {v : Value} {w : World} (h : Fc P f args H (fun u _ => u = v)) (hH : ∀ r ∈ H, r.own = none ∧ r.ok w.heap.size w) :
    Calls P f args.toArray w fun e w' => e = .returned v ∧ Below w.heap.size w w' := by
  unfold Fc at h
  refine (h.2 _ _ _ (St.start hH)).mono ?_
  rintro e w' ⟨u, H', rfl, rfl, hS⟩
  exact ⟨rfl, hS.below⟩
end Go.Fw
end
section
set_option linter.unusedVariables false
set_option linter.unusedSimpArgs false
namespace Go.Proofs.Ytminkpgacomicac
open Go Go.Fw
set_option maxRecDepth 10000
/-- a press at work: the bale, and the grades that its draws leave each layer -/
def cPr (B : Bl) (p : Pb) (g : List Sp) : List Value := cBl B p ++ g.flatMap cSp
theorem lenSp (g : List Sp) : (g.flatMap cSp).length = g.length * 2 := flat_len (fun _ _ => rfl)
theorem lenPr {B : Bl} {p : Pb} {g : List Sp} (h : g.length = 5) : (cPr B p g).length = 16 := by
  unfold cPr; rw [List.length_append, lenSp, h]; rfl
theorem onePr (B : Bl) (p : Pb) (g : List Sp) : (cPr B p g).all (·.oneCell') = true := by
  unfold cPr
  rw [List.all_append, oneBl, Bool.true_and, List.all_eq_true]
  intro v hv
  obtain ⟨e, _, he⟩ := List.mem_flatMap.1 hv
  exact List.all_eq_true.1 (one_sp e) v he
theorem getPr {B : Bl} {p : Pb} {g : List Sp} {i j : Nat} {s : Sp} {v : Value} (h : g[i]? = some s) (hj : (cSp s)[j]? = some v) : (cPr B p g)[6 + i * 2 + j]? = some v := by
  unfold cPr
  have h6 : (cBl B p).length = 6 := rfl
  rw [List.getElem?_append_right (by omega), h6, show 6 + i * 2 + j - 6 = i * 2 + j by omega]
  exact flat_at (enc := cSp) (sz := 2) (fun _ _ => rfl) i s j v h hj
theorem set_flat : ∀ (g : List Sp) (i : Nat) (a b : Int), i < g.length → ((g.flatMap cSp).set (i * 2) (.int .i64 a)).set (i * 2 + 1) (.int .i64 b) = (g.set i ⟨a, b⟩).flatMap cSp
  | [], i, a, b, h => by simp at h
  | s :: g, 0, a, b, _ => rfl
  | s :: g, i + 1, a, b, h => by
    have ih := set_flat g i a b (by simpa using h)
    have e1 : (i + 1) * 2 = i * 2 + 2 := by omega
    rw [List.flatMap_cons, List.set_cons_succ, List.flatMap_cons, ← ih, e1]
    rfl
theorem setPr {B : Bl} {p : Pb} {g : List Sp} {i : Nat} {a b : Int} (h : i < g.length) : ((cPr B p g).set (6 + i * 2) (.int .i64 a)).set (6 + i * 2 + 1) (.int .i64 b) = cPr B p (g.set i ⟨a, b⟩) := by
  unfold cPr
  have h6 : (cBl B p).length = 6 := rfl
  rw [← set_flat g i a b h, List.set_append_right _ _ (by omega), List.set_append_right _ _ (by omega), h6, show 6 + i * 2 - 6 = i * 2 by omega, show 6 + i * 2 + 1 - 6 = i * 2 + 1 by omega]
theorem splicePr {B : Bl} {p : Pb} {g : List Sp} {i : Nat} {s : Sp} (h : i < g.length) : splice (cPr B p g) (6 + i * 2) (cSp s) = cPr B p (g.set i s) := by
  have hl : 6 + i * 2 + 1 < (cPr B p g).length := by unfold cPr; rw [List.length_append, lenSp]; show _ < 6 + _; omega
  have := setPr (B := B) (p := p) (a := s.lo) (b := s.hi) h
  rw [← this]
  show splice _ _ [.int .i64 s.lo, .int .i64 s.hi] = _
  rw [← splice_cons (by simp; omega), ← splice_cons (by simp; omega), splice_nil]
theorem StF.storePr {n bp j k : Nat} {F : FS} {o : Oper} {a x : Operand} {B : Bl} {p : Pb} {g : List Sp} {s : Sp} {H0 : List Row} (h : o.op = .store 23 a x) (hx : evF F a = some (.pointer (some ⟨bp, j, none⟩))) (hv : evF F x = some (.agg (cSp s).toArray)) (hg : g.length = 5) (hk : k < 5) (hj : j = 6 + k * 2) :
    StF Try.prog n (⟨bp, 0, cPr B p g, some 47, 16⟩ :: H0) F o (fun u H' => u = undef ∧ H' = ⟨bp, 0, cPr B p (g.set k s), some 47, 16⟩ :: H0) := by
  subst hj
  have := StF.storeAt (P := Try.prog) (n := n) (q := 0) (H := ⟨bp, 0, cPr B p g, some 47, 16⟩ :: H0) h hx hv (te rfl) rfl rfl rfl (by rw [lenPr hg]; show 6 + k * 2 + 2 ≤ 16; omega)
  rw [splicePr (by omega)] at this
  exact this
def Bz : Bl := ⟨0, 0, 0, 0, [], []⟩
def pzb : Pb := ⟨none, 0, none, 0⟩
def initG (n : Nat) : List Sp := List.replicate n ⟨1, 9⟩ ++ List.replicate (5 - n) ⟨0, 0⟩
theorem initG_len {n : Nat} (h : n ≤ 5) : (initG n).length = 5 := by unfold initG; simp; omega
theorem initG_set {n : Nat} (h : n < 5) : (initG n).set n ⟨1, 9⟩ = initG (n + 1) := by
  match n, h with
  | 0, _ => rfl
  | 1, _ => rfl
  | 2, _ => rfl
  | 3, _ => rfl
  | 4, _ => rfl
def spAt (g : List Sp) (i : Nat) : Sp := g.getD i ⟨0, 0⟩
theorem spAt_get {g : List Sp} {i : Nat} (h : i < g.length) : g[i]? = some (spAt g i) := by simp [spAt, List.getD, List.getElem?_eq_getElem h]
def stepG (g : List Sp) (x : Dr) : List Sp := g.set x.val.toNat ⟨max (spAt g x.val.toNat).lo x.lo, min (spAt g x.val.toNat).hi x.hi⟩
theorem stepG_len (g : List Sp) (x : Dr) : (stepG g x).length = g.length := by unfold stepG; simp
theorem foldG_len (l : List Dr) (g : List Sp) : (l.foldl stepG g).length = g.length := by
  induction l generalizing g with
  | nil => rfl
  | cons x l ih => rw [List.foldl_cons, ih, stepG_len]
def gradesOf (B : Bl) : List Sp := B.draws.foldl stepG (initG B.layers.toNat)
def ts11 : List TOp := [⟨some 33, [], [], []⟩, ⟨some 34, [], [], []⟩, ⟨some 35, [], [], []⟩, ⟨some 36, [2], [2], []⟩, ⟨some 37, [2, 3], [3], []⟩, ⟨some 38, [2, 3, 4], [4], []⟩, ⟨some 39, [], [], []⟩, ⟨some 40, [6], [6], []⟩, ⟨some 41, [6, 7], [7], []⟩, ⟨some 42, [2, 3, 4, 5, 6, 7, 8], [5, 8], []⟩, ⟨some 43, [], [], []⟩, ⟨some 44, [10], [10], []⟩, ⟨some 45, [10, 11], [11], []⟩, ⟨some 46, [10, 11, 12], [12], []⟩, ⟨some 47, [], [], []⟩, ⟨some 48, [14], [14], []⟩, ⟨some 49, [14, 15], [15], []⟩, ⟨some 50, [10, 11, 12, 13, 14, 15, 16], [13, 16], []⟩, ⟨some 51, [0, 2, 3, 4, 5, 6, 7, 8, 9, 10, 11, 12, 13], [0], []⟩, ⟨some 52, [0, 2, 3, 4, 5, 6, 7, 8, 9, 10, 11, 12, 13, 18], [18], []⟩, ⟨none, [0, 2, 3, 4, 5, 6, 7, 8, 9, 10, 11, 12, 13, 18, 19], [19, 9], [24]⟩, ⟨some 53, [0, 1, 2, 3, 4, 5, 6, 7, 8, 9, 10, 11, 12, 13, 14, 15, 16, 17, 18, 19, 20], [1], []⟩, ⟨some 54, [0, 1, 2, 3, 4, 5, 6, 7, 8, 9, 10, 11, 12, 13, 14, 15, 16, 17, 18, 19, 20, 21], [21], []⟩, ⟨none, [0, 1, 2, 3, 4, 5, 6, 7, 8, 9, 10, 11, 12, 13, 14, 15, 16, 17, 18, 19, 20, 21, 22], [22, 17], [20]⟩, ⟨none, [], [], []⟩]
def rd11 (k : Nat) : List Nat := match k with
  | 5 => [24]
  | 13 => [24]
  | _ => []
def rows11 (bp : Nat) (B : Bl) (p : Pb) (g : List Sp) (i : Nat) (a b : Int) (k : Nat) (_ : Env) : List Row :=
  match k with
  | 20 => [⟨bp, 0, (cPr B p g).set (6 + i * 2) (.int .i64 a), some 47, 16⟩]
  | 23 => [⟨bp, 0, cPr B p (g.set i ⟨a, b⟩), some 47, 16⟩]
  | 24 => [⟨bp, 0, cPr B p g, some 47, 16⟩]
  | _ => []
set_option maxHeartbeats 4000000 in
theorem pressed_spec (B : Bl) (p : Pb) (H : List Row) (h5 : 1 ≤ B.layers ∧ B.layers ≤ 5) (hd : ∀ x ∈ B.draws, 0 ≤ x.val ∧ x.val < 5) (hB : BlOk H B p) : Fc Try.prog 17 [.agg (cBl B p).toArray] H (fun v H' => v = .agg (cPr B p (gradesOf B)).toArray ∧ H' = H) := by
  have hB3 : ∀ r1 r2 r3, BlOk (r1 :: r2 :: r3 :: H) B p := fun r1 r2 r3 => hB.sub (fun _ h => List.Mem.tail _ (List.Mem.tail _ (List.Mem.tail _ h)))
  have l1 := hB.l1
  obtain ⟨a1, c1, a2, c2⟩ := p
  refine Fc.mk (callable Try.call17) Try.func17 rfl Try.ntmps17 rfl ?_; dsimp only [fr]
  repeat' (first | (refine XO.op rfl ?_; (first | ((first | refine Xo.ng rfl ?_); (first | (refine Xg.ev (EvF.build (cs := cPr B ⟨a1, c1, a2, c2⟩ (initG 0)) rfl (ArgsP.cons rfl ArgsP.nil) (te rfl) (Places.cons (te rfl) (Places.cons (te rfl) Places.nil)) Try.zeroValue47 rfl) rfl rfl ?_) | (refine Xg.ev (EvF.move rfl rfl) rfl rfl ?_) | (refine Xg.ev (EvF.fieldAddr rfl rfl (te rfl) rfl (te rfl) (by decide)) rfl rfl ?_) | (refine Xg.ev (EvF.loadV rfl rfl (LoadV.own (te rfl) rfl (List.Mem.head _) rfl)) rfl rfl ?_) | (refine Xg.ev (EvF.loadV rfl rfl (LoadV.whole (te rfl) rfl (List.Mem.tail _ (List.Mem.head _)) rfl)) rfl rfl ?_) | (refine Xg.st (StF.boxAgg rfl rfl) rfl rfl ?_; rintro _ _ ⟨bx, rfl, rfl⟩) | (refine Xg.st (StF.alloc rfl Try.zeroValue47 rfl) rfl rfl ?_; rintro _ _ ⟨bx, rfl, rfl⟩) | (refine Xg.st0 (StF.storeAll (i := 0) rfl rfl rfl (te rfl) rfl rfl rfl rfl) rfl ?_; rintro _ _ ⟨rfl, rfl⟩; dsimp only [List.set]))))) | (refine XO.done rfl ?_; refine hK _ _ ?_; clear hK K) | refine X.seq rfl ?_ | refine X.region rfl (fun K hK => ?_) | refine X.block rfl ?_)
  rename_i b1 b2; rename Nat => bp
  have hn5 : B.layers.toNat ≤ 5 := by omega
  refine X.lp rfl (fun m F' H' => ∃ k : Nat, m = B.layers.toNat - k ∧ k ≤ B.layers.toNat ∧ H' = ⟨bp, 0, cPr B ⟨a1, c1, a2, c2⟩ (initG k), some 47, 16⟩ :: ⟨b2, 0, cPr Bz pzb (initG 0), some 47, 16⟩ :: ⟨b1, 0, cBl B ⟨a1, c1, a2, c2⟩, some 27, 6⟩ :: H ∧
      F' = [(2, .pointer (some ⟨b2, 0, none⟩)), (3, .pointer (some ⟨bp, 0, none⟩)), (12, .int .i64 B.layers), (13, .int .i64 k)])
    B.layers.toNat [(2, .pointer (some ⟨b2, 0, none⟩)), (3, .pointer (some ⟨bp, 0, none⟩)), (12, .int .i64 B.layers), (13, .int .i64 (0 : Nat))] _ (by (repeat (first | exact Sub.nil _ | refine Sub.cons rfl ?_)); done) (List.Sublist.refl _) ⟨0, by omega, by omega, rfl, rfl⟩ ?_
  rintro _ _ _ ⟨k, rfl, hk, rfl, rfl⟩
  repeat' (first | (refine XO.op rfl ?_; (first | ((first | refine Xo.ng rfl ?_); (first | (refine Xg.ev (EvF.build (cs := cSp ⟨1, 9⟩) rfl (ArgsP.cons rfl (ArgsP.cons rfl ArgsP.nil)) (te rfl) (Places.cons (te rfl) (Places.cons (te rfl) Places.nil)) Try.zeroValue23 rfl) rfl rfl ?_) | (refine Xg.ev (EvF.indexArray rfl rfl rfl (te rfl) (te rfl) (by omega) (by omega)) rfl rfl ?_) | (refine Xg.st0 (StF.storePr (k := k) (s := ⟨1, 9⟩) rfl rfl rfl (initG_len (by omega)) (by omega) rfl) rfl ?_; rintro _ _ ⟨rfl, rfl⟩) | (refine Xg.ev (EvF.move rfl rfl) rfl rfl ?_) | (refine Xg.ev (EvF.assign rfl rfl) rfl rfl ?_) | (refine Xg.ev (EvF.cmp rfl rfl rfl rfl) rfl rfl ?_) | (refine Xg.ev (EvF.add64 rfl rfl rfl (by omega) (by omega)) rfl rfl ?_) | (refine Xg.ev (EvF.fieldAddr rfl rfl (te rfl) rfl (te rfl) (by decide)) rfl rfl ?_) | (refine Xg.ev (EvF.lenSlice rfl rfl (te rfl)) rfl rfl ?_) | (refine Xg.ev (EvF.loadV rfl rfl (LoadV.own (te rfl) rfl (List.Mem.head _) rfl)) rfl rfl ?_))))) | (refine XO.done rfl ?_; refine hK _ _ ?_; clear hK K) | refine X.seq rfl ?_ | refine X.region rfl (fun K hK => ?_) | refine X.block rfl ?_ | (refine X.brk rfl ?_; first | refine blockX_hit rfl ?_ | skip) | refine X.skip rfl ?_ | (refine X.ite rfl rfl (fun hc => ?_); (first | (with_reducible refine Xb.case hc (fun h => ?_) (fun h => ?_))) <;> clear hc))
  · rw [initG_set (by omega)]
    exact ⟨_, _, _, (by (repeat (first | exact Sub.nil _ | refine Sub.cons rfl ?_)); done), List.Sublist.refl _, ⟨k + 1, rfl, by omega, rfl, rfl⟩, by omega⟩
  obtain rfl : k = B.layers.toNat := by omega
  refine X.lp rfl (fun m F' H' => ∃ k : Nat, m = B.draws.length - k ∧ k ≤ B.draws.length ∧ H' = ⟨bp, 0, cPr B ⟨a1, c1, a2, c2⟩ ((B.draws.take k).foldl stepG (initG B.layers.toNat)), some 47, 16⟩ :: ⟨b2, 0, cPr Bz pzb (initG 0), some 47, 16⟩ :: ⟨b1, 0, cBl B ⟨a1, c1, a2, c2⟩, some 27, 6⟩ :: H ∧
      F' = [(2, .pointer (some ⟨b2, 0, none⟩)), (3, .pointer (some ⟨bp, 0, none⟩)), (23, .slice a1 B.draws.length c1), (24, .int .i64 B.draws.length), (25, .int .i64 k)])
    B.draws.length [(2, .pointer (some ⟨b2, 0, none⟩)), (3, .pointer (some ⟨bp, 0, none⟩)), (23, .slice a1 B.draws.length c1), (24, .int .i64 B.draws.length), (25, .int .i64 (0 : Nat))] _ (by (repeat (first | exact Sub.nil _ | refine Sub.cons rfl ?_)); done) (List.Sublist.refl _) ⟨0, by omega, by omega, rfl, rfl⟩ ?_
  rintro _ _ _ ⟨k, rfl, hk, rfl, rfl⟩
  obtain ⟨g, hgE⟩ : ∃ g, (B.draws.take k).foldl stepG (initG B.layers.toNat) = g := ⟨_, rfl⟩
  have hg : g.length = 5 := by rw [← hgE, foldG_len, initG_len hn5]
  rw [hgE]
  repeat' (first | (refine XO.op rfl ?_; (first | ((first | refine Xo.ng rfl ?_); (first | (refine Xg.ev (EvF.cmp rfl rfl rfl rfl) rfl rfl ?_))))) | (refine XO.done rfl ?_; refine hK _ _ ?_; clear hK K) | refine X.seq rfl ?_ | refine X.region rfl (fun K hK => ?_) | refine X.block rfl ?_ | (refine X.brk rfl ?_; first | refine blockX_hit rfl ?_ | skip) | refine X.skip rfl ?_ | (refine X.ite rfl rfl (fun hc => ?_); (first | (with_reducible refine Xb.case hc (fun h => ?_) (fun h => ?_))) <;> clear hc))
  · obtain ⟨b, off, e, rfl, he⟩ := hB.draws.elem (i := k) (by omega)
    obtain ⟨hv0, hv5⟩ := hd e (List.mem_of_getElem? he)
    repeat' (first | (refine XO.op rfl ?_; (first | ((first | refine Xo.ng rfl ?_); (first | (refine Xg.ev (EvF.loadV rfl rfl (LoadV.elA0 (hB3 _ _ _).draws he (te rfl) rfl (fun _ hm => hm) rfl)) rfl rfl ?_) | (refine Xg.ev (EvF.indexArray rfl rfl rfl (te rfl) (te rfl) (by omega) (by omega)) rfl rfl ?_) | (refine Xg.ev (EvF.assign rfl rfl) rfl rfl ?_) | (refine Xg.ev (EvF.fieldAddr rfl rfl (te rfl) rfl (te rfl) (by decide)) rfl rfl ?_) | (refine Xg.ev (EvF.indexSlice rfl rfl rfl (te rfl) (te rfl) (by omega) (by omega)) rfl rfl ?_) | (refine Xg.ev (EvF.loadV rfl rfl (LoadV.own (te rfl) rfl (List.Mem.head _) rfl)) rfl rfl ?_) | (refine Xg.st (StF.alloc rfl Try.zeroValue62 rfl) rfl rfl ?_; rintro _ _ ⟨bx, rfl, rfl⟩) | (refine Xg.st0 (StF.storeAll (i := 0) rfl rfl rfl (te rfl) rfl rfl rfl rfl) rfl ?_; rintro _ _ ⟨rfl, rfl⟩; dsimp only [List.set]))))) | (refine XO.done rfl ?_; refine hK _ _ ?_; clear hK K) | refine X.seq rfl ?_ | refine X.region rfl (fun K hK => ?_))
    have hi : e.val.toNat < g.length := by omega
    have e1 : (B.draws.take (k + 1)).foldl stepG (initG B.layers.toNat) = g.set e.val.toNat ⟨max (spAt g e.val.toNat).lo e.lo, min (spAt g e.val.toNat).hi e.hi⟩ := by rw [take_snoc he, List.foldl_append, hgE]; rfl
    refine X.permH (H' := ⟨bp, 0, cPr B ⟨some ⟨b, off, none⟩, c1, a2, c2⟩ g, some 47, 16⟩ :: ⟨bx, 0, cDr e, some 62, 4⟩ :: ⟨b2, 0, cPr Bz pzb (initG 0), some 47, 16⟩ :: ⟨b1, 0, cBl B ⟨some ⟨b, off, none⟩, c1, a2, c2⟩, some 27, 6⟩ :: H) (List.Perm.swap _ _ _) ?_
    refine X.regionRd ts11 rd11 [7, 6, 2, 3, 23, 24, 25] [(7, .pointer (some ⟨bp, 6 + e.val.toNat * 2, none⟩)), (6, .pointer (some ⟨bx, 0, none⟩)), (2, .pointer (some ⟨b2, 0, none⟩)), (3, .pointer (some ⟨bp, 0, none⟩)), (23, .slice (some ⟨b, off, none⟩) B.draws.length c1), (24, .int .i64 B.draws.length), (25, .int .i64 k)]
      (valL [.pointer (some ⟨bp, 6 + e.val.toNat * 2, none⟩), .pointer (some ⟨bp, 6 + e.val.toNat * 2, none⟩), .pointer (some ⟨bp, 6 + e.val.toNat * 2, none⟩), .pointer (some ⟨bp, 6 + e.val.toNat * 2, none⟩), .pointer (some ⟨bp, 6 + e.val.toNat * 2 + 0, none⟩), .int .i64 (spAt g e.val.toNat).lo, .pointer (some ⟨bx, 0 + 2, none⟩), .pointer (some ⟨bx, 0 + 2 + 0, none⟩), .int .i64 e.lo, .int .i64 (max (spAt g e.val.toNat).lo e.lo),
        .pointer (some ⟨bp, 6 + e.val.toNat * 2, none⟩), .pointer (some ⟨bp, 6 + e.val.toNat * 2, none⟩), .pointer (some ⟨bp, 6 + e.val.toNat * 2 + 1, none⟩), .int .i64 (spAt g e.val.toNat).hi, .pointer (some ⟨bx, 0 + 2, none⟩), .pointer (some ⟨bx, 0 + 2 + 1, none⟩), .int .i64 e.hi, .int .i64 (min (spAt g e.val.toNat).hi e.hi),
        .pointer (some ⟨bp, 6 + e.val.toNat * 2, none⟩), .pointer (some ⟨bp, 6 + e.val.toNat * 2 + 0, none⟩), undef, .pointer (some ⟨bp, 6 + e.val.toNat * 2, none⟩), .pointer (some ⟨bp, 6 + e.val.toNat * 2 + 1, none⟩)])
      (rows11 bp B ⟨some ⟨b, off, none⟩, c1, a2, c2⟩ g e.val.toNat (max (spAt g e.val.toNat).lo e.lo) (min (spAt g e.val.toNat).hi e.hi)) (fun _ => (0, 0))
      (⟨bx, 0, cDr e, some 62, 4⟩ :: ⟨b2, 0, cPr Bz pzb (initG 0), some 47, 16⟩ :: ⟨b1, 0, cBl B ⟨some ⟨b, off, none⟩, c1, a2, c2⟩, some 27, 6⟩ :: H) rfl mixed (by (repeat (first | exact Sub.nil _ | refine Sub.cons rfl ?_)); done) rfl (by kernel_rfl) (by kernel_rfl) (fun _ _ _ _ _ _ => ⟨rfl, rfl⟩) (List.Sublist.refl _) ?_ ?_
    · have hl16 := lenPr (B := B) (p := ⟨some ⟨b, off, none⟩, c1, a2, c2⟩) hg
      repeat' (first | exact AllF.done rfl | (refine AllF.step rfl ?_ ?_; · (first | exact (Ob.ng rfl (ObK.pure (fun env R hR => by exact ⟨_, EvF.move rfl rfl, rfl⟩) rfl (fun _ => rfl))).toR | exact (Ob.ng rfl (ObK.pure (fun env R hR => by exact ⟨_, EvF.fieldAddr rfl rfl (te rfl) rfl (te rfl) (by decide), rfl⟩) rfl (fun _ => rfl))).toR | exact (Ob.ng rfl (ObK.pure (fun env R hR => by exact ⟨_, EvF.loadV rfl rfl (LoadV.own (te rfl) rfl (hR _ (List.Mem.head _)) rfl), rfl⟩) rfl (fun _ => rfl))).toR | (refine ObR.ng rfl ?_; (first | (exact fun env S hS hrd => (StF.ofEv (EvF.nilCheck rfl rfl)).op.mono (fun v H' ⟨hv, hH⟩ => ⟨(0, 0), fun _ => hv, by rw [hH]; exact List.Perm.refl _⟩)) | (exact fun env S hS hrd => (StF.ofEv (EvF.max64 rfl rfl rfl)).op.mono (fun v H' ⟨hv, hH⟩ => ⟨(0, 0), fun _ => hv, by rw [hH]; exact List.Perm.refl _⟩)) | (exact fun env S hS hrd => (StF.ofEv (EvF.min64 rfl rfl rfl)).op.mono (fun v H' ⟨hv, hH⟩ => ⟨(0, 0), fun _ => hv, by rw [hH]; exact List.Perm.refl _⟩)) | (exact fun env S hS hrd => (StF.ofEv (EvF.loadV rfl rfl (LoadV.own (te rfl) rfl (hrd 24 (List.Mem.head _) _ (List.Mem.head _)) (getPr (j := 0) (spAt_get hi) rfl)))).op.mono (fun v H' ⟨hv, hH⟩ => ⟨(0, 0), fun _ => hv, by rw [hH]; exact List.Perm.refl _⟩)) | (exact fun env S hS hrd => (StF.ofEv (EvF.loadV rfl rfl (LoadV.own (te rfl) rfl (hrd 24 (List.Mem.head _) _ (List.Mem.head _)) (getPr (j := 1) (spAt_get hi) rfl)))).op.mono (fun v H' ⟨hv, hH⟩ => ⟨(0, 0), fun _ => hv, by rw [hH]; exact List.Perm.refl _⟩)) | (exact fun env S hS hrd => (StF.storeOne (i := 0) (cs := cPr B ⟨some ⟨b, off, none⟩, c1, a2, c2⟩ g) rfl rfl rfl rfl (te rfl) rfl rfl (by rw [hl16]; omega)).op.mono (fun v H' ⟨hv, hH⟩ => ⟨(0, 0), fun h => absurd rfl h, by rw [hH]; exact List.Perm.refl _⟩)) | (exact fun env S hS hrd => (StF.storeOne (i := 0) (cs := (cPr B ⟨some ⟨b, off, none⟩, c1, a2, c2⟩ g).set (6 + e.val.toNat * 2) (.int .i64 (max (spAt g e.val.toNat).lo e.lo))) rfl rfl rfl rfl (te rfl) rfl rfl (by rw [List.length_set, hl16]; omega)).op.mono (fun v H' ⟨hv, hH⟩ => ⟨(0, 0), fun h => absurd rfl h, by rw [hH]; show List.Perm (⟨bp, 0, ((cPr B ⟨some ⟨b, off, none⟩, c1, a2, c2⟩ g).set (6 + e.val.toNat * 2) (.int .i64 (max (spAt g e.val.toNat).lo e.lo))).set (6 + e.val.toNat * 2 + 1) (.int .i64 (min (spAt g e.val.toNat).hi e.hi)), some 47, 16⟩ :: S) _; rw [setPr hi]; exact List.Perm.refl _⟩)))))))
    · intro env t ha hv
      refine ⟨_, ha, ?_⟩
      show X _ _ _ _ (⟨bp, 0, cPr B ⟨some ⟨b, off, none⟩, c1, a2, c2⟩ (g.set e.val.toNat ⟨max (spAt g e.val.toNat).lo e.lo, min (spAt g e.val.toNat).hi e.hi⟩), some 47, 16⟩ :: ⟨bx, 0, cDr e, some 62, 4⟩ :: ⟨b2, 0, cPr Bz pzb (initG 0), some 47, 16⟩ :: ⟨b1, 0, cBl B ⟨some ⟨b, off, none⟩, c1, a2, c2⟩, some 27, 6⟩ :: H) _
      repeat' (first | (refine XO.op rfl ?_; (first | ((first | refine Xo.ng rfl ?_); (first | (refine Xg.ev (EvF.move rfl rfl) rfl rfl ?_) | (refine Xg.ev (EvF.add64 rfl rfl rfl (by omega) (by omega)) rfl rfl ?_))))) | (refine XO.done rfl ?_; refine hK _ _ ?_; clear hK K) | refine X.region rfl (fun K hK => ?_))
      rw [← e1]
      exact ⟨_, _, _, (by (repeat (first | exact Sub.nil _ | refine Sub.cons rfl ?_)); done), List.Sublist.cons_cons _ (List.Sublist.cons _ (List.Sublist.refl _)), ⟨k + 1, rfl, by omega, rfl, rfl⟩, by omega⟩
  · have e2 : g = gradesOf B := by rw [← hgE, List.take_of_length_le (by omega)]; rfl
    subst e2
    repeat' (first | (refine XO.op rfl ?_; (first | ((first | refine Xo.ng rfl ?_); (first | (refine Xg.ev (EvF.loadV rfl rfl (LoadV.whole (te rfl) rfl (List.Mem.head _) (lenPr hg))) rfl rfl ?_) | (refine Xg.st0 (StF.storeAll (i := 1) (vs := cPr B ⟨a1, c1, a2, c2⟩ (gradesOf B)) rfl rfl rfl (te rfl) rfl (lenPr hg) (onePr _ _ _) (lenPr hg)) rfl ?_; rintro _ _ ⟨rfl, rfl⟩; dsimp only [List.set]))))) | (refine XO.done rfl ?_; refine hK _ _ ?_; clear hK K) | refine X.ret rfl ?_)
    exact ret_one (by first | exact .inr rfl | exact .inl rfl) Try.results17 ⟨_, rfl, LoadV.whole (te rfl) rfl (List.Mem.tail _ (List.Mem.head _)) (lenPr hg)⟩ (H' := H) (by (repeat (first | exact List.Sublist.refl _ | apply List.Sublist.cons)); done) ⟨rfl, rfl⟩
end Go.Proofs.Ytminkpgacomicac
end
section
set_option linter.unusedVariables false
set_option linter.unusedSimpArgs false
namespace Go.Proofs.Ytminkpgacomicac
open Go Go.Fw
set_option maxRecDepth 10000
theorem slePr {B : Bl} {p : Pb} {g : List Sp} {b cap n : Nat} {ow : Option Kd} {H : List Row} (hm : ⟨b, 0, cPr B p g, ow, cap⟩ ∈ H) : SlE H (some ⟨b, 6, none⟩) cSp 2 (g.take n) := by
  refine ⟨fun _ _ => rfl, fun _ => ⟨b, 6, rfl, _, 6, hm, rfl, rfl, fun i e j v hi hj => ?_⟩⟩
  have hi' : g[i]? = some e := by
    rw [List.getElem?_take] at hi
    split at hi
    · exact hi
    · cases hi
  rw [← Nat.add_assoc]
  exact getPr hi' hj
theorem hasGrades1_spec (s : Sp) (H : List Row) : Fc Try.prog 48 ([.agg (cSp s).toArray] ++ []) H (fun v H' => v = .bool (decide (s.lo > s.hi)) ∧ H' = H) := by
  show Fc Try.prog 48 [.agg (cSp s).toArray] H _
  refine Fc.mk (callable Try.call48) Try.func48 rfl Try.ntmps48 rfl ?_; dsimp only [fr]
  repeat' (first | (refine XO.op rfl ?_; (first | ((first | refine Xo.ng rfl ?_); (first | (refine Xg.ev (EvF.assign rfl rfl) rfl rfl ?_) | (refine Xg.ev (EvF.cmp rfl rfl rfl rfl) rfl rfl ?_) | (refine Xg.ev (EvF.fieldAddr rfl rfl (te rfl) rfl (te rfl) (by decide)) rfl rfl ?_) | (refine Xg.ev (EvF.loadV rfl rfl (LoadV.own (te rfl) rfl (List.Mem.head _) rfl)) rfl rfl ?_) | (refine Xg.st (StF.boxAgg rfl rfl) rfl rfl ?_; rintro _ _ ⟨bx, rfl, rfl⟩))))) | (refine XO.done rfl ?_; refine hK _ _ ?_; clear hK K) | refine X.seq rfl ?_ | refine X.region rfl (fun K hK => ?_) | refine X.ret rfl ?_)
  refine ret_one (by first | exact .inr rfl | exact .inl rfl) Try.results48 rfl (H' := H) (by (repeat (first | exact List.Sublist.refl _ | apply List.Sublist.cons)); done) ?_; simp only [and_true, true_and]
/-- the draws leave each layer some grade -/
def hasG (n : Nat) (g : List Sp) : Prop := ∀ s ∈ g.take n, ¬ s.lo > s.hi
instance (n : Nat) (g : List Sp) : Decidable (hasG n g) := by unfold hasG; infer_instance
theorem hasGrades_spec (B : Bl) (p : Pb) (g : List Sp) (H : List Row) (h5 : 1 ≤ B.layers ∧ B.layers ≤ 5) (hg : g.length = 5) : Fc Try.prog 31 [.agg (cPr B p g).toArray] H (fun v H' => v = .bool (decide (hasG B.layers.toNat g)) ∧ H' = H) := by
  obtain ⟨n, hn⟩ : ∃ n : Nat, B.layers = n := ⟨B.layers.toNat, by omega⟩
  have hnn : B.layers.toNat = n := by omega
  have hl : (g.take n).length = n := by rw [List.length_take]; omega
  rw [hnn]
  refine Fc.mk (callable Try.call31) Try.func31 rfl Try.ntmps31 rfl ?_; dsimp only [fr]
  repeat' (first | (refine XO.op rfl ?_; (first | ((first | refine Xo.ng rfl ?_); (first | (refine Xg.ev (EvF.sliceArr (hh := n) rfl rfl (te rfl) (te rfl) (show _ = some (Value.int .i64 (n : Int)) from by rw [← hn]; rfl) (by omega)) rfl rfl ?_) | (refine Xg.call (EnF.st rfl (Args.cons rfl (Args.cons rfl Args.nil))) rfl rfl (hl ▸ containsFunc_specSp (g.take n) (some ⟨_, 6, none⟩) 5 48 (fun s => decide (s.lo > s.hi)) [] _ (slePr (List.Mem.head _)) (by omega) (fun e _ => hasGrades1_spec e _)) ?_; rintro _ H9 ⟨rfl, hH9⟩; subst H9) | (refine Xg.ev (EvF.assign rfl rfl) rfl rfl ?_) | (refine Xg.ev (EvF.not rfl rfl) rfl rfl ?_) | (refine Xg.ev (EvF.fieldAddr rfl rfl (te rfl) rfl (te rfl) (by decide)) rfl rfl ?_) | (refine Xg.ev (EvF.loadV rfl rfl (LoadV.own (te rfl) rfl (List.Mem.head _) rfl)) rfl rfl ?_) | (refine Xg.st (StF.boxAgg rfl rfl) rfl rfl ?_; rintro _ _ ⟨bx, rfl, rfl⟩))))) | (refine XO.done rfl ?_; refine hK _ _ ?_; clear hK K) | refine X.seq rfl ?_ | refine X.region rfl (fun K hK => ?_) | refine X.ret rfl ?_)
  refine ret_one (by first | exact .inr rfl | exact .inl rfl) Try.results31 rfl (H' := H) (by (repeat (first | exact List.Sublist.refl _ | apply List.Sublist.cons)); done) ?_; simp only [and_true, true_and]
  congr 1
  have hx : (∃ e, e ∈ List.take n g ∧ decide (e.lo > e.hi) = true) ↔ ¬ hasG n g := by unfold hasG; simp
  by_cases hh : hasG n g
  · rw [decide_eq_true hh, decide_eq_false (fun q => hx.1 q hh)]; rfl
  · rw [decide_eq_false hh, decide_eq_true (hx.2 hh)]; rfl
theorem leastDamp_spec (q d : Int) (H : List Row) (hq : 0 ≤ q ∧ q ≤ 100000) (hd : 1 ≤ d ∧ d ≤ 100000) : Fc Try.prog 64 [.int .i64 q, .int .i64 d] H (fun v H' => v = .int .i64 ((1000 * q + d - 1) / d - 1000) ∧ H' = H) := by
  have h1 : 0 ≤ (1000 * q + d - 1) / d := Int.ediv_nonneg (by omega) (by omega)
  have h2 : (1000 * q + d - 1) / d ≤ 1000 * q + d - 1 := Int.ediv_le_self _ (by omega)
  refine Fc.mk (callable Try.call64) Try.func64 rfl Try.ntmps64 rfl ?_; dsimp only [fr]
  repeat' (first | (refine XO.op rfl ?_; (first | ((first | refine Xo.ng rfl ?_); (first | (refine Xg.ev (EvF.mul64 rfl rfl rfl (by omega) (by omega)) rfl rfl ?_) | (refine Xg.ev (EvF.quo64 rfl rfl rfl (by omega) (by omega) (by omega)) rfl rfl ?_) | (refine Xg.ev (EvF.move rfl rfl) rfl rfl ?_) | (refine Xg.ev (EvF.assign rfl rfl) rfl rfl ?_) | (refine Xg.ev (EvF.add64 rfl rfl rfl (by omega) (by omega)) rfl rfl ?_) | (refine Xg.ev (EvF.sub64 rfl rfl rfl (by omega) (by omega)) rfl rfl ?_))))) | (refine XO.done rfl ?_; refine hK _ _ ?_; clear hK K) | refine X.seq rfl ?_ | refine X.region rfl (fun K hK => ?_) | refine X.ret rfl ?_)
  refine ret_one (by first | exact .inr rfl | exact .inl rfl) Try.results64 rfl (H' := H) (by (repeat (first | exact List.Sublist.refl _ | apply List.Sublist.cons)); done) ?_; simp only [and_true, true_and]
def leastD (q d : Int) : Int := (1000 * q + d - 1) / d - 1000
def dampOf (x : Dr) (d : Int) : Sp := ⟨max x.lo (leastD x.val d), min x.hi (leastD (x.val + 1) d - 1)⟩
def ts54 : List TOp := [⟨some 5, [], [], []⟩, ⟨some 6, [0], [0], []⟩, ⟨some 7, [0, 1], [1], []⟩, ⟨some 8, [], [], []⟩, ⟨some 9, [3], [3], []⟩, ⟨some 10, [], [], []⟩, ⟨some 11, [3, 4, 5], [4, 5], []⟩, ⟨some 12, [0, 1, 2, 3, 4, 5, 6], [2, 6], []⟩, ⟨some 13, [], [], []⟩, ⟨some 14, [8], [8], []⟩, ⟨some 15, [8, 9], [9], []⟩, ⟨some 16, [], [], []⟩, ⟨some 17, [11], [11], []⟩, ⟨some 18, [11, 12], [12], []⟩, ⟨some 19, [], [], []⟩, ⟨some 20, [3, 4, 5, 6, 11, 12, 13, 14], [13, 14], []⟩, ⟨some 21, [3, 4, 5, 6, 11, 12, 13, 14, 15], [15], []⟩, ⟨some 22, [3, 4, 5, 6, 8, 9, 10, 11, 12, 13, 14, 15, 16], [10, 16], []⟩, ⟨some 23, [0, 1, 2, 3, 4, 5, 6, 7, 8, 9, 10, 11, 12, 13, 14, 15, 16, 17], [7, 17], []⟩, ⟨none, [0, 1, 2, 3, 4, 5, 6, 7, 8, 9, 10, 11, 12, 13, 14, 15, 16, 17, 18], [18], [20]⟩, ⟨none, [], [], []⟩]
set_option maxHeartbeats 2000000 in
theorem damp_spec (x : Wg) (d : Int) (H : List Row) (hq : 0 ≤ x.val ∧ x.val ≤ 10000) (hd : 1 ≤ d ∧ d ≤ 100000) : Fc Try.prog 56 [.agg (cDr x).toArray, .int .i64 d] H (fun v H' => v = .agg (cSp (dampOf x d)).toArray ∧ H' = H) := by
  have h1 : 0 ≤ (1000 * (x.val + 1) + d - 1) / d := Int.ediv_nonneg (by omega) (by omega)
  have h2 : (1000 * (x.val + 1) + d - 1) / d ≤ 1000 * (x.val + 1) + d - 1 := Int.ediv_le_self _ (by omega)
  refine Fc.mk (callable Try.call56) Try.func56 rfl Try.ntmps56 rfl ?_; dsimp only [fr]
  refine X.seq rfl ?_; refine X.region rfl (fun K hK => ?_); repeat' (first | (refine XO.op rfl ?_; (first | ((first | refine Xo.ng rfl ?_); (first | (refine Xg.st (StF.boxAgg rfl rfl) rfl rfl ?_; rintro _ _ ⟨bx, rfl, rfl⟩) | (refine Xg.st (StF.alloc rfl Try.zeroValue23 rfl) rfl rfl ?_; rintro _ _ ⟨bx, rfl, rfl⟩))))) | (refine XO.done rfl ?_; refine hK _ _ ?_; clear hK K))
  rename_i b1; rename Nat => b2
  refine X.seq rfl ?_
  refine X.regionOb ts54 [2, 4, 1] [(2, .pointer (some ⟨b1, 0, none⟩)), (4, .pointer (some ⟨b2, 0, none⟩)), (1, .int .i64 d)]
    (valL [.pointer (some ⟨b1, 0 + 2, none⟩), .pointer (some ⟨b1, 0 + 2 + 0, none⟩), .int .i64 x.lo, .pointer (some ⟨b1, 0 + 1, none⟩), .int .i64 x.val, .int .i64 d, .int .i64 (leastD x.val d), .int .i64 (max x.lo (leastD x.val d)),
      .pointer (some ⟨b1, 0 + 2, none⟩), .pointer (some ⟨b1, 0 + 2 + 1, none⟩), .int .i64 x.hi, .pointer (some ⟨b1, 0 + 1, none⟩), .int .i64 x.val, .int .i64 (x.val + 1), .int .i64 d, .int .i64 (leastD (x.val + 1) d), .int .i64 (leastD (x.val + 1) d - 1), .int .i64 (min x.hi (leastD (x.val + 1) d - 1)), .agg (cSp (dampOf x d)).toArray])
    (rowsL 19 ⟨b2, 0, cSp (dampOf x d), some 23, 2⟩ ⟨b2, 0, cSp ⟨0, 0⟩, some 23, 2⟩) (fun _ => (0, 0)) (⟨b1, 0, cDr x, some 64, 4⟩ :: H) rfl mixed (by (repeat (first | exact Sub.nil _ | refine Sub.cons rfl ?_)); done) rfl (by kernel_rfl) (fun _ _ _ _ _ _ => ⟨rfl, rfl⟩) (List.Sublist.refl _) ?_ ?_
  · repeat' (first | exact AllF.done rfl | (refine AllF.step rfl ?_ ?_; · (first | fail | ((first | refine Ob.ng rfl ?_); (first | exact ObK.pure (fun env R hR => by exact ⟨_, EvF.move rfl rfl, rfl⟩) rfl (fun _ => rfl) | exact ObK.pure (fun env R hR => by exact ⟨_, EvF.fieldAddr rfl rfl (te rfl) rfl (te rfl) (by decide), rfl⟩) rfl (fun _ => rfl) | exact ObK.pure (fun env R hR => by exact ⟨_, EvF.loadV rfl rfl (LoadV.own (te rfl) rfl (hR _ (List.Mem.head _)) rfl), rfl⟩) rfl (fun _ => rfl) | (exact ObK.pure (fun env S hS => ⟨_, EvF.max64 rfl rfl rfl, rfl⟩) rfl (fun _ => rfl)) | (exact ObK.pure (fun env S hS => ⟨_, EvF.min64 rfl rfl rfl, rfl⟩) rfl (fun _ => rfl)) | (exact ObK.pure (fun env S hS => ⟨_, EvF.add64 rfl rfl rfl (by omega) (by omega), rfl⟩) rfl (fun _ => rfl)) | (exact ObK.pure (fun env S hS => ⟨_, EvF.sub64 (p := leastD (x.val + 1) d) rfl rfl rfl (by unfold leastD; omega) (by unfold leastD; omega), rfl⟩) rfl (fun _ => rfl)) | (exact ObK.pure (fun env S hS => ⟨_, EvF.build (cs := cSp (dampOf x d)) rfl (ArgsP.cons rfl (ArgsP.cons rfl ArgsP.nil)) (te rfl) (Places.cons (te rfl) (Places.cons (te rfl) Places.nil)) Try.zeroValue23 rfl, rfl⟩) rfl (fun _ => rfl)) | (exact fun env S hS => OpF.callV (Z := []) (EnF.st rfl (by (repeat (first | exact Args.nil | refine Args.cons rfl ?_)); done)) (leastDamp_spec x.val d _ (by omega) hd) rfl rfl) | (exact fun env S hS => OpF.callV (Z := []) (EnF.st rfl (by (repeat (first | exact Args.nil | refine Args.cons rfl ?_)); done)) (leastDamp_spec (x.val + 1) d _ (by omega) hd) rfl rfl) | (exact fun env S hS => (StF.storeAll (i := 0) (vs := cSp (dampOf x d)) (cs := cSp ⟨0, 0⟩) rfl rfl rfl (te rfl) rfl rfl rfl rfl).op.mono (fun v H' ⟨hv, hH⟩ => ⟨(0, 0), fun h => absurd rfl h, by rw [hH]; exact List.Perm.refl _⟩)))))))
  · intro env t ha hv
    refine ⟨_, ha, ?_⟩
    show X _ _ _ _ (⟨b2, 0, cSp (dampOf x d), some 23, 2⟩ :: ⟨b1, 0, cDr x, some 64, 4⟩ :: H) _
    repeat' (first | (refine XO.op rfl ?_; (first | ((first | refine Xo.ng rfl ?_); (first | (refine Xg.ev (EvF.assign rfl rfl) rfl rfl ?_) | (refine Xg.ev (EvF.cmp rfl rfl rfl rfl) rfl rfl ?_) | (refine Xg.ev (EvF.fieldAddr rfl rfl (te rfl) rfl (te rfl) (by decide)) rfl rfl ?_) | (refine Xg.ev (EvF.loadV rfl rfl (LoadV.own (te rfl) rfl (List.Mem.head _) rfl)) rfl rfl ?_) | (refine Xg.st (StF.boxAgg rfl rfl) rfl rfl ?_; rintro _ _ ⟨bx, rfl, rfl⟩))))) | (refine XO.done rfl ?_; refine hK _ _ ?_; clear hK K) | refine X.seq rfl ?_ | refine X.region rfl (fun K hK => ?_) | refine X.ret rfl ?_)
    exact ret_one (by first | exact .inr rfl | exact .inl rfl) Try.results56 ⟨_, rfl, LoadV.whole (te rfl) rfl (List.Mem.head _) rfl⟩ (H' := H) (by (repeat (first | exact List.Sublist.refl _ | apply List.Sublist.cons)); done) ⟨rfl, rfl⟩
end Go.Proofs.Ytminkpgacomicac
end
section
set_option linter.unusedVariables false
set_option linter.unusedSimpArgs false
namespace Go.Proofs.Ytminkpgacomicac
open Go Go.Fw
set_option maxRecDepth 10000
/-- the numbers from lo on, k of them, of which something is so -/
def wl (ok : Int → Bool) (lo : Int) : Nat → List Int
  | 0 => []
  | k + 1 => wl ok lo k ++ (if ok (lo + k) = true then [lo + k] else [])
theorem wl_len (ok : Int → Bool) (lo : Int) : ∀ k, (wl ok lo k).length ≤ k
  | 0 => Nat.le_refl _
  | k + 1 => by
    have := wl_len ok lo k
    simp only [wl, List.length_append]
    split <;> simp <;> omega
theorem wl_congr {ok ok' : Int → Bool} {lo : Int} : ∀ k, (∀ i : Nat, i < k → ok (lo + i) = ok' (lo + i)) → wl ok lo k = wl ok' lo k
  | 0, _ => rfl
  | k + 1, h => by
    simp only [wl]
    rw [wl_congr k (fun i hi => h i (by omega)), h k (by omega)]
/-- a list of numbers in memory of one's own, or nil -/
def OutI (l : List Int) (out : Value) (Z : List Row) : Prop := (l = [] ∧ out = .slice none 0 0 ∧ Z = []) ∨ ∃ b q, out = .slice (some ⟨b, 0, none⟩) l.length q ∧ Z = [⟨b, 0, l.flatMap cI, some 3, q * 1⟩]
theorem OutI.sl {l : List Int} {out : Value} {Z H : List Row} (h : OutI l out Z) : ∃ a c, out = .slice a l.length c ∧ SlE (Z ++ H) a cI 1 l := by
  rcases h with ⟨rfl, rfl, rfl⟩ | ⟨b, q, rfl, rfl⟩
  · exact ⟨none, 0, rfl, sleNil⟩
  · exact ⟨_, _, rfl, SlE.ofRow (List.Mem.head _) (fun _ _ => rfl)⟩
def canW (B : Bl) (d : Int) : Prop := ∀ x ∈ B.weighs, ¬ (dampOf x d).lo > (dampOf x d).hi
noncomputable instance (B : Bl) (d : Int) : Decidable (canW B d) := Classical.propDecidable _
noncomputable def okW (B : Bl) (d : Int) : Bool := decide (canW B d)
noncomputable def wts (B : Bl) : List Int := wl (okW B) B.dlo (B.dhi - B.dlo + 1).toNat
set_option maxHeartbeats 4000000 in
theorem weights_spec (B : Bl) (p : Pb) (g : List Sp) (H : List Row) (hd : 1 ≤ B.dlo ∧ B.dlo ≤ B.dhi ∧ B.dhi ≤ 600) (hw : ∀ x ∈ B.weighs, 0 ≤ x.val ∧ x.val ≤ 10000) (hg : g.length = 5) (hB : BlOk H B p) :
    Fc Try.prog 49 [.agg (cPr B p g).toArray] H (fun v H' => ∃ Z, OutI (wts B) v Z ∧ H' = Z ++ H) := by
  obtain ⟨N, hN⟩ : ∃ N : Nat, (B.dhi - B.dlo + 1).toNat = N := ⟨_, rfl⟩
  unfold wts
  rw [hN]
  have hNN : B.dlo + N = B.dhi + 1 := by omega
  have l2 := hB.l2
  have hBZ : ∀ (Z : List Row) r, BlOk (Z ++ r :: H) B p := fun Z r => hB.sub (fun _ h => List.mem_append_right _ (List.mem_cons_of_mem _ h))
  obtain ⟨a1, c1, a2, c2⟩ := p
  refine Fc.mk (callable Try.call49) Try.func49 rfl Try.ntmps49 rfl ?_; dsimp only [fr]
  repeat' (first | (refine XO.op rfl ?_; (first | ((first | refine Xo.ng rfl ?_); (first | (refine Xg.ev (EvF.move rfl rfl) rfl rfl ?_) | (refine Xg.ev (EvF.assign rfl rfl) rfl rfl ?_) | (refine Xg.ev (EvF.cmp rfl rfl rfl rfl) rfl rfl ?_) | (refine Xg.ev (EvF.fieldAddr rfl rfl (te rfl) rfl (te rfl) (by decide)) rfl rfl ?_) | (refine Xg.ev (EvF.loadV rfl rfl (LoadV.own (te rfl) rfl (List.Mem.head _) rfl)) rfl rfl ?_) | (refine Xg.st (StF.boxAgg rfl rfl) rfl rfl ?_; rintro _ _ ⟨bx, rfl, rfl⟩))))) | (refine XO.done rfl ?_; refine hK _ _ ?_; clear hK K) | refine X.seq rfl ?_ | refine X.region rfl (fun K hK => ?_) | refine X.block rfl ?_ | (refine X.brk rfl ?_; first | refine blockX_hit rfl ?_ | skip) | refine X.skip rfl ?_ | (refine X.ite rfl rfl (fun hc => ?_); (first | (with_reducible refine Xb.case hc (fun h => ?_) (fun h => ?_))) <;> clear hc))
  refine X.scope rfl ?_
  repeat' (first | (refine XO.op rfl ?_; (first | ((first | refine Xo.ng rfl ?_); (first | (refine Xg.ev (EvF.move rfl rfl) rfl rfl ?_) | (refine Xg.ev (EvF.assign rfl rfl) rfl rfl ?_) | (refine Xg.ev (EvF.cmp rfl rfl rfl rfl) rfl rfl ?_) | (refine Xg.ev (EvF.fieldAddr rfl rfl (te rfl) rfl (te rfl) (by decide)) rfl rfl ?_) | (refine Xg.ev (EvF.loadV rfl rfl (LoadV.own (te rfl) rfl (List.Mem.head _) rfl)) rfl rfl ?_) | (refine Xg.st (StF.boxAgg rfl rfl) rfl rfl ?_; rintro _ _ ⟨bx, rfl, rfl⟩))))) | (refine XO.done rfl ?_; refine hK _ _ ?_; clear hK K) | refine X.seq rfl ?_ | refine X.region rfl (fun K hK => ?_) | refine X.block rfl ?_ | (refine X.brk rfl ?_; first | refine blockX_hit rfl ?_ | skip) | refine X.skip rfl ?_ | (refine X.ite rfl rfl (fun hc => ?_); (first | (with_reducible refine Xb.case hc (fun h => ?_) (fun h => ?_))) <;> clear hc))
  refine X.label rfl ?_
  repeat' (first | (refine XO.op rfl ?_; (first | ((first | refine Xo.ng rfl ?_); (first | (refine Xg.ev (EvF.move rfl rfl) rfl rfl ?_) | (refine Xg.ev (EvF.assign rfl rfl) rfl rfl ?_) | (refine Xg.ev (EvF.cmp rfl rfl rfl rfl) rfl rfl ?_) | (refine Xg.ev (EvF.fieldAddr rfl rfl (te rfl) rfl (te rfl) (by decide)) rfl rfl ?_) | (refine Xg.ev (EvF.loadV rfl rfl (LoadV.own (te rfl) rfl (List.Mem.head _) rfl)) rfl rfl ?_) | (refine Xg.st (StF.boxAgg rfl rfl) rfl rfl ?_; rintro _ _ ⟨bx, rfl, rfl⟩))))) | (refine XO.done rfl ?_; refine hK _ _ ?_; clear hK K) | refine X.seq rfl ?_ | refine X.region rfl (fun K hK => ?_) | refine X.block rfl ?_ | (refine X.brk rfl ?_; first | refine blockX_hit rfl ?_ | skip) | refine X.skip rfl ?_ | (refine X.ite rfl rfl (fun hc => ?_); (first | (with_reducible refine Xb.case hc (fun h => ?_) (fun h => ?_))) <;> clear hc))
  rename Nat => b1
  refine X.lp rfl (fun m F' H' => ∃ (k : Nat) (d : Int) (out : Value) (Z : List Row), m = N - k ∧ k ≤ N ∧ d = B.dlo + k ∧ OutI (wl (okW B) B.dlo k) out Z ∧ Z ++ ⟨b1, 0, cPr B ⟨a1, c1, a2, c2⟩ g, some 47, 16⟩ :: H = H' ∧
      F' = [(1, .pointer (some ⟨b1, 0, none⟩)), (3, out), (4, .int .i64 d)])
    N [(1, .pointer (some ⟨b1, 0, none⟩)), (3, .slice none 0 0), (4, .int .i64 B.dlo)] (⟨b1, 0, cPr B ⟨a1, c1, a2, c2⟩ g, some 47, 16⟩ :: H) (by (repeat (first | exact Sub.nil _ | refine Sub.cons rfl ?_)); done) (by rw [← lenPr (B := B) (p := ⟨a1, c1, a2, c2⟩) hg]; exact List.Sublist.refl _) ⟨0, _, _, [], by omega, by omega, by omega, .inl ⟨rfl, rfl, rfl⟩, rfl, rfl⟩ ?_
  rintro _ _ H2 ⟨k, d, out, Z, rfl, hk, hdk, hO, hH, rfl⟩
  subst hH
  repeat' (first | (refine XO.op rfl ?_; (first | ((first | refine Xo.ng rfl ?_); (first | (refine Xg.ev (EvF.loadV rfl rfl (LoadV.own (te rfl) rfl (List.mem_append_right _ (List.Mem.head _)) rfl)) rfl rfl ?_) | (refine Xg.ev (EvF.move rfl rfl) rfl rfl ?_) | (refine Xg.ev (EvF.assign rfl rfl) rfl rfl ?_) | (refine Xg.ev (EvF.cmp rfl rfl rfl rfl) rfl rfl ?_) | (refine Xg.ev (EvF.fieldAddr rfl rfl (te rfl) rfl (te rfl) (by decide)) rfl rfl ?_) | (refine Xg.ev (EvF.lenSlice rfl rfl (te rfl)) rfl rfl ?_))))) | (refine XO.done rfl ?_; refine hK _ _ ?_; clear hK K) | refine X.seq rfl ?_ | refine X.region rfl (fun K hK => ?_) | refine X.block rfl ?_ | (refine X.brk rfl ?_; first | refine blockX_hit rfl ?_ | skip) | refine X.skip rfl ?_ | refine X.ret rfl ?_ | (refine X.ite rfl rfl (fun hc => ?_); (first | (with_reducible refine Xb.case hc (fun h => ?_) (fun h => ?_))) <;> clear hc))
  · refine X.lp rfl (fun m F' H' => ∃ q : Nat, m = B.weighs.length - q ∧ q ≤ B.weighs.length ∧ (canW B d ↔ ∀ x ∈ B.weighs.drop q, ¬ (dampOf x d).lo > (dampOf x d).hi) ∧ Z ++ ⟨b1, 0, cPr B ⟨a1, c1, a2, c2⟩ g, some 47, 16⟩ :: H = H' ∧
        F' = [(1, .pointer (some ⟨b1, 0, none⟩)), (3, out), (4, .int .i64 d), (22, .slice a2 B.weighs.length c2), (23, .int .i64 B.weighs.length), (24, .int .i64 q)])
      B.weighs.length [(1, .pointer (some ⟨b1, 0, none⟩)), (3, out), (4, .int .i64 d), (22, .slice a2 B.weighs.length c2), (23, .int .i64 B.weighs.length), (24, .int .i64 (0 : Nat))] _ (by (repeat (first | exact Sub.nil _ | refine Sub.cons rfl ?_)); done) (List.Sublist.refl _) ⟨0, by omega, by omega, by unfold canW; simp, rfl, rfl⟩ ?_
    rintro _ _ H2 ⟨q, rfl, hq, hn, hH, rfl⟩
    subst hH
    repeat' (first | (refine XO.op rfl ?_; (first | ((first | refine Xo.ng rfl ?_); (first | (refine Xg.ev (EvF.move rfl rfl) rfl rfl ?_) | (refine Xg.ev (EvF.assign rfl rfl) rfl rfl ?_) | (refine Xg.ev (EvF.cmp rfl rfl rfl rfl) rfl rfl ?_) | (refine Xg.ev (EvF.fieldAddr rfl rfl (te rfl) rfl (te rfl) (by decide)) rfl rfl ?_) | (refine Xg.ev (EvF.loadV rfl rfl (LoadV.own (te rfl) rfl (List.Mem.head _) rfl)) rfl rfl ?_) | (refine Xg.st (StF.boxAgg rfl rfl) rfl rfl ?_; rintro _ _ ⟨bx, rfl, rfl⟩))))) | (refine XO.done rfl ?_; refine hK _ _ ?_; clear hK K) | refine X.seq rfl ?_ | refine X.region rfl (fun K hK => ?_) | refine X.block rfl ?_ | (refine X.brk rfl ?_; first | refine blockX_hit rfl ?_ | skip) | refine X.skip rfl ?_ | (refine X.ite rfl rfl (fun hc => ?_); (first | (with_reducible refine Xb.case hc (fun h => ?_) (fun h => ?_))) <;> clear hc))
    · obtain ⟨b, off, e, rfl, he⟩ := hB.weighs.elem (i := q) (by omega)
      have hwe := hw e (List.mem_of_getElem? he)
      rw [drop_cons he] at hn
      repeat' (first | (refine XO.op rfl ?_; (first | ((first | refine Xo.ng rfl ?_); (first | (refine Xg.ev (EvF.loadV rfl rfl (LoadV.elA0 (hBZ _ _).weighs he (te rfl) rfl (fun _ hm => hm) rfl)) rfl rfl ?_) | (refine Xg.call (EnF.st rfl (Args.cons rfl (Args.cons rfl Args.nil))) rfl rfl (damp_spec e d _ hwe (by omega)) ?_; rintro _ H9 ⟨rfl, hH9⟩; subst H9) | (refine Xg.ev (EvF.move rfl rfl) rfl rfl ?_) | (refine Xg.ev (EvF.assign rfl rfl) rfl rfl ?_) | (refine Xg.ev (EvF.cmp rfl rfl rfl rfl) rfl rfl ?_) | (refine Xg.ev (EvF.add64 rfl rfl rfl (by omega) (by omega)) rfl rfl ?_) | (refine Xg.ev (EvF.fieldAddr rfl rfl (te rfl) rfl (te rfl) (by decide)) rfl rfl ?_) | (refine Xg.ev (EvF.indexSlice rfl rfl rfl (te rfl) (te rfl) (by omega) (by omega)) rfl rfl ?_) | (refine Xg.ev (EvF.loadV rfl rfl (LoadV.own (te rfl) rfl (List.Mem.head _) rfl)) rfl rfl ?_) | (refine Xg.ev (EvF.loadV rfl rfl (LoadV.whole (te rfl) rfl (List.Mem.head _) rfl)) rfl rfl ?_) | (refine Xg.st (StF.alloc rfl Try.zeroValue23 rfl) rfl rfl ?_; rintro _ _ ⟨bx, rfl, rfl⟩) | (refine Xg.st (StF.alloc rfl Try.zeroValue62 rfl) rfl rfl ?_; rintro _ _ ⟨bx, rfl, rfl⟩) | (refine Xg.st0 (StF.storeAll (i := 0) rfl rfl rfl (te rfl) rfl rfl rfl rfl) rfl ?_; rintro _ _ ⟨rfl, rfl⟩; dsimp only [List.set]))))) | (refine XO.done rfl ?_; refine hK _ _ ?_; clear hK K) | refine X.seq rfl ?_ | refine X.region rfl (fun K hK => ?_) | (refine X.brk rfl ?_; first | refine blockX_hit rfl ?_ | skip) | refine X.skip rfl ?_ | (refine X.ite rfl rfl (fun hc => ?_); (first | (with_reducible refine Xb.case hc (fun h => ?_) (fun h => ?_))) <;> clear hc))
      · have hno : okW B d = false := decide_eq_false (fun c => hn.1 c e List.mem_cons_self h)
        refine ⟨_, _, _, (by (repeat (first | exact Sub.nil _ | refine Sub.cons rfl ?_)); done), (by (repeat (first | exact List.Sublist.refl _ | apply List.Sublist.cons)); done), ⟨k + 1, _, _, Z, rfl, by omega, ?_, ?_, rfl, rfl⟩, by omega⟩
        · omega
        · rw [hdk] at hno
          simp only [wl, hno, Bool.false_eq_true, if_false, List.append_nil]
          exact hO
      · refine ⟨_, _, _, (by (repeat (first | exact Sub.nil _ | refine Sub.cons rfl ?_)); done), (by (repeat (first | exact List.Sublist.refl _ | apply List.Sublist.cons)); done), ⟨q + 1, rfl, by omega, hn.trans ⟨fun w n hm => w n (List.mem_cons_of_mem _ hm), fun w n hm => ?_⟩, rfl, rfl⟩, by omega⟩
        rcases List.mem_cons.1 hm with rfl | hm
        · assumption
        · exact w n hm
    · have hyes : okW B d = true := decide_eq_true (hn.2 (by rw [List.drop_eq_nil_of_le (by omega)]; exact fun _ h => absurd h List.not_mem_nil))
      have hwl : wl (okW B) B.dlo (k + 1) = wl (okW B) B.dlo k ++ [d] := by
        rw [hdk] at hyes
        simp only [wl, hyes, if_true, hdk]
      have hk1 := wl_len (okW B) B.dlo k
      obtain ⟨l, hlE⟩ : ∃ l, wl (okW B) B.dlo k = l := ⟨_, rfl⟩
      rw [hlE] at hO hwl hk1
      clear hn
      rcases hO with ⟨rfl, rfl, rfl⟩ | ⟨b0, q0, rfl, rfl⟩
      · repeat' (first | (refine XO.op rfl ?_; (first | ((first | refine Xo.ng rfl ?_); (first | (refine Xg.st (StF.buildOne rfl el55 rfl rfl rfl (by decide) (by decide)) rfl rfl ?_; rintro _ _ ⟨bs, rfl, rfl⟩) | (refine Xg.st (StF.appendNew rfl el55 rfl rfl (by decide) rfl (Rd.own (List.Mem.head _)) (by decide)) rfl rfl ?_; rintro _ _ ⟨bn, kn, rfl, rfl⟩) | (refine Xg.ev (EvF.move rfl rfl) rfl rfl ?_) | (refine Xg.ev (EvF.assign rfl rfl) rfl rfl ?_) | (refine Xg.ev (EvF.add64 rfl rfl rfl (by omega) (by omega)) rfl rfl ?_))))) | (refine XO.done rfl ?_; refine hK _ _ ?_; clear hK K) | refine X.region rfl (fun K hK => ?_))
        refine ⟨_, _, _, (by (repeat (first | exact Sub.nil _ | refine Sub.cons rfl ?_)); done), ?_, ⟨k + 1, _, _, [⟨bn, 0, ([] ++ [d]).flatMap cI, some 3, kn * 1⟩], rfl, by omega, ?_, ?_, rfl, rfl⟩, by omega⟩
        · exact List.Sublist.cons_cons _ (List.Sublist.cons _ (List.Sublist.refl _))
        · omega
        · rw [hwl]; exact .inr ⟨_, _, rfl, rfl⟩
      · have hlen : (l.flatMap cI).length = l.length * 1 := lenI l
        repeat' (first | (refine XO.op rfl ?_; (first | ((first | refine Xo.ng rfl ?_); (first | (refine Xg.st (StF.buildOne rfl el55 rfl rfl rfl (by decide) (by decide)) rfl rfl ?_; rintro _ _ ⟨bs, rfl, rfl⟩) | (refine Xg.st (StF.appendOwn (i := 1) rfl el55 rfl rfl rfl hlen rfl (Rd.own (List.Mem.head _)) rfl (by omega)) rfl rfl ?_; rintro _ _ ⟨bn, kn, rfl, rfl⟩; dsimp only [List.eraseIdx]) | (refine Xg.ev (EvF.move rfl rfl) rfl rfl ?_) | (refine Xg.ev (EvF.assign rfl rfl) rfl rfl ?_) | (refine Xg.ev (EvF.add64 rfl rfl rfl (by omega) (by omega)) rfl rfl ?_))))) | (refine XO.done rfl ?_; refine hK _ _ ?_; clear hK K) | refine X.region rfl (fun K hK => ?_))
        refine ⟨_, _, _, (by (repeat (first | exact Sub.nil _ | refine Sub.cons rfl ?_)); done), ?_, ⟨k + 1, _, _, [⟨bn, 0, (l ++ [d]).flatMap cI, some 3, kn * 1⟩], rfl, by omega, ?_, ?_, rfl, rfl⟩, by omega⟩
        · rw [List.flatMap_append]
          exact List.Sublist.cons_cons _ (List.Sublist.cons _ (List.Sublist.refl _))
        · omega
        · rw [hwl]; exact .inr ⟨_, _, by rw [List.length_append]; rfl, rfl⟩
  · obtain rfl : k = N := by omega
    exact ret_one (by first | exact .inr rfl | exact .inl rfl) Try.results49 rfl (H' := Z ++ H) (List.Sublist.append (List.Sublist.refl _) (List.sublist_cons_self _ _)) ⟨Z, hO, rfl⟩
theorem hasWeight_spec (B : Bl) (p : Pb) (g : List Sp) (H : List Row) (hd : 1 ≤ B.dlo ∧ B.dlo ≤ B.dhi ∧ B.dhi ≤ 600) (hw : ∀ x ∈ B.weighs, 0 ≤ x.val ∧ x.val ≤ 10000) (hg : g.length = 5) (hB : BlOk H B p) :
    Fc Try.prog 32 [.agg (cPr B p g).toArray] H (fun v H' => v = .bool (decide ((wts B).length > 0)) ∧ H' = H) := by
  have hl := wl_len (okW B) B.dlo (B.dhi - B.dlo + 1).toNat
  refine Fc.mk (callable Try.call32) Try.func32 rfl Try.ntmps32 rfl ?_; dsimp only [fr]
  repeat' (first | (refine XO.op rfl ?_; (first | ((first | refine Xo.ng rfl ?_); (first | (refine Xg.ev (EvF.loadV rfl rfl (LoadV.whole (te rfl) rfl (List.Mem.head _) (lenPr hg))) rfl rfl ?_) | (refine Xg.call (EnF.st rfl (by (repeat (first | exact Args.nil | refine Args.cons rfl ?_)); done)) rfl rfl (weights_spec B p g _ hd hw hg (hB.sub (fun _ h => List.mem_cons_of_mem _ h))) ?_; rintro _ _ ⟨Z, hO, rfl⟩; obtain ⟨a, c, rfl, hs⟩ := hO.sl (H := [])) | (refine Xg.ev (EvF.assign rfl rfl) rfl rfl ?_) | (refine Xg.ev (EvF.cmp rfl rfl rfl rfl) rfl rfl ?_) | (refine Xg.ev (EvF.lenSlice rfl rfl (te rfl)) rfl rfl ?_) | (refine Xg.st (StF.boxAgg rfl rfl) rfl rfl ?_; rintro _ _ ⟨bx, rfl, rfl⟩))))) | (refine XO.done rfl ?_; refine hK _ _ ?_; clear hK K) | refine X.seq rfl ?_ | refine X.region rfl (fun K hK => ?_) | refine X.ret rfl ?_)
  refine ret_one (by first | exact .inr rfl | exact .inl rfl) Try.results32 rfl (H' := H) ((List.sublist_cons_self _ _).trans (List.sublist_append_right _ _)) ⟨?_, rfl⟩
  congr 1
  exact decide_eq_decide.2 ⟨fun q => by omega, fun q => by omega⟩
theorem can_spec (B : Bl) (p : Pb) (g : List Sp) (H : List Row) (h5 : 1 ≤ B.layers ∧ B.layers ≤ 5) (hd : 1 ≤ B.dlo ∧ B.dlo ≤ B.dhi ∧ B.dhi ≤ 600) (hw : ∀ x ∈ B.weighs, 0 ≤ x.val ∧ x.val ≤ 10000) (hg : g.length = 5) (hB : BlOk H B p) :
    Fc Try.prog 18 [.agg (cPr B p g).toArray] H (fun v H' => v = .bool (decide (hasG B.layers.toNat g ∧ (wts B).length > 0)) ∧ H' = H) := by
  refine Fc.mk (callable Try.call18) Try.func18 rfl Try.ntmps18 rfl ?_; dsimp only [fr]
  repeat' (first | (refine XO.op rfl ?_; (first | ((first | refine Xo.ng rfl ?_ | (refine Xo.g rfl rfl ?_; with_reducible refine Xw.tt ?_)); (first | (refine Xg.ev (EvF.loadV rfl rfl (LoadV.whole (te rfl) rfl (List.Mem.head _) (lenPr hg))) rfl rfl ?_) | (refine Xg.call (EnF.st rfl (Args.cons rfl Args.nil)) rfl rfl (hasGrades_spec B p g _ h5 hg) ?_; rintro _ H9 ⟨rfl, hH9⟩; subst H9) | (refine Xg.call (EnF.st rfl (Args.cons rfl Args.nil)) rfl rfl (hasWeight_spec B p g _ hd hw hg (hB.sub (fun _ h => List.mem_cons_of_mem _ h))) ?_; rintro _ H9 ⟨rfl, hH9⟩; subst H9) | (refine Xg.ev (EvF.move rfl rfl) rfl rfl ?_) | (refine Xg.ev (EvF.assign rfl rfl) rfl rfl ?_) | (refine Xg.ev (EvF.pickT rfl rfl rfl) rfl rfl ?_) | (refine Xg.ev (EvF.pickF rfl rfl rfl) rfl rfl ?_) | (refine Xg.st (StF.boxAgg rfl rfl) rfl rfl ?_; rintro _ _ ⟨bx, rfl, rfl⟩))) | (refine Xo.g rfl rfl ?_; (first | (with_reducible refine Xw.ft rfl rfl ?_) | (with_reducible refine Xw.case (fun h => ?_) (fun h => ?_) <;> simp only [h, decide_true, decide_false, Bool.not_true, Bool.not_false, and_self, and_true, true_and, and_false, false_and]))))) | (refine XO.done rfl ?_; refine hK _ _ ?_; clear hK K) | refine X.seq rfl ?_ | refine X.region rfl (fun K hK => ?_) | refine X.ret rfl ?_)
  all_goals (refine ret_one (by first | exact .inr rfl | exact .inl rfl) Try.results18 rfl (H' := H) (by (repeat (first | exact List.Sublist.refl _ | apply List.Sublist.cons)); done) ?_; simp only [and_true, true_and])
  all_goals (congr 1)
  all_goals first
    | (symm; exact decide_eq_false (fun q => absurd q.1 (by assumption)))
    | exact decide_eq_decide.2 ⟨fun q => ⟨by assumption, q⟩, fun q => q.2⟩
end Go.Proofs.Ytminkpgacomicac
end
section
set_option linter.unusedVariables false
set_option linter.unusedSimpArgs false
namespace Go.Proofs.Ytminkpgacomicac
open Go Go.Fw
set_option maxRecDepth 10000
theorem baleOk.h5 {B : Bl} (h : baleOk B) : 1 ≤ B.layers ∧ B.layers ≤ 5 := by simpa using h.2.1
theorem baleOk.hd {B : Bl} (h : baleOk B) : ∀ x ∈ B.draws, 0 ≤ x.val ∧ x.val < 5 := by
  intro x hx
  have h1 := (h.2.2.2.1.2.2 x hx).1 x.val (List.mem_singleton.2 rfl)
  have h2 := h.h5
  exact ⟨h1.1, by have := h1.2; simp only at this; omega⟩
theorem baleOk.hdry {B : Bl} (h : baleOk B) : 1 ≤ B.dlo ∧ B.dlo ≤ B.dhi ∧ B.dhi ≤ 600 := ⟨h.2.2.1.2.1, h.2.2.1.1, h.2.2.1.2.2⟩
theorem baleOk.hw {B : Bl} (h : baleOk B) : ∀ x ∈ B.weighs, 0 ≤ x.val ∧ x.val ≤ 10000 := by
  intro x hx
  have h1 := (h.2.2.2.2.2.2 x hx).1 x.val (List.mem_singleton.2 rfl)
  exact ⟨by have := h1.1; simp only at this; omega, by have := h1.2; simp only at this; omega⟩
theorem gradesOf_len {B : Bl} (h : baleOk B) : (gradesOf B).length = 5 := by
  have := h.h5
  unfold gradesOf; rw [foldG_len, initG_len (by omega)]
/-- what a call is about -/
structure Ca where
  l : List Int
  k : List Int
  w : List Int
  d : List Int
structure Pc where
  a1 : Option Addr
  c1 : Nat
  a2 : Option Addr
  c2 : Nat
  a3 : Option Addr
  c3 : Nat
  a4 : Option Addr
  c4 : Nat
def cCa (C : Ca) (q : Pc) : List Value := [.slice q.a1 C.l.length q.c1, .slice q.a2 C.k.length q.c2, .slice q.a3 C.w.length q.c3, .slice q.a4 C.d.length q.c4]
structure CaOk (H : List Row) (C : Ca) (q : Pc) : Prop where
  l : SlE H q.a1 cI 1 C.l
  k : SlE H q.a2 cI 1 C.k
  w : SlE H q.a3 cI 1 C.w
  d : SlE H q.a4 cI 1 C.d
  l1 : C.l.length ≤ 1000000
  l2 : C.k.length ≤ 1000000
  l3 : C.w.length ≤ 1000000
  l4 : C.d.length ≤ 1000000
theorem CaOk.sub {H H' : List Row} {C : Ca} {q : Pc} (h : CaOk H C q) (hs : ∀ r ∈ H, r ∈ H') : CaOk H' C q := ⟨h.l.sub hs, h.k.sub hs, h.w.sub hs, h.d.sub hs, h.l1, h.l2, h.l3, h.l4⟩
def canB (B : Bl) : Prop := hasG B.layers.toNat (gradesOf B) ∧ (wts B).length > 0
noncomputable instance (B : Bl) : Decidable (canB B) := Classical.propDecidable _
def askL (B : Bl) (C : Ca) : Prop := ∀ n ∈ C.l, (Sp.mk 0 (B.layers - 1)).lo ≤ n ∧ n ≤ (Sp.mk 0 (B.layers - 1)).hi
def askK (C : Ca) : Prop := ∀ n ∈ C.k, (Sp.mk 1 4).lo ≤ n ∧ n ≤ (Sp.mk 1 4).hi
def askW (B : Bl) (C : Ca) : Prop := ∀ n ∈ C.w, n ∈ B.weighs.map (·.number)
def askD (C : Ca) : Prop := ∀ n ∈ C.d, (Sp.mk 0 200).lo ≤ n ∧ n ≤ (Sp.mk 0 200).hi
noncomputable instance (B : Bl) (C : Ca) : Decidable (askL B C) := Classical.propDecidable _
noncomputable instance (C : Ca) : Decidable (askK C) := Classical.propDecidable _
noncomputable instance (B : Bl) (C : Ca) : Decidable (askW B C) := Classical.propDecidable _
noncomputable instance (C : Ca) : Decidable (askD C) := Classical.propDecidable _
section
variable (B : Bl) (p : Pb) (C : Ca) (q : Pc) (H : List Row)
theorem isValid_spec (hB : BlOk H B p) : Fc Try.prog 58 ([.agg (cBl B p).toArray, .agg (cCa C q).toArray] ++ []) H (fun v H' => v = .bool (decide (baleOk B)) ∧ H' = H) := by
  show Fc Try.prog 58 [.agg (cBl B p).toArray, .agg (cCa C q).toArray] H _
  have hB2 : ∀ r1 r2, BlOk (r1 :: r2 :: H) B p := fun r1 r2 => hB.sub (fun _ h => List.Mem.tail _ (List.Mem.tail _ h))
  refine Fc.mk (callable Try.call58) Try.func58 rfl Try.ntmps58 rfl ?_; dsimp only [fr]
  repeat' (first | (refine XO.op rfl ?_; (first | ((first | refine Xo.ng rfl ?_); (first | (refine Xg.call (EnF.st rfl (Args.cons rfl Args.nil)) rfl rfl (kcheck_spec B p _ (hB2 _ _)) ?_; rintro _ H9 ⟨rfl, hH9⟩; subst H9) | (refine Xg.ev (EvF.assign rfl rfl) rfl rfl ?_) | (refine Xg.ev (EvF.cmp rfl rfl rfl rfl) rfl rfl ?_) | (refine Xg.ev (EvF.loadV rfl rfl (LoadV.whole (te rfl) rfl (List.Mem.tail _ (List.Mem.head _)) rfl)) rfl rfl ?_) | (refine Xg.st (StF.boxAgg rfl rfl) rfl rfl ?_; rintro _ _ ⟨bx, rfl, rfl⟩))))) | (refine XO.done rfl ?_; refine hK _ _ ?_; clear hK K) | refine X.seq rfl ?_ | refine X.region rfl (fun K hK => ?_) | refine X.ret rfl ?_)
  refine ret_one (by first | exact .inr rfl | exact .inl rfl) Try.results58 rfl (H' := H) (by (repeat (first | exact List.Sublist.refl _ | apply List.Sublist.cons)); done) ?_; simp only [and_true, true_and]
  congr 1
  by_cases h : baleOk B <;> simp [h]
theorem hasLayers_spec (h5 : ∀ n ∈ [B.layers], (Sp.mk 1 5).lo ≤ n ∧ n ≤ (Sp.mk 1 5).hi) (hC : CaOk H C q) : Fc Try.prog 59 ([.agg (cBl B p).toArray, .agg (cCa C q).toArray] ++ []) H (fun v H' => v = .bool (decide (askL B C)) ∧ H' = H) := by
  show Fc Try.prog 59 [.agg (cBl B p).toArray, .agg (cCa C q).toArray] H _
  have hC2 : ∀ r1 r2, CaOk (r1 :: r2 :: H) C q := fun r1 r2 => hC.sub (fun _ h => List.Mem.tail _ (List.Mem.tail _ h))
  have l1 := hC.l1
  refine Fc.mk (callable Try.call59) Try.func59 rfl Try.ntmps59 rfl ?_; dsimp only [fr]
  repeat' (first | (refine XO.op rfl ?_; (first | ((first | refine Xo.ng rfl ?_); (first | (refine Xg.call (EnF.st rfl (Args.cons rfl (Args.cons rfl Args.nil))) rfl rfl (areLayers_spec B p C.l _ _ _ h5 (hC2 _ _).l (by omega)) ?_; rintro _ H9 ⟨rfl, hH9⟩; subst H9) | (refine Xg.ev (EvF.assign rfl rfl) rfl rfl ?_) | (refine Xg.ev (EvF.fieldAddr rfl rfl (te rfl) rfl (te rfl) (by decide)) rfl rfl ?_) | (refine Xg.ev (EvF.loadV rfl rfl (LoadV.own (te rfl) rfl (List.Mem.head _) rfl)) rfl rfl ?_) | (refine Xg.ev (EvF.loadV rfl rfl (LoadV.whole (te rfl) rfl (List.Mem.tail _ (List.Mem.head _)) rfl)) rfl rfl ?_) | (refine Xg.st (StF.boxAgg rfl rfl) rfl rfl ?_; rintro _ _ ⟨bx, rfl, rfl⟩))))) | (refine XO.done rfl ?_; refine hK _ _ ?_; clear hK K) | refine X.seq rfl ?_ | refine X.region rfl (fun K hK => ?_) | refine X.ret rfl ?_)
  refine ret_one (by first | exact .inr rfl | exact .inl rfl) Try.results59 rfl (H' := H) (by (repeat (first | exact List.Sublist.refl _ | apply List.Sublist.cons)); done) ?_; simp only [and_true, true_and]
  congr 1
  exact decide_eq_decide.2 Iff.rfl
theorem areKinds_spec (hC : CaOk H C q) : Fc Try.prog 60 ([.agg (cBl B p).toArray, .agg (cCa C q).toArray] ++ []) H (fun v H' => v = .bool (decide (askK C)) ∧ H' = H) := by
  show Fc Try.prog 60 [.agg (cBl B p).toArray, .agg (cCa C q).toArray] H _
  have hC2 : ∀ r1 r2, CaOk (r1 :: r2 :: H) C q := fun r1 r2 => hC.sub (fun _ h => List.Mem.tail _ (List.Mem.tail _ h))
  have l2 := hC.l2
  refine Fc.mk (callable Try.call60) Try.func60 rfl Try.ntmps60 rfl ?_; dsimp only [fr]
  repeat' (first | (refine XO.op rfl ?_; (first | ((first | refine Xo.ng rfl ?_); (first | (refine Xg.ev (EvF.build (cs := cSp ⟨1, 4⟩) rfl (ArgsP.cons rfl (ArgsP.cons rfl ArgsP.nil)) (te rfl) (Places.cons (te rfl) (Places.cons (te rfl) Places.nil)) Try.zeroValue23 rfl) rfl rfl ?_) | (refine Xg.call (EnF.st rfl (Args.cons rfl (Args.cons rfl Args.nil))) rfl rfl (withinL_spec ⟨1, 4⟩ C.k _ _ _ (hC2 _ _).k (by omega)) ?_; rintro _ H9 ⟨rfl, hH9⟩; subst H9) | (refine Xg.ev (EvF.assign rfl rfl) rfl rfl ?_) | (refine Xg.ev (EvF.fieldAddr rfl rfl (te rfl) rfl (te rfl) (by decide)) rfl rfl ?_) | (refine Xg.ev (EvF.loadV rfl rfl (LoadV.own (te rfl) rfl (List.Mem.head _) rfl)) rfl rfl ?_) | (refine Xg.st (StF.boxAgg rfl rfl) rfl rfl ?_; rintro _ _ ⟨bx, rfl, rfl⟩))))) | (refine XO.done rfl ?_; refine hK _ _ ?_; clear hK K) | refine X.seq rfl ?_ | refine X.region rfl (fun K hK => ?_) | refine X.ret rfl ?_)
  refine ret_one (by first | exact .inr rfl | exact .inl rfl) Try.results60 rfl (H' := H) (by (repeat (first | exact List.Sublist.refl _ | apply List.Sublist.cons)); done) ?_; simp only [and_true, true_and]
  congr 1
  exact decide_eq_decide.2 Iff.rfl
theorem areDamps_spec (hC : CaOk H C q) : Fc Try.prog 62 ([.agg (cBl B p).toArray, .agg (cCa C q).toArray] ++ []) H (fun v H' => v = .bool (decide (askD C)) ∧ H' = H) := by
  show Fc Try.prog 62 [.agg (cBl B p).toArray, .agg (cCa C q).toArray] H _
  have hC2 : ∀ r1 r2, CaOk (r1 :: r2 :: H) C q := fun r1 r2 => hC.sub (fun _ h => List.Mem.tail _ (List.Mem.tail _ h))
  have l4 := hC.l4
  refine Fc.mk (callable Try.call62) Try.func62 rfl Try.ntmps62 rfl ?_; dsimp only [fr]
  repeat' (first | (refine XO.op rfl ?_; (first | ((first | refine Xo.ng rfl ?_); (first | (refine Xg.ev (EvF.build (cs := cSp ⟨0, 200⟩) rfl (ArgsP.cons rfl (ArgsP.cons rfl ArgsP.nil)) (te rfl) (Places.cons (te rfl) (Places.cons (te rfl) Places.nil)) Try.zeroValue23 rfl) rfl rfl ?_) | (refine Xg.call (EnF.st rfl (Args.cons rfl (Args.cons rfl Args.nil))) rfl rfl (withinL_spec ⟨0, 200⟩ C.d _ _ _ (hC2 _ _).d (by omega)) ?_; rintro _ H9 ⟨rfl, hH9⟩; subst H9) | (refine Xg.ev (EvF.assign rfl rfl) rfl rfl ?_) | (refine Xg.ev (EvF.fieldAddr rfl rfl (te rfl) rfl (te rfl) (by decide)) rfl rfl ?_) | (refine Xg.ev (EvF.loadV rfl rfl (LoadV.own (te rfl) rfl (List.Mem.head _) rfl)) rfl rfl ?_) | (refine Xg.st (StF.boxAgg rfl rfl) rfl rfl ?_; rintro _ _ ⟨bx, rfl, rfl⟩))))) | (refine XO.done rfl ?_; refine hK _ _ ?_; clear hK K) | refine X.seq rfl ?_ | refine X.region rfl (fun K hK => ?_) | refine X.ret rfl ?_)
  refine ret_one (by first | exact .inr rfl | exact .inl rfl) Try.results62 rfl (H' := H) (by (repeat (first | exact List.Sublist.refl _ | apply List.Sublist.cons)); done) ?_; simp only [and_true, true_and]
  congr 1
  exact decide_eq_decide.2 Iff.rfl
theorem hasTruth_spec (hb : baleOk B) (hB : BlOk H B p) : Fc Try.prog 63 ([.agg (cBl B p).toArray, .agg (cCa C q).toArray] ++ []) H (fun v H' => v = .bool (decide (canB B)) ∧ H' = H) := by
  show Fc Try.prog 63 [.agg (cBl B p).toArray, .agg (cCa C q).toArray] H _
  have hB2 : ∀ r1 r2, BlOk (r1 :: r2 :: H) B p := fun r1 r2 => hB.sub (fun _ h => List.Mem.tail _ (List.Mem.tail _ h))
  refine Fc.mk (callable Try.call63) Try.func63 rfl Try.ntmps63 rfl ?_; dsimp only [fr]
  repeat' (first | (refine XO.op rfl ?_; (first | ((first | refine Xo.ng rfl ?_); (first | (refine Xg.call (EnF.st rfl (Args.cons rfl Args.nil)) rfl rfl (pressed_spec B p _ hb.h5 hb.hd (hB2 _ _)) ?_; rintro _ H9 ⟨rfl, hH9⟩; subst H9) | (refine Xg.call (EnF.st rfl (Args.cons rfl Args.nil)) rfl rfl (can_spec B p (gradesOf B) _ hb.h5 hb.hdry hb.hw (gradesOf_len hb) (hB2 _ _)) ?_; rintro _ H9 ⟨rfl, hH9⟩; subst H9) | (refine Xg.ev (EvF.assign rfl rfl) rfl rfl ?_) | (refine Xg.ev (EvF.loadV rfl rfl (LoadV.whole (te rfl) rfl (List.Mem.tail _ (List.Mem.head _)) rfl)) rfl rfl ?_) | (refine Xg.st (StF.boxAgg rfl rfl) rfl rfl ?_; rintro _ _ ⟨bx, rfl, rfl⟩))))) | (refine XO.done rfl ?_; refine hK _ _ ?_; clear hK K) | refine X.seq rfl ?_ | refine X.region rfl (fun K hK => ?_) | refine X.ret rfl ?_)
  refine ret_one (by first | exact .inr rfl | exact .inl rfl) Try.results63 rfl (H' := H) (by (repeat (first | exact List.Sublist.refl _ | apply List.Sublist.cons)); done) ?_; simp only [and_true, true_and]
  congr 1
  exact decide_eq_decide.2 Iff.rfl
end
def tsHw : List TOp := [⟨some 5, [], [], []⟩, ⟨some 6, [0], [0], []⟩, ⟨some 7, [0, 1], [1], []⟩, ⟨some 8, [], [], []⟩, ⟨some 9, [3], [3], []⟩, ⟨some 10, [0, 1, 2, 3, 4], [2, 4], []⟩, ⟨some 4, [0, 1, 2, 3, 4, 5], [5], []⟩]
def valHw (b2 b3 nB : Nat) (B : Bl) (p : Pb) (C : Ca) (q : Pc) (IL : List Value) (w : Bool) (k : Nat) (env : Env) : Value :=
  match k with
  | 0 => .pointer (some ⟨b2, 5, none⟩)
  | 1 => .slice p.a2 B.weighs.length p.c2
  | 2 => .slice (some ⟨(env 2).1, 0, none⟩) nB (env 2).2
  | 3 => .pointer (some ⟨b3, 2, none⟩)
  | 4 => .slice q.a3 C.w.length q.c3
  | 5 => .bool w
  | 6 => .bool w
  | _ => undef
def rowsHw (b2 b3 nB : Nat) (B : Bl) (p : Pb) (C : Ca) (q : Pc) (IL : List Value) (w : Bool) (k : Nat) (env : Env) : List Row :=
  match k with
  | 2 => [⟨(env 2).1, 0, IL, some 3, (env 2).2 * 1⟩]
  | _ => []
theorem locHw (b2 b3 nB : Nat) (B : Bl) (p : Pb) (C : Ca) (q : Pc) (IL : List Value) (w : Bool) : ∀ k env i q9, i ≠ k → (tAt tsHw k).sup.contains i = false → valHw b2 b3 nB B p C q IL w k (upd env i q9) = valHw b2 b3 nB B p C q IL w k env ∧ rowsHw b2 b3 nB B p C q IL w k (upd env i q9) = rowsHw b2 b3 nB B p C q IL w k env := by
  intro k env i q hk hs
  have hu : ∀ j, j ≠ i → upd env i q j = env j := fun j hj => by unfold upd; rw [if_neg hj]
  match k, hk, hs with
  | 0, _, _ => exact ⟨rfl, rfl⟩
  | 1, _, _ => exact ⟨rfl, rfl⟩
  | 2, hk, hs => exact ⟨by simp only [valHw, hu 2 (fun e => hk e.symm)], by simp only [rowsHw, hu 2 (fun e => hk e.symm)]⟩
  | 3, _, _ => exact ⟨rfl, rfl⟩
  | 4, _, _ => exact ⟨rfl, rfl⟩
  | 5, _, _ => exact ⟨rfl, rfl⟩
  | 6, _, _ => exact ⟨rfl, rfl⟩
  | _ + 7, _, _ => exact ⟨rfl, rfl⟩
def rdHw (k : Nat) : List Nat := match k with
  | 5 => [2]
  | _ => []
def tsHx : List TOp := [⟨some 5, [], [], []⟩, ⟨some 6, [0], [0], []⟩, ⟨some 7, [0, 1], [1], []⟩, ⟨some 8, [], [], []⟩, ⟨some 9, [3], [3], []⟩, ⟨some 10, [0, 1, 2, 3, 4], [2, 4], []⟩, ⟨some 4, [0, 1, 2, 3, 4, 5], [5], []⟩]
def valHx (b2 b3 : Nat) (B : Bl) (p : Pb) (C : Ca) (q : Pc) (w : Bool) (k : Nat) (env : Env) : Value :=
  match k with
  | 0 => .pointer (some ⟨b2, 5, none⟩)
  | 1 => .slice p.a2 B.weighs.length p.c2
  | 2 => .slice none 0 0
  | 3 => .pointer (some ⟨b3, 2, none⟩)
  | 4 => .slice q.a3 C.w.length q.c3
  | 5 => .bool w
  | 6 => .bool w
  | _ => undef
def rowsHx (b2 b3 : Nat) (B : Bl) (p : Pb) (C : Ca) (q : Pc) (w : Bool) (k : Nat) (env : Env) : List Row :=
  match k with
  | _ => []
theorem locHx (b2 b3 : Nat) (B : Bl) (p : Pb) (C : Ca) (q : Pc) (w : Bool) : ∀ k env i q9, i ≠ k → (tAt tsHx k).sup.contains i = false → valHx b2 b3 B p C q w k (upd env i q9) = valHx b2 b3 B p C q w k env ∧ rowsHx b2 b3 B p C q w k (upd env i q9) = rowsHx b2 b3 B p C q w k env := by
  intro k env i q hk hs
  have hu : ∀ j, j ≠ i → upd env i q j = env j := fun j hj => by unfold upd; rw [if_neg hj]
  match k, hk, hs with
  | 0, _, _ => exact ⟨rfl, rfl⟩
  | 1, _, _ => exact ⟨rfl, rfl⟩
  | 2, _, _ => exact ⟨rfl, rfl⟩
  | 3, _, _ => exact ⟨rfl, rfl⟩
  | 4, _, _ => exact ⟨rfl, rfl⟩
  | 5, _, _ => exact ⟨rfl, rfl⟩
  | 6, _, _ => exact ⟨rfl, rfl⟩
  | _ + 7, _, _ => exact ⟨rfl, rfl⟩
set_option maxHeartbeats 2000000 in
theorem hasWeighings_spec (B : Bl) (p : Pb) (C : Ca) (q : Pc) (H : List Row) (hB : BlOk H B p) (hC : CaOk H C q) : Fc Try.prog 61 ([.agg (cBl B p).toArray, .agg (cCa C q).toArray] ++ []) H (fun v H' => v = .bool (decide (askW B C)) ∧ H' = H) := by
  show Fc Try.prog 61 [.agg (cBl B p).toArray, .agg (cCa C q).toArray] H _
  have l2 := hB.l2
  have l3 := hC.l3
  have hw : decide (∀ n ∈ C.w, n ∈ B.weighs.map (·.number)) = decide (askW B C) := decide_eq_decide.2 Iff.rfl
  obtain ⟨w, hwe⟩ : ∃ z, decide (askW B C) = z := ⟨_, rfl⟩
  rw [hwe] at hw ⊢
  have hN : B.weighs ≠ [] → ∀ H', (∀ r ∈ H, r ∈ H') → Fc Try.prog 43 [.slice p.a2 B.weighs.length p.c2, .func (.func 44) #[] #[]] H' (fun v H'' => ∃ b q, v = .slice (some ⟨b, 0, none⟩) (B.weighs.map (·.number)).length q ∧ H'' = ⟨b, 0, (B.weighs.map (·.number)).flatMap cI, some 3, q * 1⟩ :: H') := fun h0 H' h => (numbersO_specWg 44 (·.number) numberWg_spec B.weighs _ _ H' (hB.weighs.sub h) (by omega)).mono (by
    rintro v H'' (⟨e, _, _⟩ | ⟨b, q, _, e1, e2⟩)
    · exact absurd e h0
    · exact ⟨b, q, e1, e2⟩)
  have hN0 : B.weighs = [] → ∀ H', (∀ r ∈ H, r ∈ H') → Fc Try.prog 43 [.slice p.a2 B.weighs.length p.c2, .func (.func 44) #[] #[]] H' (fun v H'' => v = .slice none 0 0 ∧ H'' = H') := fun h0 H' h => (numbersO_specWg 44 (·.number) numberWg_spec B.weighs _ _ H' (hB.weighs.sub h) (by omega)).mono (by
    rintro v H'' (⟨_, e1, e2⟩ | ⟨b, q, e, _, _⟩)
    · exact ⟨e1, e2⟩
    · exact absurd h0 e)
  have hA : ∀ H' b k, (∀ r ∈ H, r ∈ H') → SlE H' (some ⟨b, 0, none⟩) cI 1 (B.weighs.map (·.number)) → Fc Try.prog 65 [.slice (some ⟨b, 0, none⟩) (B.weighs.map (·.number)).length k, .slice q.a3 C.w.length q.c3] H' (fun v H'' => v = .bool w ∧ H'' = H') := fun H' b k h hs => by
    have := among_spec (B.weighs.map (·.number)) C.w _ q.a3 k q.c3 H' hs (hC.w.sub h) (by rw [List.length_map]; omega) (by omega)
    rwa [hw] at this
  refine Fc.mk (callable Try.call61) Try.func61 rfl Try.ntmps61 rfl ?_; dsimp only [fr]
  refine X.seq rfl ?_; refine X.region rfl (fun K hK => ?_); repeat' (first | (refine XO.op rfl ?_; (first | ((first | refine Xo.ng rfl ?_); (first | (refine Xg.ev (EvF.assign rfl rfl) rfl rfl ?_) | (refine Xg.st (StF.boxAgg rfl rfl) rfl rfl ?_; rintro _ _ ⟨bx, rfl, rfl⟩))))) | (refine XO.done rfl ?_; refine hK _ _ ?_; clear hK K))
  rename_i b2
  rename Nat => b3
  by_cases hnil : B.weighs = []
  · have hA0 : ∀ H', (∀ r ∈ H, r ∈ H') → Fc Try.prog 65 [.slice none 0 0, .slice q.a3 C.w.length q.c3] H' (fun v H'' => v = .bool w ∧ H'' = H') := fun H' h => by
      have := among_spec (B.weighs.map (·.number)) C.w none q.a3 0 q.c3 H' (by rw [hnil]; exact sleNil) (hC.w.sub h) (by rw [List.length_map]; omega) (by omega)
      rw [hw, List.length_map, hnil] at this
      exact this
    refine X.seq rfl ?_
    refine X.regionOb tsHx [2, 3] [(2, .pointer (some ⟨b2, 0, none⟩)), (3, .pointer (some ⟨b3, 0, none⟩))] (valHx b2 b3 B p C q w) (rowsHx b2 b3 B p C q w) (fun _ => (0, 0)) (⟨b3, 0, cCa C q, some 53, 4⟩ :: ⟨b2, 0, cBl B p, some 27, 6⟩ :: H) rfl mixed (by (repeat (first | exact Sub.nil _ | refine Sub.cons rfl ?_)); done) rfl (by kernel_rfl) (locHx b2 b3 B p C q w) (List.Sublist.refl _) ?_ ?_
    · repeat' (first | exact AllF.done rfl | (refine AllF.step rfl ?_ ?_; · (first | fail | ((first | refine Ob.ng rfl ?_); (first | exact ObK.pure (fun env R hR => by exact ⟨_, EvF.assign rfl rfl, rfl⟩) rfl (fun _ => rfl) | exact ObK.pure (fun env R hR => by exact ⟨_, EvF.fieldAddr rfl rfl (te rfl) rfl (te rfl) (by decide), rfl⟩) rfl (fun _ => rfl) | exact ObK.pure (fun env R hR => by exact ⟨_, EvF.loadV rfl rfl (LoadV.own (te rfl) rfl (hR _ (List.Mem.head _)) rfl), rfl⟩) rfl (fun _ => rfl) | exact ObK.pure (fun env R hR => by exact ⟨_, EvF.loadV rfl rfl (LoadV.own (te rfl) rfl (hR _ (List.Mem.tail _ (List.Mem.head _))) rfl), rfl⟩) rfl (fun _ => rfl) | (exact fun env S hS => OpF.callV (Z := []) (EnF.st rfl (Args.cons rfl (Args.cons rfl Args.nil))) (hN0 hnil _ (fun _ h => hS _ (List.mem_append_right [_, _] h))) rfl rfl) | (exact fun env S hS => OpF.callV (Z := []) (EnF.st rfl (Args.cons rfl (Args.cons rfl Args.nil))) (hA0 _ (fun _ h => hS _ (List.mem_append_right [_, _] h))) rfl rfl))))))
    intro env t ha hv
    refine ⟨_, ha.cons (hv 6 4 (Nat.le_of_ble_eq_true rfl) rfl), ?_⟩
    repeat' (first | refine X.ret rfl ?_)
    refine ret_one (by first | exact .inr rfl | exact .inl rfl) Try.results61 rfl (H' := H) (by (repeat (first | exact List.Sublist.refl _ | apply List.Sublist.cons)); done) ?_; simp only [and_true, true_and]
    rfl
  · refine X.seq rfl ?_
    refine X.regionRd tsHw rdHw [2, 3] [(2, .pointer (some ⟨b2, 0, none⟩)), (3, .pointer (some ⟨b3, 0, none⟩))] (valHw b2 b3 (B.weighs.map (·.number)).length B p C q ((B.weighs.map (·.number)).flatMap cI) w) (rowsHw b2 b3 (B.weighs.map (·.number)).length B p C q ((B.weighs.map (·.number)).flatMap cI) w) (fun _ => (0, 0)) (⟨b3, 0, cCa C q, some 53, 4⟩ :: ⟨b2, 0, cBl B p, some 27, 6⟩ :: H) rfl mixed (by (repeat (first | exact Sub.nil _ | refine Sub.cons rfl ?_)); done) rfl (by kernel_rfl) (by kernel_rfl) (locHw b2 b3 (B.weighs.map (·.number)).length B p C q ((B.weighs.map (·.number)).flatMap cI) w) (List.Sublist.refl _) ?_ ?_
    · repeat' (first | exact AllF.done rfl | (refine AllF.step rfl ?_ ?_; · (first | exact (Ob.ng rfl (ObK.pure (fun env R hR => by exact ⟨_, EvF.assign rfl rfl, rfl⟩) rfl (fun _ => rfl))).toR | exact (Ob.ng rfl (ObK.pure (fun env R hR => by exact ⟨_, EvF.fieldAddr rfl rfl (te rfl) rfl (te rfl) (by decide), rfl⟩) rfl (fun _ => rfl))).toR | exact (Ob.ng rfl (ObK.pure (fun env R hR => by exact ⟨_, EvF.loadV rfl rfl (LoadV.own (te rfl) rfl (hR _ (List.Mem.head _)) rfl), rfl⟩) rfl (fun _ => rfl))).toR | exact (Ob.ng rfl (ObK.pure (fun env R hR => by exact ⟨_, EvF.loadV rfl rfl (LoadV.own (te rfl) rfl (hR _ (List.Mem.tail _ (List.Mem.head _))) rfl), rfl⟩) rfl (fun _ => rfl))).toR | (refine ObR.ng rfl ?_; (first | (exact fun env S hS hrd => (OpF.call (EnF.st rfl (Args.cons rfl (Args.cons rfl Args.nil))) (hN hnil _ (fun _ h => hS _ (List.mem_append_right [_, _] h)))).mono (fun v H' ⟨b, q, hv, hH⟩ => ⟨(b, q), fun _ => hv, by rw [hH]; exact List.Perm.refl _⟩)) | (exact fun env S hS hrd => OpF.callV (Z := []) (EnF.st rfl (Args.cons rfl (Args.cons rfl Args.nil))) (hA _ _ _ (fun _ h => hS _ (List.mem_append_right [_, _] h)) (SlE.ofRow (hrd 2 (List.Mem.head _) _ (List.Mem.head _)) (fun _ _ => rfl))) rfl rfl))))))
    intro env t ha hv
    refine ⟨_, ha.cons (hv 6 4 (Nat.le_of_ble_eq_true rfl) rfl), ?_⟩
    repeat' (first | refine X.ret rfl ?_)
    refine ret_one (by first | exact .inr rfl | exact .inl rfl) Try.results61 rfl (H' := H) (by (repeat (first | exact List.Sublist.refl _ | apply List.Sublist.cons)); done) ?_; simp only [and_true, true_and]
    rfl
end Go.Proofs.Ytminkpgacomicac
end
section
set_option linter.unusedVariables false
namespace Go.Fw
open Go Go.RowKit
theorem Fc.weak {P : Program} {f : FuncId} {args : List Value} {H H' : List Row} {R : Value → List Row → Prop} (h : Fc P f args H R) (hp : H.Sublist H') : Fc P f args H' R := by
  unfold Fc at *
  exact ⟨h.1, fun B w0 w hS => h.2 B w0 w (hS.sub hp)⟩
end Go.Fw
namespace Go.Fw
open Go Go.RowKit
end Go.Fw
end
