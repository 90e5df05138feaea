/- The program: Strike of a list. -/
import Derived.Test.YtmljpmcipcoaaaaP11
import Derived.Test.YtmljpmcipcoaaaaP12
set_option linter.unusedSimpArgs false
namespace Go.Proofs.Ytmljpmcipcoaaaa
open Go Go.Fw
set_option maxRecDepth 10000
def leftMt (ms : List Mt) (l : List Int) : List Mt := ms.filter (fun m => !decide (m.number ∈ l))
def strOk (ms : List Mt) (l : List Int) : Prop := risesOk l ∧ (leftMt ms l).length + l.length = ms.length
set_option maxHeartbeats 4000000 in
theorem strikeL_spec (ms : List Mt) (ad : Addr) (c : Nat) (l : List Int) (al : Option Addr) (cl : Nat) (H : List Row) (hm : SlE H (some ad) cMt 6 ms) (hb : ms.length ≤ 1000000) (hl : SlE H al cI 1 l) (hb' : l.length ≤ 1000000) :
    Fc Try.prog 103 [.slice (some ad) ms.length c, .slice al l.length cl, .func (.func 89) #[] #[]] H (fun v H' => (¬ strOk ms l ∧ v = .tuple #[.slice none 0 0, .bool false] ∧ H' = H) ∨
      (strOk ms l ∧ ∃ b k, v = .tuple #[.slice (some ⟨b, 0, none⟩) (leftMt ms l).length k, .bool true] ∧ H' = ⟨b, 0, (leftMt ms l).flatMap cMt, some 75, k * 6⟩ :: H)) := by
  have hl2 : ∀ r1 r2, SlE (r1 :: r2 :: H) al cI 1 l := fun r1 r2 => hl.sub (fun _ h => List.Mem.tail _ (List.Mem.tail _ h))
  have hm2 : ∀ r1 r2, SlE (r1 :: r2 :: H) (some ad) cMt 6 ms := fun r1 r2 => hm.sub (fun _ h => List.Mem.tail _ (List.Mem.tail _ h))
  have hlf : (ms.filter (fun m => !decide (m.number ∈ l))).length ≤ ms.length := List.length_filter_le _ _
  refine Fc.mk (callable Try.call103) Try.func103 rfl Try.ntmps103 rfl ?_; dsimp only [fr]
  refine X.seq rfl ?_; refine X.region rfl (fun K hK => ?_); repeat' (first | (refine XO.op rfl ?_; (first | ((first | refine Xo.ng rfl ?_); (first | (refine Xg.ev (EvF.assign rfl rfl) rfl rfl ?_) | (refine Xg.st (StF.boxOne rfl rfl rfl) rfl rfl ?_; rintro _ _ ⟨bx, rfl, rfl⟩))))) | (refine XO.done rfl ?_; refine hK _ _ ?_; clear hK K))
  rename_i b4
  rename Nat => b5
  repeat' (first | (refine XO.op rfl ?_; (first | ((first | refine Xo.ng rfl ?_); (first | (refine Xg.call (EnF.st rfl (by (repeat (first | exact Args.nil | refine Args.cons rfl ?_)); done)) rfl rfl (rising_spec l _ _ _ (hl2 _ _) (by omega)) ?_; rintro _ H9 ⟨rfl, hH9⟩; subst H9) | (refine Xg.call (EnF.st rfl (by (repeat (first | exact Args.nil | refine Args.cons rfl ?_)); done)) rfl rfl (clone_specMt ms _ _ _ (hm2 _ _) hb) ?_; rintro _ _ ⟨bc, kc, rfl, rfl⟩) | (refine Xg.ev (EvF.makeFunc (fl := []) rfl Args.nil (Args.cons rfl (Args.cons rfl Args.nil))) rfl rfl ?_) | (refine Xg.call (EnF.st rfl (by (repeat (first | exact Args.nil | refine Args.cons rfl ?_)); done)) rfl rfl (deleteFunc_spec ms _ _ 136 (fun m => decide (m.number ∈ l)) _ _ hb (fun Z e _ => strike1_spec e l al b4 b5 cl _ _ _ _ _ (List.mem_append_right _ (List.Mem.head _)) (List.mem_append_right _ (List.Mem.tail _ (List.Mem.head _))) (hl.sub (fun _ h => List.mem_append_right _ (List.Mem.tail _ (List.Mem.tail _ h)))) (by omega))) ?_; rintro _ H9 ⟨rfl, hH9⟩; subst H9) | (refine Xg.ev (EvF.move rfl rfl) rfl rfl ?_) | (refine Xg.ev (EvF.assign rfl rfl) rfl rfl ?_) | (refine Xg.ev (EvF.cmp rfl rfl rfl rfl) rfl rfl ?_) | (refine Xg.ev (EvF.add64 rfl rfl rfl (by omega) (by omega)) rfl rfl ?_) | (refine Xg.ev (EvF.not rfl rfl) rfl rfl ?_) | (refine Xg.ev (EvF.lenSlice rfl rfl (te rfl)) rfl rfl ?_) | (refine Xg.ev (EvF.loadV rfl rfl (LoadV.own (te rfl) rfl (List.Mem.tail _ (List.Mem.head _)) rfl)) rfl rfl ?_) | (refine Xg.ev (EvF.loadV rfl rfl (LoadV.own (te rfl) rfl (List.Mem.tail _ (List.Mem.tail _ (List.Mem.head _))) rfl)) rfl rfl ?_))))) | (refine XO.done rfl ?_; refine hK _ _ ?_; clear hK K) | refine X.seq rfl ?_ | refine X.region rfl (fun K hK => ?_) | refine X.skip rfl ?_ | refine X.ret rfl ?_ | (refine X.ite rfl rfl (fun hc => ?_); (first | (with_reducible refine Xb.caseN hc (fun h => ?_) (fun h => ?_))) <;> clear hc))
  · exact ret_two (by first | exact .inr rfl | exact .inl rfl) Try.results103 rfl rfl (H' := H) (by (repeat (first | exact List.Sublist.refl _ | apply List.Sublist.cons)); done) (.inl ⟨fun q => h q.1, rfl, rfl⟩)
  · refine ret_two (by first | exact .inr rfl | exact .inl rfl) Try.results103 rfl rfl (H' := H) (by (repeat (first | exact List.Sublist.refl _ | apply List.Sublist.cons)); done) (.inl ⟨fun q => h ?_, rfl, rfl⟩)
    have := q.2
    unfold leftMt at this
    omega
  · refine ret_two (by first | exact .inr rfl | exact .inl rfl) Try.results103 rfl rfl (H' := ⟨bc, 0, (leftMt ms l).flatMap cMt, some 75, kc * 6⟩ :: H) (by (repeat (first | exact List.Sublist.refl _ | apply List.Sublist.cons_cons | apply List.Sublist.cons)); done) (.inr ⟨⟨by assumption, ?_⟩, bc, kc, rfl, rfl⟩)
    unfold leftMt
    omega
end Go.Proofs.Ytmljpmcipcoaaaa
