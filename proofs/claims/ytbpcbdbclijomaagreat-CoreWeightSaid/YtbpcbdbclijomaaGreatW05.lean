/- Own work: contracts of functions, from rows of what is known of the memory; contracts of functions, from rows of what is known of the memory; contracts of functions, from rows of what is known of the memory; contracts of functions, from rows of what is known of the memory; contracts of functions, from rows of what is known of the memory; contracts of functions, from rows of what is known of the memory; contracts of functions, from rows of what is known of the memory; contracts of functions, from rows of what is known of the memory; contracts of functions, from rows of what is known of the memory; contracts of functions, from rows of what is known of the memory; Own work: the greater of two numbers, bytes less bytes, parts of slices. No condition.; contracts of functions, from rows of what is known o -/
import Derived.Test.YtbpcbdbclijomaaGreatW04
set_option linter.unusedVariables false
set_option linter.unusedSimpArgs false
namespace Go.Proofs.YtbpcbdbclijomaaGreat
open Go Go.Fw
set_option maxRecDepth 10000
theorem openE_zero {B : Bl} {C : Ca} (h : openE B C = 0) : baleOk B∧askL B C∧canB B:=by
 unfold openE at h
 repeat' split at h
 all_goals first | exact absurd h (by decide) | exact ⟨by assumption,by assumption,by assumption⟩
set_option maxHeartbeats 2000000 in
theorem klayer_spec (B : Bl) (p : Pb) (i : Int) (H : List Row) (hB : BlOk H B p) :
  Fc Tryz.prog 12 [.agg (cBl B p).toArray,.int .i64 i] H (fun v H' => v = .tuple #[.agg (cSp (spIf (openE B ⟨[i],[],[],[]⟩ = 0) (spAt (gradesOf B) i.toNat))).toArray,.int .i64 (openE B ⟨[i],[],[],[]⟩)]∧H' = H):=by
 have hB4 : ∀ r1 r2 r3 r4,BlOk (r1::r2::r3::r4::H) B p:=fun r1 r2 r3 r4=>hB.sub (fun _ h=>qT _ (qT _ (qT _ (qT _ h))))
 have hr : openE B ⟨[i],[],[],[]⟩ = 0 → (0 ≤ i∧i < 5)∧(gradesOf B).length = 5:=by
  intro h
  obtain ⟨h1,h2,_⟩:=openE_zero h
  have h3:=h2 i (List.mem_singleton.2 rfl)
  have h4:=h1.h5
  refine ⟨⟨h3.1,?_⟩,gradesOf_len h1⟩
  have:=h3.2
  simp only at this
  omega
 refine Fc.mk (callable Tryz.call12) Tryz.func12 rfl Tryz.ntmps12 rfl ?_;dsimp only [fr]
 repeat' (first | (refine uP rfl ?_;(first | ((first | refine uN rfl ?_);(first | (refine Xg.st (StF.buildOne rfl el55 rfl rfl rfl (by decide) (by decide)) rfl rfl ?_;rintro _ _ ⟨bo,rfl,rfl⟩)|(refine uE (EvF.build (cs:=cCa ⟨[i],[],[],[]⟩ ⟨some ⟨bo,0,none⟩,1,none,0,none,0,none,0⟩) rfl (ArgsP.cons rfl ArgsP.nil) (te rfl) (Places.cons (te rfl) (Places.cons (te rfl) (Places.cons (te rfl) (Places.cons (te rfl) Places.nil)))) Tryz.zeroValue88 rfl) rfl rfl ?_)|(refine uE (EvF.makeFunc (fl:=[]) rfl Args.nil (Args.cons rfl Args.nil)) rfl rfl ?_)|(refine uC (uT rfl (Args.cons rfl (Args.cons rfl (Args.cons rfl Args.nil)))) rfl rfl (toldSp_spec B p ⟨[i],[],[],[]⟩ ⟨some ⟨bo,0,none⟩,1,none,0,none,0,none,0⟩ 51 [_] (spAt (gradesOf B) i.toNat) _ (hB4 _ _ _ _) ⟨SlE.ofRow (l:=[i]) (qH _) (fun _ _=>rfl),sleNil,sleNil,sleNil,by simp,by simp,by simp,by simp⟩ (fun h0 H' hs=>layer1_spec B p (gradesOf B) i _ _ _ H' (hr h0).1 (hr h0).2 (hs _ (qT _ (qT _ (qH _)))))) ?_;rintro _ H9 ⟨rfl,hH9⟩;subst H9)|(refine uE (uA rfl rfl) rfl rfl ?_)|(refine uE (uL rfl rfl (uO (te rfl) rfl (qT _ (qH _)) rfl)) rfl rfl ?_)|(refine uE (uL rfl rfl (uW (te rfl) rfl (qT _ (qT _ (qH _))) rfl)) rfl rfl ?_)|(refine uE (uX rfl rfl rfl) rfl rfl ?_)|(refine Xg.st (StF.boxAgg rfl rfl) rfl rfl ?_;rintro _ _ ⟨bx,rfl,rfl⟩)|(refine Xg.st (StF.boxOne rfl rfl rfl) rfl rfl ?_;rintro _ _ ⟨bx,rfl,rfl⟩)|(refine Xg.st (StF.alloc rfl Tryz.zeroValue24 rfl) rfl rfl ?_;rintro _ _ ⟨bx,rfl,rfl⟩)|(refine Xg.st0 (uZ (i:=1) rfl rfl rfl (te rfl) rfl rfl rfl rfl) rfl ?_;rintro _ _ ⟨rfl,rfl⟩;dsimp only [List.set])))))|(refine uD rfl ?_;refine hK _ _ ?_;clear hK K) | refine uS rfl ?_ | refine uR rfl (fun K hK=>?_) | refine X.ret rfl ?_)
 exact ret_two (by simp) Tryz.results12 ⟨_,rfl,uW (te rfl) rfl (qT _ (qH _)) rfl⟩ rfl (H' := H) (by (repeat (first | exact qR _ | apply qC));done) ⟨rfl,rfl⟩
set_option maxHeartbeats 2000000 in
theorem kbest_spec (B : Bl) (p : Pb) (H : List Row) (hB : BlOk H B p) :
  Fc Tryz.prog 33 [.agg (cBl B p).toArray] H (fun v H' => v = .tuple #[.agg (cSp (spIf (openE B ⟨[],[],[],[]⟩ = 0) (bestF ((gradesOf B).take B.layers.toNat) (spAt (gradesOf B) 0)))).toArray,.int .i64 (openE B ⟨[],[],[],[]⟩)]∧H' = H):=by
 have hB2 : ∀ r1 r2,BlOk (r1::r2::H) B p:=fun r1 r2=>hB.sub (fun _ h=>qT _ (qT _ h))
 refine Fc.mk (callable Tryz.call33) Tryz.func33 rfl Tryz.ntmps33 rfl ?_;dsimp only [fr]
 repeat' (first | (refine uP rfl ?_;(first | ((first | refine uN rfl ?_);(first | (refine uE (EvF.build (cs:=cCa ⟨[],[],[],[]⟩ ⟨none,0,none,0,none,0,none,0⟩) rfl ArgsP.nil (te rfl) (Places.cons (te rfl) (Places.cons (te rfl) (Places.cons (te rfl) (Places.cons (te rfl) Places.nil)))) Tryz.zeroValue88 rfl) rfl rfl ?_)|(refine uC (uT rfl (Args.cons rfl (Args.cons rfl (Args.cons rfl Args.nil)))) rfl rfl (toldSp_spec B p ⟨[],[],[],[]⟩ ⟨none,0,none,0,none,0,none,0⟩ 83 [] (bestF ((gradesOf B).take B.layers.toNat) (spAt (gradesOf B) 0)) _ (hB2 _ _) ⟨sleNil,sleNil,sleNil,sleNil,by simp,by simp,by simp,by simp⟩ (fun h0 H' hs=>best1_spec B p (gradesOf B) H' (openE_zero h0).1.h5 (gradesOf_len (openE_zero h0).1))) ?_;rintro _ H9 ⟨rfl,hH9⟩;subst H9)|(refine uE (uA rfl rfl) rfl rfl ?_)|(refine uE (uL rfl rfl (uW (te rfl) rfl (qT _ (qH _)) rfl)) rfl rfl ?_)|(refine uE (uX rfl rfl rfl) rfl rfl ?_)|(refine Xg.st (StF.boxAgg rfl rfl) rfl rfl ?_;rintro _ _ ⟨bx,rfl,rfl⟩)|(refine Xg.st (StF.alloc rfl Tryz.zeroValue24 rfl) rfl rfl ?_;rintro _ _ ⟨bx,rfl,rfl⟩)|(refine Xg.st0 (uZ (i:=0) rfl rfl rfl (te rfl) rfl rfl rfl rfl) rfl ?_;rintro _ _ ⟨rfl,rfl⟩;dsimp only [List.set])))))|(refine uD rfl ?_;refine hK _ _ ?_;clear hK K) | refine uS rfl ?_ | refine uR rfl (fun K hK=>?_) | refine X.ret rfl ?_)
 exact ret_two (by simp) Tryz.results33 ⟨_,rfl,uW (te rfl) rfl (qH _) rfl⟩ rfl (H' := H) (by (repeat (first | exact qR _ | apply qC));done) ⟨rfl,rfl⟩
set_option maxHeartbeats 2000000 in
theorem kworst_spec (B : Bl) (p : Pb) (H : List Row) (hB : BlOk H B p) :
  Fc Tryz.prog 34 [.agg (cBl B p).toArray] H (fun v H' => v = .tuple #[.agg (cSp (spIf (openE B ⟨[],[],[],[]⟩ = 0) (worstF ((gradesOf B).take B.layers.toNat) (spAt (gradesOf B) 0)))).toArray,.int .i64 (openE B ⟨[],[],[],[]⟩)]∧H' = H):=by
 have hB2 : ∀ r1 r2,BlOk (r1::r2::H) B p:=fun r1 r2=>hB.sub (fun _ h=>qT _ (qT _ h))
 refine Fc.mk (callable Tryz.call34) Tryz.func34 rfl Tryz.ntmps34 rfl ?_;dsimp only [fr]
 repeat' (first | (refine uP rfl ?_;(first | ((first | refine uN rfl ?_);(first | (refine uE (EvF.build (cs:=cCa ⟨[],[],[],[]⟩ ⟨none,0,none,0,none,0,none,0⟩) rfl ArgsP.nil (te rfl) (Places.cons (te rfl) (Places.cons (te rfl) (Places.cons (te rfl) (Places.cons (te rfl) Places.nil)))) Tryz.zeroValue88 rfl) rfl rfl ?_)|(refine uC (uT rfl (Args.cons rfl (Args.cons rfl (Args.cons rfl Args.nil)))) rfl rfl (toldSp_spec B p ⟨[],[],[],[]⟩ ⟨none,0,none,0,none,0,none,0⟩ 84 [] (worstF ((gradesOf B).take B.layers.toNat) (spAt (gradesOf B) 0)) _ (hB2 _ _) ⟨sleNil,sleNil,sleNil,sleNil,by simp,by simp,by simp,by simp⟩ (fun h0 H' hs=>worst1_spec B p (gradesOf B) H' (openE_zero h0).1.h5 (gradesOf_len (openE_zero h0).1))) ?_;rintro _ H9 ⟨rfl,hH9⟩;subst H9)|(refine uE (uA rfl rfl) rfl rfl ?_)|(refine uE (uL rfl rfl (uW (te rfl) rfl (qT _ (qH _)) rfl)) rfl rfl ?_)|(refine uE (uX rfl rfl rfl) rfl rfl ?_)|(refine Xg.st (StF.boxAgg rfl rfl) rfl rfl ?_;rintro _ _ ⟨bx,rfl,rfl⟩)|(refine Xg.st (StF.alloc rfl Tryz.zeroValue24 rfl) rfl rfl ?_;rintro _ _ ⟨bx,rfl,rfl⟩)|(refine Xg.st0 (uZ (i:=0) rfl rfl rfl (te rfl) rfl rfl rfl rfl) rfl ?_;rintro _ _ ⟨rfl,rfl⟩;dsimp only [List.set])))))|(refine uD rfl ?_;refine hK _ _ ?_;clear hK K) | refine uS rfl ?_ | refine uR rfl (fun K hK=>?_) | refine X.ret rfl ?_)
 exact ret_two (by simp) Tryz.results34 ⟨_,rfl,uW (te rfl) rfl (qH _) rfl⟩ rfl (H' := H) (by (repeat (first | exact qR _ | apply qC));done) ⟨rfl,rfl⟩
theorem kcan_spec (B : Bl) (p : Pb) (H : List Row) (hB : BlOk H B p) :
  Fc Tryz.prog 39 [.agg (cBl B p).toArray] H (fun v H' => v = .tuple #[.bool (decide (baleOk B∧canB B)),.int .i64 (if baleOk B then 0 else 30)]∧H' = H):=by
 have hB1 : ∀ r1,BlOk (r1::H) B p:=fun r1=>hB.sub (fun _ h=>qT _ h)
 by_cases hb : baleOk B
 ·have hk:=kcheck_spec B p
  simp only [if_pos hb] at hk ⊢
  refine Fc.mk (callable Tryz.call39) Tryz.func39 rfl Tryz.ntmps39 rfl ?_;dsimp only [fr]
  repeat' (first | (refine uP rfl ?_;(first | ((first | refine uN rfl ?_);(first | (refine uC (uT rfl (Args.cons rfl Args.nil)) rfl rfl (hk _ (hB1 _)) ?_;rintro _ H9 ⟨rfl,hH9⟩;subst H9)|(refine uC (uT rfl (Args.cons rfl Args.nil)) rfl rfl (pressed_spec B p _ hb.h5 hb.hd (hB1 _)) ?_;rintro _ H9 ⟨rfl,hH9⟩;subst H9)|(refine uC (uT rfl (Args.cons rfl Args.nil)) rfl rfl (can_spec B p (gradesOf B) _ hb.h5 hb.hdry hb.hw (gradesOf_len hb) (hB1 _)) ?_;rintro _ H9 ⟨rfl,hH9⟩;subst H9)|(refine uE (uM rfl rfl) rfl rfl ?_)|(refine uE (uA rfl rfl) rfl rfl ?_)|(refine uE (uQ rfl rfl rfl rfl) rfl rfl ?_)|(refine uE (uL rfl rfl (uW (te rfl) rfl (qH _) rfl)) rfl rfl ?_)|(refine Xg.st (StF.boxAgg rfl rfl) rfl rfl ?_;rintro _ _ ⟨bx,rfl,rfl⟩)))))|(refine uD rfl ?_;refine hK _ _ ?_;clear hK K) | refine uS rfl ?_ | refine uR rfl (fun K hK=>?_) | refine X.skip rfl ?_ | refine X.ret rfl ?_ | (refine X.ite rfl rfl (fun hc=>?_);(first | (with_reducible refine Xb.caseN hc (fun h=>?_) (fun h=>?_))) <;> clear hc))
  any_goals (exfalso;omega)
  refine ret_two (by simp) Tryz.results39 rfl rfl (H' := H) (by (repeat (first | exact qR _ | apply qC));done) ?_;simp only [and_true,true_and]
  congr 2
  have e : decide (hasG B.layers.toNat (gradesOf B)∧(wts B).length > 0)=decide (baleOk B∧canB B):=decide_eq_decide.2 ⟨fun q=>⟨hb,q⟩,fun q=>q.2⟩
  rw [e]
 ·have hk:=kcheck_spec B p
  simp only [if_neg hb] at hk ⊢
  refine Fc.mk (callable Tryz.call39) Tryz.func39 rfl Tryz.ntmps39 rfl ?_;dsimp only [fr]
  repeat' (first | (refine uP rfl ?_;(first | ((first | refine uN rfl ?_);(first | (refine uC (uT rfl (Args.cons rfl Args.nil)) rfl rfl (hk _ (hB1 _)) ?_;rintro _ H9 ⟨rfl,hH9⟩;subst H9)|(refine uE (uM rfl rfl) rfl rfl ?_)|(refine uE (uA rfl rfl) rfl rfl ?_)|(refine uE (uQ rfl rfl rfl rfl) rfl rfl ?_)|(refine uE (uL rfl rfl (uW (te rfl) rfl (qH _) rfl)) rfl rfl ?_)|(refine Xg.st (StF.boxAgg rfl rfl) rfl rfl ?_;rintro _ _ ⟨bx,rfl,rfl⟩)))))|(refine uD rfl ?_;refine hK _ _ ?_;clear hK K) | refine uS rfl ?_ | refine uR rfl (fun K hK=>?_) | refine X.skip rfl ?_ | refine X.ret rfl ?_ | (refine X.ite rfl rfl (fun hc=>?_);(first | (with_reducible refine Xb.caseN hc (fun h=>?_) (fun h=>?_))) <;> clear hc))
  any_goals (exfalso;omega)
  all_goals (refine ret_two (by simp) Tryz.results39 rfl rfl (H' := H) (by (repeat (first | exact qR _ | apply qC));done) ?_;simp only [and_true,true_and])
  all_goals (congr 2;rw [decide_eq_false (fun q=>hb q.1)])
theorem stepG_bd {g : List Sp} {x : Dr} (hg : ∀ s ∈ g,(0 ≤ s.lo∧s.lo ≤ 100)∧0 ≤ s.hi∧s.hi ≤ 100) (hx : (0 ≤ x.lo∧x.lo ≤ 100)∧0 ≤ x.hi∧x.hi ≤ 100) : ∀ s ∈ stepG g x,(0 ≤ s.lo∧s.lo ≤ 100)∧0 ≤ s.hi∧s.hi ≤ 100:=by
 intro s hs
 unfold stepG at hs
 rcases List.mem_or_eq_of_mem_set hs with h | rfl
 ·exact hg s h
 ·have h1 : (0 ≤ (spAt g x.val.toNat).lo∧(spAt g x.val.toNat).lo ≤ 100)∧0 ≤ (spAt g x.val.toNat).hi∧(spAt g x.val.toNat).hi ≤ 100:=by
   by_cases hl : x.val.toNat < g.length
   ·exact hg _ (List.mem_of_getElem? (spAt_get hl))
   ·unfold spAt
    rw [List.getD_eq_getElem?_getD,List.getElem?_eq_none (by omega)]
    exact ⟨⟨Int.le_refl 0,by decide⟩,Int.le_refl 0,by decide⟩
  dsimp only
  omega
theorem gradesOf_bd {B : Bl} (h : baleOk B) : ∀ s ∈ gradesOf B,(0 ≤ s.lo∧s.lo ≤ 100)∧0 ≤ s.hi∧s.hi ≤ 100:=by
 have hd : ∀ x ∈ B.draws,(0 ≤ x.lo∧x.lo ≤ 100)∧0 ≤ x.hi∧x.hi ≤ 100:=fun x hx=>by
  have h1:=(h.2.2.2.1.2.2 x hx).2
  unfold partOk at h1
  dsimp only at h1
  omega
 have h0 : ∀ s ∈ initG B.layers.toNat,(0 ≤ s.lo∧s.lo ≤ 100)∧0 ≤ s.hi∧s.hi ≤ 100:=fun s hs=>by
  unfold initG at hs
  rcases List.mem_append.1 hs with q | q
  ·rw [(List.mem_replicate.1 q).2];decide
  ·rw [(List.mem_replicate.1 q).2];decide
 unfold gradesOf
 generalize initG B.layers.toNat = g at h0 ⊢
 generalize B.draws = l at hd ⊢
 induction l generalizing g with
 | nil=>exact h0
 | cons x l ih=>exact ih (stepG g x) (stepG_bd h0 (hd x List.mem_cons_self)) (fun y hy=>hd y (List.mem_cons_of_mem _ hy))
/-- the grades that the truths of a bale give its layers -/
def truthsB (B : Bl) : List (List Int):=exts ((gradesOf B).take B.layers.toNat)
theorem kind1_spec (B : Bl) (p : Pb) (k : Int) (b : Nat) (ow : Option Kd) (cap : Nat) (H : List Row) (h : baleOk B) (hm : ⟨b,0,[.int .i64 k],ow,cap⟩ ∈ H) :
  Fc Tryz.prog 60 ([.agg (cPr B p (gradesOf B)).toArray]++[.pointer (some ⟨b,0,none⟩)]) H (fun v H' => v = .int .u8 (ofKind (truthsB B) k)∧H' = H):=by
 show Fc Tryz.prog 60 [.agg (cPr B p (gradesOf B)).toArray,.pointer (some ⟨b,0,none⟩)] H _
 have k1:=fun S=>isOf_spec B p (gradesOf B) k S (gradesOf_len h) h.h5 (gradesOf_bd h)
 have hT : truthsB B = exts ((gradesOf B).take B.layers.toNat):=rfl
 rw [← hT] at k1
 refine Fc.mk (callable Tryz.call60) Tryz.func60 rfl Tryz.ntmps60 rfl ?_;dsimp only [fr]
 repeat' (first | (refine uP rfl ?_;(first | ((first | refine uN rfl ?_);(first | (refine uE (uL rfl rfl (uO (te rfl) rfl (qT _ hm) rfl)) rfl rfl ?_)|(refine uE (uL rfl rfl (uW (te rfl) rfl (qH _) (lenPr (gradesOf_len h)))) rfl rfl ?_)|(refine uC (uT rfl (Args.cons rfl (Args.cons rfl Args.nil))) rfl rfl (k1 _) ?_;rintro _ H9 ⟨rfl,hH9⟩;subst H9)|(refine uE (uA rfl rfl) rfl rfl ?_)|(refine Xg.st (StF.boxAgg rfl rfl) rfl rfl ?_;rintro _ _ ⟨bx,rfl,rfl⟩)))))|(refine uD rfl ?_;refine hK _ _ ?_;clear hK K) | refine uS rfl ?_ | refine uR rfl (fun K hK=>?_) | refine X.ret rfl ?_)
 exact ret_one (by simp) Tryz.results60 rfl (H' := H) (by (repeat (first | exact qR _ | apply qC));done) ⟨rfl,rfl⟩
set_option maxHeartbeats 2000000 in
theorem kKind_spec (B : Bl) (p : Pb) (k : Int) (H : List Row) (hB : BlOk H B p) :
  Fc Tryz.prog 18 [.agg (cBl B p).toArray,.int .i64 k] H (fun v H' => v = .tuple #[.int .u8 (uIf (openE B ⟨[],[k],[],[]⟩ = 0) (ofKind (truthsB B) k)),.int .i64 (openE B ⟨[],[k],[],[]⟩)]∧H' = H):=by
 have hB4 : ∀ r1 r2 r3,BlOk (r1::r2::r3::H) B p:=fun r1 r2 r3=>hB.sub (fun _ h=>qT _ (qT _ (qT _ h)))
 refine Fc.mk (callable Tryz.call18) Tryz.func18 rfl Tryz.ntmps18 rfl ?_;dsimp only [fr]
 repeat' (first | (refine uP rfl ?_;(first | ((first | refine uN rfl ?_);(first | (refine Xg.st (StF.buildOne rfl el55 rfl rfl rfl (by decide) (by decide)) rfl rfl ?_;rintro _ _ ⟨bo,rfl,rfl⟩)|(refine uE (EvF.build (cs:=cCa ⟨[],[k],[],[]⟩ ⟨none,0,some ⟨bo,0,none⟩,1,none,0,none,0⟩) rfl (ArgsP.cons rfl ArgsP.nil) (te rfl) (Places.cons (te rfl) (Places.cons (te rfl) (Places.cons (te rfl) (Places.cons (te rfl) Places.nil)))) Tryz.zeroValue88 rfl) rfl rfl ?_)|(refine uE (EvF.makeFunc (fl:=[]) rfl Args.nil (Args.cons rfl Args.nil)) rfl rfl ?_)|(refine uC (uT rfl (Args.cons rfl (Args.cons rfl (Args.cons rfl Args.nil)))) rfl rfl (toldU_spec B p ⟨[],[k],[],[]⟩ ⟨none,0,some ⟨bo,0,none⟩,1,none,0,none,0⟩ 60 [_] (ofKind (truthsB B) k) _ (hB4 _ _ _) ⟨sleNil,SlE.ofRow (l:=[k]) (qH _) (fun _ _=>rfl),sleNil,sleNil,by simp,by simp,by simp,by simp⟩ (fun h0 H' hs=>kind1_spec B p k _ _ _ H' (openE_zero h0).1 (hs _ (qT _ (qH _))))) ?_;rintro _ H9 ⟨rfl,hH9⟩;subst H9)|(refine uE (uA rfl rfl) rfl rfl ?_)|(refine uE (uL rfl rfl (uO (te rfl) rfl (qH _) rfl)) rfl rfl ?_)|(refine uE (uL rfl rfl (uW (te rfl) rfl (qT _ (qH _)) rfl)) rfl rfl ?_)|(refine uE (uX rfl rfl rfl) rfl rfl ?_)|(refine Xg.st (StF.boxAgg rfl rfl) rfl rfl ?_;rintro _ _ ⟨bx,rfl,rfl⟩)|(refine Xg.st (StF.boxOne rfl rfl rfl) rfl rfl ?_;rintro _ _ ⟨bx,rfl,rfl⟩)))))|(refine uD rfl ?_;refine hK _ _ ?_;clear hK K) | refine uS rfl ?_ | refine uR rfl (fun K hK=>?_) | refine X.ret rfl ?_)
 exact ret_two (by simp) Tryz.results18 rfl rfl (H' := H) (by (repeat (first | exact qR _ | apply qC));done) ⟨rfl,rfl⟩
/-- how many kinds may be left when a layer is looked at, the worst case, after so many of its grades -/
def leavT (g : List Sp) (n at_ : Nat) (lo : Int) (j : Nat) : Int:=(List.range j).foldl (fun m (k : Nat)=>max m (nKinds ((g.set at_ ⟨lo + k,lo + k⟩).take n) : Int)) 0
theorem nKinds_le (G : List Sp) : nKinds G ≤ 4:=List.length_filter_le _ _
theorem leavT_bd (g : List Sp) (n at_ : Nat) (lo : Int) : ∀ j,0 ≤ leavT g n at_ lo j∧leavT g n at_ lo j ≤ 4
 | 0=>⟨Int.le_refl 0,show (0 : Int)≤4 by decide⟩
 | j + 1=>by
  have ih:=leavT_bd g n at_ lo j
  have h:=nKinds_le ((g.set at_ ⟨lo + j,lo + j⟩).take n)
  have e : leavT g n at_ lo (j + 1)=max (leavT g n at_ lo j) (nKinds ((g.set at_ ⟨lo + j,lo + j⟩).take n) : Int):=by
   unfold leavT
   rw [List.range_succ,List.foldl_append]
   rfl
  rw [e]
  omega
set_option maxHeartbeats 2000000 in
theorem leaves_spec (B : Bl) (p : Pb) (g : List Sp) (i : Nat) (s : Sp) (H : List Row) (hg : g.length = 5) (h5 : 1 ≤ B.layers∧B.layers ≤ 5) (hgr : ∀ s ∈ g,(0 ≤ s.lo∧s.lo ≤ 100)∧0 ≤ s.hi∧s.hi ≤ 100) (hs : g[i]? = some s) :
  Fc Tryz.prog 92 [.agg (cPr B p g).toArray,.int .i64 (i : Nat)] H (fun v H' => v = .int .i64 (leavT g B.layers.toNat i s.lo (s.hi - s.lo + 1).toNat)∧H' = H):=by
 have hi5 : i < 5:=by
  have:=(List.getElem?_eq_some_iff.1 hs).1
  omega
 have hsv:=hgr s (List.mem_of_getElem? hs)
 obtain ⟨N,hN⟩ : ∃ N,N = (s.hi - s.lo + 1).toNat:=⟨_,rfl⟩
 rw [← hN]
 have hge : ∀ (g' : List Sp) (r r2 : List Row) (b cap : Nat),g'.length = 5 → SlE (r2++(⟨b,0,cPr B p g',some 91,cap⟩::r)) (some ⟨b,0 + 6,none⟩) cSp 2 g' := fun g' r r2 b cap hl=>by
  have:=(slePr (B:=B) (p:=p) (g:=g') (b:=b) (cap:=cap) (ow:=some 91) (n:=5) (H:=r2++(⟨b,0,cPr B p g',some 91,cap⟩::r)) (List.mem_append_right _ (qH _)))
  rwa [List.take_of_length_le (by omega)] at this
 refine Fc.mk (callable Tryz.call92) Tryz.func92 rfl Tryz.ntmps92 rfl ?_;dsimp only [fr]
 repeat' (first | (refine uP rfl ?_;(first | ((first | refine uN rfl ?_);(first | (refine uE (EvF.indexArray (i:=(i : Int)) (len:=5) rfl rfl rfl (te rfl) (te rfl) (by omega) (by omega)) rfl rfl ?_)|(refine uE (uL rfl rfl (LoadV.elA0 (hge g _ [] _ _ hg) hs (te rfl) rfl (fun _ hm=>hm) rfl)) rfl rfl ?_)|(refine uE (uM rfl rfl) rfl rfl ?_)|(refine uE (uA rfl rfl) rfl rfl ?_)|(refine uE (uF rfl rfl (te rfl) rfl (te rfl) (by decide)) rfl rfl ?_)|(refine uE (uL rfl rfl (uO (te rfl) rfl (qH _) rfl)) rfl rfl ?_)|(refine Xg.st (StF.boxAgg rfl rfl) rfl rfl ?_;rintro _ _ ⟨bx,rfl,rfl⟩)|(refine Xg.st (StF.alloc rfl Tryz.zeroValue24 rfl) rfl rfl ?_;rintro _ _ ⟨bx,rfl,rfl⟩)|(refine Xg.st0 (uZ (i:=0) rfl rfl rfl (te rfl) rfl rfl rfl rfl) rfl ?_;rintro _ _ ⟨rfl,rfl⟩;dsimp only [List.set])))))|(refine uD rfl ?_;refine hK _ _ ?_;clear hK K) | refine uS rfl ?_ | refine uR rfl (fun K hK=>?_) | refine X.block rfl ?_)
 rename_i b2
 obtain ⟨b6,hb6⟩ : ∃ b,b = bx:=⟨_,rfl⟩
 rw [← hb6]
 clear hb6
 have hl16 : (cPr B p g).length = 16:=lenPr hg
 refine X.permH (List.Perm.swap _ _ _) ?_
 refine X.lp rfl (fun q F' H' => ∃ (j : Nat) (g' : List Sp),q = N - j∧j ≤ N∧g'.length = 5∧(∀ x,g'.set i x = g.set i x)∧⟨b2,0,cPr B p g',some 91,16⟩::⟨b6,0,cSp s,some 24,2⟩::H = H' ∧
   F' = [(1,.int .i64 (i : Nat)),(2,.pointer (some ⟨b2,0,none⟩)),(5,.int .i64 (leavT g B.layers.toNat i s.lo j)),(6,.pointer (some ⟨b6,0,none⟩)),(7,.int .i64 (s.lo + (j : Nat)))])
  N [(1,.int .i64 (i : Nat)),(2,.pointer (some ⟨b2,0,none⟩)),(5,.int .i64 (leavT g B.layers.toNat i s.lo 0)),(6,.pointer (some ⟨b6,0,none⟩)),(7,.int .i64 (s.lo + (0 : Nat)))] (⟨b2,0,cPr B p g,some 91,16⟩::⟨b6,0,cSp s,some 24,2⟩::H) (by rw [show s.lo + ((0 : Nat) : Int)=s.lo by omega];exact (by repeat (first | exact uU _ | refine uV rfl ?_))) (by rw [← hl16];exact qR _) ⟨0,g,by omega,by omega,hg,fun _=>rfl,rfl,rfl⟩ ?_
 rintro _ _ _ ⟨j,g',rfl,hj,hg',hset,rfl,rfl⟩
 have hlv:=leavT_bd g B.layers.toNat i s.lo j
 have hst : leavT g B.layers.toNat i s.lo (j + 1)=max (leavT g B.layers.toNat i s.lo j) (nKinds ((g.set i ⟨s.lo + j,s.lo + j⟩).take B.layers.toNat) : Int):=by
  unfold leavT
  rw [List.range_succ,List.foldl_append]
  rfl
 obtain ⟨m,hm⟩ : ∃ m,m = leavT g B.layers.toNat i s.lo j:=⟨_,rfl⟩
 rw [← hm] at hst hlv ⊢
 by_cases hlt : j < N
 ·have hb1 : s.lo + (j : Nat)≤s.hi:=by omega
  obtain ⟨G,hG⟩ : ∃ G,G = g.set i ⟨s.lo + j,s.lo + j⟩:=⟨_,rfl⟩
  have hGl : G.length = 5:=by rw [hG,List.length_set];exact hg
  have hGb : ∀ s ∈ G,(0 ≤ s.lo∧s.lo ≤ 100)∧0 ≤ s.hi∧s.hi ≤ 100:=fun x hx=>by
   rw [hG] at hx
   rcases List.mem_or_eq_of_mem_set hx with h | rfl
   ·exact hgr x h
   ·dsimp only;omega
  have hgG : g'.set i ⟨s.lo + j,s.lo + j⟩ = G:=by rw [hset,hG]
  have k1:=fun S=>kinds_spec B p G S hGl h5 hGb
  rw [← hG, ← kindsE_len] at hst
  repeat' (first | (refine uP rfl ?_;(first | ((first | refine uN rfl ?_);(first | (refine uE (uQ (b:=true) rfl rfl rfl (congrArg some (decide_eq_true (by omega)))) rfl rfl ?_)|(refine uE (EvF.indexArray (i:=(i : Int)) (len:=5) rfl rfl rfl (te rfl) (te rfl) (by omega) (by omega)) rfl rfl ?_)|(refine uE (EvF.build (cs:=cSp ⟨s.lo + j,s.lo + j⟩) rfl (ArgsP.cons rfl (ArgsP.cons rfl ArgsP.nil)) (te rfl) (Places.cons (te rfl) (Places.cons (te rfl) Places.nil)) Tryz.zeroValue24 rfl) rfl rfl ?_)|(refine Xg.st0 (StF.storePr (k:=i) (s:=⟨s.lo + j,s.lo + j⟩) rfl rfl rfl hg' hi5 rfl) rfl ?_;rintro _ _ ⟨rfl,rfl⟩;rw [hgG])|(refine uE (uL rfl rfl (uW (te rfl) rfl (qH _) (lenPr hGl))) rfl rfl ?_)|(refine uC (uT rfl (by (repeat (first | exact Args.nil | refine Args.cons rfl ?_));done)) rfl rfl (k1 _) ?_;rintro _ _ ⟨bm,rfl,rfl⟩)|(refine uE (EvF.lenMap rfl maps_und rfl (qH _)) rfl rfl ?_)|(refine uE (EvF.add64 (p:=s.lo + (j : Nat)) (q:=1) rfl rfl rfl (by omega) (by omega)) rfl rfl ?_)|(refine uE (uM rfl rfl) rfl rfl ?_)|(refine uE (uA rfl rfl) rfl rfl ?_)|(refine uE (uF rfl rfl (te rfl) rfl (te rfl) (by decide)) rfl rfl ?_)|(refine uE (uL rfl rfl (uO (te rfl) rfl (qT _ (qH _)) rfl)) rfl rfl ?_)|(refine uE (EvF.max64 rfl rfl rfl) rfl rfl ?_)))))|(refine uD rfl ?_;refine hK _ _ ?_;clear hK K) | refine uS rfl ?_ | refine uR rfl (fun K hK=>?_) | refine X.block rfl ?_ | refine X.skip rfl ?_ | (refine X.ite rfl rfl (fun hc=>?_);(first | (with_reducible refine Xb.t hc ?_)) <;> clear hc))
  exact ⟨_,_,_,(by rw [hst,show s.lo + ((j + 1 : Nat) : Int)=s.lo + (j : Nat) + 1 by omega];exact (by repeat (first | exact uU _ | refine uV rfl ?_))),List.sublist_cons_self _ _,⟨j + 1,G,rfl,by omega,hGl,fun x=>by rw [hG,List.set_set],rfl,rfl⟩,by omega⟩
 ·obtain rfl : j = N:=by omega
  have hb1 : ¬ (s.lo + (j : Nat)≤s.hi):=by omega
  repeat' (first | (refine uP rfl ?_;(first | ((first | refine uN rfl ?_);(first | (refine uE (uQ (b:=false) rfl rfl rfl (congrArg some (decide_eq_false (by omega)))) rfl rfl ?_)|(refine uE (uM rfl rfl) rfl rfl ?_)|(refine uE (uA rfl rfl) rfl rfl ?_)|(refine uE (uF rfl rfl (te rfl) rfl (te rfl) (by decide)) rfl rfl ?_)|(refine uE (uL rfl rfl (uO (te rfl) rfl (qT _ (qH _)) rfl)) rfl rfl ?_)))))|(refine uD rfl ?_;refine hK _ _ ?_;clear hK K) | refine uS rfl ?_ | refine uR rfl (fun K hK=>?_)|(refine X.brk rfl ?_;repeat (first | refine blockX_hit rfl ?_ | refine blockX_miss (by decide) ?_)) | refine X.ret rfl ?_ | (refine X.ite rfl rfl (fun hc=>?_);(first | (with_reducible refine Xb.f hc ?_)) <;> clear hc))
  rw [hm]
  exact ret_one (by simp) Tryz.results92 rfl (H' := H) (by (repeat (first | exact qR _ | apply qC));done) ⟨rfl,rfl⟩
/-- the worst that looking at a layer leaves -/
def leavB (g : List Sp) (n j : Nat) : Int:=leavT g n j (spAt g j).lo ((spAt g j).hi - (spAt g j).lo + 1).toNat
def askT (g : List Sp) (n : Nat) : Nat → Int × Int
 | 0=>(0,0)
 | j + 1=>if j = 0∨leavB g n j < (askT g n j).2 then ((j : Int),leavB g n j) else askT g n j
noncomputable def askB (B : Bl) : Int × Int:=askT (gradesOf B) B.layers.toNat B.layers.toNat
set_option maxHeartbeats 2000000 in
theorem kAsk_spec (B : Bl) (p : Pb) (H : List Row) (hB : BlOk H B p) :
  Fc Tryz.prog 46 [.agg (cBl B p).toArray] H (fun v H' => v = .tuple #[.int .i64 (uIf (openE B ⟨[],[],[],[]⟩ = 0) (askB B).1),.int .i64 (uIf (openE B ⟨[],[],[],[]⟩ = 0) (askB B).2),.int .i64 (openE B ⟨[],[],[],[]⟩)]∧H' = H):=by
 have hop : ∀ r1,Fc Tryz.prog 61 [.agg (cBl B p).toArray,.agg (cCa ⟨[],[],[],[]⟩ ⟨none,0,none,0,none,0,none,0⟩).toArray] (r1::H) (fun v H' => ((openE B ⟨[],[],[],[]⟩ = 0∧v = .tuple #[.agg (cPr B p (gradesOf B)).toArray,.int .i64 0])∨(openE B ⟨[],[],[],[]⟩ ≠ 0∧v = .tuple #[.agg (cPr Bz pzb (initG 0)).toArray,.int .i64 (openE B ⟨[],[],[],[]⟩)]))∧H' = r1::H):=fun r1 =>
  open_spec B p ⟨[],[],[],[]⟩ ⟨none,0,none,0,none,0,none,0⟩ (r1::H) (hB.sub (fun _ h=>qT _ h)) ⟨sleNil,sleNil,sleNil,sleNil,by simp,by simp,by simp,by simp⟩
 by_cases h0 : openE B ⟨[],[],[],[]⟩ = 0
 ·have hop' : ∀ r1,Fc Tryz.prog 61 [.agg (cBl B p).toArray,.agg (cCa ⟨[],[],[],[]⟩ ⟨none,0,none,0,none,0,none,0⟩).toArray] (r1::H) (fun v H' => v = .tuple #[.agg (cPr B p (gradesOf B)).toArray,.int .i64 0]∧H' = r1::H):=fun r1=>(hop r1).mono (fun v H' ⟨h1,h2⟩=>⟨h1.elim (fun h=>h.2) (fun h=>absurd h0 h.1),h2⟩)
  have hb:=(openE_zero h0).1
  have hg5:=gradesOf_len hb
  have hgb:=gradesOf_bd hb
  have h5:=hb.h5
  have hlp : (cPr B p (gradesOf B)).length = 16:=lenPr hg5
  have e1 : ∀ x,uIf (openE B ⟨[],[],[],[]⟩ = 0) x = x:=fun x=>by unfold uIf;rw [if_pos h0]
  rw [e1,e1,h0]
  unfold askB
  clear hop e1 h0
  obtain ⟨g,hg⟩ : ∃ g,g = gradesOf B:=⟨_,rfl⟩
  rw [← hg] at hop' hg5 hgb hlp ⊢
  obtain ⟨n,hn⟩ : ∃ n : Nat,B.layers = n:=⟨B.layers.toNat,by omega⟩
  have hnn : B.layers.toNat = n:=by omega
  rw [hnn]
  have kl:=fun S (j : Nat) (hj : j < 5)=>leaves_spec B p g j (spAt g j) S hg5 h5 hgb (spAt_get (by omega))
  rw [hnn] at kl
  refine Fc.mk (callable Tryz.call46) Tryz.func46 rfl Tryz.ntmps46 rfl ?_;dsimp only [fr]
  repeat' (first | (refine uP rfl ?_;(first | ((first | refine uN rfl ?_);(first | (refine uC (uT rfl (Args.cons rfl (Args.cons rfl Args.nil))) rfl rfl (hop' _) ?_;rintro _ H9 ⟨rfl,hH9⟩;subst H9)|(refine uE (EvF.build (cs:=cCa ⟨[],[],[],[]⟩ ⟨none,0,none,0,none,0,none,0⟩) rfl ArgsP.nil (te rfl) (Places.cons (te rfl) (Places.cons (te rfl) (Places.cons (te rfl) (Places.cons (te rfl) Places.nil)))) Tryz.zeroValue88 rfl) rfl rfl ?_)|(refine Xg.st0 (uZ (i:=0) (vs:=cPr B p g) rfl rfl rfl (te rfl) rfl hlp (onePr _ _ _) hlp) rfl ?_;rintro _ _ ⟨rfl,rfl⟩;dsimp only [List.set])|(refine uE (uQ (b:=false) rfl rfl rfl (congrArg some (nd_f (by omega)))) rfl rfl ?_)|(refine uE (uM rfl rfl) rfl rfl ?_)|(refine uE (uA rfl rfl) rfl rfl ?_)|(refine uE (uF rfl rfl (te rfl) rfl (te rfl) (by decide)) rfl rfl ?_)|(refine uE (uL rfl rfl (uO (te rfl) rfl (qH _) rfl)) rfl rfl ?_)|(refine uE (uL rfl rfl (uW (te rfl) rfl (qH _) rfl)) rfl rfl ?_)|(refine uE (uX rfl rfl rfl) rfl rfl ?_)|(refine Xg.st (StF.boxAgg rfl rfl) rfl rfl ?_;rintro _ _ ⟨bx,rfl,rfl⟩)|(refine Xg.st (StF.alloc rfl Tryz.zeroValue91 rfl) rfl rfl ?_;rintro _ _ ⟨bx,rfl,rfl⟩)))))|(refine uD rfl ?_;refine hK _ _ ?_;clear hK K) | refine uS rfl ?_ | refine uR rfl (fun K hK=>?_) | refine X.block rfl ?_ | refine X.skip rfl ?_ | (refine X.ite rfl rfl (fun hc=>?_);(first | (with_reducible refine Xb.f hc ?_)) <;> clear hc))
  rename_i b1
  obtain ⟨b5,hb5⟩ : ∃ b,b = bx:=⟨_,rfl⟩
  rw [← hb5]
  clear hb5
  rw [hn]
  have hlb : ∀ j,0 ≤ leavB g n j∧leavB g n j ≤ 4:=fun j=>leavT_bd _ _ _ _ _
  refine X.lp rfl (fun q F' H' => ∃ j : Nat,q = n - j∧j ≤ n∧⟨b5,0,cPr B p g,some 91,16⟩::⟨b1,0,cBl B p,some 31,(cBl B p).length⟩::H = H' ∧
    F' = [(2,.int .i64 (askT g n j).1),(3,.int .i64 (askT g n j).2),(4,.int .i64 0),(5,.pointer (some ⟨b5,0,none⟩)),(19,.int .i64 n),(20,.int .i64 (j : Nat))])
   n [(2,.int .i64 (askT g n 0).1),(3,.int .i64 (askT g n 0).2),(4,.int .i64 0),(5,.pointer (some ⟨b5,0,none⟩)),(19,.int .i64 n),(20,.int .i64 (0 : Nat))] (⟨b5,0,cPr B p g,some 91,16⟩::⟨b1,0,cBl B p,some 31,(cBl B p).length⟩::H) (by repeat (first | exact uU _ | refine uV rfl ?_)) (qR _) ⟨0,by omega,by omega,rfl,rfl⟩ ?_
  rintro _ _ _ ⟨j,rfl,hj,rfl,rfl⟩
  have kj:=fun S (hj : j < 5)=>kl S j hj
  have hst : askT g n (j + 1)=if j = 0∨leavB g n j < (askT g n j).2 then ((j : Int),leavB g n j) else askT g n j:=rfl
  have hlj:=hlb j
  change ∀ S (hj : j < 5),Fc Tryz.prog 92 [.agg (cPr B p g).toArray,.int .i64 (j : Nat)] S (fun v H' => v = .int .i64 (leavB g n j)∧H' = S) at kj
  obtain ⟨x,hx⟩ : ∃ x,x = leavB g n j:=⟨_,rfl⟩
  rw [← hx] at hst hlj kj
  by_cases hlt : j < n
  ·have hlt' : (j : Int)<n:=by omega
   have hj5 : j < 5:=by omega
   obtain ⟨a1,a2,haa⟩ : ∃ a1 a2,askT g n j = (a1,a2):=⟨_,_,rfl⟩
   rw [haa] at hst ⊢
   dsimp only at hst ⊢
   by_cases hz : (j : Int)=0
   ·rw [if_pos (.inl (by omega))] at hst
    repeat' (first | (refine uP rfl ?_;(first | ((first | refine uN rfl ?_);(first | (refine uE (uQ (b:=true) rfl rfl rfl (congrArg some (decide_eq_true (by omega)))) rfl rfl ?_)|(refine uE (uL rfl rfl (uW (te rfl) rfl (qH _) hlp)) rfl rfl ?_)|(refine uC (uT rfl (Args.cons rfl (Args.cons rfl Args.nil))) rfl rfl (kj _ hj5) ?_;rintro _ H9 ⟨rfl,hH9⟩;subst H9)|(refine uE (EvF.add64 (p:=(j : Int)) (q:=1) rfl rfl rfl (by omega) (by omega)) rfl rfl ?_)|(refine uE (uM rfl rfl) rfl rfl ?_)|(refine uE (uA rfl rfl) rfl rfl ?_)|(refine uE (EvF.pickT rfl rfl rfl) rfl rfl ?_)))|(refine Xo.g rfl rfl ?_;(first | (with_reducible refine Xw.tf rfl rfl ?_)))))|(refine uD rfl ?_;refine hK _ _ ?_;clear hK K) | refine uS rfl ?_ | refine uR rfl (fun K hK=>?_) | refine X.block rfl ?_ | refine X.skip rfl ?_ | (refine X.ite rfl rfl (fun hc=>?_);(first | (with_reducible refine Xb.t hc ?_)) <;> clear hc))
    exact ⟨_,_,_,(by rw [hst,show ((j + 1 : Nat) : Int)=(j : Int) + 1 by omega];exact (by repeat (first | exact uU _ | refine uV rfl ?_))),qR _,⟨j + 1,rfl,by omega,rfl,rfl⟩,by omega⟩
   ·by_cases hxa : x < a2
    ·rw [if_pos (.inr hxa)] at hst
     repeat' (first | (refine uP rfl ?_;(first | ((first | refine uN rfl ?_ | (refine Xo.g rfl rfl ?_;with_reducible refine Xw.ff ?_));(first | (refine uE (uQ (b:=true) rfl rfl rfl (congrArg some (decide_eq_true (by omega)))) rfl rfl ?_)|(refine uE (uQ (b:=false) rfl rfl rfl (congrArg some (decide_eq_false (by omega)))) rfl rfl ?_)|(refine uE (uL rfl rfl (uW (te rfl) rfl (qH _) hlp)) rfl rfl ?_)|(refine uC (uT rfl (Args.cons rfl (Args.cons rfl Args.nil))) rfl rfl (kj _ hj5) ?_;rintro _ H9 ⟨rfl,hH9⟩;subst H9)|(refine uE (EvF.add64 (p:=(j : Int)) (q:=1) rfl rfl rfl (by omega) (by omega)) rfl rfl ?_)|(refine uE (uM rfl rfl) rfl rfl ?_)|(refine uE (uA rfl rfl) rfl rfl ?_)|(refine uE (EvF.pickF rfl rfl rfl) rfl rfl ?_)))))|(refine uD rfl ?_;refine hK _ _ ?_;clear hK K) | refine uS rfl ?_ | refine uR rfl (fun K hK=>?_) | refine X.block rfl ?_ | refine X.skip rfl ?_ | (refine X.ite rfl rfl (fun hc=>?_);(first | (with_reducible refine Xb.t hc ?_)) <;> clear hc))
     exact ⟨_,_,_,(by rw [hst,show ((j + 1 : Nat) : Int)=(j : Int) + 1 by omega];exact (by repeat (first | exact uU _ | refine uV rfl ?_))),qR _,⟨j + 1,rfl,by omega,rfl,rfl⟩,by omega⟩
    ·rw [if_neg (by rintro (h | h) <;> omega)] at hst
     repeat' (first | (refine uP rfl ?_;(first | ((first | refine uN rfl ?_ | (refine Xo.g rfl rfl ?_;with_reducible refine Xw.ff ?_));(first | (refine uE (uQ (b:=true) rfl rfl rfl (congrArg some (decide_eq_true (by omega)))) rfl rfl ?_)|(refine uE (uQ (b:=false) rfl rfl rfl (congrArg some (decide_eq_false (by omega)))) rfl rfl ?_)|(refine uE (uL rfl rfl (uW (te rfl) rfl (qH _) hlp)) rfl rfl ?_)|(refine uC (uT rfl (Args.cons rfl (Args.cons rfl Args.nil))) rfl rfl (kj _ hj5) ?_;rintro _ H9 ⟨rfl,hH9⟩;subst H9)|(refine uE (EvF.add64 (p:=(j : Int)) (q:=1) rfl rfl rfl (by omega) (by omega)) rfl rfl ?_)|(refine uE (uM rfl rfl) rfl rfl ?_)|(refine uE (uA rfl rfl) rfl rfl ?_)|(refine uE (EvF.pickF rfl rfl rfl) rfl rfl ?_)))))|(refine uD rfl ?_;refine hK _ _ ?_;clear hK K) | refine uS rfl ?_ | refine uR rfl (fun K hK=>?_) | refine X.block rfl ?_ | refine X.skip rfl ?_ | (refine X.ite rfl rfl (fun hc=>?_);(first | (with_reducible refine Xb.t hc ?_)|(with_reducible refine Xb.f hc ?_)) <;> clear hc))
     exact ⟨_,_,_,(by rw [hst,show ((j + 1 : Nat) : Int)=(j : Int) + 1 by omega];exact (by repeat (first | exact uU _ | refine uV rfl ?_))),qR _,⟨j + 1,rfl,by omega,rfl,rfl⟩,by omega⟩
  ·obtain rfl : j = n:=by omega
   have hlt' : ¬ (j : Int)<j:=by omega
   repeat' (first | (refine uP rfl ?_;(first | ((first | refine uN rfl ?_);(first | (refine uE (uQ (b:=false) rfl rfl rfl (congrArg some (decide_eq_false (by omega)))) rfl rfl ?_)|(refine uE (uM rfl rfl) rfl rfl ?_)|(refine uE (uA rfl rfl) rfl rfl ?_)))))|(refine uD rfl ?_;refine hK _ _ ?_;clear hK K) | refine uS rfl ?_ | refine uR rfl (fun K hK=>?_)|(refine X.brk rfl ?_;repeat (first | refine blockX_hit rfl ?_ | refine blockX_miss (by decide) ?_)) | refine X.ret rfl ?_ | (refine X.ite rfl rfl (fun hc=>?_);(first | (with_reducible refine Xb.f hc ?_)) <;> clear hc))
   exact ret_three (by simp) Tryz.results46 rfl rfl rfl (H' := H) (by (repeat (first | exact qR _ | apply qC));done) ⟨rfl,rfl⟩
 ·have hop' : ∀ r1,Fc Tryz.prog 61 [.agg (cBl B p).toArray,.agg (cCa ⟨[],[],[],[]⟩ ⟨none,0,none,0,none,0,none,0⟩).toArray] (r1::H) (fun v H' => v = .tuple #[.agg (cPr Bz pzb (initG 0)).toArray,.int .i64 (openE B ⟨[],[],[],[]⟩)]∧H' = r1::H):=fun r1=>(hop r1).mono (fun v H' ⟨h1,h2⟩=>⟨h1.elim (fun h=>absurd h.1 h0) (fun h=>h.2),h2⟩)
  have e1 : ∀ x,uIf (openE B ⟨[],[],[],[]⟩ = 0) x = 0:=fun x=>by unfold uIf;rw [if_neg h0]
  rw [e1,e1]
  obtain ⟨e,he⟩ : ∃ e,e = openE B ⟨[],[],[],[]⟩:=⟨_,rfl⟩
  rw [← he] at hop' h0 ⊢
  have hlp : (cPr Bz pzb (initG 0)).length = 16:=rfl
  clear hop e1 he
  refine Fc.mk (callable Tryz.call46) Tryz.func46 rfl Tryz.ntmps46 rfl ?_;dsimp only [fr]
  repeat' (first | (refine uP rfl ?_;(first | ((first | refine uN rfl ?_);(first | (refine uC (uT rfl (Args.cons rfl (Args.cons rfl Args.nil))) rfl rfl (hop' _) ?_;rintro _ H9 ⟨rfl,hH9⟩;subst H9)|(refine uE (EvF.build (cs:=cCa ⟨[],[],[],[]⟩ ⟨none,0,none,0,none,0,none,0⟩) rfl ArgsP.nil (te rfl) (Places.cons (te rfl) (Places.cons (te rfl) (Places.cons (te rfl) (Places.cons (te rfl) Places.nil)))) Tryz.zeroValue88 rfl) rfl rfl ?_)|(refine Xg.st0 (uZ (i:=0) (vs:=cPr Bz pzb (initG 0)) rfl rfl rfl (te rfl) rfl hlp (onePr _ _ _) hlp) rfl ?_;rintro _ _ ⟨rfl,rfl⟩;dsimp only [List.set])|(refine uE (uQ (b:=true) rfl rfl rfl (congrArg some (by simp [h0]))) rfl rfl ?_)|(refine uE (uM rfl rfl) rfl rfl ?_)|(refine uE (uA rfl rfl) rfl rfl ?_)|(refine uE (uL rfl rfl (uW (te rfl) rfl (qH _) rfl)) rfl rfl ?_)|(refine uE (uX rfl rfl rfl) rfl rfl ?_)|(refine Xg.st (StF.boxAgg rfl rfl) rfl rfl ?_;rintro _ _ ⟨bx,rfl,rfl⟩)|(refine Xg.st (StF.alloc rfl Tryz.zeroValue91 rfl) rfl rfl ?_;rintro _ _ ⟨bx,rfl,rfl⟩)))))|(refine uD rfl ?_;refine hK _ _ ?_;clear hK K) | refine uS rfl ?_ | refine uR rfl (fun K hK=>?_) | refine X.ret rfl ?_ | (refine X.ite rfl rfl (fun hc=>?_);(first | (with_reducible refine Xb.t hc ?_)) <;> clear hc))
  all_goals try (exfalso;contradiction)
  exact ret_three (by simp) Tryz.results46 rfl rfl rfl (H' := H) (by (repeat (first | exact qR _ | apply qC));done) ⟨rfl,rfl⟩
/-- where one picking ends, in all truths of the second kind together -/
def cutStep (s : Sp) (t : List Int) : Sp:=if kindF t = 2 then ⟨min s.lo (cutsF t).lo,max s.hi (cutsF t).hi⟩ else s
def cutT (n : Int) (L : List (List Int)) : Sp:=L.foldl cutStep ⟨n,0⟩
theorem cutT_snoc (n : Int) (L : List (List Int)) (t : List Int) : cutT n (L++[t]) = cutStep (cutT n L) t:=by
 unfold cutT
 rw [List.foldl_append]
 rfl
open Classical in
noncomputable def cutB (B : Bl) : Sp × Int:=if openE B ⟨[],[],[],[]⟩ = 0 then (if (cutT B.layers (truthsB B)).lo > (cutT B.layers (truthsB B)).hi then (⟨0,0⟩,6) else (cutT B.layers (truthsB B),0)) else (⟨0,0⟩,openE B ⟨[],[],[],[]⟩)
set_option maxHeartbeats 4000000 in
theorem kCut_spec (B : Bl) (p : Pb) (H : List Row) (hB : BlOk H B p) :
  Fc Tryz.prog 22 [.agg (cBl B p).toArray] H (fun v H' => v = .tuple #[.agg (cSp (cutB B).1).toArray,.int .i64 (cutB B).2]∧H' = H):=by
 have hop : ∀ r1 r2,Fc Tryz.prog 61 [.agg (cBl B p).toArray,.agg (cCa ⟨[],[],[],[]⟩ ⟨none,0,none,0,none,0,none,0⟩).toArray] (r1::r2::H) (fun v H' => ((openE B ⟨[],[],[],[]⟩ = 0∧v = .tuple #[.agg (cPr B p (gradesOf B)).toArray,.int .i64 0])∨(openE B ⟨[],[],[],[]⟩ ≠ 0∧v = .tuple #[.agg (cPr Bz pzb (initG 0)).toArray,.int .i64 (openE B ⟨[],[],[],[]⟩)]))∧H' = r1::r2::H):=fun r1 r2 =>
  open_spec B p ⟨[],[],[],[]⟩ ⟨none,0,none,0,none,0,none,0⟩ (r1::r2::H) (hB.sub (fun _ h=>qT _ (qT _ h))) ⟨sleNil,sleNil,sleNil,sleNil,by simp,by simp,by simp,by simp⟩
 by_cases h0 : openE B ⟨[],[],[],[]⟩ = 0
 ·have hop' : ∀ r1 r2,Fc Tryz.prog 61 [.agg (cBl B p).toArray,.agg (cCa ⟨[],[],[],[]⟩ ⟨none,0,none,0,none,0,none,0⟩).toArray] (r1::r2::H) (fun v H' => v = .tuple #[.agg (cPr B p (gradesOf B)).toArray,.int .i64 0]∧H' = r1::r2::H):=fun r1 r2=>(hop r1 r2).mono (fun v H' ⟨h1,h2⟩=>⟨h1.elim (fun h=>h.2) (fun h=>absurd h0 h.1),h2⟩)
  have hb:=(openE_zero h0).1
  have hg5:=gradesOf_len hb
  have hgb:=gradesOf_bd hb
  have h5:=hb.h5
  have hlp : (cPr B p (gradesOf B)).length = 16:=lenPr hg5
  have e1 : cutB B = (if (cutT B.layers (truthsB B)).lo > (cutT B.layers (truthsB B)).hi then (⟨0,0⟩,6) else (cutT B.layers (truthsB B),0)):=by unfold cutB;rw [if_pos h0]
  rw [e1]
  have hit:=fun b ow cap E hm=>truths_it B p (gradesOf B) b ow cap E hm hg5 h5 (fun s hs=>by have:=hgb s hs;omega)
  have hgt : ∀ s ∈ (gradesOf B).take B.layers.toNat,(0 ≤ s.lo∧s.lo ≤ 100)∧0 ≤ s.hi∧s.hi ≤ 100:=fun s hs=>hgb s (List.mem_of_mem_take hs)
  have hxi:=exts_in _ hgt
  have hxn : ∀ t ∈ exts ((gradesOf B).take B.layers.toNat),t.length = B.layers.toNat:=fun t ht=>by
   have:=InG_len _ _ ((mem_exts _ _).1 ht)
   rw [this,List.length_take];omega
  change ∀ t ∈ truthsB B,t.length = B.layers.toNat at hxn
  change ∀ t ∈ truthsB B,∀ x ∈ t,0 ≤ x∧x ≤ 100 at hxi
  change ∀ b ow cap E,(⟨b,0,cPr B p (gradesOf B),ow,cap⟩ : Row) ∈ E → ItdM Tryz.prog 102 [.pointer (some ⟨b,0,none⟩)] E (truthsB B) encG valG MemG at hit
  obtain ⟨xs,hxs⟩ : ∃ xs,xs = truthsB B:=⟨_,rfl⟩
  obtain ⟨g,hg⟩ : ∃ g,g = gradesOf B:=⟨_,rfl⟩
  rw [← hxs] at hxn hxi hit ⊢
  rw [← hg] at hop' hg5 hlp hit
  clear hop e1 h0 hgb hgt hg hxs
  refine Fc.mkT (callable Tryz.call22) Tryz.func22 rfl Tryz.ntmps22 rfl ?_
  dsimp only [fr]
  refine XT.seq rfl (XT.of0 ?_)
  repeat' (first | (refine uP rfl ?_;(first | ((first | refine uN rfl ?_);(first | (refine uE (uA rfl rfl) rfl rfl ?_)|(refine Xg.st (StF.boxAgg rfl rfl) rfl rfl ?_;rintro _ _ ⟨bx,rfl,rfl⟩)|(refine Xg.st (StF.alloc rfl Tryz.zeroValue24 rfl) rfl rfl ?_;rintro _ _ ⟨bx,rfl,rfl⟩)))))|(refine uD rfl ?_;refine hK _ _ ?_;clear hK K) | refine uR rfl (fun K hK=>?_))
  rename_i b1
  obtain ⟨b2,hb2⟩ : ∃ b,b = bx:=⟨_,rfl⟩
  rw [← hb2]
  clear hb2
  refine XT.seq rfl (XT.of0 ?_)
  repeat' (first | (refine uP rfl ?_;(first | ((first | refine uN rfl ?_);(first | (refine uC (uT rfl (Args.cons rfl (Args.cons rfl Args.nil))) rfl rfl (hop' _ _) ?_;rintro _ H9 ⟨rfl,hH9⟩;subst H9)|(refine uE (EvF.build (cs:=cCa ⟨[],[],[],[]⟩ ⟨none,0,none,0,none,0,none,0⟩) rfl ArgsP.nil (te rfl) (Places.cons (te rfl) (Places.cons (te rfl) (Places.cons (te rfl) (Places.cons (te rfl) Places.nil)))) Tryz.zeroValue88 rfl) rfl rfl ?_)|(refine Xg.st0 (uZ (i:=0) (vs:=cPr B p g) rfl rfl rfl (te rfl) rfl hlp (onePr _ _ _) hlp) rfl ?_;rintro _ _ ⟨rfl,rfl⟩;dsimp only [List.set])|(refine uE (uM rfl rfl) rfl rfl ?_)|(refine uE (uA rfl rfl) rfl rfl ?_)|(refine uE (uL rfl rfl (uW (te rfl) rfl (qT _ (qH _)) rfl)) rfl rfl ?_)|(refine uE (uX rfl rfl rfl) rfl rfl ?_)|(refine Xg.st (StF.alloc rfl Tryz.zeroValue91 rfl) rfl rfl ?_;rintro _ _ ⟨bx,rfl,rfl⟩)))))|(refine uD rfl ?_;refine hK _ _ ?_;clear hK K) | refine uR rfl (fun K hK=>?_))
  obtain ⟨b4,hb4⟩ : ∃ b,b = bx:=⟨_,rfl⟩
  rw [← hb4]
  clear hb4
  refine XT.seq rfl (XT.of0 ?_)
  repeat' (first | (refine uP rfl ?_;(first | ((first | refine uN rfl ?_);(first | (refine uE (uQ (b:=false) rfl rfl rfl (congrArg some (nd_f (by omega)))) rfl rfl ?_)|(refine uE (uM rfl rfl) rfl rfl ?_)))))|(refine uD rfl ?_;refine hK _ _ ?_;clear hK K) | refine uS rfl ?_ | refine uR rfl (fun K hK=>?_) | refine X.skip rfl ?_ | (refine X.ite rfl rfl (fun hc=>?_);(first | (with_reducible refine Xb.f hc ?_)) <;> clear hc))
  refine XT.seq rfl (XT.of0 ?_)
  repeat' (first | (refine uP rfl ?_;(first | ((first | refine uN rfl ?_);(first | (refine uE (EvF.build (cs:=cSp ⟨B.layers,0⟩) rfl (ArgsP.cons rfl (ArgsP.cons rfl ArgsP.nil)) (te rfl) (Places.cons (te rfl) (Places.cons (te rfl) Places.nil)) Tryz.zeroValue24 rfl) rfl rfl ?_)|(refine uE (uF rfl rfl (te rfl) rfl (te rfl) (by decide)) rfl rfl ?_)|(refine uE (uL rfl rfl (uO (te rfl) rfl (qH _) rfl)) rfl rfl ?_)|(refine Xg.st (StF.alloc rfl Tryz.zeroValue24 rfl) rfl rfl ?_;rintro _ _ ⟨bx,rfl,rfl⟩)|(refine Xg.st0 (uZ (i:=0) rfl rfl rfl (te rfl) rfl rfl rfl rfl) rfl ?_;rintro _ _ ⟨rfl,rfl⟩;dsimp only [List.set])))))|(refine uD rfl ?_;refine hK _ _ ?_;clear hK K) | refine uR rfl (fun K hK=>?_))
  obtain ⟨b6,hb6⟩ : ∃ b,b = bx:=⟨_,rfl⟩
  rw [← hb6]
  clear hb6
  refine XT.weak (F' := [(2,.pointer (some ⟨b2,0,none⟩)),(3,.int .i64 0),(4,.pointer (some ⟨b4,0,none⟩)),(6,.pointer (some ⟨b6,0,none⟩))]) (H' := ⟨b6,0,cSp (cutT B.layers []),some 24,2⟩::⟨b4,0,cPr B p g,some 91,16⟩::⟨b2,0,cSp ⟨0,0⟩,some 24,2⟩::H) (by repeat (first | exact uU _ | refine uV rfl ?_)) (qK _ (qK _ (qK _ (List.sublist_cons_self _ _)))) ?_
  refine XT.seq rfl (XT.seq rfl (XT.of0 ?_))
  repeat' (first | (refine uP rfl ?_;(first | ((first | refine uN rfl ?_);(first | (refine uE (uL rfl rfl (uW (te rfl) rfl (qT _ (qH _)) hlp)) rfl rfl ?_)|(refine uC (uT rfl (by (repeat (first | exact Args.nil | refine Args.cons rfl ?_));done)) rfl rfl (truths_spec B p g _) ?_;rintro _ _ ⟨bt,rfl,rfl⟩)))))|(refine uD rfl ?_;refine hK _ _ ?_;clear hK K) | refine uR rfl (fun K hK=>?_))
  refine XT.weak (F' := [(2,.pointer (some ⟨b2,0,none⟩)),(3,.int .i64 0),(4,.pointer (some ⟨b4,0,none⟩)),(6,.pointer (some ⟨b6,0,none⟩)),(24,.func (.func 102) #[] #[.pointer (some ⟨bt,0,none⟩)])]) (H' := ⟨bt,0,cPr B p g,some 91,(cPr B p g).length⟩::⟨b6,0,cSp (cutT B.layers []),some 24,2⟩::⟨b4,0,cPr B p g,some 91,16⟩::⟨b2,0,cSp ⟨0,0⟩,some 24,2⟩::H) (by repeat (first | exact uU _ | refine uV rfl ?_)) (qR _) ?_
  refine XT.perm (H' := [⟨b6,0,cSp (cutT B.layers []),some 24,2⟩]++(⟨bt,0,cPr B p g,some 91,(cPr B p g).length⟩::⟨b4,0,cPr B p g,some 91,16⟩::⟨b2,0,cSp ⟨0,0⟩,some 24,2⟩::H)) (List.Perm.swap _ _ _) ?_
  refine XT.block rfl ?_
  refine XT.rangeDM (ps:=[25]) rfl rfl (hit bt _ _ _ (qH _)) (fun x E E' hM hs=>⟨hM.1.sub hs,hM.2⟩) rfl (fun _=>rfl) (fun pre=>[⟨b6,0,cSp (cutT B.layers pre),some 24,2⟩]) (fun _=>true) (fun _=>[]) .ret rfl ?_ ?_ (fun _ _ _ _ h=>by cases h) (fun _ _ _ h=>by cases h) (.inl rfl)
  ·intro pre x hpre _ Z hZ
   have hxm : valG x ∈ xs:=hpre.subset (List.mem_append_right _ List.mem_cons_self)
   rw [cutT_snoc]
   obtain ⟨a,c,t⟩:=x
   dsimp only [valG,encG,MemG] at hxm hZ ⊢
   have hcc : t.length ≤ c:=hZ.2
   have hkk : ∀ S : List Row,SlE S a cI 1 t → Fc Tryz.prog 63 [.slice a t.length c] S (fun v H' => v = .int .i64 (kindF t)∧H' = S):=fun S hS=>kindOf_spec t a c S hS (by rw [hxn t hxm];omega) (by rw [hxn t hxm];omega) hcc (hxi t hxm)
   have hcu : ∀ S : List Row,SlE S a cI 1 t → Fc Tryz.prog 64 [.slice a t.length c] S (fun v H' => v = .agg (cSp (cutsF t)).toArray∧H' = S):=fun S hS=>cuts_spec t a c S hS (by rw [hxn t hxm];omega) (by rw [hxn t hxm];omega) hcc (hxi t hxm)
   obtain ⟨sc,hsc⟩ : ∃ sc,sc = cutT B.layers pre:=⟨_,rfl⟩
   rw [← hsc]
   show X _ _ _ _ (⟨b6,0,cSp sc,some 24,2⟩::Z) _
   repeat' (first | (refine uP rfl ?_;(first | ((first | refine uN rfl ?_);(first | (refine uE (uA rfl rfl) rfl rfl ?_)))))|(refine uD rfl ?_;refine hK _ _ ?_;clear hK K) | refine uR rfl (fun K hK=>?_))
   refine ⟨rfl,[⟨b6,0,cSp sc,some 24,2⟩],qR _,fun Z' hZ' => ?_⟩
   refine X.weak (F' := [(6,.pointer (some ⟨b6,0,none⟩)),(7,.slice a t.length c)]) (H' := ⟨b6,0,cSp sc,some 24,2⟩::Z') (by repeat (first | exact uU _ | refine uV rfl ?_)) (qR _) ?_
   have hS : ∀ S : List Row,(∀ r ∈ Z',r ∈ S) → SlE S a cI 1 t:=fun S hs=>hZ'.1.sub hs
   refine X.block rfl ?_
   by_cases h2 : kindF t = 2
   ·have e2 : cutStep sc t = ⟨min sc.lo (cutsF t).lo,max sc.hi (cutsF t).hi⟩:=by unfold cutStep;rw [if_pos h2]
    rw [e2]
    obtain ⟨cu,hcue⟩ : ∃ cu,cu = cutsF t:=⟨_,rfl⟩
    rw [← hcue] at hcu ⊢
    repeat' (first | (refine uP rfl ?_;(first | ((first | refine uN rfl ?_);(first | (refine uC (uT rfl (Args.cons rfl Args.nil)) rfl rfl (hkk _ (hS _ (fun _ h=>by repeat (first | exact h | apply qT)))) ?_;rintro _ H9 ⟨rfl,hH9⟩;subst H9)|(refine uC (uT rfl (Args.cons rfl Args.nil)) rfl rfl (hcu _ (hS _ (fun _ h=>by repeat (first | exact h | apply qT)))) ?_;rintro _ H9 ⟨rfl,hH9⟩;subst H9)|(refine uE (uQ (b:=true) rfl rfl rfl (congrArg some (decide_eq_true h2))) rfl rfl ?_)|(refine uE (EvF.build (cs:=cSp ⟨min sc.lo cu.lo,max sc.hi cu.hi⟩) rfl (ArgsP.cons rfl (ArgsP.cons rfl ArgsP.nil)) (te rfl) (Places.cons (te rfl) (Places.cons (te rfl) Places.nil)) Tryz.zeroValue24 rfl) rfl rfl ?_)|(refine uE (uM rfl rfl) rfl rfl ?_)|(refine uE (uF rfl rfl (te rfl) rfl (te rfl) (by decide)) rfl rfl ?_)|(refine uE (uL rfl rfl (uO (te rfl) rfl (qH _) rfl)) rfl rfl ?_)|(refine uE (uL rfl rfl (uO (te rfl) rfl (qT _ (qH _)) rfl)) rfl rfl ?_)|(refine uE (EvF.min64 rfl rfl rfl) rfl rfl ?_)|(refine uE (EvF.max64 rfl rfl rfl) rfl rfl ?_)|(refine Xg.st (StF.alloc rfl Tryz.zeroValue24 rfl) rfl rfl ?_;rintro _ _ ⟨bx,rfl,rfl⟩)|(refine Xg.st0 (uZ (i:=0) rfl rfl rfl (te rfl) rfl rfl rfl rfl) rfl ?_;rintro _ _ ⟨rfl,rfl⟩;dsimp only [List.set])|(refine Xg.st0 (uZ (i:=1) rfl rfl rfl (te rfl) rfl rfl rfl rfl) rfl ?_;rintro _ _ ⟨rfl,rfl⟩;dsimp only [List.set])))))|(refine uD rfl ?_;refine hK _ _ ?_;clear hK K) | refine uS rfl ?_ | refine uR rfl (fun K hK=>?_)|(refine X.ite rfl rfl (fun hc=>?_);(first | (with_reducible refine Xb.t hc ?_)) <;> clear hc))
    exact ⟨[⟨b6,0,cSp ⟨min sc.lo cu.lo,max sc.hi cu.hi⟩,some 24,2⟩],List.sublist_cons_self _ _,rfl,rfl⟩
   ·have e2 : cutStep sc t = sc:=by unfold cutStep;rw [if_neg h2]
    rw [e2]
    repeat' (first | (refine uP rfl ?_;(first | ((first | refine uN rfl ?_);(first | (refine uC (uT rfl (Args.cons rfl Args.nil)) rfl rfl (hkk _ (hS _ (fun _ h=>by repeat (first | exact h | apply qT)))) ?_;rintro _ H9 ⟨rfl,hH9⟩;subst H9)|(refine uE (uQ (b:=false) rfl rfl rfl (congrArg some (decide_eq_false h2))) rfl rfl ?_)|(refine uE (uM rfl rfl) rfl rfl ?_)))))|(refine uD rfl ?_;refine hK _ _ ?_;clear hK K) | refine uS rfl ?_ | refine uR rfl (fun K hK=>?_) | refine X.skip rfl ?_ | (refine X.ite rfl rfl (fun hc=>?_);(first | (with_reducible refine Xb.f hc ?_)) <;> clear hc))
    exact ⟨[⟨b6,0,cSp sc,some 24,2⟩],qR _,rfl,rfl⟩
  ·intro D _
   refine XT.of1 ?_
   dsimp only [List.cons_append,List.nil_append,List.append_assoc]
   obtain ⟨sc,hsc⟩ : ∃ sc,sc = cutT B.layers xs:=⟨_,rfl⟩
   rw [← hsc]
   by_cases hgt : sc.lo > sc.hi
   ·rw [if_pos hgt]
    repeat' (first | (refine uP rfl ?_;(first | ((first | refine uN rfl ?_);(first | (refine uE (uQ (b:=true) rfl rfl rfl (congrArg some (decide_eq_true hgt))) rfl rfl ?_)|(refine uE (EvF.build (cs:=cSp ⟨0,0⟩) rfl ArgsP.nil (te rfl) (Places.cons (te rfl) (Places.cons (te rfl) Places.nil)) Tryz.zeroValue24 rfl) rfl rfl ?_)|(refine uE (uA rfl rfl) rfl rfl ?_)|(refine uE (uF rfl rfl (te rfl) rfl (te rfl) (by decide)) rfl rfl ?_)|(refine uE (uL rfl rfl (uO (te rfl) rfl (qH _) rfl)) rfl rfl ?_)|(refine Xg.st0 (uZ (i:=3) rfl rfl rfl (te rfl) rfl rfl rfl rfl) rfl ?_;rintro _ _ ⟨rfl,rfl⟩;dsimp only [List.set])))))|(refine uD rfl ?_;refine hK _ _ ?_;clear hK K) | refine uS rfl ?_ | refine uR rfl (fun K hK=>?_) | refine X.ret rfl ?_ | (refine X.ite rfl rfl (fun hc=>?_);(first | (with_reducible refine Xb.t hc ?_)) <;> clear hc))
    show ∃ H'' : List Row,_∧_
    refine ⟨⟨b2,0,cSp ⟨0,0⟩,some 24,2⟩::H,?_,?_⟩
    ·exact qC _ (qC _ (qC _ (qR _)))
    ·exact retT_two (v := .agg (cSp ⟨0,0⟩).toArray) (by simp) Tryz.results22 ⟨_,rfl,uW (te rfl) rfl (qH _) rfl⟩ rfl (List.sublist_cons_self _ _) ⟨rfl,rfl⟩
   ·rw [if_neg hgt]
    repeat' (first | (refine uP rfl ?_;(first | ((first | refine uN rfl ?_);(first | (refine uE (uQ (b:=false) rfl rfl rfl (congrArg some (decide_eq_false hgt))) rfl rfl ?_)|(refine uE (uA rfl rfl) rfl rfl ?_)|(refine uE (uF rfl rfl (te rfl) rfl (te rfl) (by decide)) rfl rfl ?_)|(refine uE (uL rfl rfl (uO (te rfl) rfl (qH _) rfl)) rfl rfl ?_)|(refine uE (uL rfl rfl (uW (te rfl) rfl (qH _) rfl)) rfl rfl ?_)|(refine Xg.st0 (uZ (i:=3) rfl rfl rfl (te rfl) rfl rfl rfl rfl) rfl ?_;rintro _ _ ⟨rfl,rfl⟩;dsimp only [List.set])))))|(refine uD rfl ?_;refine hK _ _ ?_;clear hK K) | refine uS rfl ?_ | refine uR rfl (fun K hK=>?_) | refine X.skip rfl ?_ | refine X.ret rfl ?_ | (refine X.ite rfl rfl (fun hc=>?_);(first | (with_reducible refine Xb.f hc ?_)) <;> clear hc))
    refine ⟨⟨b2,0,cSp sc,some 24,2⟩::H,?_,?_⟩
    ·exact qC _ (qC _ (qC _ (qR _)))
    ·exact retT_two (v := .agg (cSp sc).toArray) (by simp) Tryz.results22 ⟨_,rfl,uW (te rfl) rfl (qH _) rfl⟩ rfl (List.sublist_cons_self _ _) ⟨rfl,rfl⟩
 ·have hop' : ∀ r1 r2,Fc Tryz.prog 61 [.agg (cBl B p).toArray,.agg (cCa ⟨[],[],[],[]⟩ ⟨none,0,none,0,none,0,none,0⟩).toArray] (r1::r2::H) (fun v H' => v = .tuple #[.agg (cPr Bz pzb (initG 0)).toArray,.int .i64 (openE B ⟨[],[],[],[]⟩)]∧H' = r1::r2::H):=fun r1 r2=>(hop r1 r2).mono (fun v H' ⟨h1,h2⟩=>⟨h1.elim (fun h=>absurd h.1 h0) (fun h=>h.2),h2⟩)
  have e1 : cutB B = (⟨0,0⟩,openE B ⟨[],[],[],[]⟩):=by unfold cutB;rw [if_neg h0]
  rw [e1]
  obtain ⟨e,he⟩ : ∃ e,e = openE B ⟨[],[],[],[]⟩:=⟨_,rfl⟩
  rw [← he] at hop' h0 ⊢
  have hlp : (cPr Bz pzb (initG 0)).length = 16:=rfl
  clear hop e1 he
  refine Fc.mk (callable Tryz.call22) Tryz.func22 rfl Tryz.ntmps22 rfl ?_;dsimp only [fr]
  repeat' (first | (refine uP rfl ?_;(first | ((first | refine uN rfl ?_);(first | (refine uC (uT rfl (Args.cons rfl (Args.cons rfl Args.nil))) rfl rfl (hop' _ _) ?_;rintro _ H9 ⟨rfl,hH9⟩;subst H9)|(refine uE (EvF.build (cs:=cCa ⟨[],[],[],[]⟩ ⟨none,0,none,0,none,0,none,0⟩) rfl ArgsP.nil (te rfl) (Places.cons (te rfl) (Places.cons (te rfl) (Places.cons (te rfl) (Places.cons (te rfl) Places.nil)))) Tryz.zeroValue88 rfl) rfl rfl ?_)|(refine Xg.st0 (uZ (i:=0) (vs:=cPr Bz pzb (initG 0)) rfl rfl rfl (te rfl) rfl hlp (onePr _ _ _) hlp) rfl ?_;rintro _ _ ⟨rfl,rfl⟩;dsimp only [List.set])|(refine uE (uQ (b:=true) rfl rfl rfl (congrArg some (by simp [h0]))) rfl rfl ?_)|(refine uE (EvF.build (cs:=cSp ⟨0,0⟩) rfl ArgsP.nil (te rfl) (Places.cons (te rfl) (Places.cons (te rfl) Places.nil)) Tryz.zeroValue24 rfl) rfl rfl ?_)|(refine uE (uM rfl rfl) rfl rfl ?_)|(refine uE (uA rfl rfl) rfl rfl ?_)|(refine uE (uL rfl rfl (uW (te rfl) rfl (qT _ (qH _)) rfl)) rfl rfl ?_)|(refine uE (uX rfl rfl rfl) rfl rfl ?_)|(refine Xg.st (StF.boxAgg rfl rfl) rfl rfl ?_;rintro _ _ ⟨bx,rfl,rfl⟩)|(refine Xg.st (StF.alloc rfl Tryz.zeroValue24 rfl) rfl rfl ?_;rintro _ _ ⟨bx,rfl,rfl⟩)|(refine Xg.st (StF.alloc rfl Tryz.zeroValue91 rfl) rfl rfl ?_;rintro _ _ ⟨bx,rfl,rfl⟩)|(refine Xg.st0 (uZ (i:=1) rfl rfl rfl (te rfl) rfl rfl rfl rfl) rfl ?_;rintro _ _ ⟨rfl,rfl⟩;dsimp only [List.set])))))|(refine uD rfl ?_;refine hK _ _ ?_;clear hK K) | refine uS rfl ?_ | refine uR rfl (fun K hK=>?_) | refine X.ret rfl ?_ | (refine X.ite rfl rfl (fun hc=>?_);(first | (with_reducible refine Xb.t hc ?_)) <;> clear hc))
  all_goals try (exfalso;contradiction)
  exact ret_two (v := .agg (cSp ⟨0,0⟩).toArray) (by simp) Tryz.results22 ⟨_,rfl,uW (te rfl) rfl (by repeat (first | exact qH _ | apply qT)) rfl⟩ rfl (H' := H) (by (repeat (first | exact qR _ | apply qC));done) ⟨rfl,rfl⟩
/-- what some layers' grades show -/
structure Sh where
 a : Int
 b : Int
 c : Int
 d : Int
 e : Int
deriving DecidableEq
def cSh (s : Sh) : List Value:=[.int .i64 s.a,.int .i64 s.b,.int .i64 s.c,.int .i64 s.d,.int .i64 s.e]
def vSh (s : Sh) : Value := .agg (cSh s).toArray
theorem shown_und : Tryz.prog.underlying 172 = some (.array 5 3):=by kernel_rfl
theorem plainI : Tryz.prog.plainKey 3 = true:=by kernel_rfl
theorem cellsI : Tryz.prog.cellsOf 3 = 1:=by kernel_rfl
theorem infoI : ∃ i,Tryz.prog.info? 3 = some i:=⟨_,rfl⟩
theorem part0 (x : Sh) (w : World) : (part 3 (cSh x).toArray 0).run Tryz.prog w = .ok (.int .i64 x.a) w:=run_part_plain w plainI rfl
theorem part1 (x : Sh) (w : World) : (part 3 (cSh x).toArray 1).run Tryz.prog w = .ok (.int .i64 x.b) w:=run_part_plain w plainI rfl
theorem part2 (x : Sh) (w : World) : (part 3 (cSh x).toArray 2).run Tryz.prog w = .ok (.int .i64 x.c) w:=run_part_plain w plainI rfl
theorem part3 (x : Sh) (w : World) : (part 3 (cSh x).toArray 3).run Tryz.prog w = .ok (.int .i64 x.d) w:=run_part_plain w plainI rfl
theorem part4 (x : Sh) (w : World) : (part 3 (cSh x).toArray 4).run Tryz.prog w = .ok (.int .i64 x.e) w:=run_part_plain w plainI rfl
theorem eqItemI (d : Nat) (x y : Int) (w : World) : (Op.equalIn (d + 1) 3 (.int .i64 x) (.int .i64 y)).run Tryz.prog w = .ok (x == y) w:=run_equalIn_int w d 3 .i64 .i64 x y int_und
theorem eqSh (d : Nat) (x y : Sh) (w : World) : (Op.equalIn (d + 2) 172 (vSh x) (vSh y)).run Tryz.prog w = .ok (decide (x = y)) w:=by
 obtain ⟨i,hi⟩:=infoI
 unfold vSh
 rw [run_equalIn_array w (d + 1) _ _ shown_und hi,cellsI]
 show (Op.eqItems (d + 1) 3 1 (cSh x).toArray (cSh y).toArray [0,1,2,3,4]).run Tryz.prog w = _
 have hx : x = y ↔ x.a = y.a∧x.b = y.b∧x.c = y.c∧x.d = y.d∧x.e = y.e:=by
  cases x;cases y;simp only [Sh.mk.injEq]
 simp only [Op.eqItems,Sem.run_bind,Nat.reduceMul,part0,part1,part2,part3,part4,Result.andThen_ok,eqItemI]
 by_cases h1 : x.a = y.a
 ·by_cases h2 : x.b = y.b
  ·by_cases h3 : x.c = y.c
   ·by_cases h4 : x.d = y.d
    ·by_cases h5 : x.e = y.e <;> simp [hx,h1,h2,h3,h4,h5,part1,part2,part3,part4,eqItemI]
    ·simp [hx,h1,h2,h3,h4,part1,part2,part3,part4,eqItemI]
   ·simp [hx,h1,h2,h3,part1,part2,part3,part4,eqItemI]
  ·simp [hx,h1,h2,part1,part2,part3,part4,eqItemI]
 ·simp [hx,h1,part1,part2,part3,part4,eqItemI]
theorem sameSh (x : Sh) : Instr.sameBits 10000 (vSh x) (vSh x)=true:=by
 unfold vSh cSh
 simp [Instr.sameBits]
theorem chkSh (em : Bool) (n : Nat) (x : Sh) (w : World) : (Instr.checkKey em (n + 2) 172 (vSh x)).run Tryz.prog w = .ok () w:=by
 obtain ⟨i,hi⟩:=infoI
 unfold vSh
 simp only [Instr.checkKey,Sem.run_bind,run_underlying shown_und,Result.andThen_ok]
 simp only [Std.Legacy.Range.forIn_eq_forIn_range',Std.Legacy.Range.size,Nat.sub_zero,Nat.add_one_sub_one,Nat.div_one]
 have hr : List.range' 0 5 = [0,1,2,3,4]:=rfl
 have hz : ∀ w : World,(sizeOf 3).run Tryz.prog w = .ok 1 w:=fun w=>by rw [run_sizeOf w hi,cellsI]
 rw [hr]
 simp only [List.forIn_cons,List.forIn_nil,Sem.run_bind,hz,Result.andThen_ok,Nat.reduceMul,part0,part1,part2,part3,part4,run_underlying int_und,Sem.run_pure]
theorem keyEqSh : KeyEq Tryz.prog 172 vSh:=⟨fun em a w=>chkSh em 9998 a w,by kernel_rfl,fun a b w=>eqSh 9998 a b w,sameSh⟩
theorem atK_ins {κ : Type} [DecidableEq κ] {l : List (κ × Value × Nat)} {c : Nat} {k k' : κ} {v : Value} : atK (insK l c k v) k' = if k = k' then some v else atK l k' := by
 unfold insK
 by_cases ha : l.any (fun e=>decide (k = e.1)) = true
 ·rw [if_pos ha]
  unfold atK
  induction l with
  | nil=>cases ha
  | cons e l ih =>
   rw [List.map_cons,List.find?_cons,List.find?_cons]
   by_cases h1 : k' = e.1
   ·have e2 : (if k = e.1 then (e.1,v,e.2.2) else e).1 = e.1:=by split <;> rfl
    rw [e2,decide_eq_true h1]
    by_cases h2 : k = k'
    ·rw [if_pos h2]
     simp [show k = e.1 from h2.trans h1]
    ·rw [if_neg h2]
     have h3 : ¬ k = e.1:=fun q=>h2 (q.trans h1.symm)
     simp [h3]
   ·have e2 : (if k = e.1 then (e.1,v,e.2.2) else e).1 = e.1:=by split <;> rfl
    rw [e2,decide_eq_false h1]
    dsimp only
    by_cases h4 : l.any (fun e=>decide (k = e.1)) = true
    ·exact ih h4
    ·have h5 : k = e.1:=by
      rw [List.any_cons] at ha
      cases hd : decide (k = e.1) with
      | true=>exact of_decide_eq_true hd
      | false=>rw [hd,Bool.false_or] at ha;exact absurd ha h4
     have h6 : ¬ k = k' := fun q=>h1 (q.symm.trans h5)
     rw [if_neg h6]
     have h7 : l.map (fun e=>if k = e.1 then (e.1,v,e.2.2) else e)=l:=by
      refine (List.map_congr_left fun x hx=>?_).trans (List.map_id _)
      have : ¬ k = x.1:=fun q=>h4 (List.any_eq_true.2 ⟨x,hx,decide_eq_true q⟩)
      rw [if_neg this]
      rfl
     rw [h7]
 ·rw [if_neg ha]
  unfold atK
  rw [List.find?_append]
  by_cases h2 : k = k'
  ·subst h2
   rw [if_pos rfl]
   have : l.find? (fun e=>decide (k = e.1)) = none:=List.find?_eq_none.2 (fun x hx q=>ha (List.any_eq_true.2 ⟨x,hx,q⟩))
   rw [this]
   simp
  ·rw [if_neg h2]
   have h3 : ¬ k' = k:=fun q=>h2 q.symm
   cases l.find? (fun e=>decide (k' = e.1)) <;> simp [h3]
theorem keysK_ins {κ : Type} [DecidableEq κ] {l : List (κ × Value × Nat)} {c : Nat} {k : κ} {v : Value} (hl : keysK l) : keysK (insK l c k v):=by
 unfold insK
 split
 ·have : (l.map (fun e=>if k = e.1 then (e.1,v,e.2.2) else e)).map (·.1)=l.map (·.1):=by
   rw [List.map_map]
   refine List.map_congr_left fun x _=>?_
   show (if k = x.1 then (x.1,v,x.2.2) else x).1 = x.1
   split <;> rfl
  unfold keysK
  rw [this]
  exact hl
 ·rename_i h
  unfold keysK
  rw [List.map_append,List.nodup_append]
  refine ⟨hl,by simp,fun x hx y hy=>?_⟩
  rw [List.map_cons,List.map_nil,List.mem_singleton] at hy
  subst hy
  rintro rfl
  obtain ⟨e,he,h1⟩:=List.mem_map.1 hx
  exact h (List.any_eq_true.2 ⟨e,he,decide_eq_true h1.symm⟩)
def toSh (l : List Int) : Sh:=⟨l.getD 0 0,l.getD 1 0,l.getD 2 0,l.getD 3 0,l.getD 4 0⟩
theorem vSh_to {l : List Int} (h : l.length = 5) : Value.agg (l.flatMap cI).toArray = vSh (toSh l):=by
 match l,h with
 | [a,b,c,d,e],_=>rfl
theorem toSh_inj {l m : List Int} (hl : l.length = 5) (hm : m.length = 5) (h : toSh l = toSh m) : l = m:=by
 match l,hl,m,hm,h with
 | [a,b,c,d,e],_,[a',b',c',d',e'],_,h =>
  injection h with h1 h2 h3 h4 h5
  have : a = a' := h1
  have : b = b' := h2
  have : c = c' := h3
  have : d = d' := h4
  have : e = e' := h5
  subst_vars
  rfl
theorem projL_len (L t : List Int) : (projL L t).length = 5:=by
 unfold projL
 have : ∀ (L x : List Int),x.length = 5 → (L.foldl (fun x (i : Int)=>x.set i.toNat (t.getD i.toNat 0)) x).length = 5:=by
  intro L
  induction L with
  | nil=>exact fun x h=>h
  | cons i L ih=>exact fun x h=>ih _ (by rw [List.length_set];exact h)
 exact this L _ rfl
/-- what is kept, after some truths, of what the layers show and of which kind it is -/
def stepD (L : List Int) (s : List (Sh × Value × Nat) × Nat) (t : List Int) : List (Sh × Value × Nat) × Nat:=(insK s.1 s.2 (toSh (projL L t)) (.int .i64 (kindF t)),clkK s.1 s.2 (toSh (projL L t)))
def stD (L : List Int) (pre : List (List Int)) : List (Sh × Value × Nat) × Nat:=pre.foldl (stepD L) ([],0)
theorem stD_snoc (L : List Int) (pre : List (List Int)) (t : List Int) : stD L (pre++[t]) = stepD L (stD L pre) t:=by
 unfold stD
 rw [List.foldl_append]
 rfl
theorem snoc_ind {α : Type} {p : List α → Prop} (h0 : p []) (h1 : ∀ l x,p l → p (l++[x])) : ∀ l,p l:=by
 intro l
 have : ∀ (r l : List α),p l → p (l++r):=by
  intro r
  induction r with
  | nil=>intro l h;rwa [List.append_nil]
  | cons x r ih=>intro l h;rw [show l++x::r = (l++[x])++r by simp];exact ih _ (h1 l x h)
 exact this l [] h0
theorem stD_keys (L : List Int) : ∀ pre,keysK (stD L pre).1:=snoc_ind (by unfold keysK stD;exact List.nodup_nil) (fun l x h=>by rw [stD_snoc];exact keysK_ins h)
theorem stD_some (L : List Int) : ∀ (pre : List (List Int)) (k : Sh) (v : Value),atK (stD L pre).1 k = some v → ∃ u ∈ pre,toSh (projL L u)=k∧v = .int .i64 (kindF u):=by
 refine snoc_ind (fun k v h=>by cases h) (fun l x ih k v h=>?_)
 rw [stD_snoc] at h
 unfold stepD at h
 dsimp only at h
 rw [atK_ins] at h
 by_cases hk : toSh (projL L x)=k
 ·rw [if_pos hk] at h
  exact ⟨x,List.mem_append_right _ List.mem_cons_self,hk,(Option.some.inj h).symm⟩
 ·rw [if_neg hk] at h
  obtain ⟨u,h1,h2⟩:=ih k v h
  exact ⟨u,List.mem_append_left _ h1,h2⟩
theorem stD_has (L : List Int) : ∀ (pre : List (List Int)),∀ u ∈ pre,(atK (stD L pre).1 (toSh (projL L u))).isSome = true:=by
 refine snoc_ind (fun u h=>absurd h List.not_mem_nil) (fun l x ih u h=>?_)
 rw [stD_snoc]
 unfold stepD
 dsimp only
 rw [atK_ins]
 by_cases hk : toSh (projL L x)=toSh (projL L u)
 ·rw [if_pos hk];rfl
 ·rw [if_neg hk]
  rcases List.mem_append.1 h with h | h
  ·exact ih u h
  ·rw [List.mem_singleton] at h;subst h;exact absurd rfl hk
/-- no two of some truths that show the same differ in kind -/
def decO (L : List Int) (pre : List (List Int)) : Bool:=pre.all (fun t=>pre.all (fun u => !decide (projL L t = projL L u) || decide (kindF t = kindF u)))
theorem decO_iff {L : List Int} {pre : List (List Int)} : decO L pre = true ↔ ∀ t ∈ pre,∀ u ∈ pre,projL L t = projL L u → kindF t = kindF u:=by
 unfold decO
 simp only [List.all_eq_true,Bool.or_eq_true,Bool.not_eq_true',decide_eq_false_iff_not,decide_eq_true_eq]
 exact ⟨fun h t ht u hu q=>(h t ht u hu).resolve_left (fun n=>n q),fun h t ht u hu=>Classical.byCases (fun q => .inr (h t ht u hu q)) (fun q => .inl q)⟩
theorem decO_mono {L : List Int} {a b : List (List Int)} (h : decO L b = true) (hs : ∀ x ∈ a,x ∈ b) : decO L a = true:=decO_iff.2 (fun t ht u hu=>decO_iff.1 h t (hs t ht) u (hs u hu))
/-- the next truth, looked up -/
theorem decO_step {L : List Int} {pre : List (List Int)} {t : List Int} (h : decO L pre = true) : decO L (pre++[t]) = match atK (stD L pre).1 (toSh (projL L t)) with
  | none=>true
  | some v=>decide (vI v = kindF t):=by
 cases ha : atK (stD L pre).1 (toSh (projL L t)) with
 | none =>
  refine decO_iff.2 (fun x hx y hy q=>?_)
  have hno : ∀ z ∈ pre,projL L z ≠ projL L t:=fun z hz q=>by
   have:=stD_has L pre z hz
   rw [q,ha] at this
   cases this
  rcases List.mem_append.1 hx with ix | ix <;> rcases List.mem_append.1 hy with iy | iy
  ·exact decO_iff.1 h x ix y iy q
  ·rw [List.mem_singleton] at iy;rw [iy] at q;exact absurd q (hno x ix)
  ·rw [List.mem_singleton] at ix;rw [ix] at q;exact absurd q.symm (hno y iy)
  ·rw [List.mem_singleton] at ix iy;rw [ix,iy]
 | some v =>
  obtain ⟨u,hu,hk,rfl⟩:=stD_some L pre _ v ha
  have hp : projL L u = projL L t:=toSh_inj (projL_len L u) (projL_len L t) hk
  show decO L (pre++[t]) = decide (kindF u = kindF t)
  rw [Bool.eq_iff_iff,decide_eq_true_iff]
  constructor
  ·intro hq
   exact decO_iff.1 hq u (List.mem_append_left _ hu) t (List.mem_append_right _ List.mem_cons_self) hp
  ·intro hq'
   refine decO_iff.2 (fun x hx y hy q=>?_)
   rcases List.mem_append.1 hx with ix | ix <;> rcases List.mem_append.1 hy with iy | iy
   ·exact decO_iff.1 h x ix y iy q
   ·rw [List.mem_singleton] at iy;rw [iy] at q ⊢;rw [← hq'];exact decO_iff.1 h x ix u hu (q.trans hp.symm)
   ·rw [List.mem_singleton] at ix;rw [ix] at q ⊢;rw [← hq'];exact decO_iff.1 h u hu y iy (hp.trans q)
   ·rw [List.mem_singleton] at ix iy;rw [ix,iy]
theorem mapS_und : Tryz.prog.underlying 171 = some (.map 172 3):=by kernel_rfl
theorem projL_snoc {L t : List Int} {k : Nat} {i : Int} (h : L[k]? = some i) : projL (L.take (k + 1)) t = (projL (L.take k) t).set i.toNat (t.getD i.toNat 0):=by
 unfold projL
 rw [take_snoc h,List.foldl_append]
 rfl
set_option maxHeartbeats 4000000 in
theorem decide_spec (B : Bl) (p : Pb) (g : List Sp) (L : List Int) (a : Option Addr) (c : Nat) (H : List Row) (hg : g.length = 5) (h5 : 1 ≤ B.layers∧B.layers ≤ 5) (hgr : ∀ s ∈ g,(0 ≤ s.lo∧s.lo ≤ 100)∧0 ≤ s.hi∧s.hi ≤ 100) (hL : SlE H a cI 1 L) (hLi : ∀ i ∈ L,0 ≤ i∧i < B.layers) (hLl : L.length ≤ 1000) :
  Fc Tryz.prog 91 [.agg (cPr B p g).toArray,.slice a L.length c] H (fun v H' => v = .bool (decO L (exts (g.take B.layers.toNat)))∧H' = H):=by
 have hgt : ∀ s ∈ g.take B.layers.toNat,(0 ≤ s.lo∧s.lo ≤ 100)∧0 ≤ s.hi∧s.hi ≤ 100:=fun s hs=>hgr s (List.mem_of_mem_take hs)
 have hxi:=exts_in _ hgt
 have hxn : ∀ t ∈ exts (g.take B.layers.toNat),t.length = B.layers.toNat:=fun t ht=>by
  have:=InG_len _ _ ((mem_exts _ _).1 ht)
  rw [this,List.length_take];omega
 obtain ⟨xs,hxs⟩ : ∃ xs,xs = exts (g.take B.layers.toNat):=⟨_,rfl⟩
 have hit:=fun b ow cap E hm=>truths_it B p g b ow cap E hm hg h5 (fun s hs=>by have:=hgr s hs;omega)
 rw [← hxs] at hxi hxn hit ⊢
 clear hxs hgt
 refine Fc.mkT (callable Tryz.call91) Tryz.func91 rfl Tryz.ntmps91 rfl ?_
 dsimp only [fr]
 refine XT.seq rfl (XT.of0 ?_)
 repeat' (first | (refine uP rfl ?_;(first | ((first | refine uN rfl ?_);(first | (refine Xg.st (StF.boxAgg rfl rfl) rfl rfl ?_;rintro _ _ ⟨bx,rfl,rfl⟩)|(refine Xg.st (StF.boxOne rfl rfl rfl) rfl rfl ?_;rintro _ _ ⟨bx,rfl,rfl⟩)|(refine Xg.st (StF.alloc rfl Tryz.zeroValue4 rfl) rfl rfl ?_;rintro _ _ ⟨bx,rfl,rfl⟩)))))|(refine uD rfl ?_;refine hK _ _ ?_;clear hK K) | refine uR rfl (fun K hK=>?_))
 rename_i b2 b3
 obtain ⟨b4,hb4⟩ : ∃ b,b = bx:=⟨_,rfl⟩
 rw [← hb4]
 clear hb4
 refine XT.seq rfl (XT.of0 ?_)
 repeat' (first | (refine uP rfl ?_;(first | ((first | refine uN rfl ?_);(first | (refine Xg.st (StF.makeMapK vSh rfl) rfl rfl ?_;rintro _ _ ⟨bm,rfl,rfl⟩)|(refine Xg.st (StF.alloc rfl Tryz.zeroValue171 rfl) rfl rfl ?_;rintro _ _ ⟨b5,rfl,rfl⟩)|(refine Xg.st0 (StF.storeOne (i:=0) rfl rfl rfl rfl (te rfl) rfl rfl (Nat.le_of_ble_eq_true rfl)) rfl ?_;rintro _ _ ⟨rfl,rfl⟩;dsimp only [List.set])))))|(refine uD rfl ?_;refine hK _ _ ?_;clear hK K) | refine uR rfl (fun K hK=>?_))
 refine XT.weak (F' := [(2,.pointer (some ⟨b2,0,none⟩)),(3,.pointer (some ⟨b3,0,none⟩)),(4,.pointer (some ⟨b4,0,none⟩)),(5,.pointer (some ⟨b5,0,none⟩))]) (H' := ⟨b5,0,[.map (some bm)],some 171,1⟩::kRow bm vSh [] 0::⟨b4,0,[.bool false],some 4,1⟩::⟨b3,0,[.slice a L.length c],some 49,1⟩::⟨b2,0,cPr B p g,some 91,(cPr B p g).length⟩::H) (by repeat (first | exact uU _ | refine uV rfl ?_)) (qR _) ?_
 refine XT.seq rfl (XT.seq rfl (XT.of0 ?_))
 repeat' (first | (refine uP rfl ?_;(first | ((first | refine uN rfl ?_);(first | (refine uE (uL rfl rfl (uW (te rfl) rfl (qT _ (qT _ (qT _ (qT _ (qH _))))) (lenPr hg))) rfl rfl ?_)|(refine uC (uT rfl (by (repeat (first | exact Args.nil | refine Args.cons rfl ?_));done)) rfl rfl (truths_spec B p g _) ?_;rintro _ _ ⟨bt,rfl,rfl⟩)))))|(refine uD rfl ?_;refine hK _ _ ?_;clear hK K) | refine uR rfl (fun K hK=>?_))
 refine XT.weak (F' := [(3,.pointer (some ⟨b3,0,none⟩)),(4,.pointer (some ⟨b4,0,none⟩)),(5,.pointer (some ⟨b5,0,none⟩)),(15,.func (.func 102) #[] #[.pointer (some ⟨bt,0,none⟩)])]) (H' := ⟨bt,0,cPr B p g,some 91,(cPr B p g).length⟩::⟨b5,0,[.map (some bm)],some 171,1⟩::kRow bm vSh [] 0::⟨b4,0,[.bool false],some 4,1⟩::⟨b3,0,[.slice a L.length c],some 49,1⟩::H) (by repeat (first | exact uU _ | refine uV rfl ?_)) (qK _ (qK _ (qK _ (qK _ (qK _ (List.sublist_cons_self _ _)))))) ?_
 refine XT.perm (H' := (kRow bm vSh (stD L []).1 (stD L []).2::⟨b5,0,[.map (some bm)],some 171,1⟩::⟨b4,0,[.bool false],some 4,1⟩::⟨b3,0,[.slice a L.length c],some 49,1⟩::H)++[⟨bt,0,cPr B p g,some 91,(cPr B p g).length⟩]) ?_ ?_
 ·refine List.Perm.trans List.perm_append_comm ?_
  exact List.Perm.cons _ (List.Perm.swap _ _ _)
 refine XT.block rfl ?_
 refine XT.rangeDM (ps:=[16]) rfl rfl (hit bt _ _ _ (qH _)) (fun x E E' hM hs=>⟨hM.1.sub hs,hM.2⟩) rfl (fun _=>rfl) (fun pre=>kRow bm vSh (stD L pre).1 (stD L pre).2::⟨b5,0,[.map (some bm)],some 171,1⟩::⟨b4,0,[.bool false],some 4,1⟩::⟨b3,0,[.slice a L.length c],some 49,1⟩::H) (decO L) (fun _=>⟨b4,0,[.bool false],some 4,1⟩::H) .ret rfl ?_ ?_ ?_ (fun _ _ _ h=>by cases h) (.inl rfl)
 ·intro pre x hpre hallok Z hZ
  have hokp : decO L pre = true:=by
   cases pre with
   | nil=>rfl
   | cons u r=>exact hallok _ (List.prefix_refl _) (by simp)
  have hxm : valG x ∈ xs:=hpre.subset (List.mem_append_right _ List.mem_cons_self)
  have hos:=decO_step (t:=valG x) hokp
  have hsn:=stD_snoc L pre (valG x)
  have hkeys:=stD_keys L pre
  have hsome:=stD_some L pre (toSh (projL L (valG x)))
  obtain ⟨ax,cx,t⟩:=x
  dsimp only [valG,encG,MemG] at hxm hZ hos hsn hsome ⊢
  have hkk : ∀ S : List Row,SlE S ax cI 1 t → Fc Tryz.prog 63 [.slice ax t.length cx] S (fun v H' => v = .int .i64 (kindF t)∧H' = S):=fun S hS=>kindOf_spec t ax cx S hS (by rw [hxn t hxm];omega) (by rw [hxn t hxm];omega) hZ.2 (hxi t hxm)
  rw [hsn]
  unfold stepD
  obtain ⟨l,hl⟩ : ∃ l,l = (stD L pre).1:=⟨_,rfl⟩
  obtain ⟨ck,hck⟩ : ∃ ck,ck = (stD L pre).2:=⟨_,rfl⟩
  rw [← hl] at hos hkeys hsome ⊢
  rw [← hck]
  show X _ _ _ _ (kRow bm vSh l ck::⟨b5,0,[.map (some bm)],some 171,1⟩::⟨b4,0,[.bool false],some 4,1⟩::⟨b3,0,[.slice a L.length c],some 49,1⟩::(H++Z)) _
  repeat' (first | (refine uP rfl ?_;(first | ((first | refine uN rfl ?_);(first | (refine uE (uA rfl rfl) rfl rfl ?_)))))|(refine uD rfl ?_;refine hK _ _ ?_;clear hK K) | refine uR rfl (fun K hK=>?_))
  refine ⟨rfl,kRow bm vSh l ck::⟨b5,0,[.map (some bm)],some 171,1⟩::⟨b4,0,[.bool false],some 4,1⟩::⟨b3,0,[.slice a L.length c],some 49,1⟩::H,qR _,fun Z' hZ' => ?_⟩
  refine X.weak (F' := [(3,.pointer (some ⟨b3,0,none⟩)),(4,.pointer (some ⟨b4,0,none⟩)),(5,.pointer (some ⟨b5,0,none⟩)),(6,.slice ax t.length cx)]) (H' := kRow bm vSh l ck::⟨b5,0,[.map (some bm)],some 171,1⟩::⟨b4,0,[.bool false],some 4,1⟩::⟨b3,0,[.slice a L.length c],some 49,1⟩::(H++Z')) (by repeat (first | exact uU _ | refine uV rfl ?_)) (qR _) ?_
  refine X.block rfl ?_
  repeat' (first | (refine uP rfl ?_;(first | ((first | refine uN rfl ?_);(first | (refine Xg.st (StF.alloc rfl Tryz.zeroValue172 rfl) rfl rfl ?_;rintro _ _ ⟨b7,rfl,rfl⟩)|(refine uE (uM rfl rfl) rfl rfl ?_)|(refine uE (uY rfl rfl (te rfl)) rfl rfl ?_)|(refine uE (uL rfl rfl (uO (te rfl) rfl (qT _ (qT _ (qT _ (qT _ (qH _))))) rfl)) rfl rfl ?_)))))|(refine uD rfl ?_;refine hK _ _ ?_;clear hK K) | refine uS rfl ?_ | refine uR rfl (fun K hK=>?_) | refine X.block rfl ?_)
  obtain ⟨HX,hHX⟩ : ∃ HX,HX = kRow bm vSh l ck::(⟨b5,0,[.map (some bm)],some 171,1⟩ : Row)::⟨b4,0,[.bool false],some 4,1⟩::⟨b3,0,[.slice a L.length c],some 49,1⟩::(H++Z'):=⟨_,rfl⟩
  have hLX : SlE HX a cI 1 L:=hL.sub (fun r h=>by rw [hHX];exact qT _ (qT _ (qT _ (qT _ (List.mem_append_left _ h)))))
  have hTX : SlE HX ax cI 1 t:=hZ'.1.sub (fun r h=>by rw [hHX];exact qT _ (qT _ (qT _ (qT _ (List.mem_append_right _ h)))))
  refine X.lp rfl (fun q F' H' => ∃ k : Nat,q = L.length - k∧k ≤ L.length∧⟨b7,0,(projL (L.take k) t).flatMap cI,some 172,5⟩::HX = H' ∧
    F' = [(3,.pointer (some ⟨b3,0,none⟩)),(4,.pointer (some ⟨b4,0,none⟩)),(5,.pointer (some ⟨b5,0,none⟩)),(6,.slice ax t.length cx),(7,.pointer (some ⟨b7,0,none⟩)),(17,.slice a L.length c),(18,.int .i64 L.length),(19,.int .i64 (k : Nat))])
   L.length [(3,.pointer (some ⟨b3,0,none⟩)),(4,.pointer (some ⟨b4,0,none⟩)),(5,.pointer (some ⟨b5,0,none⟩)),(6,.slice ax t.length cx),(7,.pointer (some ⟨b7,0,none⟩)),(17,.slice a L.length c),(18,.int .i64 L.length),(19,.int .i64 (0 : Nat))] (⟨b7,0,(projL (L.take 0) t).flatMap cI,some 172,5⟩::HX) (by repeat (first | exact uU _ | refine uV rfl ?_)) (by rw [hHX];exact qR _) ⟨0,by omega,by omega,rfl,rfl⟩ ?_
  rintro _ _ _ ⟨k,rfl,hk,rfl,rfl⟩
  have hpl:=projL_len (L.take k) t
  by_cases hlt : k < L.length
  ·have hlt' : (k : Int)<L.length:=by omega
   obtain ⟨i,hi⟩ : ∃ i,L[k]? = some i:=⟨_,List.getElem?_eq_getElem hlt⟩
   have hib:=hLi i (List.mem_of_getElem? hi)
   have htl : t.length = B.layers.toNat:=hxn t hxm
   obtain ⟨x,hx⟩ : ∃ x,t[i.toNat]? = some x:=⟨_,List.getElem?_eq_getElem (by omega)⟩
   have hps:=projL_snoc (t:=t) hi
   rw [List.getD_eq_getElem?_getD,hx,Option.getD_some] at hps
   have hTX' : ∀ r : Row,SlE (r::HX) ax cI 1 t:=fun r=>hTX.sub (fun _ h=>qT _ h)
   have hLX' : ∀ r : Row,SlE (r::HX) a cI 1 L:=fun r=>hLX.sub (fun _ h=>qT _ h)
   obtain ⟨ba,oa,_,rfl,_⟩:=hLX.elem (i:=k) hlt
   obtain ⟨bt2,ot,_,rfl,_⟩:=hTX.elem (i:=i.toNat) (by omega)
   repeat' (first | (refine uP rfl ?_;(first | ((first | refine uN rfl ?_);(first | (refine uE (uQ (b:=true) rfl rfl rfl (congrArg some (decide_eq_true (by omega)))) rfl rfl ?_)|(refine uE (uJ (i:=(k : Int)) rfl rfl rfl (te rfl) (te rfl) (by omega) (by omega)) rfl rfl ?_)|(refine uE (uJ (i:=i) (len:=t.length) rfl rfl rfl (te rfl) (te rfl) (by omega) (by omega)) rfl rfl ?_)|(refine uE (uL (v := .int .i64 i) rfl rfl (LoadV.el0 (n:=k) (hLX' _) hi (te rfl) rfl (fun _ h=>h) rfl)) rfl rfl ?_)|(refine uE (uL (v := .int .i64 x) rfl rfl (LoadV.el0 (n:=i.toNat) (hTX' _) hx (te rfl) rfl (fun _ h=>h) rfl)) rfl rfl ?_)|(refine uE (EvF.indexArray (i:=i) (len:=5) rfl rfl rfl (te rfl) (te rfl) (by omega) (by omega)) rfl rfl ?_)|(refine Xg.st0 (StF.storeI (q:=0) (c:=projL (L.take k) t) (i:=i.toNat) rfl rfl rfl (te rfl) rfl rfl (by show 0 + i.toNat * 1 = _;omega) (by omega)) rfl ?_;rintro _ _ ⟨rfl,rfl⟩;dsimp only [List.set])|(refine uE (EvF.add64 (p:=(k : Int)) (q:=1) rfl rfl rfl (by omega) (by omega)) rfl rfl ?_)|(refine uE (uM rfl rfl) rfl rfl ?_)|(refine uE (uA rfl rfl) rfl rfl ?_)))))|(refine uD rfl ?_;refine hK _ _ ?_;clear hK K) | refine uS rfl ?_ | refine uR rfl (fun K hK=>?_) | refine X.block rfl ?_ | refine X.skip rfl ?_ | (refine X.ite rfl rfl (fun hc=>?_);(first | (with_reducible refine Xb.t hc ?_)) <;> clear hc))
   rw [← hps]
   exact ⟨_,_,_,(by rw [show ((k + 1 : Nat) : Int)=(k : Int) + 1 by omega];exact (by repeat (first | exact uU _ | refine uV rfl ?_))),qR _,⟨k + 1,rfl,by omega,rfl,rfl⟩,by omega⟩
  ·obtain rfl : k = L.length:=by omega
   have hlt' : ¬ ((L.length : Nat) : Int)<L.length:=by omega
   rw [List.take_length] at hpl ⊢
   obtain ⟨l5,hl5⟩ : ∃ l5,l5 = projL L t:=⟨_,rfl⟩
   rw [← hl5] at hpl hos hsome ⊢
   have hl7 : ∀ R : List Row,LoadV Tryz.prog (⟨b7,0,l5.flatMap cI,some 172,5⟩::R) 172 ⟨b7,0,none⟩ (vSh (toSh l5)):=fun R=>by
    rw [← vSh_to hpl]
    exact uW (te rfl) rfl (qH _) (by rw [lenI,Nat.mul_one];exact hpl)
   rw [hHX] at hTX ⊢
   have hS : ∀ r : Row,SlE (r::kRow bm vSh l ck::⟨b5,0,[.map (some bm)],some 171,1⟩::⟨b4,0,[.bool false],some 4,1⟩::⟨b3,0,[.slice a L.length c],some 49,1⟩::(H++Z')) ax cI 1 t:=fun r=>hTX.sub (fun _ h=>qT _ h)
   cases ha : atK l (toSh l5) with
   | none =>
    rw [ha] at hos
    have hlk : ∀ (n : Nat) (F : FS) (R : List Row) (o : Oper) (m key : Operand),o.op = .lookup 171 m key true → evF F m = some (.map (some bm)) → evF F key = some (vSh (toSh l5)) → kRow bm vSh l ck ∈ R → EvF Tryz.prog n R F o (.tuple #[.int .i64 0,.bool false]):=fun n F R o m key h1 h2 h3 h4=>by
     have:=EvF.lookupK (n:=n) (k:=toSh l5) (l:=l) (clock:=ck) keyEqSh h1 mapS_und h2 h3 h4 Tryz.zeroValue3
     rw [ha] at this
     exact this
    repeat' (first | (refine uP rfl ?_;(first | ((first | refine uN rfl ?_);(first | (refine uE (uQ (b:=false) rfl rfl rfl (congrArg some (decide_eq_false (by omega)))) rfl rfl ?_)|(refine uC (uT rfl (Args.cons rfl Args.nil)) rfl rfl (hkk _ (hS _)) ?_;rintro _ H9 ⟨rfl,hH9⟩;subst H9)|(refine uE (v:=vSh (toSh l5)) (uL rfl rfl (hl7 _)) rfl rfl ?_)|(refine uE (hlk _ _ _ _ _ _ rfl rfl rfl (qT _ (qH _))) rfl rfl ?_)|(refine Xg.st0 (StF.updateK (i:=1) (k:=toSh l5) (l:=l) (clock:=ck) keyEqSh rfl mapS_und rfl rfl rfl rfl hkeys) rfl ?_;rintro _ _ ⟨rfl,rfl⟩;dsimp only [List.set])|(refine uE (uM rfl rfl) rfl rfl ?_)|(refine uE (uA rfl rfl) rfl rfl ?_)|(refine uE (EvF.pickF rfl rfl rfl) rfl rfl ?_)|(refine uE (uL rfl rfl (uO (te rfl) rfl (qT _ (qT _ (qH _))) rfl)) rfl rfl ?_)|(refine uE (uX rfl rfl rfl) rfl rfl ?_)))|(refine Xo.g rfl rfl ?_;(first | (with_reducible refine Xw.ft rfl rfl ?_)))))|(refine uD rfl ?_;refine hK _ _ ?_;clear hK K) | refine uS rfl ?_ | refine uR rfl (fun K hK=>?_)|(refine X.brk rfl ?_;repeat (first | refine blockX_hit rfl ?_ | refine blockX_miss (by decide) ?_)) | refine X.skip rfl ?_ | (refine X.ite rfl rfl (fun hc=>?_);(first | (with_reducible refine Xb.f hc ?_)) <;> clear hc))
    all_goals try (exfalso;cases h;done)
    refine ⟨kRow bm vSh (insK l ck (toSh l5) (.int .i64 (kindF t))) (clkK l ck (toSh l5))::⟨b5,0,[.map (some bm)],some 171,1⟩::⟨b4,0,[.bool false],some 4,1⟩::⟨b3,0,[.slice a L.length c],some 49,1⟩::H,List.sublist_cons_self _ _,hos,rfl⟩
   | some v =>
    obtain ⟨u,hu,hku,rfl⟩:=hsome v ha
    rw [ha] at hos
    change decO L (pre++[t]) = decide (kindF u = kindF t) at hos
    by_cases hq : kindF u = kindF t
    ·rw [decide_eq_true hq] at hos
     repeat' (first | (refine uP rfl ?_;(first | ((first | refine uN rfl ?_ | (refine Xo.g rfl rfl ?_;with_reducible refine Xw.tt ?_));(first | (refine uE (uQ (b:=false) rfl rfl rfl (congrArg some (decide_eq_false (by omega)))) rfl rfl ?_)|(refine uE (uQ (b:=false) rfl rfl rfl (congrArg some (nd_f (by omega)))) rfl rfl ?_)|(refine uC (uT rfl (Args.cons rfl Args.nil)) rfl rfl (hkk _ (hS _)) ?_;rintro _ H9 ⟨rfl,hH9⟩;subst H9)|(refine uE (v:=vSh (toSh l5)) (uL rfl rfl (hl7 _)) rfl rfl ?_)|(refine uE (v := .tuple #[(some (Value.int .i64 (kindF u))).getD (.int .i64 0),.bool (some (Value.int .i64 (kindF u))).isSome]) (ha ▸ EvF.lookupK (k:=toSh l5) (l:=l) (clock:=ck) keyEqSh rfl mapS_und rfl rfl (qT _ (qH _)) Tryz.zeroValue3) rfl rfl ?_)|(refine Xg.st0 (StF.updateK (i:=1) (k:=toSh l5) (l:=l) (clock:=ck) keyEqSh rfl mapS_und rfl rfl rfl rfl hkeys) rfl ?_;rintro _ _ ⟨rfl,rfl⟩;dsimp only [List.set])|(refine uE (uM rfl rfl) rfl rfl ?_)|(refine uE (uA rfl rfl) rfl rfl ?_)|(refine uE (EvF.pickT rfl rfl rfl) rfl rfl ?_)|(refine uE (EvF.pickF rfl rfl rfl) rfl rfl ?_)|(refine uE (uL rfl rfl (uO (te rfl) rfl (qT _ (qT _ (qH _))) rfl)) rfl rfl ?_)|(refine uE (uX rfl rfl rfl) rfl rfl ?_)))|(refine Xo.g rfl rfl ?_;(first | (with_reducible refine Xw.ft rfl rfl ?_)|(with_reducible refine Xw.caseB (fun h=>?_) (fun h=>?_) <;> simp only [h,decide_true,decide_false,Bool.not_true,Bool.not_false,and_self,and_true,true_and,and_false,false_and])))))|(refine uD rfl ?_;refine hK _ _ ?_;clear hK K) | refine uS rfl ?_ | refine uR rfl (fun K hK=>?_)|(refine X.brk rfl ?_;repeat (first | refine blockX_hit rfl ?_ | refine blockX_miss (by decide) ?_)) | refine X.skip rfl ?_ | (refine X.ite rfl rfl (fun hc=>?_);(first | (with_reducible refine Xb.f hc ?_)) <;> clear hc))
     all_goals try (exfalso;cases h;done)
     refine ⟨kRow bm vSh (insK l ck (toSh l5) (.int .i64 (kindF t))) (clkK l ck (toSh l5))::⟨b5,0,[.map (some bm)],some 171,1⟩::⟨b4,0,[.bool false],some 4,1⟩::⟨b3,0,[.slice a L.length c],some 49,1⟩::H,List.sublist_cons_self _ _,hos,rfl⟩
    ·rw [decide_eq_false hq] at hos
     repeat' (first | (refine uP rfl ?_;(first | ((first | refine uN rfl ?_ | (refine Xo.g rfl rfl ?_;with_reducible refine Xw.tt ?_));(first | (refine uE (uQ (b:=false) rfl rfl rfl (congrArg some (decide_eq_false (by omega)))) rfl rfl ?_)|(refine uE (uQ (b:=true) rfl rfl rfl (congrArg some (nd_t (by omega)))) rfl rfl ?_)|(refine uC (uT rfl (Args.cons rfl Args.nil)) rfl rfl (hkk _ (hS _)) ?_;rintro _ H9 ⟨rfl,hH9⟩;subst H9)|(refine uE (v:=vSh (toSh l5)) (uL rfl rfl (hl7 _)) rfl rfl ?_)|(refine uE (v := .tuple #[(some (Value.int .i64 (kindF u))).getD (.int .i64 0),.bool (some (Value.int .i64 (kindF u))).isSome]) (ha ▸ EvF.lookupK (k:=toSh l5) (l:=l) (clock:=ck) keyEqSh rfl mapS_und rfl rfl (qT _ (qH _)) Tryz.zeroValue3) rfl rfl ?_)|(refine uE (uM rfl rfl) rfl rfl ?_)|(refine uE (uA rfl rfl) rfl rfl ?_)|(refine uE (EvF.pickT rfl rfl rfl) rfl rfl ?_)|(refine uE (EvF.pickF rfl rfl rfl) rfl rfl ?_)|(refine uE (uL rfl rfl (uO (te rfl) rfl (qT _ (qT _ (qH _))) rfl)) rfl rfl ?_)|(refine uE (uX rfl rfl rfl) rfl rfl ?_)|(refine Xg.st0 (StF.storeOne (i:=3) rfl rfl rfl rfl (te rfl) rfl rfl (Nat.le_of_ble_eq_true rfl)) rfl ?_;rintro _ _ ⟨rfl,rfl⟩;dsimp only [List.set])))|(refine Xo.g rfl rfl ?_;(first | (with_reducible refine Xw.ft rfl rfl ?_)|(with_reducible refine Xw.caseB (fun h=>?_) (fun h=>?_) <;> simp only [h,decide_true,decide_false,Bool.not_true,Bool.not_false,and_self,and_true,true_and,and_false,false_and])))))|(refine uD rfl ?_;refine hK _ _ ?_;clear hK K) | refine uS rfl ?_ | refine uR rfl (fun K hK=>?_)|(refine X.brk rfl ?_;repeat (first | refine blockX_hit rfl ?_ | refine blockX_miss (by decide) ?_)) | refine X.skip rfl ?_ | refine X.ret rfl ?_ | (refine X.ite rfl rfl (fun hc=>?_);(first | (with_reducible refine Xb.t hc ?_)|(with_reducible refine Xb.f hc ?_)) <;> clear hc))
     all_goals try (exfalso;cases h;done)
     refine ⟨⟨b4,0,[.bool false],some 4,1⟩::H,?_,rfl,hos,rfl⟩
     exact qC _ (qC _ (qC _ (qK _ (List.sublist_cons_self _ _))))
 ·intro D hall
  have hok : decO L xs = true:=by
   cases hc : xs with
   | nil=>rfl
   | cons u r=>rw [← hc];exact hall _ (List.prefix_refl _) (by rw [hc];simp)
  rw [hok]
  refine XT.of1 ?_
  dsimp only [List.cons_append,List.nil_append,List.append_assoc]
  repeat' (first | (refine uP rfl ?_;(first | ((first | refine uN rfl ?_);(first | (refine Xg.st0 (StF.storeOne (i:=2) rfl rfl rfl rfl (te rfl) rfl rfl (Nat.le_of_ble_eq_true rfl)) rfl ?_;rintro _ _ ⟨rfl,rfl⟩;dsimp only [List.set])))))|(refine uD rfl ?_;refine hK _ _ ?_;clear hK K) | refine uS rfl ?_ | refine uR rfl (fun K hK=>?_) | refine X.ret rfl ?_)
  refine ⟨⟨b4,0,[.bool true],some 4,1⟩::H,?_,retT_one (v := .bool true) (by simp) Tryz.results91 ⟨_,rfl,uO (te rfl) rfl (qH _) rfl⟩ (List.sublist_cons_self _ _) ⟨rfl,rfl⟩⟩
  exact qC _ (qC _ (qK _ (qC _ (List.Sublist.append (List.sublist_append_left _ _) (qR _)))))
 ·intro D q _ hqx hqf
  have hok : decO L xs = false:=by
   cases hc : decO L xs with
   | false=>rfl
   | true=>rw [decO_mono hc (fun x hx=>hqx.subset hx)] at hqf;cases hqf
  rw [hok]
  exact retT_one (v := .bool false) (by simp) Tryz.results91 ⟨_,rfl,uO (te rfl) rfl (qH _) rfl⟩ (qC _ (List.sublist_append_left _ _)) ⟨rfl,rfl⟩
def lonG {α : Type} (ok : List α → Bool) : List α → Nat → List α → Option (List α)
 | [],0,acc=>if ok acc = true then some acc else none
 | [],_ + 1,_=>none
 | _::_,0,acc=>if ok acc = true then some acc else none
 | x::t,m + 1,acc=>match lonG ok t m (acc++[x]) with
  | some r=>some r
  | none=>lonG ok t (m + 1) acc
theorem lonG_zero {α : Type} (ok : List α → Bool) (t acc : List α) : lonG ok t 0 acc = if ok acc = true then some acc else none:=by cases t <;> rfl
theorem lonG_short {α : Type} (ok : List α → Bool) : ∀ (t : List α) (m : Nat) (acc : List α),t.length < m → lonG ok t m acc = none
 | [],0,_,h=>by simp at h
 | [],_ + 1,_,_=>rfl
 | _::_,0,_,h=>by simp at h
 | x::t,m + 1,acc,h=>by
  simp only [List.length_cons] at h
  simp only [lonG]
  rw [lonG_short ok t m _ (by omega),lonG_short ok t (m + 1) _ (by omega)]
def fewG {α : Type} (ok : List α → Bool) (l : List α) : Nat → Nat → Option (List α)
 | 0,_=>none
 | k + 1,n=>match lonG ok l n [] with
  | some r=>some r
  | none=>fewG ok l k (n + 1)
def ts71 : List TOp:=[⟨some 24,[],[],[]⟩,⟨some 25,[],[],[]⟩,⟨some 26,[],[],[]⟩,⟨some 27,[1,2],[1,2],[]⟩,⟨some 28,[1,2,3],[3],[]⟩,⟨some 29,[1,2,3,4],[4],[]⟩,⟨some 30,[0,1,2,3,4,5],[0,5],[9]⟩,⟨none,[0,1,2,3,4,5,6],[6],[8]⟩,⟨none,[],[],[]⟩,⟨none,[],[],[]⟩]
def rd71 (k : Nat) : List Nat:=match k with
 | 0=>[8]
 | 6=>[5]
 | _=>[]
def TrvI (l : List Int) (out : Value) (Z : List Row) : Prop:=(l = []∧out = .slice none 0 0∧Z = []) ∨ ∃ b q,out = .slice (some ⟨b,0,none⟩) l.length q∧Z = [⟨b,0,l.flatMap cI,some 3,q * 1⟩]
theorem TrvI.sl {l : List Int} {out : Value} {Z H : List Row} (h : TrvI l out Z) : ∃ a c,out = .slice a l.length c∧SlE (Z++H) a cI 1 l:=by
 rcases h with ⟨rfl,rfl,rfl⟩ | ⟨b,q,rfl,rfl⟩
 ·exact ⟨none,0,rfl,sleNil⟩
 ·exact ⟨_,_,rfl,SlE.ofRow (qH _) (fun _ _=>rfl)⟩
def val71I (out : Value) (lb lo n c : Nat) (ll : Nat) (i : Nat) (e : Int) (k : Nat) (env : Env) : Value :=
 match k with
 | 0=>out
 | 1 => .slice (some ⟨lb,lo,none⟩) ll c
 | 2 => .int .i64 i
 | 3 => .pointer (some ⟨lb,lo + i * 1,none⟩)
 | 4 => .int .i64 e
 | 5 => .slice (some ⟨(env 5).1,0,none⟩) 1 1
 | 6 => .slice (some ⟨(env 6).1,0,none⟩) (n + 1) (env 6).2
 | _=>undef
def rows71I (bt : Nat) (out : Value) (Z : List Row) (acc : List Int) (e : Int) (k : Nat) (env : Env) : List Row :=
 match k with
 | 5=>[⟨(env 5).1,0,cI e,some 3,1 * 1⟩]
 | 6=>[⟨(env 6).1,0,acc.flatMap cI++cI e,some 3,(env 6).2 * 1⟩]
 | 7=>[⟨bt,0,[.slice (some ⟨(env 6).1,0,none⟩) (acc.length + 1) (env 6).2],some 49,1⟩]
 | 8=>[⟨bt,0,[out],some 49,1⟩]
 | 9=>Z
 | _=>[]
theorem loc71I (bt : Nat) (out : Value) (Z : List Row) (acc : List Int) (lb lo c ll j : Nat) (e : Int) : ∀ k env i q9,i ≠ k → (tAt ts71 k).sup.contains i = false → val71I out lb lo acc.length c ll j e k (upd env i q9)=val71I out lb lo acc.length c ll j e k env∧rows71I bt out Z acc e k (upd env i q9)=rows71I bt out Z acc e k env:=by
 intro k env i q hk hs
 have hu : ∀ j,j ≠ i → upd env i q j = env j:=fun j hj=>by unfold upd;rw [if_neg hj]
 match k,hk,hs with
 | 0,_,_=>exact ⟨rfl,rfl⟩
 | 1,_,_=>exact ⟨rfl,rfl⟩
 | 2,_,_=>exact ⟨rfl,rfl⟩
 | 3,_,_=>exact ⟨rfl,rfl⟩
 | 4,_,_=>exact ⟨rfl,rfl⟩
 | 5,hk,hs=>exact ⟨by simp only [val71I,hu 5 (fun e=>hk e.symm)],by simp only [rows71I,hu 5 (fun e=>hk e.symm)]⟩
 | 6,hk,hs=>exact ⟨by simp only [val71I,hu 6 (fun e=>hk e.symm)],by simp only [rows71I,hu 6 (fun e=>hk e.symm)]⟩
 | 7,hk,hs=>exact ⟨by simp only [val71I,hu 6 (by rintro rfl;cases hs)],by simp only [rows71I,hu 6 (by rintro rfl;cases hs)]⟩
 | 8,_,_=>exact ⟨rfl,rfl⟩
 | 9,_,_=>exact ⟨rfl,rfl⟩
 | _ + 10,_,_=>exact ⟨rfl,rfl⟩
set_option maxHeartbeats 8000000 in
theorem longer_specJ (ok : List Int → Bool) (l : List Int) (a : Option Addr) (c g : Nat) (fst cap : List Value) (bt br bl bg : Nat) (w1 w2 w3 : Option Kd) (k1 k2 k3 : Nat) (H0 : List Row) (hl : SlE H0 a cI 1 l) (hb : l.length ≤ 1000000)
  (mr : ⟨br,0,[.func (.func g) fst.toArray cap.toArray],w1,k1⟩ ∈ H0) (ml : ⟨bl,0,[.slice a l.length c],w2,k2⟩ ∈ H0) (mg : ⟨bg,0,[.func (.func 137) #[] #[.pointer (some ⟨br,0,none⟩),.pointer (some ⟨bt,0,none⟩),.pointer (some ⟨bl,0,none⟩),.pointer (some ⟨bg,0,none⟩)]],w3,k3⟩ ∈ H0)
  (hr : ∀ acc a' c' H',(∀ r ∈ H0,r ∈ H') → SlE H' a' cI 1 acc → (∀ x ∈ acc,x ∈ l) → acc.length ≤ 1000 → Fc Tryz.prog g (fst++[.slice a' acc.length c']++cap) H' (fun v H'' => v = .bool (ok acc)∧H'' = H')) :
  ∀ (m f0 : Nat) (mi fi : Int) (acc : List Int) (out : Value) (Z : List Row),mi = m → fi = f0 → f0 ≤ l.length → acc.length + m ≤ 1000 → (∀ x ∈ acc,x ∈ l) → TrvI acc out Z →
  Fc Tryz.prog 137 ([.int .i64 fi,.int .i64 mi]++[.pointer (some ⟨br,0,none⟩),.pointer (some ⟨bt,0,none⟩),.pointer (some ⟨bl,0,none⟩),.pointer (some ⟨bg,0,none⟩)]) (⟨bt,0,[out],some 49,1⟩::(Z++H0))
   (fun v H' => ∃ out' Z',((∃ r,lonG ok (l.drop f0) m acc = some r∧v = .bool true∧TrvI r out' Z')∨(lonG ok (l.drop f0) m acc = none∧v = .bool false∧TrvI acc out' Z'))∧H' = ⟨bt,0,[out'],some 49,1⟩::(Z'++H0)):=by
 intro m
 induction m with
 | zero =>
  intro f0 mi fi acc out Z hmi hfi hfr hacc hin hT
  subst hmi
  obtain ⟨a',c',rfl,hs⟩:=hT.sl (H:=H0)
  show Fc Tryz.prog 137 [.int .i64 fi,.int .i64 ((0 : Nat) : Int),.pointer (some ⟨br,0,none⟩),.pointer (some ⟨bt,0,none⟩),.pointer (some ⟨bl,0,none⟩),.pointer (some ⟨bg,0,none⟩)] _ _
  refine Fc.mk (callable Tryz.call137) Tryz.func137 rfl Tryz.ntmps137 rfl ?_;dsimp only [fr]
  repeat' (first | (refine uP rfl ?_;(first | ((first | refine uN rfl ?_);(first | (refine uE (uL rfl rfl (uO (te rfl) rfl (qT _ (List.mem_append_right _ mr)) rfl)) rfl rfl ?_)|(refine uC (EnF.dyn (first:=fst) rfl rfl (Args.cons rfl Args.nil)) rfl rfl (hr acc a' c' _ (fun _ h=>qT _ (List.mem_append_right _ h)) (hs.sub (fun _ h=>qT _ h)) hin (by omega)) ?_;rintro _ H9 ⟨rfl,hH9⟩;subst H9)|(refine uE (uM rfl rfl) rfl rfl ?_)|(refine uE (uA rfl rfl) rfl rfl ?_)|(refine uE (uQ rfl rfl rfl rfl) rfl rfl ?_)|(refine uE (uL rfl rfl (uO (te rfl) rfl (qH _) rfl)) rfl rfl ?_)))))|(refine uD rfl ?_;refine hK _ _ ?_;clear hK K) | refine uS rfl ?_ | refine uR rfl (fun K hK=>?_) | refine X.block rfl ?_ | refine X.skip rfl ?_ | refine X.ret rfl ?_ | (refine X.ite rfl rfl (fun hc=>?_);(first | (with_reducible refine Xb.case hc (fun h=>?_) (fun h=>?_))) <;> clear hc))
  ·refine ret_one (by simp) Tryz.results137 rfl (H' := _) (qR _) ⟨_,Z,?_,rfl⟩
   rw [lonG_zero]
   by_cases hk : ok acc = true
   ·exact .inl ⟨acc,by rw [if_pos hk],by rw [hk],hT⟩
   ·exact .inr ⟨by rw [if_neg hk],by rw [Bool.eq_false_iff.2 hk],hT⟩
  ·exfalso;omega
 | succ m ih =>
  intro f0 mi fi acc out Z hmi hfi hfr hacc hin hT
  subst hfi
  show Fc Tryz.prog 137 [.int .i64 (f0 : Int),.int .i64 mi,.pointer (some ⟨br,0,none⟩),.pointer (some ⟨bt,0,none⟩),.pointer (some ⟨bl,0,none⟩),.pointer (some ⟨bg,0,none⟩)] _ _
  refine Fc.mk (callable Tryz.call137) Tryz.func137 rfl Tryz.ntmps137 rfl ?_;dsimp only [fr]
  repeat' (first | (refine uP rfl ?_;(first | ((first | refine uN rfl ?_);(first | (refine uE (uM rfl rfl) rfl rfl ?_)|(refine uE (uA rfl rfl) rfl rfl ?_)|(refine uE (uQ rfl rfl rfl rfl) rfl rfl ?_)))))|(refine uD rfl ?_;refine hK _ _ ?_;clear hK K) | refine uS rfl ?_ | refine uR rfl (fun K hK=>?_) | refine X.block rfl ?_ | refine X.skip rfl ?_ | (refine X.ite rfl rfl (fun hc=>?_);(first | (with_reducible refine Xb.case hc (fun h=>?_) (fun h=>?_))) <;> clear hc))
  ·exfalso;omega
  refine X.lp rfl (fun q F' H' => ∃ (i : Nat) (out : Value) (Z : List Row),q = l.length + 1 - i∧i ≤ l.length∧TrvI acc out Z∧lonG ok (l.drop f0) (m + 1) acc = lonG ok (l.drop i) (m + 1) acc∧⟨bt,0,[out],some 49,1⟩::(Z++H0)=H' ∧
    F' = [(1,.int .i64 mi),(2,.pointer (some ⟨br,0,none⟩)),(3,.pointer (some ⟨bt,0,none⟩)),(4,.pointer (some ⟨bl,0,none⟩)),(5,.pointer (some ⟨bg,0,none⟩)),(9,.int .i64 i)])
   (l.length + 1 - f0) [(1,.int .i64 mi),(2,.pointer (some ⟨br,0,none⟩)),(3,.pointer (some ⟨bt,0,none⟩)),(4,.pointer (some ⟨bl,0,none⟩)),(5,.pointer (some ⟨bg,0,none⟩)),(9,.int .i64 f0)] _ (by repeat (first | exact uU _ | refine uV rfl ?_)) (qR _) ⟨f0,out,Z,rfl,hfr,hT,rfl,rfl,rfl⟩ ?_
  clear hT
  rintro _ _ H2 ⟨i,out,Z,rfl,hi,hT,hlon,hH,rfl⟩
  subst hH
  repeat' (first | (refine uP rfl ?_;(first | ((first | refine uN rfl ?_);(first | (refine uE (uL rfl rfl (uO (te rfl) rfl (qT _ (List.mem_append_right _ ml)) rfl)) rfl rfl ?_)|(refine uE (uM rfl rfl) rfl rfl ?_)|(refine uE (uA rfl rfl) rfl rfl ?_)|(refine uE (uQ rfl rfl rfl rfl) rfl rfl ?_)|(refine uE (EvF.add64 rfl rfl rfl (by omega) (by omega)) rfl rfl ?_)|(refine uE (uY rfl rfl (te rfl)) rfl rfl ?_)))))|(refine uD rfl ?_;refine hK _ _ ?_;clear hK K) | refine uS rfl ?_ | refine uR rfl (fun K hK=>?_) | refine X.block rfl ?_ | (refine X.brk rfl ?_;repeat (first | refine blockX_hit rfl ?_ | refine blockX_miss (by decide) ?_)) | refine X.skip rfl ?_ | refine X.ret rfl ?_ | (refine X.ite rfl rfl (fun hc=>?_);(first | (with_reducible refine Xb.case hc (fun h=>?_) (fun h=>?_))) <;> clear hc))
  ·obtain ⟨lb,lo,e,rfl,he⟩:=hl.elem (i:=i) (by omega)
   have hil:=(List.getElem?_eq_some_iff.1 he).1
   have hin' : ∀ x ∈ acc++[e],x ∈ l:=fun x hx=>by
    rcases List.mem_append.1 hx with q | q
    ·exact hin x q
    ·rw [List.mem_singleton.1 q];exact List.mem_of_getElem? he
   have hle : (acc++[e]).length = acc.length + 1:=by rw [List.length_append];rfl
   have hfm : acc.flatMap cI++cI e = (acc++[e]).flatMap cI:=by rw [List.flatMap_append,List.flatMap_singleton]
   have hal : (acc.flatMap cI).length = acc.length * 1:=lenI acc
   refine X.regionRd ts71 rd71 [3,4,9,1,2,5] [(3,.pointer (some ⟨bt,0,none⟩)),(4,.pointer (some ⟨bl,0,none⟩)),(9,.int .i64 i),(1,.int .i64 mi),(2,.pointer (some ⟨br,0,none⟩)),(5,.pointer (some ⟨bg,0,none⟩))]
    (val71I out lb lo acc.length c l.length i e) (rows71I bt out Z acc e) (fun _=>(0,0)) H0 rfl mixed (by repeat (first | exact uU _ | refine uV rfl ?_)) rfl (by kernel_rfl) (by kernel_rfl) (loc71I bt out Z acc lb lo c l.length i e) (by show List.Sublist ((⟨bt,0,[out],some 49,1⟩::(Z++[]))++H0) _;rw [List.append_nil];exact qR _) ?_ ?_
   ·repeat' (first | exact AllF.done rfl | (refine AllF.step rfl ?_ ?_;·(first | exact (Ob.ng rfl (uK (fun env R hR=>by exact ⟨_,uM rfl rfl,rfl⟩) rfl (fun _=>rfl))).toR | (refine ObR.ng rfl ?_;(first | (exact fun env S hS hrd=>(StF.ofEv (uL rfl rfl (uO (te rfl) rfl (hrd 8 (qH _) _ (qH _)) rfl))).op.mono (fun v H' ⟨hv,hH⟩=>⟨(0,0),fun _=>hv,by rw [hH];exact List.Perm.refl _⟩))|(exact fun env S hS hrd=>(StF.ofEv (uL rfl rfl (uO (te rfl) rfl (hS _ ml) rfl))).op.mono (fun v H' ⟨hv,hH⟩=>⟨(0,0),fun _=>hv,by rw [hH];exact List.Perm.refl _⟩))|((refine fun env S hS hrd=>(StF.ofEv (v := .pointer (some ⟨lb,lo + i * 1,none⟩)) ?_).op.mono (fun v H' ⟨hv,hH⟩=>⟨(0,0),fun _=>hv,by rw [hH];exact List.Perm.refl _⟩);refine uJ (T:=49) (e:=3) (i:=(i : Int)) (off:=lo) (b:=lb) (len:=l.length) (ti:=⟨.int .i64,1,8⟩) rfl rfl rfl (te rfl) (te rfl) ?_ ?_ <;> omega))|(exact fun env S hS hrd=>(StF.ofEv (v := .int .i64 e) (uL rfl rfl (LoadV.el0 (n:=i) hl he (te rfl) rfl (fun _ h=>hS _ h) rfl))).op.mono (fun v H' ⟨hv,hH⟩=>⟨(0,0),fun _=>hv,by rw [hH];exact List.Perm.refl _⟩))|(exact fun env S hS hrd=>(StF.buildOne (v0 := .int .i64 e) rfl el55 rfl rfl rfl (by decide) (by decide)).op.mono (fun v H' ⟨b,hv,hH⟩=>⟨(b,0),fun _=>hv,by rw [hH];exact List.Perm.refl _⟩))|(exact fun env S hS hrd=>(StF.storeOne (i:=0) rfl rfl rfl rfl (te rfl) rfl rfl (Nat.le_of_ble_eq_true rfl)).op.mono (fun v H' ⟨hv,hH⟩=>⟨(0,0),fun h=>absurd rfl h,by rw [hH];exact List.Perm.refl _⟩))|((rcases hT with ⟨rfl,rfl,rfl⟩ | ⟨b,q,rfl,rfl⟩ <;> first | exact fun env S hS hrd=>(StF.appendNew rfl el55 rfl rfl (by decide) rfl (Rd.own (hrd 5 (qH _) _ (qH _))) (by decide)).op.mono (fun v H' ⟨b,c,hv,hH⟩=>⟨(b,c),fun _=>hv,by rw [hH];exact List.Perm.refl _⟩) | exact fun env S hS hrd=>(StF.appendOwn (i:=0) rfl el55 rfl rfl rfl hal rfl (Rd.own (qT _ (hrd 5 (qH _) _ (qH _)))) rfl (by omega)).op.mono (fun v H' ⟨b,c,hv,hH⟩=>⟨(b,c),fun _=>hv,by rw [hH];exact List.Perm.refl _⟩))))))))
   ·intro env t ha hv
    refine ⟨_,ha,?_⟩
    show X _ _ _ _ (⟨(env 5).1,0,cI e,some 3,1 * 1⟩::⟨(env 6).1,0,acc.flatMap cI++cI e,some 3,(env 6).2 * 1⟩::⟨bt,0,[.slice (some ⟨(env 6).1,0,none⟩) (acc.length + 1) (env 6).2],some 49,1⟩::H0) _
    rw [hfm]
    refine X.weakR (List.sublist_cons_self _ _) ?_
    refine X.permH (H' := ⟨bt,0,[.slice (some ⟨(env 6).1,0,none⟩) (acc.length + 1) (env 6).2],some 49,1⟩::⟨(env 6).1,0,(acc++[e]).flatMap cI,some 3,(env 6).2 * 1⟩::H0) (List.Perm.swap _ _ _) ?_
    clear hT
    repeat' (first | (refine uP rfl ?_;(first | ((first | refine uN rfl ?_);(first | (refine uE (uL rfl rfl (uO (te rfl) rfl (qT _ (qT _ mg)) rfl)) rfl rfl ?_)|(refine uC (EnF.dyn0 rfl rfl (by (repeat (first | exact Args.nil | refine Args.cons rfl ?_));done)) rfl rfl (ih (i + 1) _ _ (acc++[e]) _ [⟨(env 6).1,0,(acc++[e]).flatMap cI,some 3,(env 6).2 * 1⟩] (by omega) (by omega) (by omega) (by omega) hin' (.inr ⟨_,_,by rw [hle],rfl⟩)) ?_;rintro _ _ ⟨out',Z',(⟨r,hlr,rfl,hT'⟩ | ⟨hln,rfl,⟨h0,_,_⟩ | ⟨b',q',rfl,rfl⟩⟩),rfl⟩;rotate_left;·exact absurd h0 (by simp))|(refine uE (uM rfl rfl) rfl rfl ?_)|(refine uE (uA rfl rfl) rfl rfl ?_)|(refine uE (EvF.add64 rfl rfl rfl (by omega) (by omega)) rfl rfl ?_)|(refine uE (EvF.sub64 rfl rfl rfl (by omega) (by omega)) rfl rfl ?_)|(refine uE (uY rfl rfl (te rfl)) rfl rfl ?_)|(refine uE (uL rfl rfl (uO (te rfl) rfl (qH _) rfl)) rfl rfl ?_)))))|(refine uD rfl ?_;refine hK _ _ ?_;clear hK K) | refine uS rfl ?_ | refine uR rfl (fun K hK=>?_) | refine X.skip rfl ?_ | refine X.ret rfl ?_ | (refine X.ite rfl rfl (fun hc=>?_);(first | (with_reducible refine Xb.t hc ?_)|(with_reducible refine Xb.f hc ?_)) <;> clear hc))
    ·refine XO.reveal (q:=1) rfl (fun rest hrest=>?_)
     have hcap : (acc++[e]).length ≤ q' := by
      rw [List.length_append,lenI] at hrest
      omega
     refine XO.forget (q:=1) (cs:=acc.flatMap cI) (cs' := cI e++rest) (by show some (⟨b',0,(acc++[e]).flatMap cI++rest,some 3,q' * 1⟩ : Row)=_;rw [← hfm,List.append_assoc];rfl) ?_
     dsimp only [List.set,List.cons_append,List.nil_append]
     repeat' (first | (refine uP rfl ?_;(first | ((first | refine uN rfl ?_);(first | (refine uE (EvF.sliceTo (hh:=acc.length) rfl rfl (te rfl) (te rfl) (congrArg (fun z=>some (Value.int .i64 z)) (by omega : (((acc++[e]).length : Nat) : Int) - 1 = (acc.length : Int))) (by omega)) rfl rfl ?_)|(refine uE (uM rfl rfl) rfl rfl ?_)|(refine uE (uA rfl rfl) rfl rfl ?_)|(refine uE (EvF.add64 rfl rfl rfl (by omega) (by omega)) rfl rfl ?_)|(refine Xg.st0 (StF.storeOne (i:=0) rfl rfl rfl rfl (te rfl) rfl rfl (Nat.le_of_ble_eq_true rfl)) rfl ?_;rintro _ _ ⟨rfl,rfl⟩;dsimp only [List.set])))))|(refine uD rfl ?_;refine hK _ _ ?_;clear hK K) | refine uR rfl (fun K hK=>?_))
     refine ⟨_,_,_,(by repeat (first | exact uU _ | refine uV rfl ?_)),qR _,⟨i + 1,_,[⟨b',0,acc.flatMap cI,some 3,q' * 1⟩],rfl,by omega,.inr ⟨b',q',rfl,rfl⟩,?_,rfl,rfl⟩,by omega⟩
     rw [hlon,drop_cons he]
     simp only [lonG,hln]
    ·refine ret_one (by simp) Tryz.results137 rfl (H' := _) (qR _) ⟨out',Z',.inl ⟨r,?_,rfl,hT'⟩,rfl⟩
     rw [hlon,drop_cons he]
     simp only [lonG,hlr]
  ·refine ret_one (by simp) Tryz.results137 rfl (H' := _) (qR _) ⟨out,Z,.inr ⟨?_,rfl,hT⟩,rfl⟩
   rw [hlon]
   exact lonG_short ok _ _ _ (by rw [List.length_drop];omega)
set_option maxHeartbeats 8000000 in
theorem fewest_specJ (ok : List Int → Bool) (l : List Int) (a : Option Addr) (c most g : Nat) (fst cap : List Value) (H : List Row) (hl : SlE H a cI 1 l) (hb : l.length ≤ 1000000) (hm : most ≤ 900)
  (hr : ∀ acc a' c' H',(∀ r ∈ H,r ∈ H') → SlE H' a' cI 1 acc → (∀ x ∈ acc,x ∈ l) → acc.length ≤ 1000 → Fc Tryz.prog g (fst++[.slice a' acc.length c']++cap) H' (fun v H'' => v = .bool (ok acc)∧H'' = H')) :
  Fc Tryz.prog 90 [.slice a l.length c,.int .i64 (most : Nat),.func (.func g) fst.toArray cap.toArray] H
   (fun v H' => ∃ out Z,TrvI ((fewG ok l (min most l.length + 1) 0).getD []) out Z∧v = .tuple #[out,.bool (fewG ok l (min most l.length + 1) 0).isSome]∧H' = Z++H):=by
 refine Fc.mk (callable Tryz.call90) Tryz.func90 rfl Tryz.ntmps90 rfl ?_;dsimp only [fr]
 repeat' (first | (refine uP rfl ?_;(first | ((first | refine uN rfl ?_);(first | (refine uE (EvF.makeFunc (fl:=[]) rfl Args.nil (Args.cons rfl (Args.cons rfl (Args.cons rfl (Args.cons rfl Args.nil))))) rfl rfl ?_)|(refine uE (uM rfl rfl) rfl rfl ?_)|(refine uE (uA rfl rfl) rfl rfl ?_)|(refine uE (EvF.add64 rfl rfl rfl (by omega) (by omega)) rfl rfl ?_)|(refine uE (uY rfl rfl (te rfl)) rfl rfl ?_)|(refine uE (uL rfl rfl (uO (te rfl) rfl (qT _ (qT _ (qT _ (qH _)))) rfl)) rfl rfl ?_)|(refine uE (EvF.min64 rfl rfl rfl) rfl rfl ?_)|(refine Xg.st (StF.boxOne rfl rfl rfl) rfl rfl ?_;rintro _ _ ⟨bx,rfl,rfl⟩)|(refine Xg.st (StF.alloc rfl Tryz.zeroValue49 rfl) rfl rfl ?_;rintro _ _ ⟨bx,rfl,rfl⟩)|(refine Xg.st (StF.alloc rfl Tryz.zeroValue170 rfl) rfl rfl ?_;rintro _ _ ⟨bx,rfl,rfl⟩)|(refine Xg.st0 (StF.storeOne (i:=0) rfl rfl rfl rfl (te rfl) rfl rfl (Nat.le_of_ble_eq_true rfl)) rfl ?_;rintro _ _ ⟨rfl,rfl⟩;dsimp only [List.set])))))|(refine uD rfl ?_;refine hK _ _ ?_;clear hK K) | refine uS rfl ?_ | refine uR rfl (fun K hK=>?_) | refine X.block rfl ?_)
 rename_i bl br bt;rename Nat=>bg
 refine X.permH (List.Perm.swap _ _ _) ?_
 have hlg:=longer_specJ ok l a c g fst cap bt br bl bg (some 119) (some 49) (some 170) 1 1 1 (⟨bg,0,[.func (.func 137) #[] #[.pointer (some ⟨br,0,none⟩),.pointer (some ⟨bt,0,none⟩),.pointer (some ⟨bl,0,none⟩),.pointer (some ⟨bg,0,none⟩)]],some 170,1⟩::⟨br,0,[.func (.func g) fst.toArray cap.toArray],some 119,1⟩::⟨bl,0,[.slice a l.length c],some 49,1⟩::H)
  (hl.sub (fun _ h=>qT _ (qT _ (qT _ h)))) hb (qT _ (qH _)) (qT _ (qT _ (qH _))) (qH _) (fun acc a' c' H' hs=>hr acc a' c' H' (fun r h=>hs r (qT _ (qT _ (qT _ h)))))
 refine X.lp rfl (fun q F' H' => ∃ (k : Nat) (out : Value) (Z : List Row),q = min most l.length + 1 - k∧k ≤ min most l.length + 1∧TrvI [] out Z∧fewG ok l (min most l.length + 1) 0 = fewG ok l (min most l.length + 1 - k) k ∧
   ⟨bt,0,[out],some 49,1⟩::(Z++(⟨bg,0,[.func (.func 137) #[] #[.pointer (some ⟨br,0,none⟩),.pointer (some ⟨bt,0,none⟩),.pointer (some ⟨bl,0,none⟩),.pointer (some ⟨bg,0,none⟩)]],some 170,1⟩::⟨br,0,[.func (.func g) fst.toArray cap.toArray],some 119,1⟩::⟨bl,0,[.slice a l.length c],some 49,1⟩::H)) = H' ∧
   F' = [(8,.pointer (some ⟨bt,0,none⟩)),(9,.pointer (some ⟨bg,0,none⟩)),(16,.int .i64 (min (most : Int) (l.length : Int) + 1)),(17,.int .i64 k)])
  (min most l.length + 1) [(8,.pointer (some ⟨bt,0,none⟩)),(9,.pointer (some ⟨bg,0,none⟩)),(16,.int .i64 (min (most : Int) (l.length : Int) + 1)),(17,.int .i64 (0 : Nat))] _ (by repeat (first | exact uU _ | refine uV rfl ?_)) (qR _) ⟨0,_,[],rfl,by omega,.inl ⟨rfl,rfl,rfl⟩,rfl,rfl,rfl⟩ ?_
 rintro _ _ H2 ⟨k,out,Z,rfl,hk,hT,hf,hH,rfl⟩
 subst hH
 repeat' (first | (refine uP rfl ?_;(first | ((first | refine uN rfl ?_);(first | (refine uE (uL rfl rfl (uO (te rfl) rfl (qT _ (List.mem_append_right _ (qH _))) rfl)) rfl rfl ?_)|(refine uC (EnF.dyn0 rfl rfl (by (repeat (first | exact Args.nil | refine Args.cons rfl ?_));done)) rfl rfl (hlg k 0 _ _ [] out Z rfl rfl (by omega) (by simp only [List.length_nil];omega) (fun x hx=>absurd hx List.not_mem_nil) hT) ?_;rintro _ _ ⟨out',Z',(⟨r,hlr,rfl,hT'⟩ | ⟨hln,rfl,hT'⟩),rfl⟩)|(refine uE (uM rfl rfl) rfl rfl ?_)|(refine uE (uA rfl rfl) rfl rfl ?_)|(refine uE (uQ rfl rfl rfl rfl) rfl rfl ?_)|(refine uE (EvF.add64 rfl rfl rfl (by omega) (by omega)) rfl rfl ?_)|(refine uE (uL rfl rfl (uO (te rfl) rfl (qH _) rfl)) rfl rfl ?_)))))|(refine uD rfl ?_;refine hK _ _ ?_;clear hK K) | refine uS rfl ?_ | refine uR rfl (fun K hK=>?_) | refine X.block rfl ?_ | (refine X.brk rfl ?_;repeat (first | refine blockX_hit rfl ?_ | refine blockX_miss (by decide) ?_)) | refine X.skip rfl ?_ | refine X.ret rfl ?_ | (refine X.ite rfl rfl (fun hc=>?_);(first | (with_reducible refine Xb.t hc ?_)|(with_reducible refine Xb.f hc ?_)|(with_reducible refine Xb.case hc (fun h=>?_) (fun h=>?_))) <;> clear hc))
 ·obtain ⟨j,hj⟩ : ∃ j,min most l.length + 1 - k = j + 1:=⟨min most l.length - k,by omega⟩
  rw [List.drop_zero] at hlr
  have hfr : fewG ok l (min most l.length + 1) 0 = some r:=by rw [hf,hj];simp only [fewG,hlr]
  rw [hfr]
  exact ret_two (by simp) Tryz.results90 rfl rfl (H' := Z'++H) (qC _ (List.Sublist.append (qR _) (qC _ (qC _ (List.sublist_cons_self _ _))))) ⟨out',Z',hT',rfl,rfl⟩
 ·obtain ⟨j,hj⟩ : ∃ j,min most l.length + 1 - k = j + 1:=⟨min most l.length - k,by omega⟩
  rw [List.drop_zero] at hln
  refine ⟨_,_,_,(by repeat (first | exact uU _ | refine uV rfl ?_)),qR _,⟨k + 1,out',Z',rfl,by omega,hT',?_,rfl,rfl⟩,by omega⟩
  rw [hf,hj,show min most l.length + 1 - (k + 1)=j by omega]
  simp only [fewG,hln]
 ·have hk' : min most l.length + 1 - k = 0:=by omega
  have hfn : fewG ok l (min most l.length + 1) 0 = none:=by rw [hf,hk'];rfl
  rw [hfn]
  exact ret_two (by simp) Tryz.results90 rfl rfl (H' := H) (qC _ ((qC _ (qC _ (List.sublist_cons_self _ _))).trans (List.sublist_append_right _ _))) ⟨_,[],.inl ⟨rfl,rfl,rfl⟩,rfl,rfl⟩
open Classical in
noncomputable def lIf (b : Prop) (s : List Int) : List Int:=if b then s else []
theorem ltoldI_spec (B : Bl) (p : Pb) (g : List Sp) (hg : g.length = 5) (e : Int) (f : Nat) (cap : List Value) (s : List Int) (H : List Row)
  (ht : e = 0 → ∀ H',(∀ r ∈ H,r ∈ H') → Fc Tryz.prog f ([.agg (cPr B p g).toArray]++cap) H' (fun v H'' => ∃ Z,TrvI s v Z∧H'' = Z++H')) :
  Fc Tryz.prog 136 [.agg (cPr B p g).toArray,.int .i64 e,.func (.func f) #[] cap.toArray] H (fun v H' => ∃ out Z,TrvI (lIf (e = 0) s) out Z∧v = .tuple #[out,.int .i64 e]∧H' = Z++H):=by
 have hlp : (cPr B p g).length = 16:=lenPr hg
 by_cases h0 : e = 0
 ·subst h0
  have e1 : lIf ((0 : Int)=0) s = s:=by unfold lIf;rw [if_pos rfl]
  rw [e1]
  refine Fc.mk (callable Tryz.call136) Tryz.func136 rfl Tryz.ntmps136 rfl ?_;dsimp only [fr]
  repeat' (first | (refine uP rfl ?_;(first | ((first | refine uN rfl ?_);(first | (refine uE (uL rfl rfl (uW (te rfl) rfl (qH _) hlp)) rfl rfl ?_)|(refine uC (EnF.dyn0 rfl rfl (Args.cons rfl Args.nil)) rfl rfl (ht rfl _ (fun _ h=>by repeat (first | exact h | apply qT))) ?_;rintro _ _ ⟨Z,hZ,rfl⟩)|(refine uE (uM rfl rfl) rfl rfl ?_)|(refine uE (uA rfl rfl) rfl rfl ?_)|(refine uE (uQ rfl rfl rfl rfl) rfl rfl ?_)|(refine Xg.st (StF.boxAgg rfl rfl) rfl rfl ?_;rintro _ _ ⟨bx,rfl,rfl⟩)))))|(refine uD rfl ?_;refine hK _ _ ?_;clear hK K) | refine uS rfl ?_ | refine uR rfl (fun K hK=>?_) | refine X.skip rfl ?_ | refine X.ret rfl ?_ | (refine X.ite rfl rfl (fun hc=>?_);(first | (with_reducible refine Xb.caseN hc (fun h=>?_) (fun h=>?_))) <;> clear hc))
  all_goals try (exfalso;contradiction)
  exact ret_two (by simp) Tryz.results136 rfl rfl (H' := Z++H) (List.Sublist.append (qR _) (List.sublist_cons_self _ _)) ⟨_,Z,hZ,rfl,rfl⟩
 ·have e1 : lIf (e = 0) s = []:=by unfold lIf;rw [if_neg h0]
  rw [e1]
  refine Fc.mk (callable Tryz.call136) Tryz.func136 rfl Tryz.ntmps136 rfl ?_;dsimp only [fr]
  repeat' (first | (refine uP rfl ?_;(first | ((first | refine uN rfl ?_);(first | (refine uE (uQ (b:=true) rfl rfl rfl (congrArg some (by simp [h0]))) rfl rfl ?_)|(refine uE (uM rfl rfl) rfl rfl ?_)|(refine uE (uA rfl rfl) rfl rfl ?_)|(refine Xg.st (StF.boxAgg rfl rfl) rfl rfl ?_;rintro _ _ ⟨bx,rfl,rfl⟩)))))|(refine uD rfl ?_;refine hK _ _ ?_;clear hK K) | refine uS rfl ?_ | refine uR rfl (fun K hK=>?_) | refine X.ret rfl ?_ | (refine X.ite rfl rfl (fun hc=>?_);(first | (with_reducible refine Xb.t hc ?_)) <;> clear hc))
  all_goals try (exfalso;contradiction)
  exact ret_two (by simp) Tryz.results136 rfl rfl (H' := H) (by (repeat (first | exact qR _ | apply qC));done) ⟨_,[],.inl ⟨rfl,rfl,rfl⟩,rfl,rfl⟩
set_option maxHeartbeats 4000000 in
theorem toldI_spec (B : Bl) (p : Pb) (C : Ca) (q : Pc) (f : Nat) (cap : List Value) (s : List Int) (H : List Row) (hB : BlOk H B p) (hC : CaOk H C q)
  (ht : openE B C = 0 → ∀ H',(∀ r ∈ H,r ∈ H') → Fc Tryz.prog f ([.agg (cPr B p (gradesOf B)).toArray]++cap) H' (fun v H'' => ∃ Z,TrvI s v Z∧H'' = Z++H')) :
  Fc Tryz.prog 88 [.agg (cBl B p).toArray,.agg (cCa C q).toArray,.func (.func f) #[] cap.toArray] H (fun v H' => ∃ out Z,TrvI (lIf (openE B C = 0) s) out Z∧v = .tuple #[out,.int .i64 (openE B C)]∧H' = Z++H):=by
 have hb : openE B C = 0 → (gradesOf B).length = 5:=fun h=>by
  refine gradesOf_len ?_
  unfold openE at h
  split at h
  ·assumption
  ·omega
 obtain ⟨BX,pX,gX,hgX,hXe,hop⟩ : ∃ (BX : Bl) (pX : Pb) (gX : List Sp),gX.length = 5∧(openE B C = 0 → BX = B∧pX = p∧gX = gradesOf B) ∧ ∀ H',BlOk H' B p → CaOk H' C q → Fc Tryz.prog 61 [.agg (cBl B p).toArray,.agg (cCa C q).toArray] H' (fun v H'' => v = .tuple #[.agg (cPr BX pX gX).toArray,.int .i64 (openE B C)]∧H'' = H'):=by
  by_cases h : openE B C = 0
  ·refine ⟨B,p,gradesOf B,hb h,fun _=>⟨rfl,rfl,rfl⟩,fun H' h1 h2=>(open_spec B p C q H' h1 h2).mono fun v H'' ⟨q1,q2⟩=>⟨?_,q2⟩⟩
   rcases q1 with ⟨_,q1⟩ | ⟨q0,_⟩
   ·rw [q1,h]
   ·exact absurd h q0
  ·refine ⟨Bz,pzb,initG 0,rfl,fun h0=>absurd h0 h,fun H' h1 h2=>(open_spec B p C q H' h1 h2).mono fun v H'' ⟨q1,q2⟩=>⟨?_,q2⟩⟩
   rcases q1 with ⟨q0,_⟩ | ⟨_,q1⟩
   ·exact absurd q0 h
   ·exact q1
 have hlp : (cPr BX pX gX).length = 16:=lenPr hgX
 have hl : ∀ H',(∀ r ∈ H,r ∈ H') → Fc Tryz.prog 136 [.agg (cPr BX pX gX).toArray,.int .i64 (openE B C),.func (.func f) #[] cap.toArray] H' (fun v H'' => ∃ out Z,TrvI (lIf (openE B C = 0) s) out Z∧v = .tuple #[out,.int .i64 (openE B C)]∧H'' = Z++H'):=fun H' h=>ltoldI_spec BX pX gX hgX _ f cap s H' (fun h0 H'' h2=>by obtain ⟨rfl,rfl,rfl⟩:=hXe h0;exact ht h0 H'' (fun r hr=>h2 r (h r hr)))
 obtain ⟨rr,hrr⟩ : ∃ x,lIf (openE B C = 0) s = x:=⟨_,rfl⟩
 rw [hrr] at hl ⊢
 obtain ⟨er,her⟩ : ∃ e,openE B C = e:=⟨_,rfl⟩
 rw [her] at hl hop ⊢
 refine Fc.mk (callable Tryz.call88) Tryz.func88 rfl Tryz.ntmps88 rfl ?_;dsimp only [fr]
 repeat' (first | (refine uP rfl ?_;(first | ((first | refine uN rfl ?_);(first | (refine uC (uT rfl (Args.cons rfl (Args.cons rfl Args.nil))) rfl rfl (hop _ (hB.sub (fun _ h=>by repeat (first | exact h | apply qT))) (hC.sub (fun _ h=>by repeat (first | exact h | apply qT)))) ?_;rintro _ H9 ⟨rfl,hH9⟩;subst H9)|(refine uC (uT rfl (Args.cons rfl (Args.cons rfl (Args.cons rfl Args.nil)))) rfl rfl (hl _ (fun _ h=>by repeat (first | exact h | apply qT))) ?_;rintro _ _ ⟨out,Z,hZ,rfl,rfl⟩)|(refine Xg.st0 (uZ (i:=0) (vs:=cPr BX pX gX) rfl rfl rfl (te rfl) rfl hlp (onePr _ _ _) hlp) rfl ?_;rintro _ _ ⟨rfl,rfl⟩;dsimp only [List.set])|(refine uE (uL rfl rfl (uW (te rfl) rfl (qH _) hlp)) rfl rfl ?_)|(refine uE (uM rfl rfl) rfl rfl ?_)|(refine uE (uA rfl rfl) rfl rfl ?_)|(refine uE (uL rfl rfl (uW (te rfl) rfl (qH _) rfl)) rfl rfl ?_)|(refine uE (uL rfl rfl (uW (te rfl) rfl (qT _ (qH _)) rfl)) rfl rfl ?_)|(refine uE (uX rfl rfl rfl) rfl rfl ?_)|(refine Xg.st (StF.boxAgg rfl rfl) rfl rfl ?_;rintro _ _ ⟨bx,rfl,rfl⟩)|(refine Xg.st (StF.alloc rfl Tryz.zeroValue91 rfl) rfl rfl ?_;rintro _ _ ⟨bx,rfl,rfl⟩)))))|(refine uD rfl ?_;refine hK _ _ ?_;clear hK K) | refine uS rfl ?_ | refine uR rfl (fun K hK=>?_) | refine X.ret rfl ?_)
 exact ret_two (by simp) Tryz.results88 rfl rfl (H' := Z++H) (List.Sublist.append (qR _) (by (repeat (first | exact qR _ | apply qC));done)) ⟨out,Z,hZ,rfl,rfl⟩
/-- all layers, by their numbers -/
def rngL (n : Nat) : List Int:=(List.range n).map (fun (i : Nat)=>(i : Int))
theorem rngL_snoc (n : Nat) : rngL (n + 1)=rngL n++[(n : Int)]:=by
 unfold rngL
 rw [List.range_succ,List.map_append]
 rfl
theorem rngL_len (n : Nat) : (rngL n).length = n:=by unfold rngL;rw [List.length_map,List.length_range]
theorem rngL_in {n : Nat} {x : Int} (h : x ∈ rngL n) : 0 ≤ x∧x < n:=by
 unfold rngL at h
 obtain ⟨i,hi,rfl⟩:=List.mem_map.1 h
 have:=List.mem_range.1 hi
 omega
def decL (T : List (List Int)) (n : Nat) : List Int:=(fewG (fun L=>decO L T) (rngL n) (n + 1) 0).getD []
set_option maxHeartbeats 8000000 in
theorem decide1_spec (B : Bl) (p : Pb) (g : List Sp) (H : List Row) (hg : g.length = 5) (h5 : 1 ≤ B.layers∧B.layers ≤ 5) (hgr : ∀ s ∈ g,(0 ≤ s.lo∧s.lo ≤ 100)∧0 ≤ s.hi∧s.hi ≤ 100) :
  Fc Tryz.prog 89 ([.agg (cPr B p g).toArray]++[]) H (fun v H' => ∃ Z,TrvI (decL (exts (g.take B.layers.toNat)) B.layers.toNat) v Z∧H' = Z++H):=by
 show Fc Tryz.prog 89 [.agg (cPr B p g).toArray] H _
 obtain ⟨n,hn⟩ : ∃ n : Nat,B.layers = n:=⟨B.layers.toNat,by omega⟩
 have hnn : B.layers.toNat = n:=by omega
 have hn5 : n ≤ 5:=by omega
 have hlp : (cPr B p g).length = 16:=lenPr hg
 have kd:=fun S L a c hL hLi hLl=>decide_spec B p g L a c S hg h5 hgr hL hLi hLl
 rw [hnn] at kd ⊢
 unfold decL
 obtain ⟨T,hT⟩ : ∃ T,T = exts (g.take n):=⟨_,rfl⟩
 rw [← hT] at kd ⊢
 clear hT
 refine Fc.mk (callable Tryz.call89) Tryz.func89 rfl Tryz.ntmps89 rfl ?_;dsimp only [fr]
 repeat' (first | (refine uP rfl ?_;(first | ((first | refine uN rfl ?_);(first | (refine uE (uM rfl rfl) rfl rfl ?_)|(refine uE (uA rfl rfl) rfl rfl ?_)|(refine uE (uF rfl rfl (te rfl) rfl (te rfl) (by decide)) rfl rfl ?_)|(refine uE (uL rfl rfl (uO (te rfl) rfl (qH _) rfl)) rfl rfl ?_)|(refine Xg.st (StF.boxAgg rfl rfl) rfl rfl ?_;rintro _ _ ⟨bx,rfl,rfl⟩)))))|(refine uD rfl ?_;refine hK _ _ ?_;clear hK K) | refine uS rfl ?_ | refine uR rfl (fun K hK=>?_) | refine X.block rfl ?_)
 obtain ⟨b1,hb1⟩ : ∃ b,b = bx:=⟨_,rfl⟩
 rw [← hb1]
 clear hb1
 rw [hn]
 refine X.lp rfl (fun q F' H' => ∃ (k : Nat) (out : Value) (Z : List Row),q = n - k∧k ≤ n∧TrvI (rngL k) out Z∧Z++⟨b1,0,cPr B p g,some 91,16⟩::H = H' ∧
   F' = [(1,.pointer (some ⟨b1,0,none⟩)),(3,out),(9,.int .i64 n),(10,.int .i64 (k : Nat))])
  n [(1,.pointer (some ⟨b1,0,none⟩)),(3,.slice none 0 0),(9,.int .i64 n),(10,.int .i64 (0 : Nat))] (⟨b1,0,cPr B p g,some 91,16⟩::H) (by repeat (first | exact uU _ | refine uV rfl ?_)) (by rw [← hlp];exact qR _) ⟨0,_,[],by omega,by omega,.inl ⟨rfl,rfl,rfl⟩,rfl,rfl⟩ ?_
 rintro _ _ _ ⟨k,out,Z,rfl,hk,hO,rfl,rfl⟩
 by_cases hlt : k < n
 ·have hlt' : (k : Int)<n:=by omega
  have hsn:=rngL_snoc k
  have hln:=rngL_len k
  obtain ⟨l,hlE⟩ : ∃ l,rngL k = l:=⟨_,rfl⟩
  rw [hlE] at hO hsn hln
  rcases hO with ⟨rfl,rfl,rfl⟩ | ⟨b0,q0,rfl,rfl⟩
  ·repeat' (first | (refine uP rfl ?_;(first | ((first | refine uN rfl ?_);(first | (refine uE (uQ (b:=true) rfl rfl rfl (congrArg some (decide_eq_true (by omega)))) rfl rfl ?_)|(refine Xg.st (StF.buildOne rfl el55 rfl rfl rfl (by decide) (by decide)) rfl rfl ?_;rintro _ _ ⟨bs,rfl,rfl⟩)|(refine Xg.st (StF.appendNew rfl el55 rfl rfl (by decide) rfl (Rd.own (qH _)) (by decide)) rfl rfl ?_;rintro _ _ ⟨bn,kn,rfl,rfl⟩)|(refine uE (EvF.add64 (p:=(k : Int)) (q:=1) rfl rfl rfl (by omega) (by omega)) rfl rfl ?_)|(refine uE (uM rfl rfl) rfl rfl ?_)|(refine uE (uA rfl rfl) rfl rfl ?_)))))|(refine uD rfl ?_;refine hK _ _ ?_;clear hK K) | refine uS rfl ?_ | refine uR rfl (fun K hK=>?_) | refine X.block rfl ?_ | refine X.skip rfl ?_ | (refine X.ite rfl rfl (fun hc=>?_);(first | (with_reducible refine Xb.t hc ?_)) <;> clear hc))
   refine ⟨_,_,_,(by rw [show (k : Int) + 1 = ((k + 1 : Nat) : Int) by omega];exact (by repeat (first | exact uU _ | refine uV rfl ?_))),?_,⟨k + 1,_,[⟨bn,0,([]++[(k : Int)]).flatMap cI,some 3,kn * 1⟩],rfl,by omega,?_,rfl,rfl⟩,by omega⟩
   ·exact qK _ (qC _ (qR _))
   ·rw [hsn];exact .inr ⟨_,_,rfl,rfl⟩
  ·have hlen : (l.flatMap cI).length = l.length * 1:=lenI l
   repeat' (first | (refine uP rfl ?_;(first | ((first | refine uN rfl ?_);(first | (refine uE (uQ (b:=true) rfl rfl rfl (congrArg some (decide_eq_true (by omega)))) rfl rfl ?_)|(refine Xg.st (StF.buildOne rfl el55 rfl rfl rfl (by decide) (by decide)) rfl rfl ?_;rintro _ _ ⟨bs,rfl,rfl⟩)|(refine Xg.st (StF.appendOwn (i:=1) rfl el55 rfl rfl rfl hlen rfl (Rd.own (qH _)) rfl (by omega)) rfl rfl ?_;rintro _ _ ⟨bn,kn,rfl,rfl⟩;dsimp only [List.eraseIdx])|(refine uE (EvF.add64 (p:=(k : Int)) (q:=1) rfl rfl rfl (by omega) (by omega)) rfl rfl ?_)|(refine uE (uM rfl rfl) rfl rfl ?_)|(refine uE (uA rfl rfl) rfl rfl ?_)))))|(refine uD rfl ?_;refine hK _ _ ?_;clear hK K) | refine uS rfl ?_ | refine uR rfl (fun K hK=>?_) | refine X.block rfl ?_ | refine X.skip rfl ?_ | (refine X.ite rfl rfl (fun hc=>?_);(first | (with_reducible refine Xb.t hc ?_)) <;> clear hc))
   refine ⟨_,_,_,(by rw [show (k : Int) + 1 = ((k + 1 : Nat) : Int) by omega];exact (by repeat (first | exact uU _ | refine uV rfl ?_))),?_,⟨k + 1,_,[⟨bn,0,(l++[(k : Int)]).flatMap cI,some 3,kn * 1⟩],rfl,by omega,?_,rfl,rfl⟩,by omega⟩
   ·rw [List.flatMap_append]
    exact qK _ (qC _ (qR _))
   ·rw [hsn];exact .inr ⟨_,_,by rw [List.length_append];rfl,rfl⟩
 ·obtain rfl : k = n:=by omega
  have hlt' : ¬ (k : Int)<k:=by omega
  have hln:=rngL_len k
  have hkf : ∀ S a c,SlE S a cI 1 (rngL k) → Fc Tryz.prog 90 [.slice a (rngL k).length c,.int .i64 (k : Nat),.func (.func 91) #[.agg (cPr B p g).toArray] #[]] S
    (fun v H' => ∃ out Z,TrvI ((fewG (fun L=>decO L T) (rngL k) (k + 1) 0).getD []) out Z∧v = .tuple #[out,.bool (fewG (fun L=>decO L T) (rngL k) (k + 1) 0).isSome]∧H' = Z++S):=fun S a c hS=>by
   have w:=fewest_specJ (fun L=>decO L T) (rngL k) a c k 91 [.agg (cPr B p g).toArray] [] S hS (by omega) (by omega) (fun acc a' c' H' hs ha hin hl=>kd H' acc a' c' ha (fun i hi=>by have:=rngL_in (hin i hi);omega) hl)
   rw [hln,Nat.min_self] at w
   rw [hln]
   exact w
  obtain ⟨R,hR⟩ : ∃ R,R = fewG (fun L=>decO L T) (rngL k) (k + 1) 0:=⟨_,rfl⟩
  rw [← hR] at hkf ⊢
  clear hR
  obtain ⟨l,hlE⟩ : ∃ l,rngL k = l:=⟨_,rfl⟩
  rw [hlE] at hO hkf hln
  obtain ⟨a,c,rfl,hsl⟩:=TrvI.sl (H:=⟨b1,0,cPr B p g,some 91,16⟩::H) hO
  have hB1 : (⟨b1,0,cPr B p g,some 91,16⟩ : Row) ∈ Z++⟨b1,0,cPr B p g,some 91,16⟩::H:=List.mem_append_right _ (qH _)
  repeat' (first | (refine uP rfl ?_;(first | ((first | refine uN rfl ?_);(first | (refine uE (uQ (b:=false) rfl rfl rfl (congrArg some (decide_eq_false (by omega)))) rfl rfl ?_)|(refine uE (uL (v := .int .i64 (k : Nat)) rfl rfl (uO (te rfl) rfl hB1 (by show some (Value.int .i64 B.layers)=_;rw [hn]))) rfl rfl ?_)|(refine uE (uL rfl rfl (uW (te rfl) rfl hB1 hlp)) rfl rfl ?_)|(refine uE (EvF.makeFunc (fl:=[_]) rfl (Args.cons rfl Args.nil) Args.nil) rfl rfl ?_)|(refine uC (uT rfl (Args.cons rfl (Args.cons rfl (Args.cons rfl Args.nil)))) rfl rfl (hkf _ a c hsl) ?_;rintro _ _ ⟨out',Z',hT',rfl,rfl⟩)|(refine uE (uM rfl rfl) rfl rfl ?_)|(refine uE (uA rfl rfl) rfl rfl ?_)|(refine uE (uF rfl rfl (te rfl) rfl (te rfl) (by decide)) rfl rfl ?_)|(refine uE (uX rfl rfl rfl) rfl rfl ?_)))))|(refine uD rfl ?_;refine hK _ _ ?_;clear hK K) | refine uS rfl ?_ | refine uR rfl (fun K hK=>?_)|(refine X.brk rfl ?_;repeat (first | refine blockX_hit rfl ?_ | refine blockX_miss (by decide) ?_)) | refine X.ret rfl ?_ | (refine X.ite rfl rfl (fun hc=>?_);(first | (with_reducible refine Xb.f hc ?_)) <;> clear hc))
  exact ret_one (by simp) Tryz.results89 rfl (H' := Z'++H) (List.Sublist.append (qR _) ((List.sublist_cons_self _ _).trans (List.sublist_append_right _ _))) ⟨Z',hT',rfl⟩
noncomputable def decideB (B : Bl) : List Int:=lIf (openE B ⟨[],[],[],[]⟩ = 0) (decL (truthsB B) B.layers.toNat)
set_option maxHeartbeats 2000000 in
theorem kDecide_spec (B : Bl) (p : Pb) (H : List Row) (hB : BlOk H B p) :
  Fc Tryz.prog 41 [.agg (cBl B p).toArray] H (fun v H' => ∃ out Z,TrvI (decideB B) out Z∧v = .tuple #[out,.int .i64 (openE B ⟨[],[],[],[]⟩)]∧H' = Z++H):=by
 have hB1 : ∀ r1,BlOk (r1::H) B p:=fun r1=>hB.sub (fun _ h=>qT _ h)
 unfold decideB
 have kt:=fun r1=>toldI_spec B p ⟨[],[],[],[]⟩ ⟨none,0,none,0,none,0,none,0⟩ 89 [] (decL (truthsB B) B.layers.toNat) (r1::H) (hB1 r1) ⟨sleNil,sleNil,sleNil,sleNil,by simp,by simp,by simp,by simp⟩ (fun h0 H' hs=>decide1_spec B p (gradesOf B) H' (gradesOf_len (openE_zero h0).1) (openE_zero h0).1.h5 (gradesOf_bd (openE_zero h0).1))
 obtain ⟨rr,hrr⟩ : ∃ x,lIf (openE B ⟨[],[],[],[]⟩ = 0) (decL (truthsB B) B.layers.toNat)=x:=⟨_,rfl⟩
 rw [hrr] at kt ⊢
 refine Fc.mk (callable Tryz.call41) Tryz.func41 rfl Tryz.ntmps41 rfl ?_;dsimp only [fr]
 repeat' (first | (refine uP rfl ?_;(first | ((first | refine uN rfl ?_);(first | (refine uE (EvF.build (cs:=cCa ⟨[],[],[],[]⟩ ⟨none,0,none,0,none,0,none,0⟩) rfl ArgsP.nil (te rfl) (Places.cons (te rfl) (Places.cons (te rfl) (Places.cons (te rfl) (Places.cons (te rfl) Places.nil)))) Tryz.zeroValue88 rfl) rfl rfl ?_)|(refine uC (uT rfl (Args.cons rfl (Args.cons rfl (Args.cons rfl Args.nil)))) rfl rfl (kt _) ?_;rintro _ _ ⟨out,Z,hZ,rfl,rfl⟩)|(refine uE (uA rfl rfl) rfl rfl ?_)|(refine uE (uL rfl rfl (uW (te rfl) rfl (qH _) rfl)) rfl rfl ?_)|(refine uE (uX rfl rfl rfl) rfl rfl ?_)|(refine Xg.st (StF.boxAgg rfl rfl) rfl rfl ?_;rintro _ _ ⟨bx,rfl,rfl⟩)))))|(refine uD rfl ?_;refine hK _ _ ?_;clear hK K) | refine uS rfl ?_ | refine uR rfl (fun K hK=>?_) | refine X.ret rfl ?_)
 exact ret_two (by simp) Tryz.results41 rfl rfl (H' := Z++H) (List.Sublist.append (qR _) (List.sublist_cons_self _ _)) ⟨out,Z,hZ,rfl,rfl⟩
end Go.Proofs.YtbpcbdbclijomaaGreat
namespace Go.Fw
open Go Go.RowKit
section
variable {P : Program} {n : Nat} {o : Oper} {F : FS} {H : List Row}
/-- the greater of two numbers of any kind -/
theorem EvF.maxK {T T' : TypeId} {x y : Operand} {k : IntKind} {p q : Int} (h : o.op = .call { callee := .builtin .max,args := #[x,y],argTypes := #[T,T'] }) (hx : evF F x = some (.int k p)) (hy : evF F y = some (.int k q)) : EvF P n H F o (.int k (max p q)):=by
 unfold EvF EvOp
 intro t ha B w0 w hS
 have e1:=ha.ev hx
 have e2:=ha.ev hy
 have : (if q > p then q else p)=max p q:=by omega
 simp [execOp,h,e1,e2,resolve,invoke,builtin,Builtin.max_,Builtin.max2,List.foldlM,this]
theorem wrap_u8 {m : Int} (h1 : 0 ≤ m) (h2 : m ≤ 255) : IntKind.u8.wrap m = m:=by
 simp only [IntKind.wrap,IntKind.bits,IntKind.signed]
 have : m % 2 ^ 8 = m:=Int.emod_eq_of_lt h1 (by omega)
 simp;omega
theorem EvF.subU8 {T T' : TypeId} {x y : Operand} {p q : Int} (h : o.op = .binOp .sub T x y T') (hx : evF F x = some (.int .u8 p)) (hy : evF F y = some (.int .u8 q))
  (h1 : 0 ≤ p - q) (h2 : p - q ≤ 255) : EvF P n H F o (.int .u8 (p - q)):=by
 have:=EvF.arith (P:=P) (n:=n) (H:=H) (r:=IntKind.u8.wrap (p - q)) h hx hy rfl
 rwa [wrap_u8 h1 h2] at this
end
end Go.Fw
namespace Go.Proofs.YtbpcbdbclijomaaGreat
open Go Go.Fw
set_option maxRecDepth 10000
noncomputable def dryOf (B : Bl) : Sp:=⟨(wts B).getD 0 0,(wts B).getD ((wts B).length - 1) 0⟩
def tsDry : List TOp:=[⟨some 6,[],[],[]⟩,⟨some 7,[0],[0],[]⟩,⟨some 8,[0,1],[1],[]⟩,⟨some 9,[],[],[]⟩,⟨some 10,[],[],[]⟩,⟨some 11,[4],[4],[]⟩,⟨some 12,[4,5],[5],[]⟩,⟨some 13,[3,4,5,6],[3,6],[]⟩,⟨some 14,[3,4,5,6,7],[7],[]⟩,⟨some 15,[0,1,2,3,4,5,6,7,8],[2,8],[]⟩,⟨none,[0,1,2,3,4,5,6,7,8,9],[9],[11]⟩,⟨none,[],[],[]⟩]
def rowsDry (b2 : Nat) (s : Sp) (k : Nat) (_ : Env) : List Row :=
 match k with
 | 10=>[⟨b2,0,cSp s,some 24,2⟩]
 | 11=>[⟨b2,0,[.int .i64 0,.int .i64 0],some 24,2⟩]
 | _=>[]
set_option maxHeartbeats 4000000 in
theorem dry_spec (B : Bl) (p : Pb) (g : List Sp) (H : List Row) (hd : 1 ≤ B.dlo∧B.dlo ≤ B.dhi∧B.dhi ≤ 600) (hw : ∀ x ∈ B.weighs,0 ≤ x.val∧x.val ≤ 10000) (hg : g.length = 5) (hB : BlOk H B p) (hne : 0 < (wts B).length) :
  Fc Tryz.prog 66 [.agg (cPr B p g).toArray] H (fun v H' => v = .agg (cSp (dryOf B)).toArray∧H' = H):=by
 have hB2 : ∀ r1 r2,BlOk (r1::r2::H) B p:=fun r1 r2=>hB.sub (fun _ h=>qT _ (qT _ h))
 have hwl : (wts B).length ≤ 1000000:=by unfold wts;have:=wl_len (okW B) B.dlo (B.dhi - B.dlo + 1).toNat;omega
 have hf : (wts B)[0]? = some ((wts B).getD 0 0):=by simp [List.getD,List.getElem?_eq_getElem hne]
 have hl : (wts B)[(((wts B).length : Int) - 1).toNat]? = some ((wts B).getD ((wts B).length - 1) 0):=by
  rw [show (((wts B).length : Int) - 1).toNat = (wts B).length - 1 by omega]
  simp [List.getD,List.getElem?_eq_getElem (show (wts B).length - 1 < (wts B).length by omega)]
 refine Fc.mk (callable Tryz.call66) Tryz.func66 rfl Tryz.ntmps66 rfl ?_;dsimp only [fr]
 refine uS rfl ?_;refine uR rfl (fun K hK=>?_);repeat' (first | (refine uP rfl ?_;(first | ((first | refine uN rfl ?_);(first | (refine Xg.st (StF.boxAgg rfl rfl) rfl rfl ?_;rintro _ _ ⟨bx,rfl,rfl⟩)|(refine Xg.st (StF.alloc rfl Tryz.zeroValue24 rfl) rfl rfl ?_;rintro _ _ ⟨bx,rfl,rfl⟩)))))|(refine uD rfl ?_;refine hK _ _ ?_;clear hK K))
 rename_i b1
 rename Nat=>b2
 repeat' (first | (refine uP rfl ?_;(first | ((first | refine uN rfl ?_);(first | (refine uE (uL rfl rfl (uW (te rfl) rfl (qT _ (qH _)) (lenPr hg))) rfl rfl ?_)|(refine uC (uT rfl (by (repeat (first | exact Args.nil | refine Args.cons rfl ?_));done)) rfl rfl (weights_spec B p g _ hd hw hg (hB2 _ _)) ?_;rintro _ _ ⟨Z,hO,rfl⟩)|(refine uE (uA rfl rfl) rfl rfl ?_)))))|(refine uD rfl ?_;refine hK _ _ ?_;clear hK K) | refine uS rfl ?_ | refine uR rfl (fun K hK=>?_))
 rcases hO with ⟨h0,_,_⟩ | ⟨t,q,rfl,rfl⟩
 ·rw [h0] at hne;exact absurd hne (Nat.lt_irrefl _)
 obtain ⟨f,hfE⟩ : ∃ f,f = (wts B).getD 0 0:=⟨_,rfl⟩
 obtain ⟨e,heE⟩ : ∃ e,e = (wts B).getD ((wts B).length - 1) 0:=⟨_,rfl⟩
 unfold dryOf
 rw [← hfE] at hf ⊢
 rw [← heE] at hl ⊢
 repeat' (first | fail)
 simp only [List.cons_append,List.nil_append]
 refine X.permH (H' := ⟨b2,0,[.int .i64 0,.int .i64 0],some 24,2⟩::⟨t,0,(wts B).flatMap cI,some 3,q * 1⟩::⟨b1,0,cPr B p g,some 91,(cPr B p g).length⟩::H) (List.Perm.swap _ _ _) ?_
 have hs : ∀ S,SlE (⟨t,0,(wts B).flatMap cI,some 3,q * 1⟩::S) (some ⟨t,0,none⟩) cI 1 (wts B):=fun S=>SlE.ofRow (qH _) (fun _ _=>rfl)
 refine X.regionOb tsDry [2,3] [(2,.pointer (some ⟨b2,0,none⟩)),(3,.slice (some ⟨t,0,none⟩) (wts B).length q)]
  (valL [.slice (some ⟨t,0,none⟩) (wts B).length q,.pointer (some ⟨t,0 + (0 : Int).toNat * 1,none⟩),.int .i64 f,.slice (some ⟨t,0,none⟩) (wts B).length q,.slice (some ⟨t,0,none⟩) (wts B).length q,.int .i64 (wts B).length,.int .i64 ((wts B).length - 1),.pointer (some ⟨t,0 + (((wts B).length : Int) - 1).toNat * 1,none⟩),.int .i64 e,.agg (cSp ⟨f,e⟩).toArray])
  (rowsDry b2 ⟨f,e⟩) (fun _=>(0,0)) (⟨t,0,(wts B).flatMap cI,some 3,q * 1⟩::⟨b1,0,cPr B p g,some 91,(cPr B p g).length⟩::H) rfl mixed (by repeat (first | exact uU _ | refine uV rfl ?_)) rfl (by kernel_rfl) (fun _ _ _ _ _ _=>⟨rfl,rfl⟩) (qR _) ?_ ?_
 ·repeat' (first | exact AllF.done rfl | (refine AllF.step rfl ?_ ?_;·(first | fail | ((first | refine Ob.ng rfl ?_);(first | exact uK (fun env R hR=>by exact ⟨_,uM rfl rfl,rfl⟩) rfl (fun _=>rfl) | exact uK (fun env R hR=>by exact ⟨_,uY rfl rfl (te rfl),rfl⟩) rfl (fun _=>rfl)|(exact uK (fun env S hS=>⟨_,EvF.sub64 (p:=((wts B).length : Int)) (q:=1) rfl rfl rfl (by omega) (by omega),rfl⟩) rfl (fun _=>rfl))|(exact uK (fun env S hS=>⟨_,uJ (T:=49) (e:=3) (i:=0) (off:=0) (b:=t) (len:=(wts B).length) (ti:=⟨.int .i64,1,8⟩) rfl rfl rfl (te rfl) (te rfl) (by omega) (by omega),rfl⟩) rfl (fun _=>rfl))|(exact uK (fun env S hS=>⟨_,uJ (T:=49) (e:=3) (i:=((wts B).length : Int) - 1) (off:=0) (b:=t) (len:=(wts B).length) (ti:=⟨.int .i64,1,8⟩) rfl rfl rfl (te rfl) (te rfl) (by omega) (by omega),rfl⟩) rfl (fun _=>rfl))|(exact uK (fun env S hS=>⟨.int .i64 f,uL rfl rfl (LoadV.el0 (n:=0) (hs _) hf (te rfl) rfl (fun _ h=>hS _ h) rfl),rfl⟩) rfl (fun _=>rfl))|(exact uK (fun env S hS=>⟨.int .i64 e,uL rfl rfl (LoadV.el0 (n:=(((wts B).length : Int) - 1).toNat) (hs _) hl (te rfl) rfl (fun _ h=>hS _ h) rfl),rfl⟩) rfl (fun _=>rfl))|(exact uK (fun env S hS=>⟨_,EvF.build (cs:=cSp ⟨f,e⟩) rfl (ArgsP.cons rfl (ArgsP.cons rfl ArgsP.nil)) (te rfl) (Places.cons (te rfl) (Places.cons (te rfl) Places.nil)) Tryz.zeroValue24 rfl,rfl⟩) rfl (fun _=>rfl))|(exact fun env S hS=>(uZ (i:=0) (vs:=cSp ⟨f,e⟩) (cs:=[.int .i64 0,.int .i64 0]) rfl rfl rfl (te rfl) rfl rfl rfl rfl).op.mono (fun v H' ⟨hv,hH⟩=>⟨(0,0),fun h=>absurd rfl h,by rw [hH];exact List.Perm.refl _⟩)))))))
 ·intro env t' ha hv
  refine ⟨_,ha,?_⟩
  show X _ _ _ _ (⟨b2,0,cSp ⟨f,e⟩,some 24,2⟩::⟨t,0,(wts B).flatMap cI,some 3,q * 1⟩::⟨b1,0,cPr B p g,some 91,(cPr B p g).length⟩::H) _
  repeat' (first | refine X.ret rfl ?_)
  exact ret_one (by simp) Tryz.results66 ⟨_,rfl,uW (te rfl) rfl (qH _) rfl⟩ (H' := H) (by (repeat (first | exact qR _ | apply qC));done) ⟨rfl,rfl⟩
theorem wl_in (ok : Int → Bool) (lo : Int) : ∀ k,∀ x ∈ wl ok lo k,lo ≤ x∧x < lo + k
 | 0,x,h=>absurd h List.not_mem_nil
 | k + 1,x,h=>by
  simp only [wl,List.mem_append] at h
  rcases h with h | h
  ·have:=wl_in ok lo k x h
   omega
  ·split at h
   ·rw [List.mem_singleton] at h;omega
   ·exact absurd h List.not_mem_nil
theorem dryOf_in {B : Bl} (hd : 1 ≤ B.dlo∧B.dlo ≤ B.dhi∧B.dhi ≤ 600) (hne : 0 < (wts B).length) : (1 ≤ (dryOf B).lo∧(dryOf B).lo ≤ 600)∧1 ≤ (dryOf B).hi∧(dryOf B).hi ≤ 600:=by
 have h1 : ∀ x ∈ wts B,1 ≤ x∧x ≤ 600:=fun x hx=>by
  have:=wl_in (okW B) B.dlo (B.dhi - B.dlo + 1).toNat x hx
  omega
 have h2 : (wts B).getD 0 0 ∈ wts B:=by simp [List.getD,List.getElem?_eq_getElem hne]
 have h3 : (wts B).getD ((wts B).length - 1) 0 ∈ wts B:=by
  have hl : (wts B).length - 1 < (wts B).length:=by omega
  have:=List.getElem_mem hl
  simp [List.getD,List.getElem?_eq_getElem hl]
 exact ⟨h1 _ h2,h1 _ h3⟩
noncomputable def wetOf (B : Bl) (x : Wg) : Sp:=⟨(dampOf x (dryOf B).hi).lo,(dampOf x (dryOf B).lo).hi⟩
def tsWet : List TOp:=[⟨some 8,[],[],[]⟩,⟨some 9,[],[],[]⟩,⟨some 10,[1],[1],[]⟩,⟨some 11,[0,1,2],[0,2],[]⟩,⟨some 12,[0,1,2,3],[3],[]⟩,⟨some 13,[],[],[]⟩,⟨some 14,[],[],[]⟩,⟨some 15,[6],[6],[]⟩,⟨some 16,[0,1,2,3,5,6,7],[5,7],[]⟩,⟨some 17,[0,1,2,3,5,6,7,8],[8],[]⟩,⟨some 18,[0,1,2,3,4,5,6,7,8,9],[4,9],[]⟩,⟨none,[0,1,2,3,4,5,6,7,8,9,10],[10],[12]⟩,⟨none,[],[],[]⟩]
def rowsWet (b4 : Nat) (s : Sp) (k : Nat) (_ : Env) : List Row :=
 match k with
 | 11=>[⟨b4,0,cSp s,some 24,2⟩]
 | 12=>[⟨b4,0,[.int .i64 0,.int .i64 0],some 24,2⟩]
 | _=>[]
set_option maxHeartbeats 4000000 in
theorem wet_spec (B : Bl) (p : Pb) (g : List Sp) (x : Wg) (H : List Row) (hd : 1 ≤ B.dlo∧B.dlo ≤ B.dhi∧B.dhi ≤ 600) (hw : ∀ x ∈ B.weighs,0 ≤ x.val∧x.val ≤ 10000) (hx : 0 ≤ x.val∧x.val ≤ 10000) (hg : g.length = 5) (hB : BlOk H B p) (hne : 0 < (wts B).length) :
  Fc Tryz.prog 53 [.agg (cPr B p g).toArray,.agg (cDr x).toArray] H (fun v H' => v = .agg (cSp (wetOf B x)).toArray∧H' = H):=by
 obtain ⟨⟨d1,d2⟩,d3,d4⟩:=dryOf_in hd hne
 unfold wetOf
 obtain ⟨D,hD⟩ : ∃ D,D = dryOf B:=⟨_,rfl⟩
 have hds:=fun S (hS : BlOk S B p)=>dry_spec B p g S hd hw hg hS hne
 rw [← hD] at d1 d2 d3 d4 hds ⊢
 refine Fc.mk (callable Tryz.call53) Tryz.func53 rfl Tryz.ntmps53 rfl ?_;dsimp only [fr]
 refine uS rfl ?_;refine uR rfl (fun K hK=>?_);repeat' (first | (refine uP rfl ?_;(first | ((first | refine uN rfl ?_);(first | (refine Xg.st (StF.boxAgg rfl rfl) rfl rfl ?_;rintro _ _ ⟨bx,rfl,rfl⟩)|(refine Xg.st (StF.alloc rfl Tryz.zeroValue24 rfl) rfl rfl ?_;rintro _ _ ⟨bx,rfl,rfl⟩)))))|(refine uD rfl ?_;refine hK _ _ ?_;clear hK K))
 rename_i b2 b3
 rename Nat=>b4
 repeat' (first | (refine uP rfl ?_;(first | ((first | refine uN rfl ?_);(first | (refine uE (uL rfl rfl (uW (te rfl) rfl (qT _ (qT _ (qH _))) (lenPr hg))) rfl rfl ?_)|(refine uC (uT rfl (Args.cons rfl Args.nil)) rfl rfl (hds _ (hB.sub (fun _ h=>qT _ (qT _ (qT _ h))))) ?_;rintro _ H9 ⟨rfl,hH9⟩;subst H9)|(refine Xg.st (StF.alloc rfl Tryz.zeroValue24 rfl) rfl rfl ?_;rintro _ _ ⟨bx,rfl,rfl⟩)|(refine Xg.st0 (uZ (i:=0) rfl rfl rfl (te rfl) rfl rfl rfl rfl) rfl ?_;rintro _ _ ⟨rfl,rfl⟩;dsimp only [List.set])))))|(refine uD rfl ?_;refine hK _ _ ?_;clear hK K) | refine uS rfl ?_ | refine uR rfl (fun K hK=>?_))
 rename Nat=>b5
 refine X.permH (H' := ⟨b4,0,[.int .i64 0,.int .i64 0],some 24,2⟩::⟨b5,0,cSp D,some 24,2⟩::⟨b3,0,cDr x,some 41,4⟩::⟨b2,0,cPr B p g,some 91,(cPr B p g).length⟩::H) (List.Perm.swap _ _ _) ?_
 refine X.regionOb tsWet [3,4,5] [(3,.pointer (some ⟨b3,0,none⟩)),(4,.pointer (some ⟨b4,0,none⟩)),(5,.pointer (some ⟨b5,0,none⟩))]
  (valL [.agg (cDr x).toArray,.pointer (some ⟨b5,0 + 1,none⟩),.int .i64 D.hi,.agg (cSp (dampOf x D.hi)).toArray,.int .i64 (dampOf x D.hi).lo,.agg (cDr x).toArray,.pointer (some ⟨b5,0 + 0,none⟩),.int .i64 D.lo,.agg (cSp (dampOf x D.lo)).toArray,.int .i64 (dampOf x D.lo).hi,.agg (cSp ⟨(dampOf x D.hi).lo,(dampOf x D.lo).hi⟩).toArray])
  (rowsWet b4 ⟨(dampOf x D.hi).lo,(dampOf x D.lo).hi⟩) (fun _=>(0,0)) (⟨b5,0,cSp D,some 24,2⟩::⟨b3,0,cDr x,some 41,4⟩::⟨b2,0,cPr B p g,some 91,(cPr B p g).length⟩::H) rfl mixed (by repeat (first | exact uU _ | refine uV rfl ?_)) rfl (by kernel_rfl) (fun _ _ _ _ _ _=>⟨rfl,rfl⟩) (qR _) ?_ ?_
 ·repeat' (first | exact AllF.done rfl | (refine AllF.step rfl ?_ ?_;·(first | fail | ((first | refine Ob.ng rfl ?_);(first | exact uK (fun env R hR=>by exact ⟨_,uF rfl rfl (te rfl) rfl (te rfl) (by decide),rfl⟩) rfl (fun _=>rfl) | exact uK (fun env R hR=>by exact ⟨_,uL rfl rfl (uO (te rfl) rfl (hR _ (qH _)) rfl),rfl⟩) rfl (fun _=>rfl) | exact uK (fun env R hR=>by exact ⟨_,uL rfl rfl (uW (te rfl) rfl (hR _ (qT _ (qH _))) rfl),rfl⟩) rfl (fun _=>rfl)|(exact fun env S hS=>(OpF.call (uT rfl (Args.cons rfl (Args.cons rfl Args.nil))) (damp_spec x D.hi S hx (by omega))).mono (fun v H' ⟨hv,hH⟩=>⟨(0,0),fun _=>hv,by rw [hH];exact List.Perm.refl _⟩))|(exact fun env S hS=>(OpF.call (uT rfl (Args.cons rfl (Args.cons rfl Args.nil))) (damp_spec x D.lo S hx (by omega))).mono (fun v H' ⟨hv,hH⟩=>⟨(0,0),fun _=>hv,by rw [hH];exact List.Perm.refl _⟩))|(exact uK (fun env S hS=>⟨_,EvF.field rfl rfl (te rfl) rfl (te rfl) rfl rfl,rfl⟩) rfl (fun _=>rfl))|(exact uK (fun env S hS=>⟨_,EvF.build (cs:=cSp ⟨(dampOf x D.hi).lo,(dampOf x D.lo).hi⟩) rfl (ArgsP.cons rfl (ArgsP.cons rfl ArgsP.nil)) (te rfl) (Places.cons (te rfl) (Places.cons (te rfl) Places.nil)) Tryz.zeroValue24 rfl,rfl⟩) rfl (fun _=>rfl))|(exact fun env S hS=>(uZ (i:=0) (vs:=cSp ⟨(dampOf x D.hi).lo,(dampOf x D.lo).hi⟩) (cs:=[.int .i64 0,.int .i64 0]) rfl rfl rfl (te rfl) rfl rfl rfl rfl).op.mono (fun v H' ⟨hv,hH⟩=>⟨(0,0),fun h=>absurd rfl h,by rw [hH];exact List.Perm.refl _⟩)))))))
 ·intro env t' ha hv
  refine ⟨_,ha,?_⟩
  show X _ _ _ _ (⟨b4,0,cSp ⟨(dampOf x D.hi).lo,(dampOf x D.lo).hi⟩,some 24,2⟩::⟨b5,0,cSp D,some 24,2⟩::⟨b3,0,cDr x,some 41,4⟩::⟨b2,0,cPr B p g,some 91,(cPr B p g).length⟩::H) _
  repeat' (first | refine X.ret rfl ?_)
  exact ret_one (by simp) Tryz.results53 ⟨_,rfl,uW (te rfl) rfl (qH _) rfl⟩ (H' := H) (by (repeat (first | exact qR _ | apply qC));done) ⟨rfl,rfl⟩
noncomputable def damperOf (B : Bl) (x : Wg) (d : Int) : Int:=knb (decide ((wetOf B x).hi > d)) (decide ((wetOf B x).lo ≤ d))
set_option maxHeartbeats 4000000 in
theorem wasDamper_spec (B : Bl) (p : Pb) (g : List Sp) (x : Wg) (d : Int) (H : List Row) (hd : 1 ≤ B.dlo∧B.dlo ≤ B.dhi∧B.dhi ≤ 600) (hw : ∀ x ∈ B.weighs,0 ≤ x.val∧x.val ≤ 10000) (hx : 0 ≤ x.val∧x.val ≤ 10000) (hg : g.length = 5) (hB : BlOk H B p) (hne : 0 < (wts B).length) :
  Fc Tryz.prog 57 [.agg (cPr B p g).toArray,.agg (cDr x).toArray,.int .i64 d] H (fun v H' => v = .int .u8 (damperOf B x d)∧H' = H):=by
 unfold damperOf
 have hws:=fun S (hS : BlOk S B p)=>wet_spec B p g x S hd hw hx hg hS hne
 obtain ⟨W,hW⟩ : ∃ W,W = wetOf B x:=⟨_,rfl⟩
 rw [← hW] at hws ⊢
 refine Fc.mk (callable Tryz.call57) Tryz.func57 rfl Tryz.ntmps57 rfl ?_;dsimp only [fr]
 refine uS rfl ?_;refine uR rfl (fun K hK=>?_);repeat' (first | (refine uP rfl ?_;(first | ((first | refine uN rfl ?_);(first | (refine uE (uA rfl rfl) rfl rfl ?_)|(refine Xg.st (StF.boxAgg rfl rfl) rfl rfl ?_;rintro _ _ ⟨bx,rfl,rfl⟩)))))|(refine uD rfl ?_;refine hK _ _ ?_;clear hK K))
 rename_i b3
 rename Nat=>b4
 repeat' (first | (refine uP rfl ?_;(first | ((first | refine uN rfl ?_);(first | (refine uE (uL rfl rfl (uW (te rfl) rfl (qT _ (qH _)) (lenPr hg))) rfl rfl ?_)|(refine uC (uT rfl (Args.cons rfl (Args.cons rfl Args.nil))) rfl rfl (hws _ (hB.sub (fun _ h=>qT _ (qT _ h)))) ?_;rintro _ H9 ⟨rfl,hH9⟩;subst H9)|(refine uC (uT rfl (Args.cons rfl (Args.cons rfl Args.nil))) rfl rfl (lKnown_spec _ _ _) ?_;rintro _ H9 ⟨rfl,hH9⟩;subst H9)|(refine uE (uM rfl rfl) rfl rfl ?_)|(refine uE (uA rfl rfl) rfl rfl ?_)|(refine uE (uQ rfl rfl rfl rfl) rfl rfl ?_)|(refine uE (uF rfl rfl (te rfl) rfl (te rfl) (by decide)) rfl rfl ?_)|(refine uE (uL rfl rfl (uO (te rfl) rfl (qH _) rfl)) rfl rfl ?_)|(refine uE (uL rfl rfl (uW (te rfl) rfl (qH _) rfl)) rfl rfl ?_)|(refine Xg.st (StF.alloc rfl Tryz.zeroValue24 rfl) rfl rfl ?_;rintro _ _ ⟨bx,rfl,rfl⟩)|(refine Xg.st0 (uZ (i:=0) rfl rfl rfl (te rfl) rfl rfl rfl rfl) rfl ?_;rintro _ _ ⟨rfl,rfl⟩;dsimp only [List.set])))))|(refine uD rfl ?_;refine hK _ _ ?_;clear hK K) | refine uS rfl ?_ | refine uR rfl (fun K hK=>?_) | refine X.ret rfl ?_)
 refine ret_one (by simp) Tryz.results57 rfl (H' := H) (by (repeat (first | exact qR _ | apply qC));done) ?_;simp only [and_true,true_and]
/-- the weighing with a number -/
def wgz : Dr:=⟨0,0,0,0⟩
def numW (l : List Dr) (n : Int) : Dr:=(l.find? (fun e=>decide (e.number = n))).getD wgz
theorem numW_in {l : List Dr} {n : Int} (h : ∀ x ∈ l,0 ≤ x.val∧x.val ≤ 10000) : 0 ≤ (numW l n).val∧(numW l n).val ≤ 10000:=by
 unfold numW
 cases hf : l.find? (fun e=>decide (e.number = n)) with
 | none=>exact ⟨Int.le_refl 0,by show (0 : Int)≤10000;decide⟩
 | some e=>exact h e (List.mem_of_find?_eq_some hf)
set_option maxHeartbeats 4000000 in
theorem numbered_spec (l : List Dr) (a : Option Addr) (c : Nat) (n : Int) (H : List Row) (hl : SlE H a cDr 4 l) (hb : l.length ≤ 1000000) :
  Fc Tryz.prog 96 [.slice a l.length c,.int .i64 n,.func (.func 72) #[] #[]] H (fun v H' => v = .agg (cDr (numW l n)).toArray∧H' = H):=by
 refine Fc.mk (callable Tryz.call96) Tryz.func96 rfl Tryz.ntmps96 rfl ?_;dsimp only [fr]
 repeat' (first | (refine uP rfl ?_;(first | ((first | refine uN rfl ?_);(first | (refine Xg.st (StF.alloc rfl Tryz.zeroValue41 rfl) rfl rfl ?_;rintro _ _ ⟨b6,rfl,rfl⟩)|(refine uE (uM rfl rfl) rfl rfl ?_)|(refine uE (uY rfl rfl (te rfl)) rfl rfl ?_)))))|(refine uD rfl ?_;refine hK _ _ ?_;clear hK K) | refine uS rfl ?_ | refine uR rfl (fun K hK=>?_) | refine X.block rfl ?_)
 refine X.lp rfl (fun q F' H' => ∃ k : Nat,q = l.length - k∧k ≤ l.length∧l.find? (fun e=>decide (e.number = n)) = (l.drop k).find? (fun e=>decide (e.number = n))∧⟨b6,0,cDr wgz,some 41,4⟩::H = H' ∧
   F' = [(1,.int .i64 n),(2,.func (.func 72) #[] #[]),(6,.pointer (some ⟨b6,0,none⟩)),(10,.slice a l.length c),(11,.int .i64 l.length),(12,.int .i64 (k : Nat))])
  l.length [(1,.int .i64 n),(2,.func (.func 72) #[] #[]),(6,.pointer (some ⟨b6,0,none⟩)),(10,.slice a l.length c),(11,.int .i64 l.length),(12,.int .i64 (0 : Nat))] _ (by repeat (first | exact uU _ | refine uV rfl ?_)) (qR _) ⟨0,by omega,by omega,rfl,rfl,rfl⟩ ?_
 rintro _ _ _ ⟨k,rfl,hk,hf,rfl,rfl⟩
 have hl1 : ∀ r,SlE (r::H) a cDr 4 l:=fun r=>hl.sub (fun _ h=>qT _ h)
 by_cases hlt : k < l.length
 ·have hlt' : (k : Int)<l.length:=by omega
  obtain ⟨b,off,e,rfl,he⟩:=hl.elem (i:=k) hlt
  rw [drop_cons he,List.find?_cons] at hf
  by_cases hq : e.number = n
  ·have hnw : numW l n = e:=by unfold numW;rw [hf,decide_eq_true hq];rfl
   rw [hnw]
   repeat' (first | (refine uP rfl ?_;(first | ((first | refine uN rfl ?_);(first | (refine uE (uQ (b:=true) rfl rfl rfl (congrArg some (decide_eq_true (by omega)))) rfl rfl ?_)|(refine uE (uL rfl rfl (LoadV.elA0 (hl1 _) he (te rfl) rfl (fun _ hm=>hm) rfl)) rfl rfl ?_)|(refine Xg.st (StF.alloc rfl Tryz.zeroValue41 rfl) rfl rfl ?_;rintro _ _ ⟨b8,rfl,rfl⟩)|(refine uC (EnF.dyn0 rfl rfl (Args.cons rfl Args.nil)) rfl rfl (numberWg_spec e _) ?_;rintro _ H9 ⟨rfl,hH9⟩;subst H9)|(refine uE (uM rfl rfl) rfl rfl ?_)|(refine uE (uJ rfl rfl rfl (te rfl) (te rfl) (by omega) (by omega)) rfl rfl ?_)|(refine uE (uL rfl rfl (uW (te rfl) rfl (qH _) rfl)) rfl rfl ?_)|(refine Xg.st0 (uZ (i:=0) rfl rfl rfl (te rfl) rfl rfl rfl rfl) rfl ?_;rintro _ _ ⟨rfl,rfl⟩;dsimp only [List.set])|(refine Xg.st0 (uZ (i:=1) rfl rfl rfl (te rfl) rfl rfl rfl rfl) rfl ?_;rintro _ _ ⟨rfl,rfl⟩;dsimp only [List.set])))))|(refine uD rfl ?_;refine hK _ _ ?_;clear hK K) | refine uS rfl ?_ | refine uR rfl (fun K hK=>?_) | refine X.block rfl ?_ | refine X.skip rfl ?_ | refine X.ret rfl ?_ | (refine X.ite rfl rfl (fun hc=>?_);(first | (with_reducible refine Xb.t hc ?_)) <;> clear hc))
   exact ret_one (v := .agg (cDr e).toArray) (by simp) Tryz.results96 ⟨_,rfl,uW (te rfl) rfl (by repeat (first | exact qH _ | apply qT)) rfl⟩ (H' := H) (by (repeat (first | exact qR _ | apply qC));done) ⟨rfl,rfl⟩
  ·rw [decide_eq_false hq] at hf
   repeat' (first | (refine uP rfl ?_;(first | ((first | refine uN rfl ?_);(first | (refine uE (uQ (b:=true) rfl rfl rfl (congrArg some (decide_eq_true (by omega)))) rfl rfl ?_)|(refine uE (uQ (b:=false) rfl rfl rfl (congrArg some (decide_eq_false (by omega)))) rfl rfl ?_)|(refine uE (uL rfl rfl (LoadV.elA0 (hl1 _) he (te rfl) rfl (fun _ hm=>hm) rfl)) rfl rfl ?_)|(refine Xg.st (StF.alloc rfl Tryz.zeroValue41 rfl) rfl rfl ?_;rintro _ _ ⟨b8,rfl,rfl⟩)|(refine uC (EnF.dyn0 rfl rfl (Args.cons rfl Args.nil)) rfl rfl (numberWg_spec e _) ?_;rintro _ H9 ⟨rfl,hH9⟩;subst H9)|(refine uE (EvF.add64 (p:=(k : Int)) (q:=1) rfl rfl rfl (by omega) (by omega)) rfl rfl ?_)|(refine uE (uM rfl rfl) rfl rfl ?_)|(refine uE (uJ rfl rfl rfl (te rfl) (te rfl) (by omega) (by omega)) rfl rfl ?_)|(refine uE (uL rfl rfl (uW (te rfl) rfl (qH _) rfl)) rfl rfl ?_)|(refine Xg.st0 (uZ (i:=0) rfl rfl rfl (te rfl) rfl rfl rfl rfl) rfl ?_;rintro _ _ ⟨rfl,rfl⟩;dsimp only [List.set])))))|(refine uD rfl ?_;refine hK _ _ ?_;clear hK K) | refine uS rfl ?_ | refine uR rfl (fun K hK=>?_) | refine X.block rfl ?_ | refine X.skip rfl ?_ | (refine X.ite rfl rfl (fun hc=>?_);(first | (with_reducible refine Xb.t hc ?_)|(with_reducible refine Xb.f hc ?_)) <;> clear hc))
   exact ⟨_,_,_,(by rw [show (k : Int) + 1 = ((k + 1 : Nat) : Int) by omega];exact (by repeat (first | exact uU _ | refine uV rfl ?_))),(List.sublist_cons_self _ _),⟨k + 1,rfl,by omega,hf,rfl,rfl⟩,by omega⟩
 ·obtain rfl : k = l.length:=by omega
  have hlt' : ¬ ((l.length : Nat) : Int)<l.length:=by omega
  rw [List.drop_length] at hf
  have hnw : numW l n = wgz:=by unfold numW;rw [hf];rfl
  rw [hnw]
  repeat' (first | (refine uP rfl ?_;(first | ((first | refine uN rfl ?_);(first | (refine uE (uQ (b:=false) rfl rfl rfl (congrArg some (decide_eq_false (by omega)))) rfl rfl ?_)|(refine Xg.st (StF.alloc rfl Tryz.zeroValue41 rfl) rfl rfl ?_;rintro _ _ ⟨b9,rfl,rfl⟩)|(refine uE (uL rfl rfl (uW (te rfl) rfl (qH _) rfl)) rfl rfl ?_)|(refine Xg.st0 (uZ (i:=1) rfl rfl rfl (te rfl) rfl rfl rfl rfl) rfl ?_;rintro _ _ ⟨rfl,rfl⟩;dsimp only [List.set])))))|(refine uD rfl ?_;refine hK _ _ ?_;clear hK K) | refine uS rfl ?_ | refine uR rfl (fun K hK=>?_)|(refine X.brk rfl ?_;repeat (first | refine blockX_hit rfl ?_ | refine blockX_miss (by decide) ?_)) | refine X.ret rfl ?_ | (refine X.ite rfl rfl (fun hc=>?_);(first | (with_reducible refine Xb.f hc ?_)) <;> clear hc))
  exact ret_one (v := .agg (cDr wgz).toArray) (by simp) Tryz.results96 ⟨_,rfl,uW (te rfl) rfl (by repeat (first | exact qH _ | apply qT)) rfl⟩ (H' := H) (by (repeat (first | exact qR _ | apply qC));done) ⟨rfl,rfl⟩
set_option maxHeartbeats 4000000 in
theorem weighing_spec (B : Bl) (p : Pb) (g : List Sp) (n : Int) (H : List Row) (hB : BlOk H B p) :
  Fc Tryz.prog 54 [.agg (cPr B p g).toArray,.int .i64 n] H (fun v H' => v = .agg (cDr (numW B.weighs n)).toArray∧H' = H):=by
 have l2:=hB.l2
 have kn:=fun S (hS : SlE S p.a2 cDr 4 B.weighs)=>numbered_spec B.weighs p.a2 p.c2 n S hS (by omega)
 obtain ⟨e,he⟩ : ∃ e,e = numW B.weighs n:=⟨_,rfl⟩
 rw [← he] at kn ⊢
 have hw2 : ∀ r1 r2,SlE (r1::r2::H) p.a2 cDr 4 B.weighs:=fun r1 r2=>hB.weighs.sub (fun _ h=>qT _ (qT _ h))
 obtain ⟨a1,c1,a2,c2⟩:=p
 refine Fc.mk (callable Tryz.call54) Tryz.func54 rfl Tryz.ntmps54 rfl ?_;dsimp only [fr]
 repeat' (first | (refine uP rfl ?_;(first | ((first | refine uN rfl ?_);(first | (refine Xg.st (StF.alloc rfl Tryz.zeroValue41 rfl) rfl rfl ?_;rintro _ _ ⟨b4,rfl,rfl⟩)|(refine uC (uT rfl (Args.cons rfl (Args.cons rfl (Args.cons rfl Args.nil)))) rfl rfl (kn _ (hw2 _ _)) ?_;rintro _ H9 ⟨rfl,hH9⟩;subst H9)|(refine uE (uM rfl rfl) rfl rfl ?_)|(refine uE (uF rfl rfl (te rfl) rfl (te rfl) (by decide)) rfl rfl ?_)|(refine uE (uL rfl rfl (uO (te rfl) rfl (qT _ (qH _)) rfl)) rfl rfl ?_)|(refine Xg.st (StF.boxAgg rfl rfl) rfl rfl ?_;rintro _ _ ⟨bx,rfl,rfl⟩)|(refine Xg.st0 (uZ (i:=0) rfl rfl rfl (te rfl) rfl rfl rfl rfl) rfl ?_;rintro _ _ ⟨rfl,rfl⟩;dsimp only [List.set])))))|(refine uD rfl ?_;refine hK _ _ ?_;clear hK K) | refine uS rfl ?_ | refine uR rfl (fun K hK=>?_) | refine X.ret rfl ?_)
 exact ret_one (v := .agg (cDr e).toArray) (by simp) Tryz.results54 ⟨_,rfl,uW (te rfl) rfl (by repeat (first | exact qH _ | apply qT)) rfl⟩ (H' := H) (by (repeat (first | exact qR _ | apply qC));done) ⟨rfl,rfl⟩
def tsWt1 : List TOp:=[⟨some 4,[],[],[]⟩,⟨some 5,[],[],[]⟩,⟨some 6,[],[],[]⟩,⟨some 7,[1,2],[1,2],[]⟩,⟨some 8,[0,1,2,3],[0,3],[]⟩,⟨none,[0,1,2,3,4],[4],[6]⟩,⟨none,[],[],[]⟩]
def rowsWt1 (b4 : Nat) (s : Sp) (k : Nat) (_ : Env) : List Row :=
 match k with
 | 5=>[⟨b4,0,cSp s,some 24,2⟩]
 | 6=>[⟨b4,0,[.int .i64 0,.int .i64 0],some 24,2⟩]
 | _=>[]
set_option maxHeartbeats 4000000 in
theorem wet1_spec (B : Bl) (p : Pb) (g : List Sp) (n : Int) (bn : Nat) (ow : Option Kd) (cap : Nat) (H : List Row) (hd : 1 ≤ B.dlo∧B.dlo ≤ B.dhi∧B.dhi ≤ 600) (hw : ∀ x ∈ B.weighs,0 ≤ x.val∧x.val ≤ 10000) (hg : g.length = 5) (hB : BlOk H B p) (hne : 0 < (wts B).length)
  (hm : ⟨bn,0,[.int .i64 n],ow,cap⟩ ∈ H) :
  Fc Tryz.prog 52 ([.agg (cPr B p g).toArray]++[.pointer (some ⟨bn,0,none⟩)]) H (fun v H' => v = .agg (cSp (wetOf B (numW B.weighs n))).toArray∧H' = H):=by
 have hx:=numW_in (n:=n) hw
 have kwe:=fun S (hS : BlOk S B p)=>weighing_spec B p g n S hS
 obtain ⟨e,he⟩ : ∃ e,e = numW B.weighs n:=⟨_,rfl⟩
 rw [← he] at hx kwe ⊢
 show Fc Tryz.prog 52 [.agg (cPr B p g).toArray,.pointer (some ⟨bn,0,none⟩)] H _
 refine Fc.mk (callable Tryz.call52) Tryz.func52 rfl Tryz.ntmps52 rfl ?_;dsimp only [fr]
 refine uS rfl ?_;refine uR rfl (fun K hK=>?_);repeat' (first | (refine uP rfl ?_;(first | ((first | refine uN rfl ?_);(first | (refine Xg.st (StF.boxAgg rfl rfl) rfl rfl ?_;rintro _ _ ⟨bx,rfl,rfl⟩)|(refine Xg.st (StF.alloc rfl Tryz.zeroValue24 rfl) rfl rfl ?_;rintro _ _ ⟨bx,rfl,rfl⟩)))))|(refine uD rfl ?_;refine hK _ _ ?_;clear hK K))
 rename_i b2
 rename Nat=>b3
 repeat' (first | refine uS rfl ?_)
 refine X.regionOb tsWt1 [1,2,3] [(1,.pointer (some ⟨bn,0,none⟩)),(2,.pointer (some ⟨b2,0,none⟩)),(3,.pointer (some ⟨b3,0,none⟩))]
  (valL [.agg (cPr B p g).toArray,.agg (cPr B p g).toArray,.int .i64 n,.agg (cDr e).toArray,.agg (cSp (wetOf B e)).toArray])
  (rowsWt1 b3 (wetOf B e)) (fun _=>(0,0)) (⟨b2,0,cPr B p g,some 91,(cPr B p g).length⟩::H) rfl mixed (by repeat (first | exact uU _ | refine uV rfl ?_)) rfl (by kernel_rfl) (fun _ _ _ _ _ _=>⟨rfl,rfl⟩) (qR _) ?_ ?_
 ·repeat' (first | exact AllF.done rfl | (refine AllF.step rfl ?_ ?_;·(first | fail | ((first | refine Ob.ng rfl ?_);(first | (exact uK (fun env S hS=>⟨.agg (cPr B p g).toArray,uL rfl rfl (uW (te rfl) rfl (hS _ (qH _)) (lenPr hg)),rfl⟩) rfl (fun _=>rfl))|(exact uK (fun env S hS=>⟨.int .i64 n,uL rfl rfl (uO (te rfl) rfl (hS _ (qT _ hm)) rfl),rfl⟩) rfl (fun _=>rfl))|(exact fun env S hS=>(OpF.call (uT rfl (Args.cons rfl (Args.cons rfl Args.nil))) (kwe S (hB.sub (fun r hr=>hS r (qT _ hr))))).mono (fun v H' ⟨hv,hH⟩=>⟨(0,0),fun _=>hv,by rw [hH];exact List.Perm.refl _⟩))|(exact fun env S hS=>(OpF.call (uT rfl (Args.cons rfl (Args.cons rfl Args.nil))) (wet_spec B p g e S hd hw hx hg (hB.sub (fun r hr=>hS r (qT _ hr))) hne)).mono (fun v H' ⟨hv,hH⟩=>⟨(0,0),fun _=>hv,by rw [hH];exact List.Perm.refl _⟩))|(exact fun env S hS=>(uZ (i:=0) (vs:=cSp (wetOf B e)) (cs:=[.int .i64 0,.int .i64 0]) rfl rfl rfl (te rfl) rfl rfl rfl rfl).op.mono (fun v H' ⟨hv,hH⟩=>⟨(0,0),fun h=>absurd rfl h,by rw [hH];exact List.Perm.refl _⟩)))))))
 ·intro env t' ha hv
  refine ⟨_,ha,?_⟩
  show X _ _ _ _ (⟨b3,0,cSp (wetOf B e),some 24,2⟩::⟨b2,0,cPr B p g,some 91,(cPr B p g).length⟩::H) _
  repeat' (first | refine X.ret rfl ?_)
  exact ret_one (by simp) Tryz.results52 ⟨_,rfl,uW (te rfl) rfl (qH _) rfl⟩ (H' := H) (by (repeat (first | exact qR _ | apply qC));done) ⟨rfl,rfl⟩
def tsKn1 : List TOp:=[⟨some 5,[],[],[]⟩,⟨some 6,[],[],[]⟩,⟨some 7,[],[],[]⟩,⟨some 8,[1,2],[1,2],[]⟩,⟨some 9,[],[],[]⟩,⟨some 10,[0,1,2,3,4],[0,3,4],[]⟩,⟨some 4,[0,1,2,3,4,5],[5],[]⟩]
set_option maxHeartbeats 4000000 in
theorem known1_spec (B : Bl) (p : Pb) (g : List Sp) (n d : Int) (bn bd : Nat) (ow ow' : Option Kd) (cap cap' : Nat) (H : List Row) (hd : 1 ≤ B.dlo∧B.dlo ≤ B.dhi∧B.dhi ≤ 600) (hw : ∀ x ∈ B.weighs,0 ≤ x.val∧x.val ≤ 10000) (hg : g.length = 5) (hB : BlOk H B p) (hne : 0 < (wts B).length)
  (hm : ⟨bn,0,[.int .i64 n],ow,cap⟩ ∈ H) (hm' : ⟨bd,0,[.int .i64 d],ow',cap'⟩ ∈ H) :
  Fc Tryz.prog 56 ([.agg (cPr B p g).toArray]++[.pointer (some ⟨bn,0,none⟩),.pointer (some ⟨bd,0,none⟩)]) H (fun v H' => v = .int .u8 (damperOf B (numW B.weighs n) d)∧H' = H):=by
 have hx:=numW_in (n:=n) hw
 have kwe:=fun S (hS : BlOk S B p)=>weighing_spec B p g n S hS
 obtain ⟨e,he⟩ : ∃ e,e = numW B.weighs n:=⟨_,rfl⟩
 rw [← he] at hx kwe ⊢
 show Fc Tryz.prog 56 [.agg (cPr B p g).toArray,.pointer (some ⟨bn,0,none⟩),.pointer (some ⟨bd,0,none⟩)] H _
 refine Fc.mk (callable Tryz.call56) Tryz.func56 rfl Tryz.ntmps56 rfl ?_;dsimp only [fr]
 refine uS rfl ?_;refine uR rfl (fun K hK=>?_);repeat' (first | (refine uP rfl ?_;(first | ((first | refine uN rfl ?_);(first | (refine uE (uA rfl rfl) rfl rfl ?_)|(refine Xg.st (StF.boxAgg rfl rfl) rfl rfl ?_;rintro _ _ ⟨bx,rfl,rfl⟩)))))|(refine uD rfl ?_;refine hK _ _ ?_;clear hK K))
 rename Nat=>b3
 repeat' (first | refine uS rfl ?_)
 refine X.regionOb tsKn1 [1,2,3] [(1,.pointer (some ⟨bn,0,none⟩)),(2,.pointer (some ⟨bd,0,none⟩)),(3,.pointer (some ⟨b3,0,none⟩))]
  (valL [.agg (cPr B p g).toArray,.agg (cPr B p g).toArray,.int .i64 n,.agg (cDr e).toArray,.int .i64 d,.int .u8 (damperOf B e d),.int .u8 (damperOf B e d)])
  (fun _ _=>[]) (fun _=>(0,0)) (⟨b3,0,cPr B p g,some 91,(cPr B p g).length⟩::H) rfl mixed (by repeat (first | exact uU _ | refine uV rfl ?_)) rfl (by kernel_rfl) (fun _ _ _ _ _ _=>⟨rfl,rfl⟩) (qR _) ?_ ?_
 ·repeat' (first | exact AllF.done rfl | (refine AllF.step rfl ?_ ?_;·(first | fail | ((first | refine Ob.ng rfl ?_);(first | exact uK (fun env R hR=>by exact ⟨_,uA rfl rfl,rfl⟩) rfl (fun _=>rfl)|(exact uK (fun env S hS=>⟨.agg (cPr B p g).toArray,uL rfl rfl (uW (te rfl) rfl (hS _ (qH _)) (lenPr hg)),rfl⟩) rfl (fun _=>rfl))|(exact uK (fun env S hS=>⟨.int .i64 n,uL rfl rfl (uO (te rfl) rfl (hS _ (qT _ hm)) rfl),rfl⟩) rfl (fun _=>rfl))|(exact uK (fun env S hS=>⟨.int .i64 d,uL rfl rfl (uO (te rfl) rfl (hS _ (qT _ hm')) rfl),rfl⟩) rfl (fun _=>rfl))|(exact fun env S hS=>(OpF.call (uT rfl (Args.cons rfl (Args.cons rfl Args.nil))) (kwe S (hB.sub (fun r hr=>hS r (qT _ hr))))).mono (fun v H' ⟨hv,hH⟩=>⟨(0,0),fun _=>hv,by rw [hH];exact List.Perm.refl _⟩))|(exact fun env S hS=>(OpF.call (uT rfl (Args.cons rfl (Args.cons rfl (Args.cons rfl Args.nil)))) (wasDamper_spec B p g e d S hd hw hx hg (hB.sub (fun r hr=>hS r (qT _ hr))) hne)).mono (fun v H' ⟨hv,hH⟩=>⟨(0,0),fun _=>hv,by rw [hH];exact List.Perm.refl _⟩)))))))
 ·intro env t' ha hv
  refine ⟨(4,.int .u8 (damperOf B e d))::[(1,.pointer (some ⟨bn,0,none⟩)),(2,.pointer (some ⟨bd,0,none⟩)),(3,.pointer (some ⟨b3,0,none⟩))],ha.cons (hv 6 4 (Nat.le_of_ble_eq_true rfl) rfl),?_⟩
  show X _ _ _ _ (⟨b3,0,cPr B p g,some 91,(cPr B p g).length⟩::H) _
  repeat' (first | refine X.ret rfl ?_)
  exact ret_one (by simp) Tryz.results56 rfl (H' := H) (by (repeat (first | exact qR _ | apply qC));done) ⟨rfl,rfl⟩
theorem mul_small {a b A B : Int} (ha : 0 ≤ a) (hA : a ≤ A) (hb : 0 ≤ b) (hB : b ≤ B) : 0 ≤ a * b∧a * b ≤ A * B:=by
 refine ⟨Int.mul_nonneg ha hb,?_⟩
 exact Int.mul_le_mul hA hB hb (by omega)
def weightP (d r : Int) : Int:=d * (1000 + r) / 1000
theorem weight_spec (d r : Int) (H : List Row) (hd : 0 ≤ d∧d ≤ 100000) (hr : 0 ≤ r∧r ≤ 100000) : Fc Tryz.prog 37 [.int .i64 d,.int .i64 r] H (fun v H' => v = .int .i64 (weightP d r)∧H' = H):=by
 have hm:=mul_small hd.1 hd.2 (show 0 ≤ 1000 + r by omega) (show 1000 + r ≤ 101000 by omega)
 refine Fc.mk (callable Tryz.call37) Tryz.func37 rfl Tryz.ntmps37 rfl ?_;dsimp only [fr]
 repeat' (first | (refine uP rfl ?_;(first | ((first | refine uN rfl ?_);(first | (refine uE (EvF.mul64 rfl rfl rfl (by omega) (by omega)) rfl rfl ?_)|(refine uE (EvF.quo64 rfl rfl rfl (by omega) (by omega) (by omega)) rfl rfl ?_)|(refine uE (uM rfl rfl) rfl rfl ?_)|(refine uE (uA rfl rfl) rfl rfl ?_)|(refine uE (EvF.add64 rfl rfl rfl (by omega) (by omega)) rfl rfl ?_)))))|(refine uD rfl ?_;refine hK _ _ ?_;clear hK K) | refine uS rfl ?_ | refine uR rfl (fun K hK=>?_) | refine X.ret rfl ?_)
 refine ret_one (by simp) Tryz.results37 rfl (H' := H) (by (repeat (first | exact qR _ | apply qC));done) ?_;simp only [and_true,true_and]
 rfl
def couldP (x : Dr) (d : Int) : Prop:=weightP d x.lo ≤ x.val∧weightP d x.hi ≥ x.val
instance (x : Dr) (d : Int) : Decidable (couldP x d):=by unfold couldP;infer_instance
def wgOk (x : Wg) : Prop:=(0 ≤ x.val∧x.val ≤ 1200)∧0 ≤ x.lo∧x.lo ≤ x.hi∧x.hi ≤ 200
theorem could_spec (x : Wg) (d : Int) (H : List Row) (hd : 1 ≤ d∧d ≤ 600) (hx : wgOk x) : Fc Tryz.prog 160 [.int .i64 d,.agg (cDr x).toArray] H (fun v H' => v = .bool (decide (couldP x d))∧H' = H):=by
 obtain ⟨h1,h2,h3,h4⟩:=hx
 refine Fc.mk (callable Tryz.call160) Tryz.func160 rfl Tryz.ntmps160 rfl ?_;dsimp only [fr]
 repeat' (first | (refine uP rfl ?_;(first | ((first | refine uN rfl ?_);(first | (refine uE (uA rfl rfl) rfl rfl ?_)|(refine Xg.st (StF.boxAgg rfl rfl) rfl rfl ?_;rintro _ _ ⟨bx,rfl,rfl⟩)))))|(refine uD rfl ?_;refine hK _ _ ?_;clear hK K)|(refine XQ.op rfl ?_;(first | ((first | refine Yo.ng rfl ?_ | (refine Yo.g rfl rfl ?_;with_reducible refine Yw.tt ?_));(first | (refine Yg.call (uT rfl (Args.cons rfl (Args.cons rfl Args.nil))) rfl rfl (weight_spec d x.lo _ (by omega) (by omega)) ?_)|(refine Yg.call (uT rfl (Args.cons rfl (Args.cons rfl Args.nil))) rfl rfl (weight_spec d x.hi _ (by omega) (by omega)) ?_)|(refine Yg.ev (uM rfl rfl) rfl rfl ?_)|(refine Yg.ev (uA rfl rfl) rfl rfl ?_)|(refine Yg.ev (EvF.pickT rfl rfl rfl) rfl rfl ?_)|(refine Yg.ev (EvF.pickF rfl rfl rfl) rfl rfl ?_)|(refine Yg.ev (uQ rfl rfl rfl rfl) rfl rfl ?_)|(refine Yg.ev (uF rfl rfl (te rfl) rfl (te rfl) (by decide)) rfl rfl ?_)|(refine Yg.ev (uL rfl rfl (uO (te rfl) rfl (qH _) rfl)) rfl rfl ?_)))|(refine Yo.g rfl rfl ?_;(first | (with_reducible refine Yw.ft rfl rfl ?_)|(with_reducible refine Yw.case (fun h=>?_) (fun h=>?_) <;> simp only [h,decide_true,decide_false,Bool.not_true,Bool.not_false,and_self,and_true,true_and,and_false,false_and])))))|(refine XQ.done rfl ?_;refine hK _ ?_;clear hK K) | refine uS rfl ?_ | refine uR rfl (fun K hK=>?_) | refine X.regionD rfl mixed (by kernel_rfl) (fun K hK=>?_) | refine X.ret rfl ?_)
 all_goals (refine ret_one (by simp) Tryz.results160 rfl (H' := H) (by (repeat (first | exact qR _ | apply qC));done) ?_;simp only [and_true,true_and])
 all_goals (congr 1)
 all_goals first
  | (symm;exact decide_eq_false (fun q=>absurd q.1 (by assumption)))
  | exact decide_eq_decide.2 ⟨fun q=>⟨by assumption,q⟩,fun q=>q.2⟩
theorem ceil_le {q d m : Int} (hd : 0 < d) : (1000 * q + d - 1) / d ≤ m ↔ 1000 * q ≤ m * d:=by
 have h:=Int.ediv_lt_iff_lt_mul (a:=1000 * q + d - 1) (b:=m + 1) hd
 rw [Int.add_mul,Int.one_mul] at h
 constructor
 ·intro h1
  have:=h.1 (by omega)
  omega
 ·intro h1
  have:=h.2 (by omega)
  omega
theorem could_iff {x : Wg} {d : Int} (hx : wgOk x) (hd : 1 ≤ d∧d ≤ 600) : ¬ (dampOf x d).lo > (dampOf x d).hi ↔ couldP x d:=by
 obtain ⟨h1,h2,h3,h4⟩:=hx
 have e1 : ∀ r q : Int,leastD q d ≤ r ↔ 1000 * q ≤ (r + 1000) * d:=by
  intro r q
  have:=ceil_le (q:=q) (m:=r + 1000) (show 0 < d by omega)
  unfold leastD
  rw [← this];omega
 have e2 : ∀ r : Int,weightP d r ≤ x.val ↔ ¬ leastD (x.val + 1) d ≤ r:=by
  intro r
  rw [e1]
  unfold weightP
  rw [Int.mul_comm d,Int.add_comm 1000 r]
  omega
 have e3 : ∀ r : Int,weightP d r ≥ x.val ↔ leastD x.val d ≤ r:=by
  intro r
  rw [e1]
  unfold weightP
  rw [Int.mul_comm d,Int.add_comm 1000 r]
  omega
 have e4 : ¬ leastD (x.val + 1) d ≤ leastD x.val d:=by
  rw [e1]
  have h5 : (1000 * x.val + d - 1) / d * d ≤ 1000 * x.val + d - 1:=Int.ediv_mul_le _ (by omega)
  have h6 : leastD x.val d + 1000 = (1000 * x.val + d - 1) / d:=by unfold leastD;omega
  rw [h6]
  omega
 unfold couldP
 rw [e2,e3]
 simp only [dampOf]
 omega
def allC (l : List Dr) (d : Int) : Bool:=l.all (fun x=>decide (couldP x d))
def okR (B : Bl) (d : Int) : Bool:=allC B.weighs d
theorem ok_eq {B : Bl} {d : Int} (hw : ∀ x ∈ B.weighs,wgOk x) (hd : 1 ≤ d∧d ≤ 600) : okR B d = okW B d:=by
 rw [Bool.eq_iff_iff]
 unfold okR allC okW
 rw [List.all_eq_true,decide_eq_true_iff]
 unfold canW
 exact ⟨fun q x hx=>(could_iff (hw x hx) hd).2 (of_decide_eq_true (q x hx)),fun q x hx=>decide_eq_true ((could_iff (hw x hx) hd).1 (q x hx))⟩
theorem wts_eq {B : Bl} (hw : ∀ x ∈ B.weighs,wgOk x) (hd : 1 ≤ B.dlo∧B.dlo ≤ B.dhi∧B.dhi ≤ 600) : wl (okR B) B.dlo (B.dhi - B.dlo + 1).toNat = wts B:=by
 unfold wts
 exact wl_congr _ (fun i hi=>ok_eq hw ⟨by omega,by omega⟩)
theorem baleOk.wg {B : Bl} (h : baleOk B) : ∀ x ∈ B.weighs,wgOk x:=by
 intro x hx
 have h1:=(h.2.2.2.2.2.2 x hx)
 have h2:=h1.1 x.val (List.mem_singleton.2 rfl)
 have h3:=h1.2
 unfold partOk at h3
 simp only at h2 h3
 unfold wgOk
 omega
set_option maxHeartbeats 4000000 in
theorem dries_spec (B : Bl) (p : Pb) (H : List Row) (hd : 1 ≤ B.dlo∧B.dlo ≤ B.dhi∧B.dhi ≤ 600) (hw : ∀ x ∈ B.weighs,wgOk x) (hB : BlOk H B p) :
  Fc Tryz.prog 135 [.agg (cBl B p).toArray] H (fun v H' => ∃ Z,OutI (wts B) v Z∧H' = Z++H):=by
 rw [← wts_eq hw hd]
 obtain ⟨N,hN⟩ : ∃ N : Nat,(B.dhi - B.dlo + 1).toNat = N:=⟨_,rfl⟩
 rw [hN]
 have hNN : B.dlo + N = B.dhi + 1:=by omega
 have l2:=hB.l2
 have hBZ : ∀ (Z : List Row) r,BlOk (Z++r::H) B p:=fun Z r=>hB.sub (fun _ h=>List.mem_append_right _ (List.mem_cons_of_mem _ h))
 obtain ⟨a1,c1,a2,c2⟩:=p
 refine Fc.mk (callable Tryz.call135) Tryz.func135 rfl Tryz.ntmps135 rfl ?_;dsimp only [fr]
 repeat' (first | (refine uP rfl ?_;(first | ((first | refine uN rfl ?_);(first | (refine uE (uM rfl rfl) rfl rfl ?_)|(refine uE (uA rfl rfl) rfl rfl ?_)|(refine uE (uQ rfl rfl rfl rfl) rfl rfl ?_)|(refine uE (EvF.add64 rfl rfl rfl (by omega) (by omega)) rfl rfl ?_)|(refine uE (uF rfl rfl (te rfl) rfl (te rfl) (by decide)) rfl rfl ?_)|(refine uE (uL rfl rfl (uO (te rfl) rfl (qH _) rfl)) rfl rfl ?_)|(refine Xg.st (StF.boxAgg rfl rfl) rfl rfl ?_;rintro _ _ ⟨bx,rfl,rfl⟩)))))|(refine uD rfl ?_;refine hK _ _ ?_;clear hK K) | refine uS rfl ?_ | refine uR rfl (fun K hK=>?_) | refine X.block rfl ?_ | (refine X.brk rfl ?_;repeat (first | refine blockX_hit rfl ?_ | refine blockX_miss (by decide) ?_)) | refine X.skip rfl ?_ | (refine X.ite rfl rfl (fun hc=>?_);(first | (with_reducible refine Xb.case hc (fun h=>?_) (fun h=>?_))|(with_reducible refine Xb.caseB hc (fun h=>?_) (fun h=>?_))) <;> clear hc))
 rename Nat=>b1
 refine X.lp rfl (fun m F' H' => ∃ (k : Nat) (d : Int) (out : Value) (Z : List Row),m = N - k∧k ≤ N∧d = B.dlo + k∧OutI (wl (okR B) B.dlo k) out Z∧Z++⟨b1,0,cBl B ⟨a1,c1,a2,c2⟩,some 31,6⟩::H = H' ∧
   F' = [(1,.pointer (some ⟨b1,0,none⟩)),(3,out),(4,.int .i64 d)])
  N [(1,.pointer (some ⟨b1,0,none⟩)),(3,.slice none 0 0),(4,.int .i64 B.dlo)] (⟨b1,0,cBl B ⟨a1,c1,a2,c2⟩,some 31,6⟩::H) (by repeat (first | exact uU _ | refine uV rfl ?_)) (qR _) ⟨0,_,_,[],by omega,by omega,by omega,.inl ⟨rfl,rfl,rfl⟩,rfl,rfl⟩ ?_
 rintro _ _ H2 ⟨k,d,out,Z,rfl,hk,hdk,hO,hH,rfl⟩
 subst hH
 repeat' (first | (refine uP rfl ?_;(first | ((first | refine uN rfl ?_);(first | (refine uE (uL rfl rfl (uO (te rfl) rfl (List.mem_append_right _ (qH _)) rfl)) rfl rfl ?_)|(refine uE (uM rfl rfl) rfl rfl ?_)|(refine uE (uA rfl rfl) rfl rfl ?_)|(refine uE (uQ rfl rfl rfl rfl) rfl rfl ?_)|(refine uE (uF rfl rfl (te rfl) rfl (te rfl) (by decide)) rfl rfl ?_)|(refine uE (uY rfl rfl (te rfl)) rfl rfl ?_)))))|(refine uD rfl ?_;refine hK _ _ ?_;clear hK K) | refine uS rfl ?_ | refine uR rfl (fun K hK=>?_) | refine X.block rfl ?_ | (refine X.brk rfl ?_;repeat (first | refine blockX_hit rfl ?_ | refine blockX_miss (by decide) ?_)) | refine X.skip rfl ?_ | refine X.ret rfl ?_ | (refine X.ite rfl rfl (fun hc=>?_);(first | (with_reducible refine Xb.case hc (fun h=>?_) (fun h=>?_))) <;> clear hc))
 ·refine X.lp rfl (fun m F' H' => ∃ (q : Nat) (is : Bool),m = B.weighs.length - q∧q ≤ B.weighs.length∧is = allC (B.weighs.take q) d∧Z++⟨b1,0,cBl B ⟨a1,c1,a2,c2⟩,some 31,6⟩::H = H' ∧
    F' = [(1,.pointer (some ⟨b1,0,none⟩)),(3,out),(4,.int .i64 d),(5,.bool is),(19,.slice a2 B.weighs.length c2),(20,.int .i64 B.weighs.length),(21,.int .i64 q)])
   B.weighs.length [(1,.pointer (some ⟨b1,0,none⟩)),(3,out),(4,.int .i64 d),(5,.bool true),(19,.slice a2 B.weighs.length c2),(20,.int .i64 B.weighs.length),(21,.int .i64 (0 : Nat))] _ (by repeat (first | exact uU _ | refine uV rfl ?_)) (qR _) ⟨0,true,by omega,by omega,rfl,rfl,rfl⟩ ?_
  rintro _ _ H2 ⟨q,is,rfl,hq,hn,hH,rfl⟩
  subst hH
  repeat' (first | (refine uP rfl ?_;(first | ((first | refine uN rfl ?_);(first | (refine uE (uM rfl rfl) rfl rfl ?_)|(refine uE (uA rfl rfl) rfl rfl ?_)|(refine uE (uQ rfl rfl rfl rfl) rfl rfl ?_)|(refine uE (EvF.add64 rfl rfl rfl (by omega) (by omega)) rfl rfl ?_)|(refine uE (uF rfl rfl (te rfl) rfl (te rfl) (by decide)) rfl rfl ?_)|(refine uE (uL rfl rfl (uO (te rfl) rfl (qH _) rfl)) rfl rfl ?_)|(refine Xg.st (StF.boxAgg rfl rfl) rfl rfl ?_;rintro _ _ ⟨bx,rfl,rfl⟩)))))|(refine uD rfl ?_;refine hK _ _ ?_;clear hK K) | refine uS rfl ?_ | refine uR rfl (fun K hK=>?_) | refine X.block rfl ?_ | (refine X.brk rfl ?_;repeat (first | refine blockX_hit rfl ?_ | refine blockX_miss (by decide) ?_)) | refine X.skip rfl ?_ | (refine X.ite rfl rfl (fun hc=>?_);(first | (with_reducible refine Xb.case hc (fun h=>?_) (fun h=>?_))|(with_reducible refine Xb.caseB hc (fun h=>?_) (fun h=>?_))) <;> clear hc))
  ·obtain ⟨b,off,e,rfl,he⟩:=hB.weighs.elem (i:=q) (by omega)
   have hwe:=hw e (List.mem_of_getElem? he)
   have hn' : allC (B.weighs.take (q + 1)) d = (is && decide (couldP e d)):=by
    rw [take_snoc he,hn]
    unfold allC
    rw [List.all_append]
    simp
   clear hn
   repeat' (first | (refine uP rfl ?_;(first | ((first | refine uN rfl ?_ | (refine Xo.g rfl rfl ?_;with_reducible refine Xw.tt ?_));(first | (refine uE (uL rfl rfl (LoadV.elA0 (hBZ _ _).weighs he (te rfl) rfl (fun _ hm=>hm) rfl)) rfl rfl ?_)|(refine uC (uT rfl (Args.cons rfl (Args.cons rfl Args.nil))) rfl rfl (could_spec e d _ (by omega) hwe) ?_;rintro _ H9 ⟨rfl,hH9⟩;subst H9)|(refine uE (uM rfl rfl) rfl rfl ?_)|(refine uE (uA rfl rfl) rfl rfl ?_)|(refine uE (EvF.pickT rfl rfl rfl) rfl rfl ?_)|(refine uE (EvF.pickF rfl rfl rfl) rfl rfl ?_)|(refine uE (EvF.add64 rfl rfl rfl (by omega) (by omega)) rfl rfl ?_)|(refine uE (uJ rfl rfl rfl (te rfl) (te rfl) (by omega) (by omega)) rfl rfl ?_)|(refine uE (uL rfl rfl (uW (te rfl) rfl (qH _) rfl)) rfl rfl ?_)|(refine Xg.st (StF.alloc rfl Tryz.zeroValue38 rfl) rfl rfl ?_;rintro _ _ ⟨bx,rfl,rfl⟩)|(refine Xg.st0 (uZ (i:=0) rfl rfl rfl (te rfl) rfl rfl rfl rfl) rfl ?_;rintro _ _ ⟨rfl,rfl⟩;dsimp only [List.set])))|(refine Xo.g rfl rfl ?_;(first | (with_reducible refine Xw.ft rfl rfl ?_)|(with_reducible refine Xw.caseB (fun h=>?_) (fun h=>?_) <;> simp only [h,decide_true,decide_false,Bool.not_true,Bool.not_false,and_self,and_true,true_and,and_false,false_and])))))|(refine uD rfl ?_;refine hK _ _ ?_;clear hK K) | refine uR rfl (fun K hK=>?_))
   ·refine ⟨_,_,_,(by repeat (first | exact uU _ | refine uV rfl ?_)),(by (repeat (first | exact qR _ | apply qC));done),⟨q + 1,_,rfl,by omega,by rw [hn'];simp_all,rfl,rfl⟩,by omega⟩
   ·refine ⟨_,_,_,(by repeat (first | exact uU _ | refine uV rfl ?_)),(by (repeat (first | exact qR _ | apply qC));done),⟨q + 1,_,rfl,by omega,by rw [hn'];simp_all,rfl,rfl⟩,by omega⟩
  ·have hyes : okR B d = is:=by rw [hn,List.take_of_length_le (by omega)];rfl
   have hi : is = true:=by assumption
   rw [hi] at hyes
   have hwl : wl (okR B) B.dlo (k + 1)=wl (okR B) B.dlo k++[d]:=by
    rw [hdk] at hyes
    simp only [wl,hyes,if_true,hdk]
   have hk1:=wl_len (okR B) B.dlo k
   obtain ⟨l,hlE⟩ : ∃ l,wl (okR B) B.dlo k = l:=⟨_,rfl⟩
   rw [hlE] at hO hwl hk1
   clear hn
   rcases hO with ⟨rfl,rfl,rfl⟩ | ⟨b0,q0,rfl,rfl⟩
   ·repeat' (first | (refine uP rfl ?_;(first | ((first | refine uN rfl ?_);(first | (refine Xg.st (StF.buildOne rfl el55 rfl rfl rfl (by decide) (by decide)) rfl rfl ?_;rintro _ _ ⟨bs,rfl,rfl⟩)|(refine Xg.st (StF.appendNew rfl el55 rfl rfl (by decide) rfl (Rd.own (qH _)) (by decide)) rfl rfl ?_;rintro _ _ ⟨bn,kn,rfl,rfl⟩)|(refine uE (uM rfl rfl) rfl rfl ?_)|(refine uE (uA rfl rfl) rfl rfl ?_)|(refine uE (EvF.add64 rfl rfl rfl (by omega) (by omega)) rfl rfl ?_)))))|(refine uD rfl ?_;refine hK _ _ ?_;clear hK K) | refine uR rfl (fun K hK=>?_))
    refine ⟨_,_,_,(by repeat (first | exact uU _ | refine uV rfl ?_)),?_,⟨k + 1,_,_,[⟨bn,0,([]++[d]).flatMap cI,some 3,kn * 1⟩],rfl,by omega,?_,?_,rfl,rfl⟩,by omega⟩
    ·exact qK _ (qC _ (qR _))
    ·omega
    ·rw [hwl];exact .inr ⟨_,_,rfl,rfl⟩
   ·have hlen : (l.flatMap cI).length = l.length * 1:=lenI l
    repeat' (first | (refine uP rfl ?_;(first | ((first | refine uN rfl ?_);(first | (refine Xg.st (StF.buildOne rfl el55 rfl rfl rfl (by decide) (by decide)) rfl rfl ?_;rintro _ _ ⟨bs,rfl,rfl⟩)|(refine Xg.st (StF.appendOwn (i:=1) rfl el55 rfl rfl rfl hlen rfl (Rd.own (qH _)) rfl (by omega)) rfl rfl ?_;rintro _ _ ⟨bn,kn,rfl,rfl⟩;dsimp only [List.eraseIdx])|(refine uE (uM rfl rfl) rfl rfl ?_)|(refine uE (uA rfl rfl) rfl rfl ?_)|(refine uE (EvF.add64 rfl rfl rfl (by omega) (by omega)) rfl rfl ?_)))))|(refine uD rfl ?_;refine hK _ _ ?_;clear hK K) | refine uR rfl (fun K hK=>?_))
    refine ⟨_,_,_,(by repeat (first | exact uU _ | refine uV rfl ?_)),?_,⟨k + 1,_,_,[⟨bn,0,(l++[d]).flatMap cI,some 3,kn * 1⟩],rfl,by omega,?_,?_,rfl,rfl⟩,by omega⟩
    ·rw [List.flatMap_append]
     exact qK _ (qC _ (qR _))
    ·omega
    ·rw [hwl];exact .inr ⟨_,_,by rw [List.length_append];rfl,rfl⟩
  ·have hno : okR B d = is:=by rw [hn,List.take_of_length_le (by omega)];rfl
   have hi : is = false:=by assumption
   rw [hi] at hno
   refine ⟨_,_,_,(by repeat (first | exact uU _ | refine uV rfl ?_)),(by (repeat (first | exact qR _ | apply qC));done),⟨k + 1,_,_,Z,rfl,by omega,?_,?_,rfl,rfl⟩,by omega⟩
   ·omega
   ·rw [hdk] at hno
    simp only [wl,hno,Bool.false_eq_true,if_false,List.append_nil]
    exact hO
 ·obtain rfl : k = N:=by omega
  exact ret_one (by simp) Tryz.results135 rfl (H' := Z++H) (List.Sublist.append (qR _) (List.sublist_cons_self _ _)) ⟨Z,hO,rfl⟩
end Go.Proofs.YtbpcbdbclijomaaGreat
