/- Own work: contracts of functions, from rows of what is known of the memory; contracts of functions, from rows of what is known of the memory; contracts of functions, from rows of what is known of the memory; contracts of functions, from rows of what is known of the memory; contracts of functions, from rows of what is known of the memory; contracts of functions, from rows of what is known of the memory; contracts of functions, from rows of what is known of the memory; contracts of functions, from rows of what is known of the memory; contracts of functions, from rows of what is known of the memory; contracts of functions, from rows of what is known of the memory; contracts of functions, from rows of what is known of the memory; contracts of functions, from rows of what is known of the memory; contract -/
import Derived.Test.YtbpcbdbclijomaaGreatW05
set_option linter.unusedVariables false
set_option linter.unusedSimpArgs false
namespace Go.Proofs.YtbpcbdbclijomaaGreat
open Go Go.Fw
set_option maxRecDepth 10000
def payF (s : Sp) (d : Int) : Sp:=⟨s.lo * (1000 + d) / 1000,s.hi * (1000 + d) / 1000⟩
set_option maxHeartbeats 4000000 in
theorem pays1_spec (B : Bl) (p : Pb) (g : List Sp) (d : Int) (bn : Nat) (ow : Option Kd) (cap : Nat) (H : List Row) (hd : 1 ≤ B.dlo∧B.dlo ≤ B.dhi∧B.dhi ≤ 600) (hw : ∀ x ∈ B.weighs,0 ≤ x.val∧x.val ≤ 10000) (hg : g.length = 5) (hB : BlOk H B p) (hne : 0 < (wts B).length)
  (hm : ⟨bn,0,[.int .i64 d],ow,cap⟩ ∈ H) (hdv : 0 ≤ d∧d ≤ 200) :
  Fc Tryz.prog 65 ([.agg (cPr B p g).toArray]++[.pointer (some ⟨bn,0,none⟩)]) H (fun v H' => v = .agg (cSp (payF (dryOf B) d)).toArray∧H' = H):=by
 show Fc Tryz.prog 65 [.agg (cPr B p g).toArray,.pointer (some ⟨bn,0,none⟩)] H _
 obtain ⟨⟨d1,d2⟩,d3,d4⟩:=dryOf_in hd hne
 have hds:=fun S (hS : BlOk S B p)=>dry_spec B p g S hd hw hg hS hne
 obtain ⟨D,hD⟩ : ∃ D,D = dryOf B:=⟨_,rfl⟩
 rw [← hD] at d1 d2 d3 d4 hds ⊢
 have m1:=mul_small (a:=D.lo) (b:=1000 + d) (A:=600) (B:=1200) (by omega) d2 (by omega) (by omega)
 have m2:=mul_small (a:=D.hi) (b:=1000 + d) (A:=600) (B:=1200) (by omega) d4 (by omega) (by omega)
 refine Fc.mk (callable Tryz.call65) Tryz.func65 rfl Tryz.ntmps65 rfl ?_;dsimp only [fr]
 repeat' (first | (refine uP rfl ?_;(first | ((first | refine uN rfl ?_);(first | (refine uE (uL rfl rfl (uW (te rfl) rfl (qT _ (qH _)) (lenPr hg))) rfl rfl ?_)|(refine uC (uT rfl (Args.cons rfl Args.nil)) rfl rfl (hds _ (hB.sub (fun _ h=>qT _ (qT _ h)))) ?_;rintro _ H9 ⟨rfl,hH9⟩;subst H9)|(refine uE (uL (v := .int .i64 d) rfl rfl (uO (te rfl) rfl (qT _ (qT _ (qT _ hm))) rfl)) rfl rfl ?_)|(refine uE (EvF.mul64 rfl rfl rfl (by omega) (by omega)) rfl rfl ?_)|(refine uE (EvF.quo64 rfl rfl rfl (by omega) (by omega) (by omega)) rfl rfl ?_)|(refine uE (EvF.build (cs:=cSp (payF D d)) rfl (ArgsP.cons rfl (ArgsP.cons rfl ArgsP.nil)) (te rfl) (Places.cons (te rfl) (Places.cons (te rfl) Places.nil)) Tryz.zeroValue24 rfl) rfl rfl ?_)|(refine uE (EvF.add64 rfl rfl rfl (by omega) (by omega)) rfl rfl ?_)|(refine uE (uF rfl rfl (te rfl) rfl (te rfl) (by decide)) rfl rfl ?_)|(refine uE (uL rfl rfl (uO (te rfl) rfl (qH _) rfl)) rfl rfl ?_)|(refine Xg.st (StF.boxAgg rfl rfl) rfl rfl ?_;rintro _ _ ⟨bx,rfl,rfl⟩)|(refine Xg.st (StF.alloc rfl Tryz.zeroValue24 rfl) rfl rfl ?_;rintro _ _ ⟨bx,rfl,rfl⟩)|(refine Xg.st0 (uZ (i:=0) rfl rfl rfl (te rfl) rfl rfl rfl rfl) rfl ?_;rintro _ _ ⟨rfl,rfl⟩;dsimp only [List.set])|(refine Xg.st0 (uZ (i:=1) rfl rfl rfl (te rfl) rfl rfl rfl rfl) rfl ?_;rintro _ _ ⟨rfl,rfl⟩;dsimp only [List.set])))))|(refine uD rfl ?_;refine hK _ _ ?_;clear hK K) | refine uS rfl ?_ | refine uR rfl (fun K hK=>?_) | refine X.ret rfl ?_)
 exact ret_one (v := .agg (cSp (payF D d)).toArray) (by simp) Tryz.results65 ⟨_,rfl,uW (te rfl) rfl (by repeat (first | exact qH _ | apply qT)) rfl⟩ (H' := H) (by (repeat (first | exact qR _ | apply qC));done) ⟨rfl,rfl⟩
theorem knb_bd (a b : Bool) : 0 ≤ knb a b∧knb a b ≤ 2:=by cases a <;> cases b <;> decide
/-- put aside: not plain, or damper at some weighing -/
noncomputable def asideT (B : Bl) (k d : Int) : Nat → Int
 | 0=>2 - k
 | j + 1=>max (asideT B k d j) (damperOf B (B.weighs.getD j wgz) d)
theorem asideT_bd (B : Bl) (k d : Int) (hk : 0 ≤ k∧k ≤ 2) : ∀ j,0 ≤ asideT B k d j∧asideT B k d j ≤ 2
 | 0=>by show 0 ≤ 2 - k∧2 - k ≤ 2;omega
 | j + 1=>by
  have h:=asideT_bd B k d hk j
  have h2 : 0 ≤ damperOf B (B.weighs.getD j wgz) d∧damperOf B (B.weighs.getD j wgz) d ≤ 2:=knb_bd _ _
  show 0 ≤ max (asideT B k d j) (damperOf B (B.weighs.getD j wgz) d)∧max (asideT B k d j) (damperOf B (B.weighs.getD j wgz) d)≤2
  omega
noncomputable def asideF (B : Bl) (d : Int) : Int:=asideT B (ofKind (truthsB B) 1) d B.weighs.length
set_option maxHeartbeats 4000000 in
theorem aside1_spec (B : Bl) (p : Pb) (d : Int) (bn : Nat) (ow : Option Kd) (cap : Nat) (H : List Row) (hb : baleOk B) (hB : BlOk H B p) (hne : 0 < (wts B).length)
  (hm : ⟨bn,0,[.int .i64 d],ow,cap⟩ ∈ H) :
  Fc Tryz.prog 58 ([.agg (cPr B p (gradesOf B)).toArray]++[.pointer (some ⟨bn,0,none⟩)]) H (fun v H' => v = .int .u8 (asideF B d)∧H' = H):=by
 show Fc Tryz.prog 58 [.agg (cPr B p (gradesOf B)).toArray,.pointer (some ⟨bn,0,none⟩)] H _
 have hg5:=gradesOf_len hb
 have hlp : (cPr B p (gradesOf B)).length = 16:=lenPr hg5
 have ki:=fun S=>isOf_spec B p (gradesOf B) 1 S hg5 hb.h5 (gradesOf_bd hb)
 change ∀ S,Fc Tryz.prog 59 [.agg (cPr B p (gradesOf B)).toArray,.int .i64 1] S (fun v H' => v = .int .u8 (ofKind (truthsB B) 1)∧H' = S) at ki
 have kd:=fun S x hx (hS : BlOk S B p)=>wasDamper_spec B p (gradesOf B) x d S hb.hdry hb.hw hx hg5 hS hne
 unfold asideF
 have hkb : 0 ≤ ofKind (truthsB B) 1∧ofKind (truthsB B) 1 ≤ 2:=knb_bd _ _
 obtain ⟨k,hk⟩ : ∃ k,k = ofKind (truthsB B) 1:=⟨_,rfl⟩
 rw [← hk] at ki hkb ⊢
 have hab:=asideT_bd B k d hkb
 obtain ⟨g,hge⟩ : ∃ g,g = gradesOf B:=⟨_,rfl⟩
 rw [← hge] at ki kd hlp ⊢
 have hbw:=hb.hw
 have l2:=hB.l2
 clear hk hge hg5 hb hne
 obtain ⟨a1,c1,a2,c2⟩:=p
 refine Fc.mk (callable Tryz.call58) Tryz.func58 rfl Tryz.ntmps58 rfl ?_;dsimp only [fr]
 repeat' (first | (refine uP rfl ?_;(first | ((first | refine uN rfl ?_);(first | (refine uE (uL rfl rfl (uW (te rfl) rfl (qH _) hlp)) rfl rfl ?_)|(refine uC (uT rfl (Args.cons rfl (Args.cons rfl Args.nil))) rfl rfl (ki _) ?_;rintro _ H9 ⟨rfl,hH9⟩;subst H9)|(refine uE (EvF.subU8 rfl rfl rfl (by omega) (by omega)) rfl rfl ?_)|(refine uE (uM rfl rfl) rfl rfl ?_)|(refine uE (uA rfl rfl) rfl rfl ?_)|(refine uE (uF rfl rfl (te rfl) rfl (te rfl) (by decide)) rfl rfl ?_)|(refine uE (uY rfl rfl (te rfl)) rfl rfl ?_)|(refine uE (uL rfl rfl (uO (te rfl) rfl (qH _) rfl)) rfl rfl ?_)|(refine Xg.st (StF.boxAgg rfl rfl) rfl rfl ?_;rintro _ _ ⟨bx,rfl,rfl⟩)))))|(refine uD rfl ?_;refine hK _ _ ?_;clear hK K) | refine uS rfl ?_ | refine uR rfl (fun K hK=>?_) | refine X.block rfl ?_)
 obtain ⟨b2,hb2⟩ : ∃ b,b = bx:=⟨_,rfl⟩
 rw [← hb2]
 clear hb2
 refine X.lp rfl (fun q F' H' => ∃ j : Nat,q = B.weighs.length - j∧j ≤ B.weighs.length∧⟨b2,0,cPr B ⟨a1,c1,a2,c2⟩ g,some 91,16⟩::H = H' ∧
   F' = [(1,.pointer (some ⟨bn,0,none⟩)),(2,.pointer (some ⟨b2,0,none⟩)),(4,.int .u8 (asideT B k d j)),(12,.slice a2 B.weighs.length c2),(13,.int .i64 B.weighs.length),(14,.int .i64 (j : Nat))])
  B.weighs.length [(1,.pointer (some ⟨bn,0,none⟩)),(2,.pointer (some ⟨b2,0,none⟩)),(4,.int .u8 (asideT B k d 0)),(12,.slice a2 B.weighs.length c2),(13,.int .i64 B.weighs.length),(14,.int .i64 (0 : Nat))] (⟨b2,0,cPr B ⟨a1,c1,a2,c2⟩ g,some 91,16⟩::H) (by repeat (first | exact uU _ | refine uV rfl ?_)) (by rw [← hlp];exact qR _) ⟨0,by omega,by omega,rfl,rfl⟩ ?_
 rintro _ _ _ ⟨j,rfl,hj,rfl,rfl⟩
 by_cases hlt : j < B.weighs.length
 ·have hlt' : (j : Int)<B.weighs.length:=by omega
  obtain ⟨b,off,e,rfl,he⟩:=hB.weighs.elem (i:=j) hlt
  have hst : asideT B k d (j + 1)=max (asideT B k d j) (damperOf B e d):=by
   show max (asideT B k d j) (damperOf B (B.weighs.getD j wgz) d)=_
   rw [List.getD_eq_getElem?_getD,he,Option.getD_some]
  have kde:=fun S (hS : BlOk S B ⟨a1,c1,some ⟨b,off,none⟩,c2⟩)=>kd S e (hbw e (List.mem_of_getElem? he)) hS
  obtain ⟨m,hm9⟩ : ∃ m,m = damperOf B e d:=⟨_,rfl⟩
  rw [← hm9] at hst kde
  have hB2 : ∀ r1 r2,BlOk (r1::r2::H) B ⟨a1,c1,some ⟨b,off,none⟩,c2⟩:=fun r1 r2=>hB.sub (fun _ h=>qT _ (qT _ h))
  have hw1 : ∀ r1,SlE (r1::H) (some ⟨b,off,none⟩) cDr 4 B.weighs:=fun r1=>hB.weighs.sub (fun _ h=>qT _ h)
  repeat' (first | (refine uP rfl ?_;(first | ((first | refine uN rfl ?_);(first | (refine uE (uQ (b:=true) rfl rfl rfl (congrArg some (decide_eq_true (by omega)))) rfl rfl ?_)|(refine uE (uL rfl rfl (LoadV.elA0 (hw1 _) he (te rfl) rfl (fun _ hm=>hm) rfl)) rfl rfl ?_)|(refine Xg.st (StF.alloc rfl Tryz.zeroValue41 rfl) rfl rfl ?_;rintro _ _ ⟨b6,rfl,rfl⟩)|(refine uE (uL rfl rfl (uW (te rfl) rfl (qT _ (qH _)) hlp)) rfl rfl ?_)|(refine uE (uL (v := .int .i64 d) rfl rfl (uO (te rfl) rfl (qT _ (qT _ hm)) rfl)) rfl rfl ?_)|(refine uC (uT rfl (Args.cons rfl (Args.cons rfl (Args.cons rfl Args.nil)))) rfl rfl (kde _ (hB2 _ _)) ?_;rintro _ H9 ⟨rfl,hH9⟩;subst H9)|(refine uE (EvF.maxK rfl rfl rfl) rfl rfl ?_)|(refine uE (EvF.add64 (p:=(j : Int)) (q:=1) rfl rfl rfl (by omega) (by omega)) rfl rfl ?_)|(refine uE (uM rfl rfl) rfl rfl ?_)|(refine uE (uA rfl rfl) rfl rfl ?_)|(refine uE (uJ rfl rfl rfl (te rfl) (te rfl) (by omega) (by omega)) rfl rfl ?_)|(refine uE (uL rfl rfl (uW (te rfl) rfl (qH _) rfl)) rfl rfl ?_)|(refine Xg.st0 (uZ (i:=0) rfl rfl rfl (te rfl) rfl rfl rfl rfl) rfl ?_;rintro _ _ ⟨rfl,rfl⟩;dsimp only [List.set])))))|(refine uD rfl ?_;refine hK _ _ ?_;clear hK K) | refine uS rfl ?_ | refine uR rfl (fun K hK=>?_) | refine X.block rfl ?_ | refine X.skip rfl ?_ | (refine X.ite rfl rfl (fun hc=>?_);(first | (with_reducible refine Xb.t hc ?_)) <;> clear hc))
  exact ⟨_,_,_,(by rw [hst,show (j : Int) + 1 = ((j + 1 : Nat) : Int) by omega];exact (by repeat (first | exact uU _ | refine uV rfl ?_))),(List.sublist_cons_self _ _),⟨j + 1,rfl,by omega,rfl,rfl⟩,by omega⟩
 ·obtain rfl : j = B.weighs.length:=by omega
  have hlt' : ¬ ((B.weighs.length : Nat) : Int)<B.weighs.length:=by omega
  repeat' (first | (refine uP rfl ?_;(first | ((first | refine uN rfl ?_);(first | (refine uE (uQ (b:=false) rfl rfl rfl (congrArg some (decide_eq_false (by omega)))) rfl rfl ?_)|(refine uE (uM rfl rfl) rfl rfl ?_)|(refine uE (uA rfl rfl) rfl rfl ?_)))))|(refine uD rfl ?_;refine hK _ _ ?_;clear hK K) | refine uS rfl ?_ | refine uR rfl (fun K hK=>?_)|(refine X.brk rfl ?_;repeat (first | refine blockX_hit rfl ?_ | refine blockX_miss (by decide) ?_)) | refine X.ret rfl ?_ | (refine X.ite rfl rfl (fun hc=>?_);(first | (with_reducible refine Xb.f hc ?_)) <;> clear hc))
  exact ret_one (by simp) Tryz.results58 rfl (H' := H) (by (repeat (first | exact qR _ | apply qC));done) ⟨rfl,rfl⟩
/-- the numbers that one is asked about -/
abbrev caN (n : Int) : Ca:=⟨[],[],[n],[]⟩
abbrev caD (d : Int) : Ca:=⟨[],[],[],[d]⟩
abbrev ca0 : Ca:=⟨[],[],[],[]⟩
abbrev pc0 : Pc:=⟨none,0,none,0,none,0,none,0⟩
theorem openE_full {B : Bl} {C : Ca} (h : openE B C = 0) : (baleOk B∧canB B)∧askL B C∧askK C∧askW B C∧askD C:=by
 unfold openE at h
 split at h
 ·split at h
  ·split at h
   ·split at h
    ·split at h
     ·split at h
      ·exact ⟨⟨by assumption,by assumption⟩,by assumption,by assumption,by assumption,by assumption⟩
      ·omega
     ·omega
    ·omega
   ·omega
  ·omega
 ·omega
set_option maxHeartbeats 4000000 in
theorem kdry_spec (B : Bl) (p : Pb) (H : List Row) (hB : BlOk H B p) :
  Fc Tryz.prog 36 [.agg (cBl B p).toArray] H (fun v H' => v = .tuple #[.agg (cSp (spIf (openE B ca0 = 0) (dryOf B))).toArray,.int .i64 (openE B ca0)]∧H' = H):=by
 have hB2 : ∀ r1 r2,BlOk (r1::r2::H) B p:=fun r1 r2=>hB.sub (fun _ h=>qT _ (qT _ h))
 have kt:=fun r1 r2=>toldSp_spec B p ca0 pc0 66 [] (dryOf B) (r1::r2::H) (hB2 _ _) ⟨sleNil,sleNil,sleNil,sleNil,by simp,by simp,by simp,by simp⟩ (fun h0 H' hs=>dry_spec B p (gradesOf B) H' (openE_zero h0).1.hdry (openE_zero h0).1.hw (gradesOf_len (openE_zero h0).1) ((hB2 _ _).sub hs) (openE_zero h0).2.2.2)
 obtain ⟨rr,hrr⟩ : ∃ x,spIf (openE B ca0 = 0) (dryOf B)=x:=⟨_,rfl⟩
 rw [hrr] at kt ⊢
 refine Fc.mk (callable Tryz.call36) Tryz.func36 rfl Tryz.ntmps36 rfl ?_;dsimp only [fr]
 repeat' (first | (refine uP rfl ?_;(first | ((first | refine uN rfl ?_);(first | (refine uE (EvF.build (cs:=cCa ca0 pc0) rfl ArgsP.nil (te rfl) (Places.cons (te rfl) (Places.cons (te rfl) (Places.cons (te rfl) (Places.cons (te rfl) Places.nil)))) Tryz.zeroValue88 rfl) rfl rfl ?_)|(refine uC (uT rfl (Args.cons rfl (Args.cons rfl (Args.cons rfl Args.nil)))) rfl rfl (kt _ _) ?_;rintro _ H9 ⟨rfl,hH9⟩;subst H9)|(refine uE (uA rfl rfl) rfl rfl ?_)|(refine uE (uL rfl rfl (uW (te rfl) rfl (qT _ (qH _)) rfl)) rfl rfl ?_)|(refine uE (uX rfl rfl rfl) rfl rfl ?_)|(refine Xg.st (StF.boxAgg rfl rfl) rfl rfl ?_;rintro _ _ ⟨bx,rfl,rfl⟩)|(refine Xg.st (StF.alloc rfl Tryz.zeroValue24 rfl) rfl rfl ?_;rintro _ _ ⟨bx,rfl,rfl⟩)|(refine Xg.st0 (uZ (i:=0) rfl rfl rfl (te rfl) rfl rfl rfl rfl) rfl ?_;rintro _ _ ⟨rfl,rfl⟩;dsimp only [List.set])))))|(refine uD rfl ?_;refine hK _ _ ?_;clear hK K) | refine uS rfl ?_ | refine uR rfl (fun K hK=>?_) | refine X.ret rfl ?_)
 exact ret_two (v := .agg (cSp rr).toArray) (by simp) Tryz.results36 ⟨_,rfl,uW (te rfl) rfl (qH _) rfl⟩ rfl (H' := H) (by (repeat (first | exact qR _ | apply qC));done) ⟨rfl,rfl⟩
set_option maxHeartbeats 4000000 in
theorem kWet_spec (B : Bl) (p : Pb) (n : Int) (H : List Row) (hB : BlOk H B p) :
  Fc Tryz.prog 14 [.agg (cBl B p).toArray,.int .i64 n] H (fun v H' => v = .tuple #[.agg (cSp (spIf (openE B (caN n)=0) (wetOf B (numW B.weighs n)))).toArray,.int .i64 (openE B (caN n))]∧H' = H):=by
 obtain ⟨rr,hrr⟩ : ∃ x,spIf (openE B (caN n)=0) (wetOf B (numW B.weighs n)) = x:=⟨_,rfl⟩
 have kt:=fun S (hS : BlOk S B p) bo bn (hm : (⟨bn,0,[.int .i64 n],some 3,1⟩ : Row) ∈ S) (hm2 : (⟨bo,0,[n].flatMap cI,some 3,1⟩ : Row) ∈ S)=>toldSp_spec B p (caN n) ⟨none,0,none,0,some ⟨bo,0,none⟩,1,none,0⟩ 52 [.pointer (some ⟨bn,0,none⟩)] (wetOf B (numW B.weighs n)) S hS ⟨sleNil,sleNil,SlE.ofRow (l:=[n]) hm2 (fun _ _=>rfl),sleNil,by simp,by simp,by simp,by simp⟩
  (fun h0 H' hs=>wet1_spec B p (gradesOf B) n bn _ _ H' (openE_zero h0).1.hdry (openE_zero h0).1.hw (gradesOf_len (openE_zero h0).1) (hS.sub hs) (openE_zero h0).2.2.2 (hs _ hm))
 rw [hrr] at kt ⊢
 refine Fc.mk (callable Tryz.call14) Tryz.func14 rfl Tryz.ntmps14 rfl ?_;dsimp only [fr]
 repeat' (first | (refine uP rfl ?_;(first | ((first | refine uN rfl ?_);(first | (refine Xg.st (StF.buildOne rfl el55 rfl rfl rfl (by decide) (by decide)) rfl rfl ?_;rintro _ _ ⟨bo,rfl,rfl⟩)|(refine uE (EvF.build (cs:=cCa (caN n) ⟨none,0,none,0,some ⟨bo,0,none⟩,1,none,0⟩) rfl (ArgsP.cons rfl ArgsP.nil) (te rfl) (Places.cons (te rfl) (Places.cons (te rfl) (Places.cons (te rfl) (Places.cons (te rfl) Places.nil)))) Tryz.zeroValue88 rfl) rfl rfl ?_)|(refine uE (EvF.makeFunc (fl:=[]) rfl Args.nil (Args.cons rfl Args.nil)) rfl rfl ?_)|(refine uC (uT rfl (Args.cons rfl (Args.cons rfl (Args.cons rfl Args.nil)))) rfl rfl (kt _ (hB.sub (fun _ h=>qT _ (qT _ (qT _ (qT _ h))))) _ _ (qT _ (qT _ (qH _))) (qH _)) ?_;rintro _ H9 ⟨rfl,hH9⟩;subst H9)|(refine uE (uA rfl rfl) rfl rfl ?_)|(refine uE (uL rfl rfl (uO (te rfl) rfl (qT _ (qH _)) rfl)) rfl rfl ?_)|(refine uE (uL rfl rfl (uW (te rfl) rfl (qT _ (qT _ (qH _))) rfl)) rfl rfl ?_)|(refine uE (uX rfl rfl rfl) rfl rfl ?_)|(refine Xg.st (StF.boxAgg rfl rfl) rfl rfl ?_;rintro _ _ ⟨bx,rfl,rfl⟩)|(refine Xg.st (StF.boxOne rfl rfl rfl) rfl rfl ?_;rintro _ _ ⟨bx,rfl,rfl⟩)|(refine Xg.st (StF.alloc rfl Tryz.zeroValue24 rfl) rfl rfl ?_;rintro _ _ ⟨bx,rfl,rfl⟩)|(refine Xg.st0 (uZ (i:=1) rfl rfl rfl (te rfl) rfl rfl rfl rfl) rfl ?_;rintro _ _ ⟨rfl,rfl⟩;dsimp only [List.set])))))|(refine uD rfl ?_;refine hK _ _ ?_;clear hK K) | refine uS rfl ?_ | refine uR rfl (fun K hK=>?_) | refine X.ret rfl ?_)
 exact ret_two (v := .agg (cSp rr).toArray) (by simp) Tryz.results14 ⟨_,rfl,uW (te rfl) rfl (by repeat (first | exact qH _ | apply qT)) rfl⟩ rfl (H' := H) (by (repeat (first | exact qR _ | apply qC));done) ⟨rfl,rfl⟩
set_option maxHeartbeats 4000000 in
theorem kKnown_spec (B : Bl) (p : Pb) (n d : Int) (H : List Row) (hB : BlOk H B p) :
  Fc Tryz.prog 15 [.agg (cBl B p).toArray,.int .i64 n,.int .i64 d] H (fun v H' => v = .tuple #[.int .u8 (uIf (openE B (caN n)=0) (damperOf B (numW B.weighs n) d)),.int .i64 (openE B (caN n))]∧H' = H):=by
 obtain ⟨rr,hrr⟩ : ∃ x,uIf (openE B (caN n)=0) (damperOf B (numW B.weighs n) d)=x:=⟨_,rfl⟩
 have kt:=fun S (hS : BlOk S B p) bo bn bd (hm : (⟨bn,0,[.int .i64 n],some 3,1⟩ : Row) ∈ S) (hmd : (⟨bd,0,[.int .i64 d],some 3,1⟩ : Row) ∈ S) (hm2 : (⟨bo,0,[n].flatMap cI,some 3,1⟩ : Row) ∈ S)=>toldU_spec B p (caN n) ⟨none,0,none,0,some ⟨bo,0,none⟩,1,none,0⟩ 56 [.pointer (some ⟨bn,0,none⟩),.pointer (some ⟨bd,0,none⟩)] (damperOf B (numW B.weighs n) d) S hS ⟨sleNil,sleNil,SlE.ofRow (l:=[n]) hm2 (fun _ _=>rfl),sleNil,by simp,by simp,by simp,by simp⟩
  (fun h0 H' hs=>known1_spec B p (gradesOf B) n d bn bd _ _ _ _ H' (openE_zero h0).1.hdry (openE_zero h0).1.hw (gradesOf_len (openE_zero h0).1) (hS.sub hs) (openE_zero h0).2.2.2 (hs _ hm) (hs _ hmd))
 rw [hrr] at kt ⊢
 refine Fc.mk (callable Tryz.call15) Tryz.func15 rfl Tryz.ntmps15 rfl ?_;dsimp only [fr]
 repeat' (first | (refine uP rfl ?_;(first | ((first | refine uN rfl ?_);(first | (refine Xg.st (StF.buildOne rfl el55 rfl rfl rfl (by decide) (by decide)) rfl rfl ?_;rintro _ _ ⟨bo,rfl,rfl⟩)|(refine uE (EvF.build (cs:=cCa (caN n) ⟨none,0,none,0,some ⟨bo,0,none⟩,1,none,0⟩) rfl (ArgsP.cons rfl ArgsP.nil) (te rfl) (Places.cons (te rfl) (Places.cons (te rfl) (Places.cons (te rfl) (Places.cons (te rfl) Places.nil)))) Tryz.zeroValue88 rfl) rfl rfl ?_)|(refine uE (EvF.makeFunc (fl:=[]) rfl Args.nil (Args.cons rfl (Args.cons rfl Args.nil))) rfl rfl ?_)|(refine uC (uT rfl (Args.cons rfl (Args.cons rfl (Args.cons rfl Args.nil)))) rfl rfl (kt _ (hB.sub (fun _ h=>qT _ (qT _ (qT _ (qT _ h))))) _ _ _ (qT _ (qT _ (qH _))) (qT _ (qH _)) (qH _)) ?_;rintro _ H9 ⟨rfl,hH9⟩;subst H9)|(refine uE (uA rfl rfl) rfl rfl ?_)|(refine uE (uL rfl rfl (uO (te rfl) rfl (qT _ (qH _)) rfl)) rfl rfl ?_)|(refine uE (uL rfl rfl (uW (te rfl) rfl (qT _ (qT _ (qH _))) rfl)) rfl rfl ?_)|(refine uE (uX rfl rfl rfl) rfl rfl ?_)|(refine Xg.st (StF.boxAgg rfl rfl) rfl rfl ?_;rintro _ _ ⟨bx,rfl,rfl⟩)|(refine Xg.st (StF.boxOne rfl rfl rfl) rfl rfl ?_;rintro _ _ ⟨bx,rfl,rfl⟩)))))|(refine uD rfl ?_;refine hK _ _ ?_;clear hK K) | refine uS rfl ?_ | refine uR rfl (fun K hK=>?_) | refine X.ret rfl ?_)
 exact ret_two (by simp) Tryz.results15 rfl rfl (H' := H) (by (repeat (first | exact qR _ | apply qC));done) ⟨rfl,rfl⟩
set_option maxHeartbeats 4000000 in
theorem kPays_spec (B : Bl) (p : Pb) (d : Int) (H : List Row) (hB : BlOk H B p) :
  Fc Tryz.prog 23 [.agg (cBl B p).toArray,.int .i64 d] H (fun v H' => v = .tuple #[.agg (cSp (spIf (openE B (caD d)=0) (payF (dryOf B) d))).toArray,.int .i64 (openE B (caD d))]∧H' = H):=by
 obtain ⟨rr,hrr⟩ : ∃ x,spIf (openE B (caD d)=0) (payF (dryOf B) d)=x:=⟨_,rfl⟩
 have kt:=fun S (hS : BlOk S B p) bo bn (hm : (⟨bn,0,[.int .i64 d],some 3,1⟩ : Row) ∈ S) (hm2 : (⟨bo,0,[d].flatMap cI,some 3,1⟩ : Row) ∈ S)=>toldSp_spec B p (caD d) ⟨none,0,none,0,none,0,some ⟨bo,0,none⟩,1⟩ 65 [.pointer (some ⟨bn,0,none⟩)] (payF (dryOf B) d) S hS ⟨sleNil,sleNil,sleNil,SlE.ofRow (l:=[d]) hm2 (fun _ _=>rfl),by simp,by simp,by simp,by simp⟩
  (fun h0 H' hs=>pays1_spec B p (gradesOf B) d bn _ _ H' (openE_zero h0).1.hdry (openE_zero h0).1.hw (gradesOf_len (openE_zero h0).1) (hS.sub hs) (openE_zero h0).2.2.2 (hs _ hm) ((openE_full h0).2.2.2.2 d List.mem_cons_self))
 rw [hrr] at kt ⊢
 refine Fc.mk (callable Tryz.call23) Tryz.func23 rfl Tryz.ntmps23 rfl ?_;dsimp only [fr]
 repeat' (first | (refine uP rfl ?_;(first | ((first | refine uN rfl ?_);(first | (refine Xg.st (StF.buildOne rfl el55 rfl rfl rfl (by decide) (by decide)) rfl rfl ?_;rintro _ _ ⟨bo,rfl,rfl⟩)|(refine uE (EvF.build (cs:=cCa (caD d) ⟨none,0,none,0,none,0,some ⟨bo,0,none⟩,1⟩) rfl (ArgsP.cons rfl ArgsP.nil) (te rfl) (Places.cons (te rfl) (Places.cons (te rfl) (Places.cons (te rfl) (Places.cons (te rfl) Places.nil)))) Tryz.zeroValue88 rfl) rfl rfl ?_)|(refine uE (EvF.makeFunc (fl:=[]) rfl Args.nil (Args.cons rfl Args.nil)) rfl rfl ?_)|(refine uC (uT rfl (Args.cons rfl (Args.cons rfl (Args.cons rfl Args.nil)))) rfl rfl (kt _ (hB.sub (fun _ h=>qT _ (qT _ (qT _ (qT _ h))))) _ _ (qT _ (qT _ (qH _))) (qH _)) ?_;rintro _ H9 ⟨rfl,hH9⟩;subst H9)|(refine uE (uA rfl rfl) rfl rfl ?_)|(refine uE (uL rfl rfl (uO (te rfl) rfl (qT _ (qH _)) rfl)) rfl rfl ?_)|(refine uE (uL rfl rfl (uW (te rfl) rfl (qT _ (qT _ (qH _))) rfl)) rfl rfl ?_)|(refine uE (uX rfl rfl rfl) rfl rfl ?_)|(refine Xg.st (StF.boxAgg rfl rfl) rfl rfl ?_;rintro _ _ ⟨bx,rfl,rfl⟩)|(refine Xg.st (StF.boxOne rfl rfl rfl) rfl rfl ?_;rintro _ _ ⟨bx,rfl,rfl⟩)|(refine Xg.st (StF.alloc rfl Tryz.zeroValue24 rfl) rfl rfl ?_;rintro _ _ ⟨bx,rfl,rfl⟩)|(refine Xg.st0 (uZ (i:=1) rfl rfl rfl (te rfl) rfl rfl rfl rfl) rfl ?_;rintro _ _ ⟨rfl,rfl⟩;dsimp only [List.set])))))|(refine uD rfl ?_;refine hK _ _ ?_;clear hK K) | refine uS rfl ?_ | refine uR rfl (fun K hK=>?_) | refine X.ret rfl ?_)
 exact ret_two (v := .agg (cSp rr).toArray) (by simp) Tryz.results23 ⟨_,rfl,uW (te rfl) rfl (by repeat (first | exact qH _ | apply qT)) rfl⟩ rfl (H' := H) (by (repeat (first | exact qR _ | apply qC));done) ⟨rfl,rfl⟩
set_option maxHeartbeats 4000000 in
theorem kAside_spec (B : Bl) (p : Pb) (d : Int) (H : List Row) (hB : BlOk H B p) :
  Fc Tryz.prog 16 [.agg (cBl B p).toArray,.int .i64 d] H (fun v H' => v = .tuple #[.int .u8 (uIf (openE B (caD d)=0) (asideF B d)),.int .i64 (openE B (caD d))]∧H' = H):=by
 obtain ⟨rr,hrr⟩ : ∃ x,uIf (openE B (caD d)=0) (asideF B d)=x:=⟨_,rfl⟩
 have kt:=fun S (hS : BlOk S B p) bo bn (hm : (⟨bn,0,[.int .i64 d],some 3,1⟩ : Row) ∈ S) (hm2 : (⟨bo,0,[d].flatMap cI,some 3,1⟩ : Row) ∈ S)=>toldU_spec B p (caD d) ⟨none,0,none,0,none,0,some ⟨bo,0,none⟩,1⟩ 58 [.pointer (some ⟨bn,0,none⟩)] (asideF B d) S hS ⟨sleNil,sleNil,sleNil,SlE.ofRow (l:=[d]) hm2 (fun _ _=>rfl),by simp,by simp,by simp,by simp⟩
  (fun h0 H' hs=>aside1_spec B p d bn _ _ H' (openE_zero h0).1 (hS.sub hs) (openE_zero h0).2.2.2 (hs _ hm))
 rw [hrr] at kt ⊢
 refine Fc.mk (callable Tryz.call16) Tryz.func16 rfl Tryz.ntmps16 rfl ?_;dsimp only [fr]
 repeat' (first | (refine uP rfl ?_;(first | ((first | refine uN rfl ?_);(first | (refine Xg.st (StF.buildOne rfl el55 rfl rfl rfl (by decide) (by decide)) rfl rfl ?_;rintro _ _ ⟨bo,rfl,rfl⟩)|(refine uE (EvF.build (cs:=cCa (caD d) ⟨none,0,none,0,none,0,some ⟨bo,0,none⟩,1⟩) rfl (ArgsP.cons rfl ArgsP.nil) (te rfl) (Places.cons (te rfl) (Places.cons (te rfl) (Places.cons (te rfl) (Places.cons (te rfl) Places.nil)))) Tryz.zeroValue88 rfl) rfl rfl ?_)|(refine uE (EvF.makeFunc (fl:=[]) rfl Args.nil (Args.cons rfl Args.nil)) rfl rfl ?_)|(refine uC (uT rfl (Args.cons rfl (Args.cons rfl (Args.cons rfl Args.nil)))) rfl rfl (kt _ (hB.sub (fun _ h=>qT _ (qT _ (qT _ h)))) _ _ (qT _ (qH _)) (qH _)) ?_;rintro _ H9 ⟨rfl,hH9⟩;subst H9)|(refine uE (uA rfl rfl) rfl rfl ?_)|(refine uE (uL rfl rfl (uO (te rfl) rfl (qH _) rfl)) rfl rfl ?_)|(refine uE (uL rfl rfl (uW (te rfl) rfl (qT _ (qH _)) rfl)) rfl rfl ?_)|(refine uE (uX rfl rfl rfl) rfl rfl ?_)|(refine Xg.st (StF.boxAgg rfl rfl) rfl rfl ?_;rintro _ _ ⟨bx,rfl,rfl⟩)|(refine Xg.st (StF.boxOne rfl rfl rfl) rfl rfl ?_;rintro _ _ ⟨bx,rfl,rfl⟩)))))|(refine uD rfl ?_;refine hK _ _ ?_;clear hK K) | refine uS rfl ?_ | refine uR rfl (fun K hK=>?_) | refine X.ret rfl ?_)
 exact ret_two (by simp) Tryz.results16 rfl rfl (H' := H) (by (repeat (first | exact qR _ | apply qC));done) ⟨rfl,rfl⟩
def stp (i : Int) (s : Sp) (x : Dr) : Sp:=if x.val = i then ⟨max s.lo x.lo,min s.hi x.hi⟩ else s
def gr1 (l : List Dr) (i : Int) : Sp:=l.foldl (stp i) ⟨1,9⟩
theorem spAt_set {g : List Sp} {i j : Nat} {s : Sp} (h : i < g.length) : spAt (g.set i s) j = if i = j then s else spAt g j:=by
 unfold spAt List.getD
 rw [List.getElem?_set]
 by_cases h1 : i = j
 ·subst h1;simp [h]
 ·simp [h1]
theorem fold_at (i : Nat) : ∀ (l : List Dr) (g : List Sp),g.length = 5 → i < 5 → (∀ x ∈ l,0 ≤ x.val∧x.val < 5) → spAt (l.foldl stepG g) i = l.foldl (stp i) (spAt g i)
 | [],g,_,_,_=>rfl
 | x::l,g,hg,hi,hx=>by
  have h1:=hx x List.mem_cons_self
  rw [List.foldl_cons,List.foldl_cons,fold_at i l (stepG g x) (by rw [stepG_len,hg]) hi (fun y hy=>hx y (List.mem_cons_of_mem _ hy))]
  congr 1
  unfold stepG stp
  rw [spAt_set (by omega)]
  by_cases h2 : x.val = i
  ·rw [if_pos (by omega),if_pos h2,show x.val.toNat = i by omega]
  ·rw [if_neg (by omega),if_neg h2]
theorem initG_at {n i : Nat} (hi : i < n) : spAt (initG n) i = ⟨1,9⟩:=by
 unfold spAt initG List.getD
 rw [List.getElem?_append_left (by simpa using hi),List.getElem?_replicate,if_pos hi]
 rfl
theorem gr1_eq {B : Bl} (h5 : 1 ≤ B.layers∧B.layers ≤ 5) (hd : ∀ x ∈ B.draws,0 ≤ x.val∧x.val < 5) {i : Nat} (hi : i < B.layers.toNat) : gr1 B.draws i = spAt (gradesOf B) i:=by
 unfold gr1 gradesOf
 rw [fold_at i B.draws _ (initG_len (by omega)) (by omega) hd,initG_at hi]
/-- a list of spans in memory of one's own, or nil -/
def OutS (l : List Sp) (out : Value) (Z : List Row) : Prop:=(l = []∧out = .slice none 0 0∧Z = []) ∨ ∃ b q,out = .slice (some ⟨b,0,none⟩) l.length q∧Z = [⟨b,0,l.flatMap cSp,some 24,q * 2⟩]
theorem OutS.sl {l : List Sp} {out : Value} {Z H : List Row} (h : OutS l out Z) : ∃ a c,out = .slice a l.length c∧SlE (Z++H) a cSp 2 l:=by
 rcases h with ⟨rfl,rfl,rfl⟩ | ⟨b,q,rfl,rfl⟩
 ·exact ⟨none,0,rfl,sleNil⟩
 ·exact ⟨_,_,rfl,SlE.ofRow (qH _) (fun _ _=>rfl)⟩
def gsOf (B : Bl) : List Sp:=(gradesOf B).take B.layers.toNat
set_option maxHeartbeats 4000000 in
theorem layers_spec (B : Bl) (p : Pb) (H : List Row) (h5 : 1 ≤ B.layers∧B.layers ≤ 5) (hd : ∀ x ∈ B.draws,0 ≤ x.val∧x.val < 5) (hB : BlOk H B p) :
  Fc Tryz.prog 134 [.agg (cBl B p).toArray] H (fun v H' => (hasG B.layers.toNat (gradesOf B) ∧ ∃ out Z,OutS (gsOf B) out Z∧v = .tuple #[out,.bool true]∧H' = Z++H)∨(¬ hasG B.layers.toNat (gradesOf B)∧v = .tuple #[.slice none 0 0,.bool false]∧H' = H)):=by
 obtain ⟨N,hN⟩ : ∃ N : Nat,B.layers.toNat = N:=⟨_,rfl⟩
 obtain ⟨g,hg⟩ : ∃ g,gradesOf B = g:=⟨_,rfl⟩
 have hgl : g.length = 5:=by rw [← hg];unfold gradesOf;rw [foldG_len,initG_len (by omega)]
 have hgr : ∀ i : Nat,i < N → gr1 B.draws i = spAt g i:=fun i hi=>by rw [← hg];exact gr1_eq h5 hd (by omega)
 unfold gsOf
 rw [hN,hg]
 have l1:=hB.l1
 have hBZ : ∀ (Z : List Row) r0 r,BlOk (r0::(Z++r::H)) B p:=fun Z r0 r=>hB.sub (fun _ h=>qT _ (List.mem_append_right _ (List.mem_cons_of_mem _ h)))
 obtain ⟨a1,c1,a2,c2⟩:=p
 refine Fc.mk (callable Tryz.call134) Tryz.func134 rfl Tryz.ntmps134 rfl ?_;dsimp only [fr]
 repeat' (first | (refine uP rfl ?_;(first | ((first | refine uN rfl ?_);(first | (refine uE (uM rfl rfl) rfl rfl ?_)|(refine uE (uA rfl rfl) rfl rfl ?_)|(refine uE (uQ rfl rfl rfl rfl) rfl rfl ?_)|(refine uE (uF rfl rfl (te rfl) rfl (te rfl) (by decide)) rfl rfl ?_)|(refine uE (uL rfl rfl (uO (te rfl) rfl (qH _) rfl)) rfl rfl ?_)|(refine uE (uL rfl rfl (uW (te rfl) rfl (qH _) rfl)) rfl rfl ?_)|(refine Xg.st (StF.boxAgg rfl rfl) rfl rfl ?_;rintro _ _ ⟨bx,rfl,rfl⟩)))))|(refine uD rfl ?_;refine hK _ _ ?_;clear hK K) | refine uS rfl ?_ | refine uR rfl (fun K hK=>?_) | refine X.block rfl ?_ | (refine X.brk rfl ?_;repeat (first | refine blockX_hit rfl ?_ | refine blockX_miss (by decide) ?_)) | refine X.skip rfl ?_ | refine X.ret rfl ?_ | (refine X.ite rfl rfl (fun hc=>?_);(first | (with_reducible refine Xb.case hc (fun h=>?_) (fun h=>?_))) <;> clear hc))
 rename Nat=>b1
 refine X.lp rfl (fun m F' H' => ∃ (k : Nat) (out : Value) (Z : List Row),m = N - k∧k ≤ N∧OutS (g.take k) out Z∧(∀ s ∈ g.take k, ¬ s.lo > s.hi)∧Z++⟨b1,0,cBl B ⟨a1,c1,a2,c2⟩,some 31,6⟩::H = H' ∧
   F' = [(1,.pointer (some ⟨b1,0,none⟩)),(4,out),(5,.int .i64 k)])
  N [(1,.pointer (some ⟨b1,0,none⟩)),(4,.slice none 0 0),(5,.int .i64 (0 : Nat))] (⟨b1,0,cBl B ⟨a1,c1,a2,c2⟩,some 31,6⟩::H) (by repeat (first | exact uU _ | refine uV rfl ?_)) (qR _) ⟨0,_,[],by omega,by omega,.inl ⟨rfl,rfl,rfl⟩,by simp,rfl,rfl⟩ ?_
 rintro _ _ H2 ⟨k,out,Z,rfl,hk,hO,hall,hH,rfl⟩
 subst hH
 repeat' (first | (refine uP rfl ?_;(first | ((first | refine uN rfl ?_);(first | (refine uE (uL rfl rfl (uO (te rfl) rfl (List.mem_append_right _ (qH _)) rfl)) rfl rfl ?_)|(refine uE (uL rfl rfl (uO (te rfl) rfl (qT _ (List.mem_append_right _ (qH _))) rfl)) rfl rfl ?_)|(refine uE (EvF.build (cs:=cSp ⟨1,9⟩) rfl (ArgsP.cons rfl (ArgsP.cons rfl ArgsP.nil)) (te rfl) (Places.cons (te rfl) (Places.cons (te rfl) Places.nil)) Tryz.zeroValue24 rfl) rfl rfl ?_)|(refine uE (uM rfl rfl) rfl rfl ?_)|(refine uE (uA rfl rfl) rfl rfl ?_)|(refine uE (uQ rfl rfl rfl rfl) rfl rfl ?_)|(refine uE (uF rfl rfl (te rfl) rfl (te rfl) (by decide)) rfl rfl ?_)|(refine uE (uY rfl rfl (te rfl)) rfl rfl ?_)|(refine Xg.st (StF.alloc rfl Tryz.zeroValue24 rfl) rfl rfl ?_;rintro _ _ ⟨bx,rfl,rfl⟩)|(refine Xg.st0 (uZ (i:=0) rfl rfl rfl (te rfl) rfl rfl rfl rfl) rfl ?_;rintro _ _ ⟨rfl,rfl⟩;dsimp only [List.set])))))|(refine uD rfl ?_;refine hK _ _ ?_;clear hK K) | refine uS rfl ?_ | refine uR rfl (fun K hK=>?_) | refine X.block rfl ?_ | (refine X.brk rfl ?_;repeat (first | refine blockX_hit rfl ?_ | refine blockX_miss (by decide) ?_)) | refine X.skip rfl ?_ | refine X.ret rfl ?_ | (refine X.ite rfl rfl (fun hc=>?_);(first | (with_reducible refine Xb.case hc (fun h=>?_) (fun h=>?_))) <;> clear hc))
 ·rename Nat=>bs
  refine X.lp rfl (fun m F' H' => ∃ q : Nat,m = B.draws.length - q∧q ≤ B.draws.length∧⟨bs,0,cSp (gr1 (B.draws.take q) k),some 24,2⟩::(Z++⟨b1,0,cBl B ⟨a1,c1,a2,c2⟩,some 31,6⟩::H)=H' ∧
    F' = [(1,.pointer (some ⟨b1,0,none⟩)),(4,out),(5,.int .i64 k),(6,.pointer (some ⟨bs,0,none⟩)),(17,.slice a1 B.draws.length c1),(18,.int .i64 B.draws.length),(19,.int .i64 q)])
   B.draws.length [(1,.pointer (some ⟨b1,0,none⟩)),(4,out),(5,.int .i64 k),(6,.pointer (some ⟨bs,0,none⟩)),(17,.slice a1 B.draws.length c1),(18,.int .i64 B.draws.length),(19,.int .i64 (0 : Nat))] (⟨bs,0,cSp (gr1 (B.draws.take 0) k),some 24,2⟩::(Z++⟨b1,0,cBl B ⟨a1,c1,a2,c2⟩,some 31,6⟩::H)) (by repeat (first | exact uU _ | refine uV rfl ?_)) (qR _) ⟨0,by omega,by omega,rfl,rfl⟩ ?_
  rintro _ _ H2 ⟨q,rfl,hq,hH,rfl⟩
  subst hH
  obtain ⟨s,hs⟩ : ∃ s,gr1 (B.draws.take q) k = s:=⟨_,rfl⟩
  rw [hs]
  repeat' (first | (refine uP rfl ?_;(first | ((first | refine uN rfl ?_);(first | (refine uE (uM rfl rfl) rfl rfl ?_)|(refine uE (uA rfl rfl) rfl rfl ?_)|(refine uE (uQ rfl rfl rfl rfl) rfl rfl ?_)|(refine uE (uF rfl rfl (te rfl) rfl (te rfl) (by decide)) rfl rfl ?_)|(refine uE (uL rfl rfl (uO (te rfl) rfl (qH _) rfl)) rfl rfl ?_)|(refine uE (uL rfl rfl (uW (te rfl) rfl (qH _) rfl)) rfl rfl ?_)|(refine Xg.st (StF.boxAgg rfl rfl) rfl rfl ?_;rintro _ _ ⟨bx,rfl,rfl⟩)))))|(refine uD rfl ?_;refine hK _ _ ?_;clear hK K) | refine uS rfl ?_ | refine uR rfl (fun K hK=>?_) | refine X.block rfl ?_ | (refine X.brk rfl ?_;repeat (first | refine blockX_hit rfl ?_ | refine blockX_miss (by decide) ?_)) | refine X.skip rfl ?_ | refine X.ret rfl ?_ | (refine X.ite rfl rfl (fun hc=>?_);(first | (with_reducible refine Xb.case hc (fun h=>?_) (fun h=>?_))) <;> clear hc))
  ·obtain ⟨b,off,e,rfl,he⟩:=hB.draws.elem (i:=q) (by omega)
   have hn : gr1 (B.draws.take (q + 1)) k = stp k s e:=by unfold gr1 at hs ⊢;rw [take_snoc he,List.foldl_append,hs];rfl
   unfold stp at hn
   repeat' (first | (refine uP rfl ?_;(first | ((first | refine uN rfl ?_);(first | (refine uE (uL rfl rfl (LoadV.elA0 (hBZ _ _ _).draws he (te rfl) rfl (fun _ hm=>hm) rfl)) rfl rfl ?_)|(refine uE (EvF.build (cs:=cSp ⟨max s.lo e.lo,min s.hi e.hi⟩) rfl (ArgsP.cons rfl (ArgsP.cons rfl ArgsP.nil)) (te rfl) (Places.cons (te rfl) (Places.cons (te rfl) Places.nil)) Tryz.zeroValue24 rfl) rfl rfl ?_)|(refine uE (uM rfl rfl) rfl rfl ?_)|(refine uE (uQ rfl rfl rfl rfl) rfl rfl ?_)|(refine uE (EvF.add64 rfl rfl rfl (by omega) (by omega)) rfl rfl ?_)|(refine uE (uF rfl rfl (te rfl) rfl (te rfl) (by decide)) rfl rfl ?_)|(refine uE (uJ rfl rfl rfl (te rfl) (te rfl) (by omega) (by omega)) rfl rfl ?_)|(refine uE (uL rfl rfl (uO (te rfl) rfl (qH _) rfl)) rfl rfl ?_)|(refine uE (uL rfl rfl (uO (te rfl) rfl (qT _ (qH _)) rfl)) rfl rfl ?_)|(refine uE (EvF.min64 rfl rfl rfl) rfl rfl ?_)|(refine uE (EvF.max64 rfl rfl rfl) rfl rfl ?_)|(refine Xg.st (StF.alloc rfl Tryz.zeroValue38 rfl) rfl rfl ?_;rintro _ _ ⟨bx,rfl,rfl⟩)|(refine Xg.st0 (uZ (i:=0) rfl rfl rfl (te rfl) rfl rfl rfl rfl) rfl ?_;rintro _ _ ⟨rfl,rfl⟩;dsimp only [List.set])|(refine Xg.st0 (uZ (i:=1) rfl rfl rfl (te rfl) rfl rfl rfl rfl) rfl ?_;rintro _ _ ⟨rfl,rfl⟩;dsimp only [List.set])))))|(refine uD rfl ?_;refine hK _ _ ?_;clear hK K) | refine uS rfl ?_ | refine uR rfl (fun K hK=>?_) | refine X.skip rfl ?_ | (refine X.ite rfl rfl (fun hc=>?_);(first | (with_reducible refine Xb.case hc (fun h=>?_) (fun h=>?_))) <;> clear hc))
   ·rw [if_pos (by assumption)] at hn
    rw [← hn]
    exact ⟨_,_,_,(by repeat (first | exact uU _ | refine uV rfl ?_)),qC _ (qR _),⟨q + 1,rfl,by omega,rfl,rfl⟩,by omega⟩
   ·rw [if_neg (by assumption)] at hn
    rw [← hn]
    exact ⟨_,_,_,(by repeat (first | exact uU _ | refine uV rfl ?_)),qC _ (qR _),⟨q + 1,rfl,by omega,rfl,rfl⟩,by omega⟩
  ·have hsk : spAt g k = s:=by rw [← hgr k (by omega), ← hs,List.take_of_length_le (by omega)]
   have hkg:=spAt_get (g:=g) (i:=k) (by omega)
   rw [hsk] at hkg
   exact ret_two (by simp) Tryz.results134 rfl rfl (H' := H) (qC _ ((List.sublist_cons_self _ _).trans (List.sublist_append_right _ _))) (.inr ⟨fun hh=>hh s (List.mem_of_getElem? (i:=k) (by rw [List.getElem?_take,if_pos (by omega)];exact hkg)) (by assumption),rfl,rfl⟩)
  ·have hsk : spAt g k = s:=by rw [← hgr k (by omega), ← hs,List.take_of_length_le (by omega)]
   have hkg:=spAt_get (g:=g) (i:=k) (by omega)
   rw [hsk] at hkg
   have hok : ¬ s.lo > s.hi:=by assumption
   have htk:=take_snoc hkg
   have hall' : ∀ s ∈ g.take (k + 1), ¬ s.lo > s.hi:=by
    intro x hx
    rw [htk,List.mem_append,List.mem_singleton] at hx
    rcases hx with hx | rfl
    ·exact hall x hx
    ·exact hok
   obtain ⟨l,hlE⟩ : ∃ l,g.take k = l:=⟨_,rfl⟩
   have hlk : l.length ≤ 5:=by rw [← hlE,List.length_take];omega
   rw [hlE] at hO htk
   rcases hO with ⟨rfl,rfl,rfl⟩ | ⟨b0,q0,rfl,rfl⟩
   ·repeat' (first | (refine uP rfl ?_;(first | ((first | refine uN rfl ?_);(first | (refine Xg.st (StF.buildOne rfl el22 rfl rfl rfl (by decide) (by decide)) rfl rfl ?_;rintro _ _ ⟨bo,rfl,rfl⟩)|(refine Xg.st (StF.appendNew rfl el22 rfl rfl (by decide) rfl (Rd.own (qH _)) (by decide)) rfl rfl ?_;rintro _ _ ⟨bn,kn,rfl,rfl⟩)|(refine uE (uM rfl rfl) rfl rfl ?_)|(refine uE (uA rfl rfl) rfl rfl ?_)|(refine uE (EvF.add64 rfl rfl rfl (by omega) (by omega)) rfl rfl ?_)))))|(refine uD rfl ?_;refine hK _ _ ?_;clear hK K) | refine uR rfl (fun K hK=>?_))
    refine ⟨_,_,_,(by repeat (first | exact uU _ | refine uV rfl ?_)),?_,⟨k + 1,_,[⟨bn,0,([]++[s]).flatMap cSp,some 24,kn * 2⟩],rfl,by omega,?_,hall',rfl,rfl⟩,by omega⟩
    ·exact qK _ (qC _ (qC _ (qR _)))
    ·rw [htk];exact .inr ⟨_,_,rfl,rfl⟩
   ·have hlen : (l.flatMap cSp).length = l.length * 2:=lenSp l
    repeat' (first | (refine uP rfl ?_;(first | ((first | refine uN rfl ?_);(first | (refine Xg.st (StF.buildOne rfl el22 rfl rfl rfl (by decide) (by decide)) rfl rfl ?_;rintro _ _ ⟨bo,rfl,rfl⟩)|(refine Xg.st (StF.appendOwn (i:=2) rfl el22 rfl rfl rfl hlen rfl (Rd.own (qH _)) rfl (by omega)) rfl rfl ?_;rintro _ _ ⟨bn,kn,rfl,rfl⟩;dsimp only [List.eraseIdx])|(refine uE (uM rfl rfl) rfl rfl ?_)|(refine uE (uA rfl rfl) rfl rfl ?_)|(refine uE (EvF.add64 rfl rfl rfl (by omega) (by omega)) rfl rfl ?_)))))|(refine uD rfl ?_;refine hK _ _ ?_;clear hK K) | refine uR rfl (fun K hK=>?_))
    refine ⟨_,_,_,(by repeat (first | exact uU _ | refine uV rfl ?_)),?_,⟨k + 1,_,[⟨bn,0,(l++[s]).flatMap cSp,some 24,kn * 2⟩],rfl,by omega,?_,hall',rfl,rfl⟩,by omega⟩
    ·rw [List.flatMap_append]
     exact qK _ (qC _ (qC _ (qR _)))
    ·rw [htk];exact .inr ⟨_,_,by rw [List.length_append];rfl,rfl⟩
 ·obtain rfl : k = N:=by omega
  exact ret_two (by simp) Tryz.results134 rfl rfl (H' := Z++H) (List.Sublist.append (qR _) (List.sublist_cons_self _ _)) (.inl ⟨hall,out,Z,hO,rfl,rfl⟩)
theorem true_spec (B : Bl) (p : Pb) (H : List Row) (hb : baleOk B) (hB : BlOk H B p) :
  Fc Tryz.prog 82 [.agg (cBl B p).toArray] H (fun v H' => v = .bool (decide (canB B))∧H' = H):=by
 have hB1 : ∀ r1,BlOk (r1::H) B p:=fun r1=>hB.sub (fun _ h=>qT _ h)
 have hBZ : ∀ (Z : List Row) r1,BlOk (Z++r1::H) B p:=fun Z r1=>hB.sub (fun _ h=>List.mem_append_right _ (qT _ h))
 have hl:=wl_len (okW B) B.dlo (B.dhi - B.dlo + 1).toNat
 have hd:=hb.hdry
 refine Fc.mk (callable Tryz.call82) Tryz.func82 rfl Tryz.ntmps82 rfl ?_;dsimp only [fr]
 repeat' (first | (refine uP rfl ?_;(first | ((first | refine uN rfl ?_ | (refine Xo.g rfl rfl ?_;with_reducible refine Xw.tt ?_));(first | (refine uC (uT rfl (by (repeat (first | exact Args.nil | refine Args.cons rfl ?_));done)) rfl rfl (layers_spec B p _ hb.h5 hb.hd (hB1 _)) ?_;rintro _ H9 (⟨hG,out,Z,hO,rfl,hH9⟩ | ⟨hG,rfl,hH9⟩) <;> subst H9)|(refine uE (uL rfl rfl (uW (te rfl) rfl (List.mem_append_right _ (qH _)) rfl)) rfl rfl ?_)|(refine uC (uT rfl (by (repeat (first | exact Args.nil | refine Args.cons rfl ?_));done)) rfl rfl (dries_spec B p _ hd hb.wg (hBZ _ _)) ?_;rintro _ _ ⟨Z2,hO2,rfl⟩;obtain ⟨a,c,rfl,hs2⟩:=hO2.sl (H:=[]))|(refine uE (uM rfl rfl) rfl rfl ?_)|(refine uE (uA rfl rfl) rfl rfl ?_)|(refine uE (EvF.pickT rfl rfl rfl) rfl rfl ?_)|(refine uE (EvF.pickF rfl rfl rfl) rfl rfl ?_)|(refine uE (uQ rfl rfl rfl rfl) rfl rfl ?_)|(refine uE (uY rfl rfl (te rfl)) rfl rfl ?_)|(refine uE (uL rfl rfl (uW (te rfl) rfl (qH _) rfl)) rfl rfl ?_)|(refine uE (uX rfl rfl rfl) rfl rfl ?_)|(refine Xg.st (StF.boxAgg rfl rfl) rfl rfl ?_;rintro _ _ ⟨bx,rfl,rfl⟩)))|(refine Xo.g rfl rfl ?_;(first | (with_reducible refine Xw.ft rfl rfl ?_)))))|(refine uD rfl ?_;refine hK _ _ ?_;clear hK K) | refine uS rfl ?_ | refine uR rfl (fun K hK=>?_) | refine X.ret rfl ?_)
 ·refine ret_one (by simp) Tryz.results82 rfl (H' := H) (((List.sublist_cons_self _ _).trans (List.sublist_append_right _ _)).trans (List.sublist_append_right _ _)) ⟨?_,rfl⟩
  congr 1
  exact decide_eq_decide.2 ⟨fun q=>⟨hG,by omega⟩,fun q=>by have:=q.2;omega⟩
 ·refine ret_one (by simp) Tryz.results82 rfl (H' := H) (by (repeat (first | exact qR _ | apply qC));done) ?_;simp only [and_true,true_and]
  congr 1;symm;exact decide_eq_false (fun q=>hG q.1)
set_option maxRecDepth 100000
theorem oE {B : Bl} {C : Ca} (hb : baleOk B) (hc : canB B) (hl : askL B C) (hk : askK C) (hw : askW B C) (hd : askD C) : openE B C = 0:=by
 unfold openE
 rw [if_pos hb,if_pos hl,if_pos hk,if_pos hw,if_pos hd,if_pos hc]
theorem okE : baleOk (balE []):=(refBale_iff _).1 (by simp [rz,rdOk,rwOk,refBale,balE,drE,wgE])
theorem okO : baleOk (balE oddD):=(refBale_iff _).1 (by simp [rz,rdOk,rwOk,refBale,balE,drE,wgE,oddD])
theorem wtsE : wts (balE []) = [441,442,443,444,445,446,447,448,449,450,451,452]:=by
 rw [← wts_eq okE.wg okE.hdry]
 kernel_rfl
theorem wtsO : wts (balE oddD) = [441,442,443,444,445,446,447,448,449,450,451,452]:=by
 rw [← wts_eq okO.wg okO.hdry]
 kernel_rfl
theorem gsE : gsOf (balE []) = [⟨3,3⟩,⟨3,6⟩,⟨1,9⟩,⟨3,4⟩]:=by kernel_rfl
theorem gsO : gsOf (balE oddD) = [⟨5,3⟩,⟨3,6⟩,⟨1,9⟩,⟨3,4⟩]:=by kernel_rfl
theorem canE : canB (balE []):=by
 refine ⟨?_,by rw [wtsE];decide⟩
 intro s hs
 change s ∈ gsOf (balE []) at hs
 rw [gsE] at hs
 simp only [List.mem_cons,List.not_mem_nil,or_false] at hs
 rcases hs with rfl | rfl | rfl | rfl <;> decide
theorem noO : ¬ canB (balE oddD):=by
 rintro ⟨h,_⟩
 have : (⟨5,3⟩ : Sp) ∈ gsOf (balE oddD):=by rw [gsO];exact List.mem_cons_self
 exact h _ this (by decide)
theorem oE0 : openE (balE []) ca0 = 0:=oE okE canE (fun _ h=>absurd h List.not_mem_nil) (fun _ h=>absurd h List.not_mem_nil) (fun _ h=>absurd h List.not_mem_nil) (fun _ h=>absurd h List.not_mem_nil)
theorem oEL {i : Int} (h : 0 ≤ i∧i ≤ 3) : openE (balE []) ⟨[i],[],[],[]⟩ = 0:=oE okE canE (fun n hn=>by rw [List.mem_singleton.1 hn];exact h) (fun _ h=>absurd h List.not_mem_nil) (fun _ h=>absurd h List.not_mem_nil) (fun _ h=>absurd h List.not_mem_nil)
theorem oEK {k : Int} (h : 1 ≤ k∧k ≤ 4) : openE (balE []) ⟨[],[k],[],[]⟩ = 0:=oE okE canE (fun _ h=>absurd h List.not_mem_nil) (fun n hn=>by rw [List.mem_singleton.1 hn];exact h) (fun _ h=>absurd h List.not_mem_nil) (fun _ h=>absurd h List.not_mem_nil)
theorem oEW {n : Int} (h : n = 1∨n = 2) : openE (balE []) (caN n)=0:=oE okE canE (fun _ h=>absurd h List.not_mem_nil) (fun _ h=>absurd h List.not_mem_nil) (fun m hm=>by rw [List.mem_singleton.1 hm];rcases h with rfl | rfl;exact List.mem_cons_self;exact List.mem_cons_of_mem _ List.mem_cons_self) (fun _ h=>absurd h List.not_mem_nil)
theorem oED {d : Int} (h : 0 ≤ d∧d ≤ 200) : openE (balE []) (caD d)=0:=oE okE canE (fun _ h=>absurd h List.not_mem_nil) (fun _ h=>absurd h List.not_mem_nil) (fun _ h=>absurd h List.not_mem_nil) (fun n hn=>by rw [List.mem_singleton.1 hn];exact h)
theorem vKinds : ((ofKind (truthsB (balE [])) 1,ofKind (truthsB (balE [])) 2),ofKind (truthsB (balE [])) 3,ofKind (truthsB (balE [])) 4)=((1,1),1,1):=by kernel_rfl
theorem vKind1 : ofKind (truthsB (balE [])) 1 = 1:=congrArg (fun x=>x.1.1) vKinds
theorem vKind3 : ofKind (truthsB (balE [])) 3 = 1:=congrArg (fun x=>x.2.1) vKinds
theorem vCutT : cutT 4 (truthsB (balE [])) = ⟨1,3⟩:=by kernel_rfl
theorem vCut : cutB (balE []) = (⟨1,3⟩,0):=by
 unfold cutB
 rw [if_pos oE0,show (balE []).layers = 4 from rfl,vCutT,if_neg (by decide)]
theorem vAsk : askB (balE []) = (2,3):=by
 unfold askB
 kernel_rfl
theorem vDry : dryOf (balE []) = ⟨441,452⟩:=by
 unfold dryOf
 rw [wtsE]
 rfl
theorem vWet1 : wetOf (balE []) ⟨1,480,60,90⟩ = ⟨62,90⟩:=by
 unfold wetOf
 rw [vDry]
 kernel_rfl
theorem vWet2 : wetOf (balE []) ⟨2,470,40,70⟩ = ⟨40,68⟩:=by
 unfold wetOf
 rw [vDry]
 kernel_rfl
theorem vAside {d : Int} : asideF (balE []) d = max (max 1 (knb (decide ((90 : Int) > d)) (decide ((62 : Int)≤d)))) (knb (decide ((68 : Int) > d)) (decide ((40 : Int)≤d))):=by
 unfold asideF
 rw [vKind1]
 show max (max (2 - 1) (damperOf (balE []) ⟨1,480,60,90⟩ d)) (damperOf (balE []) ⟨2,470,40,70⟩ d)=_
 unfold damperOf
 rw [vWet1,vWet2]
 rfl
theorem exD_nil (B : Bl) : outD B [] = B:=by
 unfold outD excDr
 rw [List.filter_eq_self.2 (fun e _=>by simp)]
theorem exW_nil (B : Bl) : outW B [] = B:=by
 unfold outW excWg
 rw [List.filter_eq_self.2 (fun e _=>by simp)]
theorem vDecT : decL (truthsB (balE [])) 4 = [1,2,3]:=by kernel_rfl
theorem vDecide : decideB (balE []) = [1,2,3]:=by
 unfold decideB lIf
 rw [if_pos oE0]
 exact vDecT
theorem vFewD : fewD (balE oddD)=some [⟨1,0,3,3⟩]:=by
 have h0 : okD (balE oddD) [] = false:=by
  unfold okD
  rw [exD_nil]
  exact decide_eq_false (fun h=>by
   have : (⟨5,3⟩ : Sp) ∈ gsOf (balE oddD):=by rw [gsO];exact List.mem_cons_self
   exact h _ this (by decide))
 have e1 : outD (balE oddD) [⟨1,0,3,3⟩] = ⟨1,4,400,500,[⟨2,3,3,4⟩,⟨3,1,3,6⟩,⟨4,0,5,6⟩],wgE⟩:=by
  unfold outD excDr
  simp [balE,drE,oddD]
 have h1 : okD (balE oddD) [⟨1,0,3,3⟩] = true:=by
  unfold okD
  rw [e1]
  refine decide_eq_true (fun s hs=>?_)
  have e : (gradesOf ⟨1,4,400,500,[⟨2,3,3,4⟩,⟨3,1,3,6⟩,⟨4,0,5,6⟩],wgE⟩).take (4 : Int).toNat = [⟨5,6⟩,⟨3,6⟩,⟨1,9⟩,⟨3,4⟩]:=by kernel_rfl
  change s ∈ (gradesOf ⟨1,4,400,500,[⟨2,3,3,4⟩,⟨3,1,3,6⟩,⟨4,0,5,6⟩],wgE⟩).take (4 : Int).toNat at hs
  rw [e] at hs
  simp only [List.mem_cons,List.not_mem_nil,or_false] at hs
  rcases hs with rfl | rfl | rfl | rfl <;> decide
 unfold fewD
 show few (okD (balE oddD)) [⟨1,0,3,3⟩,⟨2,3,3,4⟩,⟨3,1,3,6⟩,⟨4,0,5,6⟩] 4 0 = _
 simp [few,lon,h0,h1]
theorem vFewW : fewW (balE oddD)=some []:=by
 have h0 : okWt (balE oddD) [] = true:=by
  unfold okWt
  rw [exW_nil,wtsO]
  exact decide_eq_true (by decide)
 unfold fewW
 show few (okWt (balE oddD)) [⟨1,480,60,90⟩,⟨2,470,40,70⟩] 3 0 = _
 simp [few,lon,h0]
theorem vWrong : wrongF (balE oddD)=([1],[],0):=by
 unfold wrongF
 rw [if_pos okO,if_pos (by rw [vFewD,vFewW];exact ⟨rfl,rfl⟩),vFewD,vFewW]
 rfl
set_option maxRecDepth 10000
theorem X.gen {P : Program} {n : Nat} {c : Code} {F : FS} {H : List Row} {Q : QX} (k : ∀ G,G = H → X P n c F G Q) : X P n c F H Q:=k H rfl
theorem spIf_pos {p : Prop} [Decidable p] (h : p) (s : Sp) : spIf p s = s:=if_pos h
theorem uIf_pos {p : Prop} (h : p) (s : Int) : uIf p s = s:=if_pos h
theorem eqE (e : Sp) (w : World) : (Op.equalIn 10000 24 (.agg (cSp e).toArray) (.agg (cSp e).toArray)).run Tryz.prog w = .ok true w:=by
 rw [eqSp 9998,decide_eq_true rfl]
theorem intsT (l : List Int) (a a' : Option Addr) (c c' : Nat) (H : List Row) (hl : SlE H a cI 1 l) (hw : SlE H a' cI 1 l) (hb : l.length ≤ 1000) : Fc Tryz.prog 28 [.slice a l.length c,.slice a' l.length c'] H (fun v H' => v = .bool true∧H' = H):=by
 have:=ints_spec l l a a' c c' H hl hw hb
 rwa [decide_eq_true rfl] at this
theorem aLay (bn kn bw : Nat) (S : List Row) (h : BlOk S (balE []) ⟨some ⟨bn,0,none⟩,kn,some ⟨bw,0,none⟩,2⟩) : Fc Tryz.prog 12 [.agg (cBl (balE []) ⟨some ⟨bn,0,none⟩,kn,some ⟨bw,0,none⟩,2⟩).toArray,.int .i64 1] S (fun v H' => v = .tuple #[.agg (cSp ⟨3,6⟩).toArray,.int .i64 0]∧H' = S):=by
 have:=klayer_spec (balE []) ⟨some ⟨bn,0,none⟩,kn,some ⟨bw,0,none⟩,2⟩ 1 S h
 rw [spIf_pos (oEL (by decide)),oEL (by decide),show spAt (gradesOf (balE [])) (1 : Int).toNat = ⟨3,6⟩ from by kernel_rfl] at this
 exact this
theorem aBst (bn kn bw : Nat) (S : List Row) (h : BlOk S (balE []) ⟨some ⟨bn,0,none⟩,kn,some ⟨bw,0,none⟩,2⟩) : Fc Tryz.prog 33 [.agg (cBl (balE []) ⟨some ⟨bn,0,none⟩,kn,some ⟨bw,0,none⟩,2⟩).toArray] S (fun v H' => v = .tuple #[.agg (cSp ⟨1,3⟩).toArray,.int .i64 0]∧H' = S):=by
 have:=kbest_spec (balE []) ⟨some ⟨bn,0,none⟩,kn,some ⟨bw,0,none⟩,2⟩ S h
 rw [spIf_pos oE0,oE0,show bestF ((gradesOf (balE [])).take (balE []).layers.toNat) (spAt (gradesOf (balE [])) 0) = ⟨1,3⟩ from by kernel_rfl] at this
 exact this
theorem aWor (bn kn bw : Nat) (S : List Row) (h : BlOk S (balE []) ⟨some ⟨bn,0,none⟩,kn,some ⟨bw,0,none⟩,2⟩) : Fc Tryz.prog 34 [.agg (cBl (balE []) ⟨some ⟨bn,0,none⟩,kn,some ⟨bw,0,none⟩,2⟩).toArray] S (fun v H' => v = .tuple #[.agg (cSp ⟨3,9⟩).toArray,.int .i64 0]∧H' = S):=by
 have:=kworst_spec (balE []) ⟨some ⟨bn,0,none⟩,kn,some ⟨bw,0,none⟩,2⟩ S h
 rw [spIf_pos oE0,oE0,show worstF ((gradesOf (balE [])).take (balE []).layers.toNat) (spAt (gradesOf (balE [])) 0) = ⟨3,9⟩ from by kernel_rfl] at this
 exact this
theorem aKin (bn kn bw : Nat) (S : List Row) (h : BlOk S (balE []) ⟨some ⟨bn,0,none⟩,kn,some ⟨bw,0,none⟩,2⟩) : Fc Tryz.prog 18 [.agg (cBl (balE []) ⟨some ⟨bn,0,none⟩,kn,some ⟨bw,0,none⟩,2⟩).toArray,.int .i64 3] S (fun v H' => v = .tuple #[.int .u8 1,.int .i64 0]∧H' = S):=by
 have:=kKind_spec (balE []) ⟨some ⟨bn,0,none⟩,kn,some ⟨bw,0,none⟩,2⟩ 3 S h
 rw [uIf_pos (oEK (by decide)),oEK (by decide),vKind3] at this
 exact this
theorem aCut (bn kn bw : Nat) (S : List Row) (h : BlOk S (balE []) ⟨some ⟨bn,0,none⟩,kn,some ⟨bw,0,none⟩,2⟩) : Fc Tryz.prog 22 [.agg (cBl (balE []) ⟨some ⟨bn,0,none⟩,kn,some ⟨bw,0,none⟩,2⟩).toArray] S (fun v H' => v = .tuple #[.agg (cSp ⟨1,3⟩).toArray,.int .i64 0]∧H' = S):=by
 have:=kCut_spec (balE []) ⟨some ⟨bn,0,none⟩,kn,some ⟨bw,0,none⟩,2⟩ S h
 rw [vCut] at this
 exact this
theorem aAsk (bn kn bw : Nat) (S : List Row) (h : BlOk S (balE []) ⟨some ⟨bn,0,none⟩,kn,some ⟨bw,0,none⟩,2⟩) : Fc Tryz.prog 46 [.agg (cBl (balE []) ⟨some ⟨bn,0,none⟩,kn,some ⟨bw,0,none⟩,2⟩).toArray] S (fun v H' => v = .tuple #[.int .i64 2,.int .i64 3,.int .i64 0]∧H' = S):=by
 have:=kAsk_spec (balE []) ⟨some ⟨bn,0,none⟩,kn,some ⟨bw,0,none⟩,2⟩ S h
 rw [uIf_pos oE0,uIf_pos oE0,oE0,vAsk] at this
 exact this
theorem aDec (bn kn bw : Nat) (S : List Row) (h : BlOk S (balE []) ⟨some ⟨bn,0,none⟩,kn,some ⟨bw,0,none⟩,2⟩) : Fc Tryz.prog 41 [.agg (cBl (balE []) ⟨some ⟨bn,0,none⟩,kn,some ⟨bw,0,none⟩,2⟩).toArray] S (fun v H' => ∃ b q,v = .tuple #[.slice (some ⟨b,0,none⟩) 3 q,.int .i64 0]∧H' = ⟨b,0,[1,2,3].flatMap cI,some 3,q * 1⟩::S):=by
 refine (kDecide_spec (balE []) ⟨some ⟨bn,0,none⟩,kn,some ⟨bw,0,none⟩,2⟩ S h).mono fun v H' q=>?_
 rw [vDecide,oE0] at q
 obtain ⟨out,Z,h1,rfl,rfl⟩:=q
 rcases h1 with ⟨h1,_,_⟩ | ⟨b,q,rfl,rfl⟩
 ·cases h1
 ·exact ⟨b,q,rfl,rfl⟩
theorem aDry (bn kn bw : Nat) (S : List Row) (h : BlOk S (balE []) ⟨some ⟨bn,0,none⟩,kn,some ⟨bw,0,none⟩,2⟩) : Fc Tryz.prog 36 [.agg (cBl (balE []) ⟨some ⟨bn,0,none⟩,kn,some ⟨bw,0,none⟩,2⟩).toArray] S (fun v H' => v = .tuple #[.agg (cSp ⟨441,452⟩).toArray,.int .i64 0]∧H' = S):=by
 have:=kdry_spec (balE []) ⟨some ⟨bn,0,none⟩,kn,some ⟨bw,0,none⟩,2⟩ S h
 rw [spIf_pos oE0,oE0,vDry] at this
 exact this
theorem aWet (bn kn bw : Nat) (S : List Row) (h : BlOk S (balE []) ⟨some ⟨bn,0,none⟩,kn,some ⟨bw,0,none⟩,2⟩) : Fc Tryz.prog 14 [.agg (cBl (balE []) ⟨some ⟨bn,0,none⟩,kn,some ⟨bw,0,none⟩,2⟩).toArray,.int .i64 1] S (fun v H' => v = .tuple #[.agg (cSp ⟨62,90⟩).toArray,.int .i64 0]∧H' = S):=by
 have:=kWet_spec (balE []) ⟨some ⟨bn,0,none⟩,kn,some ⟨bw,0,none⟩,2⟩ 1 S h
 rw [spIf_pos (oEW (.inl rfl)),oEW (.inl rfl),show numW (balE []).weighs 1 = ⟨1,480,60,90⟩ from by kernel_rfl,vWet1] at this
 exact this
theorem aKno (bn kn bw : Nat) (S : List Row) (h : BlOk S (balE []) ⟨some ⟨bn,0,none⟩,kn,some ⟨bw,0,none⟩,2⟩) : Fc Tryz.prog 15 [.agg (cBl (balE []) ⟨some ⟨bn,0,none⟩,kn,some ⟨bw,0,none⟩,2⟩).toArray,.int .i64 1,.int .i64 61] S (fun v H' => v = .tuple #[.int .u8 2,.int .i64 0]∧H' = S):=by
 have:=kKnown_spec (balE []) ⟨some ⟨bn,0,none⟩,kn,some ⟨bw,0,none⟩,2⟩ 1 61 S h
 rw [uIf_pos (oEW (.inl rfl)),oEW (.inl rfl),show numW (balE []).weighs 1 = ⟨1,480,60,90⟩ from by kernel_rfl,show damperOf (balE []) ⟨1,480,60,90⟩ 61 = 2 from by unfold damperOf;rw [vWet1];rfl] at this
 exact this
theorem aPay (bn kn bw : Nat) (S : List Row) (h : BlOk S (balE []) ⟨some ⟨bn,0,none⟩,kn,some ⟨bw,0,none⟩,2⟩) : Fc Tryz.prog 23 [.agg (cBl (balE []) ⟨some ⟨bn,0,none⟩,kn,some ⟨bw,0,none⟩,2⟩).toArray,.int .i64 85] S (fun v H' => v = .tuple #[.agg (cSp ⟨478,490⟩).toArray,.int .i64 0]∧H' = S):=by
 have:=kPays_spec (balE []) ⟨some ⟨bn,0,none⟩,kn,some ⟨bw,0,none⟩,2⟩ 85 S h
 rw [spIf_pos (oED (by decide)),oED (by decide),vDry,show payF ⟨441,452⟩ 85 = ⟨478,490⟩ from by kernel_rfl] at this
 exact this
theorem aAsi (bn kn bw : Nat) (S : List Row) (h : BlOk S (balE []) ⟨some ⟨bn,0,none⟩,kn,some ⟨bw,0,none⟩,2⟩) : Fc Tryz.prog 16 [.agg (cBl (balE []) ⟨some ⟨bn,0,none⟩,kn,some ⟨bw,0,none⟩,2⟩).toArray,.int .i64 90] S (fun v H' => v = .tuple #[.int .u8 1,.int .i64 0]∧H' = S):=by
 have:=kAside_spec (balE []) ⟨some ⟨bn,0,none⟩,kn,some ⟨bw,0,none⟩,2⟩ 90 S h
 rw [uIf_pos (oED (by decide)),oED (by decide),vAside,show max (max 1 (knb (decide ((90 : Int) > 90)) (decide ((62 : Int)≤90)))) (knb (decide ((68 : Int) > 90)) (decide ((40 : Int)≤90))) = 1 from by decide] at this
 exact this
theorem aCan (bn kn bw : Nat) (S : List Row) (h : BlOk S (balE oddD) ⟨some ⟨bn,0,none⟩,kn,some ⟨bw,0,none⟩,2⟩) : Fc Tryz.prog 39 [.agg (cBl (balE oddD) ⟨some ⟨bn,0,none⟩,kn,some ⟨bw,0,none⟩,2⟩).toArray] S (fun v H' => v = .tuple #[.bool false,.int .i64 0]∧H' = S):=by
 have:=kcan_spec (balE oddD) ⟨some ⟨bn,0,none⟩,kn,some ⟨bw,0,none⟩,2⟩ S h
 rw [decide_eq_false (fun q=>noO q.2),if_pos okO] at this
 exact this
theorem aWrg (bn kn bw : Nat) (S : List Row) (h : BlOk S (balE oddD) ⟨some ⟨bn,0,none⟩,kn,some ⟨bw,0,none⟩,2⟩) : Fc Tryz.prog 27 [.agg (cBl (balE oddD) ⟨some ⟨bn,0,none⟩,kn,some ⟨bw,0,none⟩,2⟩).toArray] S (fun v H' => ∃ a1 c1 a2 c2 Z,v = .tuple #[.slice a1 1 c1,.slice a2 0 c2,.int .i64 0]∧SlE (Z++S) a1 cI 1 [1]∧SlE (Z++S) a2 cI 1 []∧H' = Z++S):=by
 have:=kwrong_spec (balE oddD) ⟨bn,0,none⟩ kn ⟨bw,0,none⟩ 2 S h
 rw [vWrong] at this
 exact this
theorem lit3 : fillL (fun i=>some (i * 1,1)) ((Array.range (3 * 1)).map (fun x=>(Value.int .i64 0).cells[x % (Value.int .i64 0).cells.size]!)).toList [(0,.int .i64 1),(1,.int .i64 2),(2,.int .i64 3)] = some [.int .i64 1,.int .i64 2,.int .i64 3]:=by kernel_rfl
def tsKal : List TOp:=[⟨some 57,[],[],[]⟩,⟨some 58,[0],[0],[]⟩,⟨some 59,[0,1],[1],[]⟩,⟨some 60,[0,1,2],[],[]⟩,⟨some 61,[0,1,2],[],[]⟩,⟨some 62,[0,1,2,3,4],[3,4],[]⟩,⟨some 63,[0,1,2,3,4,5],[2,5],[]⟩,⟨some 64,[0,1,2,3,4,5,6],[6],[]⟩,⟨some 65,[0,1,2,3,4,5,6,7],[],[]⟩,⟨some 66,[0,1,2,3,4,5,6,7,8],[8],[]⟩,⟨some 67,[0,1,2,3,4,5,6,7,8,9],[7,9],[]⟩,⟨some 68,[0,1,2,3,4,5,6,7,8,9,10],[10],[]⟩,⟨some 69,[0,1,2,3,4,5,6,7,8,9,10,11],[],[]⟩,⟨some 70,[0,1,2,3,4,5,6,7,8,9,10,11],[],[]⟩,⟨some 71,[0,1,2,3,4,5,6,7,8,9,10,11,12,13],[12,13],[]⟩,⟨some 72,[0,1,2,3,4,5,6,7,8,9,10,11,12,13,14],[11,14],[]⟩,⟨some 73,[0,1,2,3,4,5,6,7,8,9,10,11,12,13,14,15],[15],[]⟩,⟨some 74,[0,1,2,3,4,5,6,7,8,9,10,11,12,13,14,15,16],[],[]⟩,⟨some 75,[0,1,2,3,4,5,6,7,8,9,10,11,12,13,14,15,16,17],[17],[]⟩,⟨some 76,[0,1,2,3,4,5,6,7,8,9,10,11,12,13,14,15,16,17,18],[16,18],[]⟩,⟨some 77,[0,1,2,3,4,5,6,7,8,9,10,11,12,13,14,15,16,17,18,19],[19],[]⟩,⟨some 78,[0,1,2,3,4,5,6,7,8,9,10,11,12,13,14,15,16,17,18,19,20],[],[]⟩,⟨some 79,[0,1,2,3,4,5,6,7,8,9,10,11,12,13,14,15,16,17,18,19,20],[],[]⟩,⟨some 80,[0,1,2,3,4,5,6,7,8,9,10,11,12,13,14,15,16,17,18,19,20,21,22],[21,22],[]⟩,⟨some 81,[0,1,2,3,4,5,6,7,8,9,10,11,12,13,14,15,16,17,18,19,20,21,22,23],[20,23],[]⟩,⟨some 82,[0,1,2,3,4,5,6,7,8,9,10,11,12,13,14,15,16,17,18,19,20,21,22,23,24],[24],[]⟩,⟨some 83,[0,1,2,3,4,5,6,7,8,9,10,11,12,13,14,15,16,17,18,19,20,21,22,23,24,25],[],[]⟩,⟨some 84,[0,1,2,3,4,5,6,7,8,9,10,11,12,13,14,15,16,17,18,19,20,21,22,23,24,25,26],[26],[]⟩,⟨some 85,[0,1,2,3,4,5,6,7,8,9,10,11,12,13,14,15,16,17,18,19,20,21,22,23,24,25,26,27],[25,27],[]⟩,⟨some 86,[0,1,2,3,4,5,6,7,8,9,10,11,12,13,14,15,16,17,18,19,20,21,22,23,24,25,26,27,28],[28],[]⟩,⟨some 87,[0,1,2,3,4,5,6,7,8,9,10,11,12,13,14,15,16,17,18,19,20,21,22,23,24,25,26,27,28,29],[],[]⟩,⟨some 88,[0,1,2,3,4,5,6,7,8,9,10,11,12,13,14,15,16,17,18,19,20,21,22,23,24,25,26,27,28,29,30],[30],[]⟩,⟨some 89,[0,1,2,3,4,5,6,7,8,9,10,11,12,13,14,15,16,17,18,19,20,21,22,23,24,25,26,27,28,29,30,31],[29,31],[]⟩,⟨some 90,[0,1,2,3,4,5,6,7,8,9,10,11,12,13,14,15,16,17,18,19,20,21,22,23,24,25,26,27,28,29,30,31,32],[32],[]⟩,⟨some 91,[0,1,2,3,4,5,6,7,8,9,10,11,12,13,14,15,16,17,18,19,20,21,22,23,24,25,26,27,28,29,30,31,32,33],[],[]⟩,⟨some 92,[0,1,2,3,4,5,6,7,8,9,10,11,12,13,14,15,16,17,18,19,20,21,22,23,24,25,26,27,28,29,30,31,32,33,34],[34],[]⟩,⟨some 93,[0,1,2,3,4,5,6,7,8,9,10,11,12,13,14,15,16,17,18,19,20,21,22,23,24,25,26,27,28,29,30,31,32,33,34,35],[33,35],[]⟩,⟨some 94,[0,1,2,3,4,5,6,7,8,9,10,11,12,13,14,15,16,17,18,19,20,21,22,23,24,25,26,27,28,29,30,31,32,33,34,35,36],[36],[]⟩,⟨some 95,[0,1,2,3,4,5,6,7,8,9,10,11,12,13,14,15,16,17,18,19,20,21,22,23,24,25,26,27,28,29,30,31,32,33,34,35,36,37],[],[]⟩,⟨some 96,[0,1,2,3,4,5,6,7,8,9,10,11,12,13,14,15,16,17,18,19,20,21,22,23,24,25,26,27,28,29,30,31,32,33,34,35,36,37],[],[]⟩,⟨some 97,[0,1,2,3,4,5,6,7,8,9,10,11,12,13,14,15,16,17,18,19,20,21,22,23,24,25,26,27,28,29,30,31,32,33,34,35,36,37,38,39],[38,39],[]⟩,⟨some 98,[0,1,2,3,4,5,6,7,8,9,10,11,12,13,14,15,16,17,18,19,20,21,22,23,24,25,26,27,28,29,30,31,32,33,34,35,36,37,38,39,40],[37,40],[]⟩,⟨some 99,[0,1,2,3,4,5,6,7,8,9,10,11,12,13,14,15,16,17,18,19,20,21,22,23,24,25,26,27,28,29,30,31,32,33,34,35,36,37,38,39,40,41],[41],[]⟩,⟨some 100,[0,1,2,3,4,5,6,7,8,9,10,11,12,13,14,15,16,17,18,19,20,21,22,23,24,25,26,27,28,29,30,31,32,33,34,35,36,37,38,39,40,41,42],[],[]⟩,⟨some 101,[0,1,2,3,4,5,6,7,8,9,10,11,12,13,14,15,16,17,18,19,20,21,22,23,24,25,26,27,28,29,30,31,32,33,34,35,36,37,38,39,40,41,42,43],[43],[]⟩,⟨some 102,[0,1,2,3,4,5,6,7,8,9,10,11,12,13,14,15,16,17,18,19,20,21,22,23,24,25,26,27,28,29,30,31,32,33,34,35,36,37,38,39,40,41,42,43,44],[42,44],[]⟩,⟨some 103,[0,1,2,3,4,5,6,7,8,9,10,11,12,13,14,15,16,17,18,19,20,21,22,23,24,25,26,27,28,29,30,31,32,33,34,35,36,37,38,39,40,41,42,43,44,45],[45],[]⟩,⟨some 104,[0,1,2,3,4,5,6,7,8,9,10,11,12,13,14,15,16,17,18,19,20,21,22,23,24,25,26,27,28,29,30,31,32,33,34,35,36,37,38,39,40,41,42,43,44,45,46],[],[]⟩,⟨some 105,[0,1,2,3,4,5,6,7,8,9,10,11,12,13,14,15,16,17,18,19,20,21,22,23,24,25,26,27,28,29,30,31,32,33,34,35,36,37,38,39,40,41,42,43,44,45,46,47],[47],[]⟩,⟨some 106,[0,1,2,3,4,5,6,7,8,9,10,11,12,13,14,15,16,17,18,19,20,21,22,23,24,25,26,27,28,29,30,31,32,33,34,35,36,37,38,39,40,41,42,43,44,45,46,47,48],[46,48],[]⟩,⟨some 107,[0,1,2,3,4,5,6,7,8,9,10,11,12,13,14,15,16,17,18,19,20,21,22,23,24,25,26,27,28,29,30,31,32,33,34,35,36,37,38,39,40,41,42,43,44,45,46,47,48,49],[49],[]⟩,⟨some 108,[0,1,2,3,4,5,6,7,8,9,10,11,12,13,14,15,16,17,18,19,20,21,22,23,24,25,26,27,28,29,30,31,32,33,34,35,36,37,38,39,40,41,42,43,44,45,46,47,48,49,50],[],[]⟩,⟨some 109,[0,1,2,3,4,5,6,7,8,9,10,11,12,13,14,15,16,17,18,19,20,21,22,23,24,25,26,27,28,29,30,31,32,33,34,35,36,37,38,39,40,41,42,43,44,45,46,47,48,49,50,51],[51],[]⟩,⟨some 110,[0,1,2,3,4,5,6,7,8,9,10,11,12,13,14,15,16,17,18,19,20,21,22,23,24,25,26,27,28,29,30,31,32,33,34,35,36,37,38,39,40,41,42,43,44,45,46,47,48,49,50,51,52],[50,52],[]⟩,⟨some 111,[0,1,2,3,4,5,6,7,8,9,10,11,12,13,14,15,16,17,18,19,20,21,22,23,24,25,26,27,28,29,30,31,32,33,34,35,36,37,38,39,40,41,42,43,44,45,46,47,48,49,50,51,52,53],[53],[]⟩,⟨some 112,[0,1,2,3,4,5,6,7,8,9,10,11,12,13,14,15,16,17,18,19,20,21,22,23,24,25,26,27,28,29,30,31,32,33,34,35,36,37,38,39,40,41,42,43,44,45,46,47,48,49,50,51,52,53,54],[],[]⟩,⟨some 113,[0,1,2,3,4,5,6,7,8,9,10,11,12,13,14,15,16,17,18,19,20,21,22,23,24,25,26,27,28,29,30,31,32,33,34,35,36,37,38,39,40,41,42,43,44,45,46,47,48,49,50,51,52,53,54,55],[55],[]⟩,⟨some 114,[0,1,2,3,4,5,6,7,8,9,10,11,12,13,14,15,16,17,18,19,20,21,22,23,24,25,26,27,28,29,30,31,32,33,34,35,36,37,38,39,40,41,42,43,44,45,46,47,48,49,50,51,52,53,54,55,56],[54,56],[]⟩,⟨some 115,[0,1,2,3,4,5,6,7,8,9,10,11,12,13,14,15,16,17,18,19,20,21,22,23,24,25,26,27,28,29,30,31,32,33,34,35,36,37,38,39,40,41,42,43,44,45,46,47,48,49,50,51,52,53,54,55,56,57],[57],[]⟩,⟨some 116,[0,1,2,3,4,5,6,7,8,9,10,11,12,13,14,15,16,17,18,19,20,21,22,23,24,25,26,27,28,29,30,31,32,33,34,35,36,37,38,39,40,41,42,43,44,45,46,47,48,49,50,51,52,53,54,55,56,57,58],[],[]⟩,⟨some 117,[0,1,2,3,4,5,6,7,8,9,10,11,12,13,14,15,16,17,18,19,20,21,22,23,24,25,26,27,28,29,30,31,32,33,34,35,36,37,38,39,40,41,42,43,44,45,46,47,48,49,50,51,52,53,54,55,56,57,58],[],[]⟩,⟨some 118,[0,1,2,3,4,5,6,7,8,9,10,11,12,13,14,15,16,17,18,19,20,21,22,23,24,25,26,27,28,29,30,31,32,33,34,35,36,37,38,39,40,41,42,43,44,45,46,47,48,49,50,51,52,53,54,55,56,57,58,59,60],[59,60],[60]⟩,⟨some 119,[0,1,2,3,4,5,6,7,8,9,10,11,12,13,14,15,16,17,18,19,20,21,22,23,24,25,26,27,28,29,30,31,32,33,34,35,36,37,38,39,40,41,42,43,44,45,46,47,48,49,50,51,52,53,54,55,56,57,58,59,60,61],[61],[]⟩,⟨some 120,[0,1,2,3,4,5,6,7,8,9,10,11,12,13,14,15,16,17,18,19,20,21,22,23,24,25,26,27,28,29,30,31,32,33,34,35,36,37,38,39,40,41,42,43,44,45,46,47,48,49,50,51,52,53,54,55,56,57,58,59,60,61,62],[58,62],[]⟩]
def valKal (b1 b3 b5 b9 b14 q14 : Nat) (k : Nat) (env : Env) : Value :=
 match k with
 | 0 => .int .i64 0
 | 1 => .bool false
 | 2 => .bool false
 | 3=>gt (false) (.agg (cSp ⟨3,6⟩).toArray)
 | 4=>gt (false) (.agg (cSp ⟨3,6⟩).toArray)
 | 5=>gt (false) (.bool false)
 | 6 => .bool false
 | 7 => .bool false
 | 8=>gt (false) (.int .i64 0)
 | 9=>gt (false) (.bool false)
 | 10 => .bool false
 | 11 => .bool false
 | 12=>gt (false) (.agg (cSp ⟨1,3⟩).toArray)
 | 13=>gt (false) (.agg (cSp ⟨1,3⟩).toArray)
 | 14=>gt (false) (.bool false)
 | 15 => .bool false
 | 16 => .bool false
 | 17=>gt (false) (.int .i64 0)
 | 18=>gt (false) (.bool false)
 | 19 => .bool false
 | 20 => .bool false
 | 21=>gt (false) (.agg (cSp ⟨3,9⟩).toArray)
 | 22=>gt (false) (.agg (cSp ⟨3,9⟩).toArray)
 | 23=>gt (false) (.bool false)
 | 24 => .bool false
 | 25 => .bool false
 | 26=>gt (false) (.int .i64 0)
 | 27=>gt (false) (.bool false)
 | 28 => .bool false
 | 29 => .bool false
 | 30=>gt (false) (.int .u8 1)
 | 31=>gt (false) (.bool false)
 | 32 => .bool false
 | 33 => .bool false
 | 34=>gt (false) (.int .i64 0)
 | 35=>gt (false) (.bool false)
 | 36 => .bool false
 | 37 => .bool false
 | 38=>gt (false) (.agg (cSp ⟨1,3⟩).toArray)
 | 39=>gt (false) (.agg (cSp ⟨1,3⟩).toArray)
 | 40=>gt (false) (.bool false)
 | 41 => .bool false
 | 42 => .bool false
 | 43=>gt (false) (.int .i64 0)
 | 44=>gt (false) (.bool false)
 | 45 => .bool false
 | 46 => .bool false
 | 47=>gt (false) (.int .i64 2)
 | 48=>gt (false) (.bool false)
 | 49 => .bool false
 | 50 => .bool false
 | 51=>gt (false) (.int .i64 3)
 | 52=>gt (false) (.bool false)
 | 53 => .bool false
 | 54 => .bool false
 | 55=>gt (false) (.int .i64 0)
 | 56=>gt (false) (.bool false)
 | 57 => .bool false
 | 58 => .bool false
 | 59=>gt (false) (.slice (some ⟨b14,0,none⟩) 3 q14)
 | 60=>gt (false) (.slice (some ⟨(env 60).1,0,none⟩) 3 3)
 | 61=>gt (false) (.bool true)
 | 62=>gt (false) (.bool false)
 | 63 => .bool false
 | _=>undef
def rowsKal (b1 b3 b5 b9 b14 q14 : Nat) (k : Nat) (env : Env) : List Row :=
 match k with
 | 60=>gr (false) [⟨(env 60).1,0,[.int .i64 1,.int .i64 2,.int .i64 3],some 3,3 * 1⟩]
 | _=>[]
theorem locKal (b1 b3 b5 b9 b14 q14 : Nat) : ∀ k env i q9,i ≠ k → (tAt tsKal k).sup.contains i = false → valKal b1 b3 b5 b9 b14 q14 k (upd env i q9)=valKal b1 b3 b5 b9 b14 q14 k env∧rowsKal b1 b3 b5 b9 b14 q14 k (upd env i q9)=rowsKal b1 b3 b5 b9 b14 q14 k env:=by
 intro k env i q hk hs
 have hu : ∀ j,j ≠ i → upd env i q j = env j:=fun j hj=>by unfold upd;rw [if_neg hj]
 match k,hk,hs with
 | 0,_,_=>exact ⟨rfl,rfl⟩
 | 1,_,_=>exact ⟨rfl,rfl⟩
 | 2,_,_=>exact ⟨rfl,rfl⟩
 | 3,_,_=>exact ⟨rfl,rfl⟩
 | 4,_,_=>exact ⟨rfl,rfl⟩
 | 5,_,_=>exact ⟨rfl,rfl⟩
 | 6,_,_=>exact ⟨rfl,rfl⟩
 | 7,_,_=>exact ⟨rfl,rfl⟩
 | 8,_,_=>exact ⟨rfl,rfl⟩
 | 9,_,_=>exact ⟨rfl,rfl⟩
 | 10,_,_=>exact ⟨rfl,rfl⟩
 | 11,_,_=>exact ⟨rfl,rfl⟩
 | 12,_,_=>exact ⟨rfl,rfl⟩
 | 13,_,_=>exact ⟨rfl,rfl⟩
 | 14,_,_=>exact ⟨rfl,rfl⟩
 | 15,_,_=>exact ⟨rfl,rfl⟩
 | 16,_,_=>exact ⟨rfl,rfl⟩
 | 17,_,_=>exact ⟨rfl,rfl⟩
 | 18,_,_=>exact ⟨rfl,rfl⟩
 | 19,_,_=>exact ⟨rfl,rfl⟩
 | 20,_,_=>exact ⟨rfl,rfl⟩
 | 21,_,_=>exact ⟨rfl,rfl⟩
 | 22,_,_=>exact ⟨rfl,rfl⟩
 | 23,_,_=>exact ⟨rfl,rfl⟩
 | 24,_,_=>exact ⟨rfl,rfl⟩
 | 25,_,_=>exact ⟨rfl,rfl⟩
 | 26,_,_=>exact ⟨rfl,rfl⟩
 | 27,_,_=>exact ⟨rfl,rfl⟩
 | 28,_,_=>exact ⟨rfl,rfl⟩
 | 29,_,_=>exact ⟨rfl,rfl⟩
 | 30,_,_=>exact ⟨rfl,rfl⟩
 | 31,_,_=>exact ⟨rfl,rfl⟩
 | 32,_,_=>exact ⟨rfl,rfl⟩
 | 33,_,_=>exact ⟨rfl,rfl⟩
 | 34,_,_=>exact ⟨rfl,rfl⟩
 | 35,_,_=>exact ⟨rfl,rfl⟩
 | 36,_,_=>exact ⟨rfl,rfl⟩
 | 37,_,_=>exact ⟨rfl,rfl⟩
 | 38,_,_=>exact ⟨rfl,rfl⟩
 | 39,_,_=>exact ⟨rfl,rfl⟩
 | 40,_,_=>exact ⟨rfl,rfl⟩
 | 41,_,_=>exact ⟨rfl,rfl⟩
 | 42,_,_=>exact ⟨rfl,rfl⟩
 | 43,_,_=>exact ⟨rfl,rfl⟩
 | 44,_,_=>exact ⟨rfl,rfl⟩
 | 45,_,_=>exact ⟨rfl,rfl⟩
 | 46,_,_=>exact ⟨rfl,rfl⟩
 | 47,_,_=>exact ⟨rfl,rfl⟩
 | 48,_,_=>exact ⟨rfl,rfl⟩
 | 49,_,_=>exact ⟨rfl,rfl⟩
 | 50,_,_=>exact ⟨rfl,rfl⟩
 | 51,_,_=>exact ⟨rfl,rfl⟩
 | 52,_,_=>exact ⟨rfl,rfl⟩
 | 53,_,_=>exact ⟨rfl,rfl⟩
 | 54,_,_=>exact ⟨rfl,rfl⟩
 | 55,_,_=>exact ⟨rfl,rfl⟩
 | 56,_,_=>exact ⟨rfl,rfl⟩
 | 57,_,_=>exact ⟨rfl,rfl⟩
 | 58,_,_=>exact ⟨rfl,rfl⟩
 | 59,_,_=>exact ⟨rfl,rfl⟩
 | 60,hk,hs=>exact ⟨by simp only [valKal,hu 60 (fun e=>hk e.symm)],by simp only [rowsKal,hu 60 (fun e=>hk e.symm)]⟩
 | 61,_,_=>exact ⟨rfl,rfl⟩
 | 62,_,_=>exact ⟨rfl,rfl⟩
 | 63,_,_=>exact ⟨rfl,rfl⟩
 | _ + 64,_,_=>exact ⟨rfl,rfl⟩
def tsKbl : List TOp:=[⟨some 157,[],[],[]⟩,⟨some 158,[0],[0],[]⟩,⟨some 159,[0,1],[1],[]⟩,⟨some 160,[0,1,2],[],[]⟩,⟨some 161,[0,1,2],[],[]⟩,⟨some 162,[0,1,2,3,4],[3,4],[]⟩,⟨some 163,[0,1,2,3,4,5],[2,5],[]⟩,⟨some 164,[0,1,2,3,4,5,6],[6],[]⟩,⟨some 165,[0,1,2,3,4,5,6,7],[],[]⟩,⟨some 166,[0,1,2,3,4,5,6,7,8],[8],[]⟩,⟨some 167,[0,1,2,3,4,5,6,7,8,9],[7,9],[]⟩,⟨some 168,[0,1,2,3,4,5,6,7,8,9,10],[10],[]⟩,⟨some 169,[0,1,2,3,4,5,6,7,8,9,10,11],[],[]⟩,⟨some 170,[0,1,2,3,4,5,6,7,8,9,10,11],[],[]⟩,⟨some 171,[0,1,2,3,4,5,6,7,8,9,10,11,12,13],[12,13],[]⟩,⟨some 172,[0,1,2,3,4,5,6,7,8,9,10,11,12,13,14],[11,14],[]⟩,⟨some 173,[0,1,2,3,4,5,6,7,8,9,10,11,12,13,14,15],[15],[]⟩,⟨some 174,[0,1,2,3,4,5,6,7,8,9,10,11,12,13,14,15,16],[],[]⟩,⟨some 175,[0,1,2,3,4,5,6,7,8,9,10,11,12,13,14,15,16,17],[17],[]⟩,⟨some 176,[0,1,2,3,4,5,6,7,8,9,10,11,12,13,14,15,16,17,18],[16,18],[]⟩,⟨some 177,[0,1,2,3,4,5,6,7,8,9,10,11,12,13,14,15,16,17,18,19],[19],[]⟩,⟨some 178,[0,1,2,3,4,5,6,7,8,9,10,11,12,13,14,15,16,17,18,19,20],[],[]⟩,⟨some 179,[0,1,2,3,4,5,6,7,8,9,10,11,12,13,14,15,16,17,18,19,20,21],[21],[]⟩,⟨some 180,[0,1,2,3,4,5,6,7,8,9,10,11,12,13,14,15,16,17,18,19,20,21,22],[20,22],[]⟩,⟨some 181,[0,1,2,3,4,5,6,7,8,9,10,11,12,13,14,15,16,17,18,19,20,21,22,23],[23],[]⟩,⟨some 182,[0,1,2,3,4,5,6,7,8,9,10,11,12,13,14,15,16,17,18,19,20,21,22,23,24],[],[]⟩,⟨some 183,[0,1,2,3,4,5,6,7,8,9,10,11,12,13,14,15,16,17,18,19,20,21,22,23,24,25],[25],[]⟩,⟨some 184,[0,1,2,3,4,5,6,7,8,9,10,11,12,13,14,15,16,17,18,19,20,21,22,23,24,25,26],[24,26],[]⟩,⟨some 185,[0,1,2,3,4,5,6,7,8,9,10,11,12,13,14,15,16,17,18,19,20,21,22,23,24,25,26,27],[27],[]⟩,⟨some 186,[0,1,2,3,4,5,6,7,8,9,10,11,12,13,14,15,16,17,18,19,20,21,22,23,24,25,26,27,28],[],[]⟩,⟨some 187,[0,1,2,3,4,5,6,7,8,9,10,11,12,13,14,15,16,17,18,19,20,21,22,23,24,25,26,27,28],[],[]⟩,⟨some 188,[0,1,2,3,4,5,6,7,8,9,10,11,12,13,14,15,16,17,18,19,20,21,22,23,24,25,26,27,28,29,30],[29,30],[]⟩,⟨some 189,[0,1,2,3,4,5,6,7,8,9,10,11,12,13,14,15,16,17,18,19,20,21,22,23,24,25,26,27,28,29,30,31],[28,31],[]⟩,⟨some 190,[0,1,2,3,4,5,6,7,8,9,10,11,12,13,14,15,16,17,18,19,20,21,22,23,24,25,26,27,28,29,30,31,32],[32],[]⟩,⟨some 191,[0,1,2,3,4,5,6,7,8,9,10,11,12,13,14,15,16,17,18,19,20,21,22,23,24,25,26,27,28,29,30,31,32,33],[],[]⟩,⟨some 192,[0,1,2,3,4,5,6,7,8,9,10,11,12,13,14,15,16,17,18,19,20,21,22,23,24,25,26,27,28,29,30,31,32,33,34],[34],[]⟩,⟨some 193,[0,1,2,3,4,5,6,7,8,9,10,11,12,13,14,15,16,17,18,19,20,21,22,23,24,25,26,27,28,29,30,31,32,33,34,35],[33,35],[]⟩,⟨some 194,[0,1,2,3,4,5,6,7,8,9,10,11,12,13,14,15,16,17,18,19,20,21,22,23,24,25,26,27,28,29,30,31,32,33,34,35,36],[36],[]⟩,⟨some 195,[0,1,2,3,4,5,6,7,8,9,10,11,12,13,14,15,16,17,18,19,20,21,22,23,24,25,26,27,28,29,30,31,32,33,34,35,36,37],[],[]⟩,⟨some 196,[0,1,2,3,4,5,6,7,8,9,10,11,12,13,14,15,16,17,18,19,20,21,22,23,24,25,26,27,28,29,30,31,32,33,34,35,36,37,38],[38],[]⟩,⟨some 197,[0,1,2,3,4,5,6,7,8,9,10,11,12,13,14,15,16,17,18,19,20,21,22,23,24,25,26,27,28,29,30,31,32,33,34,35,36,37,38,39],[37,39],[]⟩,⟨some 198,[0,1,2,3,4,5,6,7,8,9,10,11,12,13,14,15,16,17,18,19,20,21,22,23,24,25,26,27,28,29,30,31,32,33,34,35,36,37,38,39,40],[40],[]⟩,⟨some 199,[0,1,2,3,4,5,6,7,8,9,10,11,12,13,14,15,16,17,18,19,20,21,22,23,24,25,26,27,28,29,30,31,32,33,34,35,36,37,38,39,40,41],[],[]⟩,⟨some 200,[0,1,2,3,4,5,6,7,8,9,10,11,12,13,14,15,16,17,18,19,20,21,22,23,24,25,26,27,28,29,30,31,32,33,34,35,36,37,38,39,40,41,42],[42],[]⟩,⟨some 201,[0,1,2,3,4,5,6,7,8,9,10,11,12,13,14,15,16,17,18,19,20,21,22,23,24,25,26,27,28,29,30,31,32,33,34,35,36,37,38,39,40,41,42,43],[41,43],[]⟩,⟨some 202,[0,1,2,3,4,5,6,7,8,9,10,11,12,13,14,15,16,17,18,19,20,21,22,23,24,25,26,27,28,29,30,31,32,33,34,35,36,37,38,39,40,41,42,43,44],[44],[]⟩,⟨some 203,[0,1,2,3,4,5,6,7,8,9,10,11,12,13,14,15,16,17,18,19,20,21,22,23,24,25,26,27,28,29,30,31,32,33,34,35,36,37,38,39,40,41,42,43,44,45],[],[]⟩,⟨some 204,[0,1,2,3,4,5,6,7,8,9,10,11,12,13,14,15,16,17,18,19,20,21,22,23,24,25,26,27,28,29,30,31,32,33,34,35,36,37,38,39,40,41,42,43,44,45,46],[46],[]⟩,⟨some 205,[0,1,2,3,4,5,6,7,8,9,10,11,12,13,14,15,16,17,18,19,20,21,22,23,24,25,26,27,28,29,30,31,32,33,34,35,36,37,38,39,40,41,42,43,44,45,46,47],[45,47],[]⟩,⟨some 206,[0,1,2,3,4,5,6,7,8,9,10,11,12,13,14,15,16,17,18,19,20,21,22,23,24,25,26,27,28,29,30,31,32,33,34,35,36,37,38,39,40,41,42,43,44,45,46,47,48],[48],[]⟩,⟨some 207,[0,1,2,3,4,5,6,7,8,9,10,11,12,13,14,15,16,17,18,19,20,21,22,23,24,25,26,27,28,29,30,31,32,33,34,35,36,37,38,39,40,41,42,43,44,45,46,47,48,49],[],[]⟩,⟨some 208,[0,1,2,3,4,5,6,7,8,9,10,11,12,13,14,15,16,17,18,19,20,21,22,23,24,25,26,27,28,29,30,31,32,33,34,35,36,37,38,39,40,41,42,43,44,45,46,47,48,49,50],[50],[]⟩,⟨some 209,[0,1,2,3,4,5,6,7,8,9,10,11,12,13,14,15,16,17,18,19,20,21,22,23,24,25,26,27,28,29,30,31,32,33,34,35,36,37,38,39,40,41,42,43,44,45,46,47,48,49,50,51],[49,51],[]⟩,⟨some 210,[0,1,2,3,4,5,6,7,8,9,10,11,12,13,14,15,16,17,18,19,20,21,22,23,24,25,26,27,28,29,30,31,32,33,34,35,36,37,38,39,40,41,42,43,44,45,46,47,48,49,50,51,52],[52],[]⟩,⟨some 211,[0,1,2,3,4,5,6,7,8,9,10,11,12,13,14,15,16,17,18,19,20,21,22,23,24,25,26,27,28,29,30,31,32,33,34,35,36,37,38,39,40,41,42,43,44,45,46,47,48,49,50,51,52,53],[],[]⟩,⟨some 212,[0,1,2,3,4,5,6,7,8,9,10,11,12,13,14,15,16,17,18,19,20,21,22,23,24,25,26,27,28,29,30,31,32,33,34,35,36,37,38,39,40,41,42,43,44,45,46,47,48,49,50,51,52,53],[],[]⟩,⟨some 213,[0,1,2,3,4,5,6,7,8,9,10,11,12,13,14,15,16,17,18,19,20,21,22,23,24,25,26,27,28,29,30,31,32,33,34,35,36,37,38,39,40,41,42,43,44,45,46,47,48,49,50,51,52,53,54,55],[54,55],[55]⟩,⟨some 214,[0,1,2,3,4,5,6,7,8,9,10,11,12,13,14,15,16,17,18,19,20,21,22,23,24,25,26,27,28,29,30,31,32,33,34,35,36,37,38,39,40,41,42,43,44,45,46,47,48,49,50,51,52,53,54,55,56],[53,56],[]⟩,⟨some 215,[0,1,2,3,4,5,6,7,8,9,10,11,12,13,14,15,16,17,18,19,20,21,22,23,24,25,26,27,28,29,30,31,32,33,34,35,36,37,38,39,40,41,42,43,44,45,46,47,48,49,50,51,52,53,54,55,56,57],[57],[]⟩,⟨some 216,[0,1,2,3,4,5,6,7,8,9,10,11,12,13,14,15,16,17,18,19,20,21,22,23,24,25,26,27,28,29,30,31,32,33,34,35,36,37,38,39,40,41,42,43,44,45,46,47,48,49,50,51,52,53,54,55,56,57,58],[],[]⟩,⟨some 217,[0,1,2,3,4,5,6,7,8,9,10,11,12,13,14,15,16,17,18,19,20,21,22,23,24,25,26,27,28,29,30,31,32,33,34,35,36,37,38,39,40,41,42,43,44,45,46,47,48,49,50,51,52,53,54,55,56,57,58,59],[59],[]⟩,⟨some 218,[0,1,2,3,4,5,6,7,8,9,10,11,12,13,14,15,16,17,18,19,20,21,22,23,24,25,26,27,28,29,30,31,32,33,34,35,36,37,38,39,40,41,42,43,44,45,46,47,48,49,50,51,52,53,54,55,56,57,58,59,60],[58,60],[]⟩,⟨some 0,[0,1,2,3,4,5,6,7,8,9,10,11,12,13,14,15,16,17,18,19,20,21,22,23,24,25,26,27,28,29,30,31,32,33,34,35,36,37,38,39,40,41,42,43,44,45,46,47,48,49,50,51,52,53,54,55,56,57,58,59,60,61],[61],[]⟩]
def valKbl (b1 b3 b5 c1 c2 : Nat) (a1 a2 : Option Addr) (k : Nat) (env : Env) : Value :=
 match k with
 | 0 => .int .i64 0
 | 1 => .bool true
 | 2 => .bool true
 | 3=>gt (!true) (.agg (cSp ⟨441,452⟩).toArray)
 | 4=>gt (!true) (.agg (cSp ⟨441,452⟩).toArray)
 | 5=>gt (!true) (.bool true)
 | 6 => .bool true
 | 7 => .bool true
 | 8=>gt (!true) (.int .i64 0)
 | 9=>gt (!true) (.bool true)
 | 10 => .bool true
 | 11 => .bool true
 | 12=>gt (!true) (.agg (cSp ⟨62,90⟩).toArray)
 | 13=>gt (!true) (.agg (cSp ⟨62,90⟩).toArray)
 | 14=>gt (!true) (.bool true)
 | 15 => .bool true
 | 16 => .bool true
 | 17=>gt (!true) (.int .i64 0)
 | 18=>gt (!true) (.bool true)
 | 19 => .bool true
 | 20 => .bool true
 | 21=>gt (!true) (.int .u8 2)
 | 22=>gt (!true) (.bool true)
 | 23 => .bool true
 | 24 => .bool true
 | 25=>gt (!true) (.int .i64 0)
 | 26=>gt (!true) (.bool true)
 | 27 => .bool true
 | 28 => .bool true
 | 29=>gt (!true) (.agg (cSp ⟨478,490⟩).toArray)
 | 30=>gt (!true) (.agg (cSp ⟨478,490⟩).toArray)
 | 31=>gt (!true) (.bool true)
 | 32 => .bool true
 | 33 => .bool true
 | 34=>gt (!true) (.int .i64 0)
 | 35=>gt (!true) (.bool true)
 | 36 => .bool true
 | 37 => .bool true
 | 38=>gt (!true) (.int .u8 1)
 | 39=>gt (!true) (.bool true)
 | 40 => .bool true
 | 41 => .bool true
 | 42=>gt (!true) (.int .i64 0)
 | 43=>gt (!true) (.bool true)
 | 44 => .bool true
 | 45 => .bool true
 | 46=>gt (!true) (.bool false)
 | 47=>gt (!true) (.bool true)
 | 48 => .bool true
 | 49 => .bool true
 | 50=>gt (!true) (.int .i64 0)
 | 51=>gt (!true) (.bool true)
 | 52 => .bool true
 | 53 => .bool true
 | 54=>gt (!true) (.slice a1 1 c1)
 | 55=>gt (!true) (.slice (some ⟨(env 55).1,0,none⟩) 1 1)
 | 56=>gt (!true) (.bool true)
 | 57 => .bool true
 | 58 => .bool true
 | 59=>gt (!true) (.slice a2 0 c2)
 | 60=>gt (!true) (.bool true)
 | 61 => .bool true
 | 62 => .bool true
 | _=>undef
def rowsKbl (b1 b3 b5 c1 c2 : Nat) (a1 a2 : Option Addr) (k : Nat) (env : Env) : List Row :=
 match k with
 | 55=>gr (!true) [⟨(env 55).1,0,[.int .i64 1],some 3,1 * 1⟩]
 | _=>[]
theorem locKbl (b1 b3 b5 c1 c2 : Nat) (a1 a2 : Option Addr) : ∀ k env i q9,i ≠ k → (tAt tsKbl k).sup.contains i = false → valKbl b1 b3 b5 c1 c2 a1 a2 k (upd env i q9)=valKbl b1 b3 b5 c1 c2 a1 a2 k env∧rowsKbl b1 b3 b5 c1 c2 a1 a2 k (upd env i q9)=rowsKbl b1 b3 b5 c1 c2 a1 a2 k env:=by
 intro k env i q hk hs
 have hu : ∀ j,j ≠ i → upd env i q j = env j:=fun j hj=>by unfold upd;rw [if_neg hj]
 match k,hk,hs with
 | 0,_,_=>exact ⟨rfl,rfl⟩
 | 1,_,_=>exact ⟨rfl,rfl⟩
 | 2,_,_=>exact ⟨rfl,rfl⟩
 | 3,_,_=>exact ⟨rfl,rfl⟩
 | 4,_,_=>exact ⟨rfl,rfl⟩
 | 5,_,_=>exact ⟨rfl,rfl⟩
 | 6,_,_=>exact ⟨rfl,rfl⟩
 | 7,_,_=>exact ⟨rfl,rfl⟩
 | 8,_,_=>exact ⟨rfl,rfl⟩
 | 9,_,_=>exact ⟨rfl,rfl⟩
 | 10,_,_=>exact ⟨rfl,rfl⟩
 | 11,_,_=>exact ⟨rfl,rfl⟩
 | 12,_,_=>exact ⟨rfl,rfl⟩
 | 13,_,_=>exact ⟨rfl,rfl⟩
 | 14,_,_=>exact ⟨rfl,rfl⟩
 | 15,_,_=>exact ⟨rfl,rfl⟩
 | 16,_,_=>exact ⟨rfl,rfl⟩
 | 17,_,_=>exact ⟨rfl,rfl⟩
 | 18,_,_=>exact ⟨rfl,rfl⟩
 | 19,_,_=>exact ⟨rfl,rfl⟩
 | 20,_,_=>exact ⟨rfl,rfl⟩
 | 21,_,_=>exact ⟨rfl,rfl⟩
 | 22,_,_=>exact ⟨rfl,rfl⟩
 | 23,_,_=>exact ⟨rfl,rfl⟩
 | 24,_,_=>exact ⟨rfl,rfl⟩
 | 25,_,_=>exact ⟨rfl,rfl⟩
 | 26,_,_=>exact ⟨rfl,rfl⟩
 | 27,_,_=>exact ⟨rfl,rfl⟩
 | 28,_,_=>exact ⟨rfl,rfl⟩
 | 29,_,_=>exact ⟨rfl,rfl⟩
 | 30,_,_=>exact ⟨rfl,rfl⟩
 | 31,_,_=>exact ⟨rfl,rfl⟩
 | 32,_,_=>exact ⟨rfl,rfl⟩
 | 33,_,_=>exact ⟨rfl,rfl⟩
 | 34,_,_=>exact ⟨rfl,rfl⟩
 | 35,_,_=>exact ⟨rfl,rfl⟩
 | 36,_,_=>exact ⟨rfl,rfl⟩
 | 37,_,_=>exact ⟨rfl,rfl⟩
 | 38,_,_=>exact ⟨rfl,rfl⟩
 | 39,_,_=>exact ⟨rfl,rfl⟩
 | 40,_,_=>exact ⟨rfl,rfl⟩
 | 41,_,_=>exact ⟨rfl,rfl⟩
 | 42,_,_=>exact ⟨rfl,rfl⟩
 | 43,_,_=>exact ⟨rfl,rfl⟩
 | 44,_,_=>exact ⟨rfl,rfl⟩
 | 45,_,_=>exact ⟨rfl,rfl⟩
 | 46,_,_=>exact ⟨rfl,rfl⟩
 | 47,_,_=>exact ⟨rfl,rfl⟩
 | 48,_,_=>exact ⟨rfl,rfl⟩
 | 49,_,_=>exact ⟨rfl,rfl⟩
 | 50,_,_=>exact ⟨rfl,rfl⟩
 | 51,_,_=>exact ⟨rfl,rfl⟩
 | 52,_,_=>exact ⟨rfl,rfl⟩
 | 53,_,_=>exact ⟨rfl,rfl⟩
 | 54,_,_=>exact ⟨rfl,rfl⟩
 | 55,hk,hs=>exact ⟨by simp only [valKbl,hu 55 (fun e=>hk e.symm)],by simp only [rowsKbl,hu 55 (fun e=>hk e.symm)]⟩
 | 56,_,_=>exact ⟨rfl,rfl⟩
 | 57,_,_=>exact ⟨rfl,rfl⟩
 | 58,_,_=>exact ⟨rfl,rfl⟩
 | 59,_,_=>exact ⟨rfl,rfl⟩
 | 60,_,_=>exact ⟨rfl,rfl⟩
 | 61,_,_=>exact ⟨rfl,rfl⟩
 | 62,_,_=>exact ⟨rfl,rfl⟩
 | _ + 63,_,_=>exact ⟨rfl,rfl⟩
set_option maxHeartbeats 8000000 in
theorem alive_spec (H : List Row) : Fc Tryz.prog 11 [] H (fun v H' => v = .bool true∧H' = H):=by
 refine Fc.mk (callable Tryz.call11) Tryz.func11 rfl Tryz.ntmps11 rfl ?_;dsimp only [fr]
 repeat' (first | (refine uP rfl ?_;(first | ((first | refine uN rfl ?_);(first | (refine uC (uT rfl (Args.cons rfl Args.nil)) rfl rfl (bale_specE [] none 0 _ sleNil (Nat.zero_le _)) ?_;rintro _ _ ⟨bn,kn,bw,rfl,rfl⟩)|(refine uC (uT rfl (Args.cons rfl (Args.cons rfl Args.nil))) rfl rfl (aLay bn kn bw _ (balOk [] (Nat.zero_le _) bn kn bw _ (qH _) (qT _ (qH _)))) ?_;rintro _ _ ⟨rfl,rfl⟩)|(refine uC (uT rfl (Args.cons rfl Args.nil)) rfl rfl (aBst bn kn bw _ (balOk [] (Nat.zero_le _) bn kn bw _ (qH _) (qT _ (qH _)))) ?_;rintro _ _ ⟨rfl,rfl⟩)|(refine uC (uT rfl (Args.cons rfl Args.nil)) rfl rfl (aWor bn kn bw _ (balOk [] (Nat.zero_le _) bn kn bw _ (qH _) (qT _ (qH _)))) ?_;rintro _ _ ⟨rfl,rfl⟩)|(refine uC (uT rfl (Args.cons rfl (Args.cons rfl Args.nil))) rfl rfl (aKin bn kn bw _ (balOk [] (Nat.zero_le _) bn kn bw _ (qH _) (qT _ (qH _)))) ?_;rintro _ _ ⟨rfl,rfl⟩)|(refine uC (uT rfl (Args.cons rfl Args.nil)) rfl rfl (aCut bn kn bw _ (balOk [] (Nat.zero_le _) bn kn bw _ (qH _) (qT _ (qH _)))) ?_;rintro _ _ ⟨rfl,rfl⟩)|(refine uC (uT rfl (Args.cons rfl Args.nil)) rfl rfl (aAsk bn kn bw _ (balOk [] (Nat.zero_le _) bn kn bw _ (qH _) (qT _ (qH _)))) ?_;rintro _ _ ⟨rfl,rfl⟩)|(refine uC (uT rfl (Args.cons rfl Args.nil)) rfl rfl (aDec bn kn bw _ (balOk [] (Nat.zero_le _) bn kn bw _ (qH _) (qT _ (qH _)))) ?_;rintro _ _ ⟨b14,q14,rfl,rfl⟩)|(refine uE (uX rfl rfl rfl) rfl rfl ?_)|(refine Xg.st (StF.alloc rfl Tryz.zeroValue24 rfl) rfl rfl ?_;rintro _ _ ⟨bx,rfl,rfl⟩)|(refine Xg.st0 (uZ (i:=0) (vs:=cSp ⟨3,6⟩) rfl rfl rfl (te rfl) rfl rfl rfl rfl) rfl ?_;rintro _ _ ⟨rfl,rfl⟩;dsimp only [List.set])|(refine Xg.st0 (uZ (i:=0) (vs:=cSp ⟨1,3⟩) rfl rfl rfl (te rfl) rfl rfl rfl rfl) rfl ?_;rintro _ _ ⟨rfl,rfl⟩;dsimp only [List.set])|(refine Xg.st0 (uZ (i:=0) (vs:=cSp ⟨3,9⟩) rfl rfl rfl (te rfl) rfl rfl rfl rfl) rfl ?_;rintro _ _ ⟨rfl,rfl⟩;dsimp only [List.set])|(refine uE (uM rfl rfl) rfl rfl ?_)|(refine uE (uA rfl rfl) rfl rfl ?_)))))|(refine uD rfl ?_;refine hK _ _ ?_;clear hK K) | refine uS rfl ?_ | refine uR rfl (fun K hK=>?_))
 rename_i bn1 kn1 bw1 b1 bn2 kn2 bw2 b3 bn3 kn3 bw3 b5 bn4 kn4 bw4 bn5 kn5 bw5 bn6 kn6 bw6
 generalize bx = b9
 refine X.weak (F' := [(1,.pointer (some ⟨b1,0,none⟩)),(2,.int .i64 0),(3,.pointer (some ⟨b3,0,none⟩)),(4,.int .i64 0),(5,.pointer (some ⟨b5,0,none⟩)),(6,.int .i64 0),(7,.int .u8 1),(8,.int .i64 0),(9,.pointer (some ⟨b9,0,none⟩)),(10,.int .i64 0),(11,.int .i64 2),(12,.int .i64 3),(13,.int .i64 0),(14,.slice (some ⟨b14,0,none⟩) 3 q14),(15,.int .i64 0)]) (H' := ⟨b14,0,[1,2,3].flatMap cI,some 3,q14 * 1⟩::⟨b9,0,cSp ⟨1,3⟩,some 24,2⟩::⟨b5,0,cSp ⟨3,9⟩,some 24,2⟩::⟨b3,0,cSp ⟨1,3⟩,some 24,2⟩::⟨b1,0,cSp ⟨3,6⟩,some 24,2⟩::H) (by repeat (first | exact uU _ | refine uV rfl ?_)) (by repeat (first | exact qR _ | apply qK | apply qC | refine List.Sublist.trans ?_ (List.sublist_append_right _ _))) ?_
 clear bn1 kn1 bw1 bn2 kn2 bw2 bn3 kn3 bw3 bn4 kn4 bw4 bn5 kn5 bw5 bn6 kn6 bw6
 refine X.regionOb tsKal [1,2,3,4,5,6,7,8,9,10,11,12,13,14,15] [(1,.pointer (some ⟨b1,0,none⟩)),(2,.int .i64 0),(3,.pointer (some ⟨b3,0,none⟩)),(4,.int .i64 0),(5,.pointer (some ⟨b5,0,none⟩)),(6,.int .i64 0),(7,.int .u8 1),(8,.int .i64 0),(9,.pointer (some ⟨b9,0,none⟩)),(10,.int .i64 0),(11,.int .i64 2),(12,.int .i64 3),(13,.int .i64 0),(14,.slice (some ⟨b14,0,none⟩) 3 q14),(15,.int .i64 0)] (valKal b1 b3 b5 b9 b14 q14) (rowsKal b1 b3 b5 b9 b14 q14) (fun _=>(0,0)) (⟨b14,0,[1,2,3].flatMap cI,some 3,q14 * 1⟩::⟨b9,0,cSp ⟨1,3⟩,some 24,2⟩::⟨b5,0,cSp ⟨3,9⟩,some 24,2⟩::⟨b3,0,cSp ⟨1,3⟩,some 24,2⟩::⟨b1,0,cSp ⟨3,6⟩,some 24,2⟩::H) rfl mixed (by repeat (first | exact uU _ | refine uV rfl ?_)) rfl (by kernel_rfl) (locKal b1 b3 b5 b9 b14 q14) (qR _) ?_ ?_
 ·repeat' (first | exact AllF.done rfl | (refine AllF.step rfl ?_ ?_;·(first | fail | ((first | refine Ob.ng rfl ?_ | refine Ob.g rfl rfl (fun _=>rfl) ?_);(first | exact uK (fun env R hR=>by exact ⟨_,uM rfl rfl,rfl⟩) rfl (fun _=>rfl) | exact uK (fun env R hR=>by exact ⟨_,EvF.pickF rfl rfl rfl,rfl⟩) rfl (fun _=>rfl) | exact uK (fun env R hR=>by exact ⟨_,EvF.not rfl rfl,rfl⟩) rfl (fun _=>rfl) | exact uK (fun env R hR=>by exact ⟨_,uQ rfl rfl rfl rfl,rfl⟩) rfl (fun _=>rfl) | exact uK (fun env R hR=>by exact ⟨_,uL rfl rfl (uW (te rfl) rfl (hR _ (qT _ (qH _))) rfl),rfl⟩) rfl (fun _=>rfl) | exact uK (fun env R hR=>by exact ⟨_,uL rfl rfl (uW (te rfl) rfl (hR _ (qT _ (qT _ (qH _)))) rfl),rfl⟩) rfl (fun _=>rfl) | exact uK (fun env R hR=>by exact ⟨_,uL rfl rfl (uW (te rfl) rfl (hR _ (qT _ (qT _ (qT _ (qH _))))) rfl),rfl⟩) rfl (fun _=>rfl)|(exact fun env S hS=>OpF.callV (Z:=[]) (uT rfl (Args.cons rfl (Args.cons rfl Args.nil))) (lawSpan 3 6 S) rfl rfl)|(exact fun env S hS=>OpF.callV (Z:=[]) (uT rfl (Args.cons rfl (Args.cons rfl Args.nil))) (lawSpan 1 3 S) rfl rfl)|(exact fun env S hS=>OpF.callV (Z:=[]) (uT rfl (Args.cons rfl (Args.cons rfl Args.nil))) (lawSpan 3 9 S) rfl rfl)|(exact uK (fun env S hS=>⟨_,uL rfl rfl (uW (te rfl) rfl (hS _ (qT _ (qT _ (qT _ (qT _ (qH _)))))) rfl),rfl⟩) rfl (fun _=>rfl))|(exact uK (fun env S hS=>⟨.bool false,EvF.eqSt (r:=true) rfl rfl rfl (by kernel_rfl) (fun w=>eqE ⟨3,6⟩ w) rfl,rfl⟩) rfl (fun _=>rfl))|(exact uK (fun env S hS=>⟨.bool false,EvF.eqSt (r:=true) rfl rfl rfl (by kernel_rfl) (fun w=>eqE ⟨1,3⟩ w) rfl,rfl⟩) rfl (fun _=>rfl))|(exact uK (fun env S hS=>⟨.bool false,EvF.eqSt (r:=true) rfl rfl rfl (by kernel_rfl) (fun w=>eqE ⟨3,9⟩ w) rfl,rfl⟩) rfl (fun _=>rfl))|(exact fun env S hS=>OpF.callV (Z:=[⟨(env 60).1,0,[.int .i64 1,.int .i64 2,.int .i64 3],some 3,3 * 1⟩]) (uT rfl (Args.cons rfl (Args.cons rfl Args.nil))) (intsT [1,2,3] (some ⟨b14,0,none⟩) (some ⟨(env 60).1,0,none⟩) q14 3 _ (SlE.ofRow (qT _ (hS _ (qH _))) (fun _ _=>rfl)) (SlE.ofRow (l:=[1,2,3]) (qH _) (fun _ _=>rfl)) (by decide)) rfl rfl)|(exact fun env S hS=>(StF.buildLit (len:=3) (vs:=[(0,.int .i64 1),(1,.int .i64 2),(2,.int .i64 3)]) (cs:=[.int .i64 1,.int .i64 2,.int .i64 3]) rfl el55 Tryz.zeroValue3 (ArgsP.cons rfl (ArgsP.cons rfl (ArgsP.cons rfl ArgsP.nil))) lit3 rfl rfl rfl).op.mono (fun v H' ⟨b,hv,hH⟩=>⟨(b,0),fun _=>hv,by rw [hH];exact List.Perm.refl _⟩)))))))
 intro env t ha2 hv;refine ⟨_,ha2.cons (hv 63 120 (Nat.le_of_ble_eq_true rfl) rfl),?_⟩;clear hv ha2
 refine X.weak (F' := [(120,.bool false),(1,.pointer (some ⟨b1,0,none⟩)),(3,.pointer (some ⟨b3,0,none⟩)),(5,.pointer (some ⟨b5,0,none⟩))]) (H' := ⟨b5,0,cSp ⟨3,9⟩,some 24,2⟩::⟨b3,0,cSp ⟨1,3⟩,some 24,2⟩::⟨b1,0,cSp ⟨3,6⟩,some 24,2⟩::H) (by repeat (first | exact uU _ | refine uV rfl ?_)) (by repeat (first | exact qR _ | apply qK | apply qC | refine List.Sublist.trans ?_ (List.sublist_append_right _ _))) ?_
 clear env
 repeat' (first | (refine uP rfl ?_;(first | ((first | refine uN rfl ?_);(first | (refine uC (uT rfl (Args.cons rfl Args.nil)) rfl rfl (bale_specE [] none 0 _ sleNil (Nat.zero_le _)) ?_;rintro _ _ ⟨bn,kn,bw,rfl,rfl⟩)|(refine uC (uT rfl Args.nil) rfl rfl (oddB _) ?_;rintro _ _ ⟨bn,kn,bw,Z,rfl,hpo,rfl⟩)|(refine uC (uT rfl (Args.cons rfl Args.nil)) rfl rfl (aDry bn kn bw _ (balOk [] (Nat.zero_le _) bn kn bw _ (qH _) (qT _ (qH _)))) ?_;rintro _ _ ⟨rfl,rfl⟩)|(refine uC (uT rfl (Args.cons rfl (Args.cons rfl Args.nil))) rfl rfl (aWet bn kn bw _ (balOk [] (Nat.zero_le _) bn kn bw _ (qH _) (qT _ (qH _)))) ?_;rintro _ _ ⟨rfl,rfl⟩)|(refine uC (uT rfl (Args.cons rfl (Args.cons rfl (Args.cons rfl Args.nil)))) rfl rfl (aKno bn kn bw _ (balOk [] (Nat.zero_le _) bn kn bw _ (qH _) (qT _ (qH _)))) ?_;rintro _ _ ⟨rfl,rfl⟩)|(refine uC (uT rfl (Args.cons rfl (Args.cons rfl Args.nil))) rfl rfl (aPay bn kn bw _ (balOk [] (Nat.zero_le _) bn kn bw _ (qH _) (qT _ (qH _)))) ?_;rintro _ _ ⟨rfl,rfl⟩)|(refine uC (uT rfl (Args.cons rfl (Args.cons rfl Args.nil))) rfl rfl (aAsi bn kn bw _ (balOk [] (Nat.zero_le _) bn kn bw _ (qH _) (qT _ (qH _)))) ?_;rintro _ _ ⟨rfl,rfl⟩)|(refine uC (uT rfl (Args.cons rfl Args.nil)) rfl rfl (aCan bn kn bw _ (hpo _)) ?_;rintro _ _ ⟨rfl,rfl⟩)|(refine uC (uT rfl (Args.cons rfl Args.nil)) rfl rfl (aWrg bn kn bw _ (hpo _)) ?_;rintro _ _ ⟨a1,c1,a2,c2,Zw,rfl,sw1,sw2,rfl⟩)|(refine uE (uX rfl rfl rfl) rfl rfl ?_)|(refine Xg.st0 (uZ (i:=4) (vs:=cSp ⟨441,452⟩) rfl rfl rfl (te rfl) rfl rfl rfl rfl) rfl ?_;rintro _ _ ⟨rfl,rfl⟩;dsimp only [List.set])|(refine Xg.st0 (uZ (i:=5) (vs:=cSp ⟨62,90⟩) rfl rfl rfl (te rfl) rfl rfl rfl rfl) rfl ?_;rintro _ _ ⟨rfl,rfl⟩;dsimp only [List.set])|(refine Xg.st0 (uZ (i:=8) (vs:=cSp ⟨478,490⟩) rfl rfl rfl (te rfl) rfl rfl rfl rfl) rfl ?_;rintro _ _ ⟨rfl,rfl⟩;dsimp only [List.set])|(refine uE (uM rfl rfl) rfl rfl ?_)|(refine uE (uA rfl rfl) rfl rfl ?_)))))|(refine uD rfl ?_;refine hK _ _ ?_;clear hK K) | refine uS rfl ?_ | refine uR rfl (fun K hK=>?_) | refine X.skip rfl ?_ | (refine X.ite rfl rfl (fun hc=>?_);(first | (with_reducible refine Xb.f hc ?_)) <;> clear hc))
 refine X.gen (fun G hG=>?_)
 rw [← hG] at sw1 sw2
 have m1 : (⟨b1,0,cSp ⟨441,452⟩,some 24,2⟩ : Row) ∈ G:=by rw [hG];repeat (first | exact qH _ | apply List.mem_append_right | apply qT)
 have m3 : (⟨b3,0,cSp ⟨62,90⟩,some 24,2⟩ : Row) ∈ G:=by rw [hG];repeat (first | exact qH _ | apply List.mem_append_right | apply qT)
 have m5 : (⟨b5,0,cSp ⟨478,490⟩,some 24,2⟩ : Row) ∈ G:=by rw [hG];repeat (first | exact qH _ | apply List.mem_append_right | apply qT)
 have hH : H.Sublist G:=by rw [hG];exact (by repeat (first | exact qR _ | apply qK | apply qC | refine List.Sublist.trans ?_ (List.sublist_append_right _ _)))
 clear hG hpo
 refine X.weak (F' := [(1,.pointer (some ⟨b1,0,none⟩)),(2,.int .i64 0),(3,.pointer (some ⟨b3,0,none⟩)),(4,.int .i64 0),(5,.pointer (some ⟨b5,0,none⟩)),(6,.int .i64 0),(7,.int .u8 2),(8,.int .i64 0),(10,.int .i64 0),(13,.int .i64 0),(16,.int .u8 1),(17,.bool false),(18,.slice a1 1 c1),(19,.slice a2 0 c2),(20,.int .i64 0)]) (H' := G) (by repeat (first | exact uU _ | refine uV rfl ?_)) (qR _) ?_
 refine X.regionOb tsKbl [1,2,3,4,5,6,7,8,10,13,16,17,18,19,20] [(1,.pointer (some ⟨b1,0,none⟩)),(2,.int .i64 0),(3,.pointer (some ⟨b3,0,none⟩)),(4,.int .i64 0),(5,.pointer (some ⟨b5,0,none⟩)),(6,.int .i64 0),(7,.int .u8 2),(8,.int .i64 0),(10,.int .i64 0),(13,.int .i64 0),(16,.int .u8 1),(17,.bool false),(18,.slice a1 1 c1),(19,.slice a2 0 c2),(20,.int .i64 0)] (valKbl b1 b3 b5 c1 c2 a1 a2) (rowsKbl b1 b3 b5 c1 c2 a1 a2) (fun _=>(0,0)) (G) rfl mixed (by repeat (first | exact uU _ | refine uV rfl ?_)) rfl (by kernel_rfl) (locKbl b1 b3 b5 c1 c2 a1 a2) (qR _) ?_ ?_
 ·repeat' (first | exact AllF.done rfl | (refine AllF.step rfl ?_ ?_;·(first | fail | ((first | refine Ob.ng rfl ?_ | refine Ob.g rfl rfl (fun _=>rfl) ?_);(first | exact uK (fun env R hR=>by exact ⟨_,uM rfl rfl,rfl⟩) rfl (fun _=>rfl) | exact uK (fun env R hR=>by exact ⟨_,uA rfl rfl,rfl⟩) rfl (fun _=>rfl) | exact uK (fun env R hR=>by exact ⟨_,EvF.pickT rfl rfl rfl,rfl⟩) rfl (fun _=>rfl) | exact uK (fun env R hR=>by exact ⟨_,EvF.not rfl rfl,rfl⟩) rfl (fun _=>rfl) | exact uK (fun env R hR=>by exact ⟨_,uQ rfl rfl rfl rfl,rfl⟩) rfl (fun _=>rfl)|(exact fun env S hS=>OpF.callV (Z:=[]) (uT rfl (Args.cons rfl (Args.cons rfl Args.nil))) (lawSpan 441 452 S) rfl rfl)|(exact fun env S hS=>OpF.callV (Z:=[]) (uT rfl (Args.cons rfl (Args.cons rfl Args.nil))) (lawSpan 62 90 S) rfl rfl)|(exact fun env S hS=>OpF.callV (Z:=[]) (uT rfl (Args.cons rfl (Args.cons rfl Args.nil))) (lawSpan 478 490 S) rfl rfl)|(exact uK (fun env S hS=>⟨_,uL rfl rfl (uW (te rfl) rfl (hS _ m1) rfl),rfl⟩) rfl (fun _=>rfl))|(exact uK (fun env S hS=>⟨_,uL rfl rfl (uW (te rfl) rfl (hS _ m3) rfl),rfl⟩) rfl (fun _=>rfl))|(exact uK (fun env S hS=>⟨_,uL rfl rfl (uW (te rfl) rfl (hS _ m5) rfl),rfl⟩) rfl (fun _=>rfl))|(exact uK (fun env S hS=>⟨.bool true,EvF.eqSt (r:=true) rfl rfl rfl (by kernel_rfl) (fun w=>eqE ⟨441,452⟩ w) rfl,rfl⟩) rfl (fun _=>rfl))|(exact uK (fun env S hS=>⟨.bool true,EvF.eqSt (r:=true) rfl rfl rfl (by kernel_rfl) (fun w=>eqE ⟨62,90⟩ w) rfl,rfl⟩) rfl (fun _=>rfl))|(exact uK (fun env S hS=>⟨.bool true,EvF.eqSt (r:=true) rfl rfl rfl (by kernel_rfl) (fun w=>eqE ⟨478,490⟩ w) rfl,rfl⟩) rfl (fun _=>rfl))|(exact fun env S hS=>OpF.callV (Z:=[⟨(env 55).1,0,[.int .i64 1],some 3,1 * 1⟩]) (uT rfl (Args.cons rfl (Args.cons rfl Args.nil))) (intsT [1] a1 (some ⟨(env 55).1,0,none⟩) c1 1 _ (sw1.sub (fun r h=>qT _ (hS r h))) (SlE.ofRow (l:=[1]) (qH _) (fun _ _=>rfl)) (by decide)) rfl rfl)|(exact fun env S hS=>OpF.callV (Z:=[]) (uT rfl (Args.cons rfl (Args.cons rfl Args.nil))) (intsT [] a2 none c2 0 _ (sw2.sub hS) sleNil (by decide)) rfl rfl)|(exact fun env S hS=>(StF.buildOne (v0 := .int .i64 1) rfl el55 rfl rfl rfl (by decide) (by decide)).op.mono (fun v H' ⟨b,hv,hH⟩=>⟨(b,0),fun _=>hv,by rw [hH];exact List.Perm.refl _⟩)))))))
 ·intro env t ha2 hv;refine ⟨_,ha2.cons (hv 62 0 (Nat.le_of_ble_eq_true rfl) rfl),?_⟩;clear hv ha2
  repeat' (first | refine X.ret rfl ?_)
  exact ret_one (by simp) Tryz.results11 rfl (H' := H) hH ⟨rfl,rfl⟩
def GOk (G : List Sp) : Prop := ∀ s ∈ G,1 ≤ s.lo∧s.lo ≤ s.hi∧s.hi ≤ 9
theorem GOk.set {G : List Sp} (h : GOk G) {j : Nat} {s : Sp} (hs : 1 ≤ s.lo∧s.lo ≤ s.hi∧s.hi ≤ 9) : GOk (G.set j s):=fun x hx=>by
 rcases List.mem_or_eq_of_mem_set hx with q | rfl
 ·exact h x q
 ·exact hs
structure Rdy (B : Bl) : Prop where
 ok : baleOk B
 can : canB B
theorem Rdy.l {B : Bl} (h : Rdy B) : B.draws.length ≤ 10∧B.weighs.length ≤ 8:=⟨h.ok.2.2.2.1.1,h.ok.2.2.2.2.1⟩
theorem Rdy.bl {B : Bl} (h : Rdy B) {p : Pb} {H : List Row} (hd : SlE H p.a1 cDr 4 B.draws) (hw : SlE H p.a2 cDr 4 B.weighs) : BlOk H B p:=⟨hd,hw,by have:=h.l.1;omega,by have:=h.l.2;omega⟩
theorem ready_yes (B : Bl) (p : Pb) (H : List Row) (hB : BlOk H B p) (h : Rdy B) : Fc Tryz.prog 30 [.agg (cBl B p).toArray] H (fun v H' => v = .bool true∧H' = H):=by
 have k1:=greatB_spec B p
 have k2:=fun S hS=>bale_spec B p S hS
 have k3:=fun S hS=>true_spec B p S h.ok hS
 have hl:=h.l
 rw [decide_eq_false (by omega)] at k1
 simp only [decide_eq_true h.ok,decide_eq_true h.can] at k2 k3
 refine Fc.mk (callable Tryz.call30) Tryz.func30 rfl Tryz.ntmps30 rfl ?_;dsimp only [fr]
 repeat' (first | (refine uP rfl ?_;(first | ((first | refine uN rfl ?_ | (refine Xo.g rfl rfl ?_;with_reducible refine Xw.tt ?_));(first | (refine uE (uL rfl rfl (uW (te rfl) rfl (qH _) rfl)) rfl rfl ?_)|(refine uC (uT rfl (Args.cons rfl Args.nil)) rfl rfl (k1 _) ?_;rintro _ _ ⟨rfl,rfl⟩)|(refine uC (uT rfl (Args.cons rfl Args.nil)) rfl rfl (k2 _ (hB.sub (fun _ q=>qT _ q))) ?_;rintro _ _ ⟨rfl,rfl⟩)|(refine uC (uT rfl (Args.cons rfl Args.nil)) rfl rfl (k3 _ (hB.sub (fun _ q=>qT _ q))) ?_;rintro _ _ ⟨rfl,rfl⟩)|(refine uE (notF rfl rfl) rfl rfl ?_)|(refine uE (uM rfl rfl) rfl rfl ?_)|(refine uE (uA rfl rfl) rfl rfl ?_)|(refine uE (EvF.pickT rfl rfl rfl) rfl rfl ?_)|(refine Xg.st (StF.boxAgg rfl rfl) rfl rfl ?_;rintro _ _ ⟨bx,rfl,rfl⟩)))))|(refine uD rfl ?_;refine hK _ _ ?_;clear hK K) | refine uS rfl ?_ | refine uR rfl (fun K hK=>?_) | refine X.ret rfl ?_)
 all_goals try (exfalso;contradiction)
 exact ret_one (by simp) Tryz.results30 rfl (H' := H) (by (repeat (first | exact qR _ | apply qC));done) ⟨rfl,rfl⟩
theorem ready_no (B : Bl) (p : Pb) (H : List Row) (hd : SlE H p.a1 cDr 4 B.draws) (hw : SlE H p.a2 cDr 4 B.weighs) (h : ¬ Rdy B) : Fc Tryz.prog 30 [.agg (cBl B p).toArray] H (fun v H' => v = .bool false∧H' = H):=by
 have k1:=greatB_spec B p
 by_cases hg : B.draws.length > 20∨B.weighs.length > 16
 ·rw [decide_eq_true hg] at k1
  refine Fc.mk (callable Tryz.call30) Tryz.func30 rfl Tryz.ntmps30 rfl ?_;dsimp only [fr]
  repeat' (first | (refine uP rfl ?_;(first | ((first | refine uN rfl ?_);(first | (refine uE (uL rfl rfl (uW (te rfl) rfl (qH _) rfl)) rfl rfl ?_)|(refine uC (uT rfl (Args.cons rfl Args.nil)) rfl rfl (k1 _) ?_;rintro _ _ ⟨rfl,rfl⟩)|(refine uE (notT rfl rfl) rfl rfl ?_)|(refine uE (uM rfl rfl) rfl rfl ?_)|(refine uE (uA rfl rfl) rfl rfl ?_)|(refine uE (EvF.pickF rfl rfl rfl) rfl rfl ?_)|(refine Xg.st (StF.boxAgg rfl rfl) rfl rfl ?_;rintro _ _ ⟨bx,rfl,rfl⟩)))|(refine Xo.g rfl rfl ?_;(first | (with_reducible refine Xw.ft rfl rfl ?_)))))|(refine uD rfl ?_;refine hK _ _ ?_;clear hK K) | refine uS rfl ?_ | refine uR rfl (fun K hK=>?_) | refine X.ret rfl ?_)
  all_goals try (exfalso;contradiction)
  exact ret_one (by simp) Tryz.results30 rfl (H' := H) (by (repeat (first | exact qR _ | apply qC));done) ⟨rfl,rfl⟩
 ·rw [decide_eq_false hg] at k1
  have hB : BlOk H B p:=⟨hd,hw,by omega,by omega⟩
  have k2:=fun S hS=>bale_spec B p S hS
  by_cases hb : baleOk B
  ·have k3:=fun S hS=>true_spec B p S hb hS
   have hc : ¬ canB B:=fun q=>h ⟨hb,q⟩
   simp only [decide_eq_true hb,decide_eq_false hc] at k2 k3
   refine Fc.mk (callable Tryz.call30) Tryz.func30 rfl Tryz.ntmps30 rfl ?_;dsimp only [fr]
   repeat' (first | (refine uP rfl ?_;(first | ((first | refine uN rfl ?_ | (refine Xo.g rfl rfl ?_;with_reducible refine Xw.tt ?_));(first | (refine uE (uL rfl rfl (uW (te rfl) rfl (qH _) rfl)) rfl rfl ?_)|(refine uC (uT rfl (Args.cons rfl Args.nil)) rfl rfl (k1 _) ?_;rintro _ _ ⟨rfl,rfl⟩)|(refine uC (uT rfl (Args.cons rfl Args.nil)) rfl rfl (k2 _ (hB.sub (fun _ q=>qT _ q))) ?_;rintro _ _ ⟨rfl,rfl⟩)|(refine uC (uT rfl (Args.cons rfl Args.nil)) rfl rfl (k3 _ (hB.sub (fun _ q=>qT _ q))) ?_;rintro _ _ ⟨rfl,rfl⟩)|(refine uE (notF rfl rfl) rfl rfl ?_)|(refine uE (uM rfl rfl) rfl rfl ?_)|(refine uE (uA rfl rfl) rfl rfl ?_)|(refine uE (EvF.pickT rfl rfl rfl) rfl rfl ?_)|(refine Xg.st (StF.boxAgg rfl rfl) rfl rfl ?_;rintro _ _ ⟨bx,rfl,rfl⟩)))))|(refine uD rfl ?_;refine hK _ _ ?_;clear hK K) | refine uS rfl ?_ | refine uR rfl (fun K hK=>?_) | refine X.ret rfl ?_)
   all_goals try (exfalso;contradiction)
   exact ret_one (by simp) Tryz.results30 rfl (H' := H) (by (repeat (first | exact qR _ | apply qC));done) ⟨rfl,rfl⟩
  ·simp only [decide_eq_false hb] at k2
   refine Fc.mk (callable Tryz.call30) Tryz.func30 rfl Tryz.ntmps30 rfl ?_;dsimp only [fr]
   repeat' (first | (refine uP rfl ?_;(first | ((first | refine uN rfl ?_ | (refine Xo.g rfl rfl ?_;with_reducible refine Xw.tt ?_));(first | (refine uE (uL rfl rfl (uW (te rfl) rfl (qH _) rfl)) rfl rfl ?_)|(refine uC (uT rfl (Args.cons rfl Args.nil)) rfl rfl (k1 _) ?_;rintro _ _ ⟨rfl,rfl⟩)|(refine uC (uT rfl (Args.cons rfl Args.nil)) rfl rfl (k2 _ (hB.sub (fun _ q=>qT _ q))) ?_;rintro _ _ ⟨rfl,rfl⟩)|(refine uE (notF rfl rfl) rfl rfl ?_)|(refine uE (uM rfl rfl) rfl rfl ?_)|(refine uE (uA rfl rfl) rfl rfl ?_)|(refine uE (EvF.pickT rfl rfl rfl) rfl rfl ?_)|(refine uE (EvF.pickF rfl rfl rfl) rfl rfl ?_)|(refine Xg.st (StF.boxAgg rfl rfl) rfl rfl ?_;rintro _ _ ⟨bx,rfl,rfl⟩)))|(refine Xo.g rfl rfl ?_;(first | (with_reducible refine Xw.ft rfl rfl ?_)))))|(refine uD rfl ?_;refine hK _ _ ?_;clear hK K) | refine uS rfl ?_ | refine uR rfl (fun K hK=>?_) | refine X.ret rfl ?_)
   all_goals try (exfalso;contradiction)
   exact ret_one (by simp) Tryz.results30 rfl (H' := H) (by (repeat (first | exact qR _ | apply qC));done) ⟨rfl,rfl⟩
theorem openE_rdy {B : Bl} (h : Rdy B) (k : List Int) (hk : ∀ n ∈ k,1 ≤ n∧n ≤ 4) : openE B ⟨[],k,[],[]⟩ = 0 :=
 oE h.ok h.can (fun _ h=>absurd h List.not_mem_nil) hk (fun _ h=>absurd h List.not_mem_nil) (fun _ h=>absurd h List.not_mem_nil)
theorem u8_und : (Tryz.prog.underlying 5).isSome = true:=by kernel_rfl
end Go.Proofs.YtbpcbdbclijomaaGreat
namespace Go.Fw
open Go Go.RowKit
def reFs (ts : List TOp) (F0 : FS) (i : Nat) : List (Nat × Nat × Value) → FS
 | []=>F0
 | e::l=>match (tAt ts e.1).sup.contains i with | true=>(e.2.1,e.2.2)::reFs ts F0 i l | false=>reFs ts F0 i l
theorem wpAny_ob6 {P : Program} {n : Nat} {ops : Array Oper} {ts : List TOp} {dom : List Nat} {F0 : FS} {sm : List Nat} (hd : F0.map (·.1)=dom) (hok : okReg3 sm ops ts dom n = true) (rd : Nat → List Nat) (hrd : okRd ts rd ops.size = true) (val : Nat → Env → Value) (rows : Nat → Env → List Row)
  (hloc : ∀ k env i p,i ≠ k → (tAt ts k).sup.contains i = false → val k (upd env i p)=val k env∧rows k (upd env i p)=rows k env)
  (hsm : ∀ i d,sm.contains i = true → (tAt ts i).dst = some d → ∀ env v,lk F0 d = some v → val i env = v)
  {re : List (Nat × Nat × Value)} (hre : ∀ e ∈ re,(tAt ts e.1).dst = some e.2.1∧e.1 < ops.size)
  (R0 : List Row) (hob : ∀ i o,opAt ops.toList i = some o → ObR P n ts rd val rows (reFs ts F0 i re) R0 i o)
  {Q : QT} (hQ : ∀ env t,Ag n F0 t → (∀ i d,i < ops.size → (tAt ts i).dst = some d → t[d]? = some (val i env)) → Q .normal t ((alive ts).flatMap (fun k=>rows k env)++R0))
  {ρ : Option Nat} {ds : List Deferred} {B : Nat} {w0 : World} :
  ∀ (fuel : Nat) (listed : Array Bool) (U A : List Nat) (t : List Value) (H : List Row) (w : World) (env : Env),listed.size = ops.size → U.length = fuel → U.Nodup → (∀ k,k ∈ U ↔ k < ops.size∧listed.getD k true = false) →
   (∀ k,k < ops.size → listed.getD k true = true → ∀ j,(tAt ts k).sup.contains j = true → listed.getD j true = true) →
   A.Nodup → (∀ k,k ∈ A ↔ k < ts.length∧listed.getD k true = true ∧ ∀ j,j < ops.size → listed.getD j true = true → k ∉ (tAt ts j).kills) →
   Ag n F0 t → (∀ e ∈ re,listed.getD e.1 true = false → t[e.2.1]? = some e.2.2) → (∀ k d,k < ops.size → listed.getD k true = true → (tAt ts k).dst = some d → t[d]? = some (val k env)) →
   St B w0 H w → H.Perm (R0++A.flatMap (fun k=>rows k env)) → wpAnyIn (wf ρ) 0 P .any ops (lift ds B w0 Q) fuel listed ⟨t.toArray,ds⟩ w:=by
 unfold okReg3 at hok
 simp only [Bool.and_eq_true,decide_eq_true_eq] at hok
 obtain ⟨⟨⟨hlen,hops⟩,hkn⟩,hps⟩:=hok
 have hopAt : ∀ i o,ops[i]? = some o → okOp3 sm ts dom n ops.size i o = true:=by
  intro i o hi
  have:=List.all_eq_true.1 hops (o,i) (by
   rw [List.mem_zipIdx_iff_getElem?];simpa using hi)
  exact this
 intro fuel
 induction fuel with
 | zero =>
  intro listed U A t H w env hls hUl hUn hU hcl hAn hA hag hr0 hv hS hH
  have hU0 : U = []:=List.eq_nil_of_length_eq_zero hUl
  subst hU0
  have hall : ∀ k,listed.getD k true = true:=by
   intro k
   cases hk : listed.getD k true with
   | true=>rfl
   | false =>
    by_cases h1 : k < ops.size
    ·exact absurd ((hU k).2 ⟨h1,hk⟩) (by simp)
    ·rw [Array.getD_eq_getD_getElem?,Array.getElem?_eq_none (by omega)] at hk;cases hk
  refine ⟨?_,rfl,_,?_,hS.perm (H' := (alive ts).flatMap (fun k=>rows k env)++R0) ?_⟩
  ·unfold Region.ready
   rw [List.filter_eq_nil_iff]
   intro k _
   rw [hall];simp
  ·have:=hQ env t hag (fun i d hi hd=>hv i d hi (hall i) hd)
   simpa using this
  ·refine List.perm_append_comm.trans ((List.Perm.append_left R0 (List.Perm.flatMap_right _ ?_)).trans hH.symm)
   refine perm_of_mem ((List.nodup_range).sublist List.filter_sublist) hAn fun k=>?_
   rw [hA,alive,List.mem_filter,List.mem_range]
   simp only [hall,true_and,Bool.not_eq_true',List.contains_eq_mem,decide_eq_false_iff_not,true_implies]
   refine and_congr_right fun _=>⟨fun h j _ hj=>h (tAt_mem hj),fun h hm=>?_⟩
   obtain ⟨T,hT,hk⟩:=List.mem_flatMap.1 hm
   obtain ⟨j,hj,rfl⟩:=List.mem_iff_getElem.1 hT
   by_cases hj' : j < ops.size
   ·exact h j hj' (by unfold tAt;simp [List.getD,hj,hk])
   ·have:=List.all_eq_true.1 hps ts[j] (by
     rw [List.mem_iff_getElem?]
     exact ⟨j - ops.size,by rw [List.getElem?_drop,show ops.size + (j - ops.size)=j by omega,List.getElem?_eq_getElem hj]⟩)
    simp only [Bool.and_eq_true,List.isEmpty_iff] at this
    rw [this.1] at hk;cases hk
 | succ fuel ih =>
  intro listed U A t H w env hls hUl hUn hU hcl hAn hA hag hr0 hv hS hH
  have hge : ∀ k,ops.size ≤ k → listed.getD k true = true:=fun k hk=>by rw [Array.getD_eq_getD_getElem?,Array.getElem?_eq_none (by omega)];rfl
  have hgd : ∀ k,k < ops.size → listed.getD k false = listed.getD k true:=fun k hk=>by
   rw [Array.getD_eq_getD_getElem?,Array.getD_eq_getD_getElem?,Array.getElem?_eq_getElem (by omega)];rfl
  refine ⟨fun h0=>?_,fun i hi=>?_⟩
  ·exfalso
   have key : ∀ m,m ∈ U → False:=by
    intro m
    induction m using Nat.strongRecOn with
    | _ m ihm =>
     intro hm
     obtain ⟨hms,hml⟩:=(hU m).1 hm
     obtain ⟨o,ho⟩ : ∃ o,ops[m]? = some o:=⟨ops[m],Array.getElem?_eq_getElem hms⟩
     have hc:=hopAt m o ho
     unfold okOp3 at hc
     simp only [Bool.and_eq_true] at hc
     obtain ⟨⟨⟨⟨_,haf⟩,_⟩,_⟩,_⟩:=hc
     by_cases hal : o.after.all (fun e => !Region.binds .any e || listed.getD e.on false)=true
     ·have : m ∈ Region.ready .any ops listed:=by
       unfold Region.ready
       rw [List.mem_filter]
       refine ⟨List.mem_range.2 hms,?_⟩
       rw [hml,ho]
       simp only [Option.map_some,Option.getD_some,Bool.not_false,Bool.true_and]
       exact hal
      rw [h0] at this;cases this
     ·have : ∃ e ∈ o.after, ¬ ((!Region.binds .any e || listed.getD e.on false)=true):=by
       rw [Array.all_eq_true_iff_forall_mem] at hal
       simpa using hal
      obtain ⟨e,he,hne⟩:=this
      have h1:=List.all_eq_true.1 haf e (Array.mem_toList_iff.2 he)
      simp only [Bool.or_eq_true,Bool.not_eq_true',not_or,Bool.not_eq_false,Bool.not_eq_true] at hne h1
      have h2 : e.on < m:=by
       rcases h1 with h1 | h1
       ·rw [hne.1] at h1;cases h1
       ·simpa using h1
      refine ihm e.on h2 ((hU e.on).2 ⟨by omega,?_⟩)
      rw [← hgd e.on (by omega)];exact hne.2
   cases U with
   | nil=>simp at hUl
   | cons u U=>exact key u (List.mem_cons_self ..)
  ·unfold Region.ready at hi
   rw [List.mem_filter,List.mem_range] at hi
   obtain ⟨his,hi2⟩:=hi
   obtain ⟨o,ho⟩ : ∃ o,ops[i]? = some o:=⟨ops[i],Array.getElem?_eq_getElem his⟩
   simp only [ho,Option.map_some,Option.getD_some,Bool.and_eq_true,Bool.not_eq_true'] at hi2
   obtain ⟨hil,hia⟩:=hi2
   have hc:=hopAt i o ho
   unfold okOp3 at hc
   simp only [Bool.and_eq_true] at hc
   obtain ⟨⟨⟨⟨⟨⟨hgu,hdst⟩,hds⟩,haf⟩,hsup⟩,hdeps⟩,hkil⟩:=hc
   have hdst' : o.dst = (tAt ts i).dst:=by simpa using hdst
   rw [Array.all_eq_true_iff_forall_mem] at hia
   have hson : ∀ j,(tAt ts i).sup.contains j = true → j < i∧listed.getD j true = true:=by
    intro j hj
    have h1:=List.all_eq_true.1 hsup j (by simpa using hj)
    simp only [Bool.and_eq_true,decide_eq_true_eq,List.any_eq_true] at h1
    obtain ⟨hji,e,he',hb,h2⟩:=h1
    have he:=Array.mem_toList_iff.1 he'
    refine ⟨hji,?_⟩
    have h3:=hia e he
    rw [hb] at h3
    have h4:=List.all_eq_true.1 haf e he'
    rw [hb] at h4
    simp only [Bool.not_true,Bool.false_or,decide_eq_true_eq] at h3 h4
    rw [hgd e.on (by omega)] at h3
    simp only [Bool.or_eq_true,beq_iff_eq] at h2
    rcases h2 with h2 | h2
    ·rw [← h2];exact h3
    ·exact hcl e.on (by omega) h3 j h2
   have hks : ∀ k ∈ (tAt ts i).kills,k ∈ A:=by
    intro k hk
    rw [hA]
    have h1:=List.all_eq_true.1 hkil k hk
    simp only [Bool.or_eq_true,decide_eq_true_eq] at h1
    refine ⟨?_,?_,fun j hj hjl hkj=>?_⟩
    ·rcases h1 with h1 | h1
     ·have:=(hson k h1).1;omega
     ·omega
    ·rcases h1 with h1 | h1
     ·exact (hson k h1).2
     ·exact hge k h1.1
    ·have:=kills_once hkn hk hkj
     subst this
     rw [hil] at hjl;cases hjl
   have hkin : (tAt ts i).kills.Nodup:=by
    unfold tAt List.getD
    cases hti : ts[i]? with
    | none=>simp
    | some T =>
     simp only [Option.getD_some]
     exact kills_nodup hkn (List.mem_of_getElem? hti)
   obtain ⟨A',hp,hA'n,hA'm⟩:=take_out _ A hkin hAn hks
   have hH1 : ((tAt ts i).kills.flatMap (fun k=>rows k env)++(R0++A'.flatMap (fun k=>rows k env))).Perm H:=by
    refine List.Perm.trans ?_ hH.symm
    refine List.Perm.trans ?_ (List.Perm.append_left R0 (List.Perm.flatMap_right _ hp.symm))
    rw [List.flatMap_append, ← List.append_assoc, ← List.append_assoc]
    exact List.Perm.append_right _ List.perm_append_comm
   have hdp : ∀ k ∈ (tAt ts i).deps,∀ d,(tAt ts k).dst = some d → t[d]? = some (val k env):=by
    intro k hk d hd
    have h1:=List.all_eq_true.1 hdeps k hk
    obtain ⟨h2,h3⟩:=hson k h1
    exact hv k d (by omega) h3 hd
   have hag' : Ag n (reFs ts F0 i re) t:=by
    have hgen : ∀ l : List (Nat × Nat × Value),(∀ e ∈ l,e.1 < ops.size) → (∀ e ∈ l,listed.getD e.1 true = false → t[e.2.1]? = some e.2.2) → Ag n (reFs ts F0 i l) t:=by
     intro l
     induction l with
     | nil=>exact fun _ _=>hag
     | cons e l ihl =>
      intro ha hb
      have hl' := ihl (fun e' he' => ha e' (List.mem_cons_of_mem _ he')) (fun e' he' => hb e' (List.mem_cons_of_mem _ he'))
      unfold reFs
      cases hci : (tAt ts e.1).sup.contains i with
      | false=>exact hl'
      | true =>
       refine hl'.cons (hb e List.mem_cons_self ?_)
       cases hx : listed.getD e.1 true with
       | false=>rfl
       | true=>have:=hcl e.1 (ha e List.mem_cons_self) hx i hci;rw [hil] at this;cases this
    exact hgen re (fun e he=>(hre e he).2) hr0
   have hst:=hob i o (by rw [opAt_eq];simpa using ho)
   have hreads : ∀ k ∈ rd i,∀ r ∈ rows k env,r ∈ R0++A'.flatMap (fun k=>rows k env):=by
    intro k hk r hr
    refine List.mem_append_right _ (List.mem_flatMap.2 ⟨k,?_,hr⟩)
    have h1:=List.all_eq_true.1 (List.all_eq_true.1 hrd i (List.mem_range.2 his)) k hk
    simp only [Bool.and_eq_true,Bool.or_eq_true,decide_eq_true_eq,Bool.not_eq_true'] at h1
    obtain ⟨⟨h1,h2⟩,h3⟩:=h1
    rw [hA'm,hA]
    refine ⟨⟨?_,?_,fun j hj hjl hkj=>?_⟩,by simpa using h2⟩
    ·rcases h1 with h1 | h1
     ·have:=(hson k h1).1;omega
     ·omega
    ·rcases h1 with h1 | h1
     ·exact (hson k h1).2
     ·exact hge k h1.1
    ·have h4:=List.all_eq_true.1 h3 j (List.mem_range.2 hj)
     simp only [Bool.or_eq_true,Bool.not_eq_true'] at h4
     rcases h4 with h4 | h4
     ·rw [List.contains_iff_mem.2 hkj] at h4;cases h4
     ·have:=hcl j hj hjl i h4
      rw [hil] at this;cases this
   have hyv : ∀ j ww,o.guard = some (j,ww) → (tAt ts j).dst ≠ none → yielded ops t.toArray j = bv (val j env):=by
    intro j ww hg hj
    rw [hg] at hgu
    obtain ⟨h1,h2⟩:=hson j hgu
    obtain ⟨d,hd'⟩:=Option.ne_none_iff_exists'.1 hj
    have hoj : ops[j]? = some ops[j]:=Array.getElem?_eq_getElem (by omega)
    have hcj:=hopAt j _ hoj
    unfold okOp3 at hcj
    simp only [Bool.and_eq_true] at hcj
    have hdj : (ops[j]).dst = (tAt ts j).dst:=by simpa using hcj.1.1.1.1.1.2
    exact yielded_bv hoj (by rw [hdj,hd']) (hv j d (by omega) h2 hd')
   have hnext : ∀ (v : Value) (w' : World) (H' : List Row),St B w0 H' w' → (∃ p,((tAt ts i).dst ≠ none → v = val i (upd env i p))∧H'.Perm (rows i (upd env i p)++(R0++A'.flatMap (fun k=>rows k env)))) → wpAnyIn (wf ρ) 0 P .any ops (lift ds B w0 Q) fuel (listed.setIfInBounds i true) ⟨(put t o.dst v).toArray,ds⟩ w' := by
    rintro v w' H' hS' ⟨p,hval,hH'⟩
    have hl' : ∀ k,(listed.setIfInBounds i true).getD k true = if k = i then true else listed.getD k true:=by
     intro k
     rw [Array.getD_eq_getD_getElem?,Array.getD_eq_getD_getElem?,Array.getElem?_setIfInBounds]
     by_cases hki : k = i
     ·subst hki;simp;split <;> rfl
     ·rw [if_neg (fun e=>hki e.symm),if_neg hki]
    have hnot : ∀ k,listed.getD k true = true → (tAt ts k).sup.contains i = false:=by
     intro k hk
     by_cases hks' : k < ops.size
     ·cases hcs : (tAt ts k).sup.contains i with
      | false=>rfl
      | true=>have:=hcl k hks' hk i hcs;rw [hil] at this;cases this
     ·by_cases hkt : k < ts.length
      ·have:=List.all_eq_true.1 hps ts[k] (by
        rw [List.mem_iff_getElem?]
        exact ⟨k - ops.size,by rw [List.getElem?_drop,show ops.size + (k - ops.size)=k by omega,List.getElem?_eq_getElem hkt]⟩)
       simp only [Bool.and_eq_true,List.isEmpty_iff] at this
       have e : tAt ts k = ts[k]:=by unfold tAt;simp [List.getD,hkt]
       rw [e,this.2];rfl
      ·have e : tAt ts k = ⟨none,[],[],[]⟩:=by unfold tAt;simp [List.getD,List.getElem?_eq_none (by omega : ts.length ≤ k)]
       rw [e];rfl
    have hiA : i ∉ A:=fun h=>by have:=((hA i).1 h).2.1;rw [hil] at this;cases this
    refine ih (listed.setIfInBounds i true) (U.erase i) (i::A') (put t o.dst v) H' w' (upd env i p) (by simpa using hls) ?_ (hUn.sublist List.erase_sublist) ?_ ?_ ?_ ?_ ?_ ?_ ?_ hS' ?_
    ·rw [List.length_erase_of_mem ((hU i).2 ⟨his,hil⟩)];omega
    ·intro k
     rw [hUn.mem_erase_iff,hU,hl']
     by_cases hki : k = i
     ·simp [hki]
     ·simp [hki]
    ·intro k hk hkl j hj
     rw [hl'] at hkl ⊢
     split
     ·rfl
     ·by_cases hki : k = i
      ·subst hki;exact (hson j hj).2
      ·rw [if_neg hki] at hkl;exact hcl k hk hkl j hj
    ·exact List.nodup_cons.2 ⟨fun h=>hiA ((hA'm i).1 h).1,hA'n⟩
    ·intro k
     rw [List.mem_cons,hA'm,hA,hl']
     by_cases hki : k = i
     ·subst hki
      simp only [true_or,if_true,true_and,true_iff]
      refine ⟨by omega,fun j hj hjl hkj=>?_⟩
      have h1 : ops[j]? = some ops[j]:=Array.getElem?_eq_getElem hj
      have hcj:=hopAt j _ h1
      unfold okOp3 at hcj
      simp only [Bool.and_eq_true] at hcj
      have h2:=List.all_eq_true.1 hcj.2 k hkj
      simp only [Bool.or_eq_true,decide_eq_true_eq] at h2
      rw [hl'] at hjl
      rcases h2 with h2 | h2
      ·by_cases hjk : j = k
       ·subst hjk;have:=(hson j h2).1;omega
       ·rw [if_neg hjk] at hjl
        have:=hcl j hj hjl k h2
        rw [hil] at this;cases this
      ·omega
     ·simp only [hki,false_or,if_false]
      constructor
      ·rintro ⟨⟨h1,h2,h3⟩,h4⟩
       refine ⟨h1,h2,fun j hj hjl=>?_⟩
       rw [hl'] at hjl
       by_cases hji : j = i
       ·subst hji;exact h4
       ·rw [if_neg hji] at hjl;exact h3 j hj hjl
      ·rintro ⟨h1,h2,h3⟩
       exact ⟨⟨h1,h2,fun j hj hjl=>h3 j hj (by rw [hl'];split;rfl;exact hjl)⟩,h3 i his (by rw [hl',if_pos rfl])⟩
    ·cases hdd : o.dst with
     | none=>exact hag
     | some d =>
      rw [hdst'] at hdd
      rw [hdd] at hds
      simp only [Bool.and_eq_true,decide_eq_true_eq] at hds
      refine ⟨by simpa [put] using hag.1,fun s u hs=>?_⟩
      have h1:=hag.2 s u hs
      simp only [put,List.getElem?_set]
      by_cases hsd : d = s
      ·subst hsd
       have : d ∈ dom:=by
        rw [← hd]
        exact lk_mem hs
       have h2:=hds.1.2
       have hsi : sm.contains i = true:=by simpa [this] using h2
       have e : v = u:=(hval (by rw [hdd];simp)).trans (hsm i d hsi hdd _ u hs)
       rw [if_pos rfl,e]
       exact if_pos (by rw [hag.1];exact hds.1.1)
      ·rw [if_neg hsd]
       exact h1
    ·rintro ⟨i0,d0,u0⟩ he0 hl0
     have hi0 : i0 < ops.size:=(hre _ he0).2
     have hre0 : (tAt ts i0).dst = some d0:=(hre _ he0).1
     dsimp only at hl0 ⊢
     rw [hl'] at hl0
     by_cases hii : i0 = i
     ·rw [if_pos hii] at hl0;cases hl0
     ·rw [if_neg hii] at hl0
      have h1 : t[d0]? = some u0:=hr0 _ he0 hl0
      cases hdd : o.dst with
      | none=>exact h1
      | some d' =>
       simp only [put,List.getElem?_set]
       rw [if_neg]
       ·exact h1
       ·rintro rfl
        rw [hdst'] at hdd
        rcases Nat.lt_or_gt_of_ne hii with hlt | hlt
        ·rw [hdd] at hds
         simp only [Bool.and_eq_true] at hds
         have:=List.all_eq_true.1 hds.2 i0 (List.mem_range.2 hlt)
         simp [hre0] at this
        ·have hck:=hopAt i0 _ (Array.getElem?_eq_getElem hi0)
         unfold okOp3 at hck
         simp only [Bool.and_eq_true] at hck
         have hdk:=hck.1.1.1.1.2
         rw [hre0] at hdk
         simp only [Bool.and_eq_true] at hdk
         have:=List.all_eq_true.1 hdk.2 i (List.mem_range.2 hlt)
         simp [hdd] at this
    ·intro k d hk hkl hkd
     rw [hl'] at hkl
     by_cases hki : k = i
     ·subst hki
      rw [hdst',hkd]
      rw [hkd] at hds
      simp only [Bool.and_eq_true,decide_eq_true_eq] at hds
      simp only [put,List.getElem?_set,if_true]
      rw [if_pos (by rw [hag.1];exact hds.1.1),hval (by rw [hkd];simp)]
     ·rw [if_neg hki] at hkl
      rw [(hloc k env i p (fun e=>hki e.symm) (hnot k hkl)).1]
      have h1:=hv k d hk hkl hkd
      cases hdd : o.dst with
      | none=>exact h1
      | some d' =>
       simp only [put,List.getElem?_set]
       rw [if_neg]
       ·exact h1
       ·rintro rfl
        rw [hdst'] at hdd
        rcases Nat.lt_or_gt_of_ne hki with hlt | hlt
        ·rw [hdd] at hds
         simp only [Bool.and_eq_true] at hds
         have:=List.all_eq_true.1 hds.2 k (List.mem_range.2 hlt)
         simp [hkd] at this
        ·have hck:=hopAt k _ (Array.getElem?_eq_getElem hk)
         unfold okOp3 at hck
         simp only [Bool.and_eq_true] at hck
         have hdk:=hck.1.1.1.1.2
         rw [hkd] at hdk
         simp only [Bool.and_eq_true] at hdk
         have:=List.all_eq_true.1 hdk.2 i (List.mem_range.2 hlt)
         simp [hdd] at this
    ·refine hH'.trans ?_
     have e : A'.flatMap (fun k=>rows k (upd env i p)) = A'.flatMap (fun k=>rows k env):=by
      have : ∀ k ∈ A',rows k (upd env i p)=rows k env:=fun k hk=>by
       have h1:=(hA'm k).1 hk
       have h2:=((hA k).1 h1.1).2.1
       exact (hloc k env i p (fun e=>hiA (e ▸ h1.1)) (hnot k h2)).2
      exact flatMap_congr' this
     rw [List.flatMap_cons,e, ← List.append_assoc, ← List.append_assoc]
     exact List.Perm.append_right _ List.perm_append_comm
   unfold wpOpIn
   simp only [ho]
   rcases hst with ⟨hgr,hst⟩ | ⟨j,ww,hg,hj,hbv,hki,hvi,hri⟩
   ·have hwant : Region.wanted o (yielded ops t.toArray)=true:=by
     unfold Region.wanted
     rcases hgr with hgr | ⟨j,ww,hg,hj,hb⟩
     ·rw [hgr]
     ·rw [hg];simp only [hyv j ww hg hj,hb];simp
    simp only [hwant,if_true]
    exact hst env (R0++A'.flatMap (fun k=>rows k env)) (fun r hr=>List.mem_append_left _ hr) hreads t (ag_fdeps hag' _ hdp) ρ ds B w0 w (hS.perm hH1) _ _ hnext
   ·have hwant : Region.wanted o (yielded ops t.toArray)=false:=by
     unfold Region.wanted
     rw [hg];simp only [hyv j ww hg hj]
     simpa using hbv env
    simp only [hwant,Bool.false_eq_true,if_false]
    rw [put_act]
    refine ⟨fun _ _=>trivial,hnext undef w _ hS ⟨(0,0),fun _=>(hvi _).symm,?_⟩⟩
    --,fun _=>(hvi _).symm,?_⟩
    rw [hri,List.nil_append]
    rw [hki] at hH1
    simpa using hH1.symm
theorem X.regionRs {P : Program} {n : Nat} {c : Code} {F : FS} {H : List Row} {Q : QX} (sm : List Nat) (ts : List TOp) (rd : Nat → List Nat) (dom : List Nat) (F0 : FS) (val : Nat → Env → Value) (rows : Nat → Env → List Row) (env0 : Env) (R0 : List Row)
  (h : c = .region (cid c) (cops c) true) (hm : P.follows .mixedOrders = true) (hsub : Sub F0 F) (hd : F0.map (·.1)=dom) (hok : okReg3 sm (cops c) ts dom n = true) (hrd : okRd ts rd (cops c).size = true)
  (hloc : ∀ k env i p,i ≠ k → (tAt ts k).sup.contains i = false → val k (upd env i p)=val k env∧rows k (upd env i p)=rows k env)
  (hsm : ∀ i d,sm.contains i = true → (tAt ts i).dst = some d → ∀ env v,lk F0 d = some v → val i env = v)
  (hH : (((List.range ts.length).drop (cops c).size).flatMap (fun k=>rows k env0)++R0).Sublist H)
  (re : List (Nat × Nat × Value)) (hre : ∀ e ∈ re,(tAt ts e.1).dst = some e.2.1∧e.1 < (cops c).size) (h0 : ∀ e ∈ re,lk F e.2.1 = some e.2.2)
  (hob' : AllF (cops c).toList 0 fun i o=>ObR P n ts rd val rows (reFs ts F0 i re) R0 i o)
  (hQ : ∀ env t,Ag n F0 t → (∀ i d,i < (cops c).size → (tAt ts i).dst = some d → t[d]? = some (val i env)) → exQ n Q .normal t ((alive ts).flatMap (fun k=>rows k env)++R0)) : X P n c F H Q:=by
 have hob:=fun i o ho=>hob' i o (Nat.zero_le i) ho
 unfold X W
 intro t ha ρ ds B w0 w hS
 rw [h]
 refine wpIn_region_any hm ?_
 have hlen : (cops c).size ≤ ts.length:=by
  have:=hok
  unfold okReg3 at this
  simp only [Bool.and_eq_true,decide_eq_true_eq] at this
  exact this.1.1.1
 have hl : ∀ k d,(Array.replicate (cops c).size false).getD k d = if k < (cops c).size then false else d:=by
  intro k d
  rw [Array.getD_eq_getD_getElem?,Array.getElem?_replicate]
  split <;> rfl
 have hdm : ∀ k,k ∈ (List.range ts.length).drop (cops c).size ↔ (cops c).size ≤ k∧k < ts.length:=by
  intro k
  rw [List.mem_iff_getElem?]
  constructor
  ·rintro ⟨j,hj⟩
   rw [List.getElem?_drop] at hj
   have:=List.getElem?_eq_some_iff.1 hj
   obtain ⟨h1,h2⟩:=this
   simp at h1 h2
   omega
  ·rintro ⟨h1,h2⟩
   exact ⟨k - (cops c).size,by rw [List.getElem?_drop,show (cops c).size + (k - (cops c).size)=k by omega,List.getElem?_range h2]⟩
 refine wpAny_ob6 hd hok rd hrd val rows hloc hsm hre R0 hob hQ (cops c).size _ (List.range (cops c).size) ((List.range ts.length).drop (cops c).size) t _ _ env0 (by simp) (by simp) List.nodup_range ?_ ?_ ((List.nodup_range).sublist (List.drop_sublist _ _)) ?_ (ha.sub hsub) (fun e he _=>ha.2 e.2.1 e.2.2 (h0 e he)) ?_ ((hS.drewN 1).sub hH) List.perm_append_comm
 ·intro k
  rw [List.mem_range,hl]
  by_cases hk : k < (cops c).size <;> simp [hk]
 ·intro k hk hkl
  rw [hl,if_pos hk] at hkl
  cases hkl
 ·intro k
  rw [hdm,hl]
  constructor
  ·rintro ⟨h1,h2⟩
   refine ⟨h2,by rw [if_neg (by omega)],fun j hj hjl=>?_⟩
   rw [hl,if_pos hj] at hjl
   cases hjl
  ·rintro ⟨h1,h2,_⟩
   refine ⟨?_,h1⟩
   by_cases hk : k < (cops c).size
   ·rw [if_pos hk] at h2;cases h2
   ·omega
 ·intro k d hk hkl
  rw [hl,if_pos hk] at hkl
  cases hkl
end Go.Fw
namespace Go.Proofs.YtbpcbdbclijomaaGreat
open Go Go.Fw
set_option maxRecDepth 10000
theorem of_bd (L : List (List Int)) (k : Int) : ofKind L k = 0∨ofKind L k = 1∨ofKind L k = 2:=by
 unfold ofKind knb
 split
 ·split
  ·exact .inr (.inl rfl)
  ·exact .inl rfl
 ·exact .inr (.inr rfl)
theorem ld_iff {q d r : Int} (hd : 0 < d) : leastD q d ≤ r ↔ 1000 * q ≤ (r + 1000) * d:=by
 have:=ceil_le (q:=q) (m:=r + 1000) hd
 unfold leastD
 rw [← this];omega
theorem w_le {d r v : Int} (hd : 0 < d) : weightP d r ≤ v ↔ ¬ leastD (v + 1) d ≤ r:=by
 rw [ld_iff hd]
 unfold weightP
 rw [Int.mul_comm d,Int.add_comm 1000 r]
 omega
theorem w_ge {d r v : Int} (hd : 0 < d) : v ≤ weightP d r ↔ leastD v d ≤ r:=by
 rw [ld_iff hd]
 unfold weightP
 rw [Int.mul_comm d,Int.add_comm 1000 r]
 omega
theorem w_mono {d d' r : Int} (h : d ≤ d') (hr : 0 ≤ 1000 + r) : weightP d r ≤ weightP d' r:=by
 unfold weightP
 exact Int.ediv_le_ediv (by omega) (Int.mul_le_mul_of_nonneg_right h hr)
theorem ld_step {v d : Int} (hd : 1 ≤ d∧d ≤ 600) : ¬ leastD (v + 1) d ≤ leastD v d:=by
 rw [ld_iff (by omega)]
 have h5 : (1000 * v + d - 1) / d * d ≤ 1000 * v + d - 1:=Int.ediv_mul_le _ (by omega)
 have h6 : leastD v d + 1000 = (1000 * v + d - 1) / d:=by unfold leastD;omega
 rw [h6]
 omega
/-- each dry weight between two that can be explains a weighing -/
theorem explains {x : Wg} {f e d : Int} (hx : wgOk x) (hf : 1 ≤ f) (he : e ≤ 600) (h1 : f ≤ d) (h2 : d ≤ e) (cf : couldP x f) (ce : couldP x e) :
  ∃ r,(dampOf x e).lo ≤ r∧r ≤ (dampOf x f).hi∧weightP d r = x.val:=by
 obtain ⟨v1,v2,v3,v4⟩:=hx
 have m1 : weightP f x.hi ≤ weightP d x.hi:=w_mono h1 (by omega)
 have m2 : weightP d x.lo ≤ weightP e x.lo:=w_mono h2 (by omega)
 have g1 : leastD x.val d ≤ x.hi:=(w_ge (by omega)).1 (by have:=cf.2;omega)
 have g2 : ¬ leastD (x.val + 1) d ≤ x.lo:=(w_le (by omega)).1 (by have:=ce.1;omega)
 have g3:=ld_step (v:=x.val) (d:=d) (by omega)
 have hw : weightP d (max x.lo (leastD x.val d)) = x.val:=by
  have a1:=(w_ge (d:=d) (r:=max x.lo (leastD x.val d)) (v:=x.val) (by omega)).2 (by omega)
  have a2:=(w_le (d:=d) (r:=max x.lo (leastD x.val d)) (v:=x.val) (by omega)).2 (by omega)
  omega
 have hr0 : 0 ≤ 1000 + max x.lo (leastD x.val d):=by omega
 refine ⟨max x.lo (leastD x.val d),?_,?_,hw⟩
 ·show max x.lo (leastD x.val e)≤_
  have : leastD x.val e ≤ max x.lo (leastD x.val d):=(w_ge (by omega)).1 (by have:=w_mono h2 hr0;omega)
  omega
 ·show _ ≤ min x.hi (leastD (x.val + 1) f - 1)
  have : ¬ leastD (x.val + 1) f ≤ max x.lo (leastD x.val d):=(w_le (by omega)).1 (by have:=w_mono h1 hr0;omega)
  omega
theorem wl_mem (ok : Int → Bool) (lo : Int) : ∀ k,∀ x ∈ wl ok lo k,ok x = true
 | 0,x,h=>absurd h List.not_mem_nil
 | k + 1,x,h=>by
  simp only [wl,List.mem_append] at h
  rcases h with h | h
  ·exact wl_mem ok lo k x h
  ·split at h
   ·rw [List.mem_singleton] at h;rw [h];assumption
   ·exact absurd h List.not_mem_nil
theorem wl_sorted (ok : Int → Bool) (lo : Int) : ∀ k,(wl ok lo k).Pairwise (·≤ ·)
 | 0=>List.Pairwise.nil
 | k + 1=>by
  show (wl ok lo k++_).Pairwise _
  refine List.pairwise_append.2 ⟨wl_sorted ok lo k,?_,fun x hx y hy=>?_⟩
  ·split
   ·exact List.pairwise_singleton _ _
   ·exact List.Pairwise.nil
  ·have:=wl_in ok lo k x hx
   split at hy
   ·rw [List.mem_singleton] at hy;omega
   ·exact absurd hy List.not_mem_nil
theorem getD_mem {l : List Int} {i : Nat} (h : i < l.length) : l.getD i 0 ∈ l:=by
 rw [List.getD_eq_getElem?_getD,List.getElem?_eq_getElem h]
 exact List.getElem_mem h
theorem sorted_ends {l : List Int} (h : l.Pairwise (·≤ ·)) (hne : 0 < l.length) : l.getD 0 0 ≤ l.getD (l.length - 1) 0:=by
 rw [List.getD_eq_getElem?_getD,List.getD_eq_getElem?_getD,List.getElem?_eq_getElem hne,List.getElem?_eq_getElem (show l.length - 1 < l.length by omega)]
 by_cases q : 0 = l.length - 1
 ·have : ∀ (i : Nat) (hi : i < l.length),i = 0 → l[i] = l[0]:=fun i hi e=>by subst e;rfl
  show l[0] ≤ l[l.length - 1]
  rw [this (l.length - 1) (by omega) q.symm]
  exact Int.le_refl _
 ·exact List.pairwise_iff_getElem.1 h 0 (l.length - 1) hne (by omega) (by omega)
structure DryF (B : Bl) : Prop where
 lo : B.dlo ≤ (dryOf B).lo
 le : (dryOf B).lo ≤ (dryOf B).hi
 hi : (dryOf B).hi ≤ B.dhi
 clo : ∀ x ∈ B.weighs,couldP x (dryOf B).lo
 chi : ∀ x ∈ B.weighs,couldP x (dryOf B).hi
theorem dry_facts {B : Bl} (hb : baleOk B) (hc : canB B) : DryF B:=by
 have hne:=hc.2
 have hd:=hb.hdry
 have m0 : (dryOf B).lo ∈ wts B:=getD_mem hne
 have m1 : (dryOf B).hi ∈ wts B:=getD_mem (show (wts B).length - 1 < (wts B).length by omega)
 have b0:=wl_in (okW B) B.dlo (B.dhi - B.dlo + 1).toNat _ m0
 have b1:=wl_in (okW B) B.dlo (B.dhi - B.dlo + 1).toNat _ m1
 have c0 : canW B (dryOf B).lo:=of_decide_eq_true (wl_mem (okW B) B.dlo _ _ m0)
 have c1 : canW B (dryOf B).hi:=of_decide_eq_true (wl_mem (okW B) B.dlo _ _ m1)
 exact ⟨by omega,sorted_ends (wl_sorted (okW B) B.dlo _) hne,by omega,fun x hx=>(could_iff (hb.wg x hx) (by omega)).1 (c0 x hx),fun x hx=>(could_iff (hb.wg x hx) (by omega)).1 (c1 x hx)⟩
theorem wet_explains {B : Bl} (hb : baleOk B) (hc : canB B) {x : Wg} (hx : x ∈ B.weighs) {d : Int} (h1 : (dryOf B).lo ≤ d) (h2 : d ≤ (dryOf B).hi) : ∃ r,(wetOf B x).lo ≤ r∧r ≤ (wetOf B x).hi∧weightP d r = x.val:=by
 have hf:=dry_facts hb hc
 have hd:=hb.hdry
 exact explains (hb.wg x hx) (by have:=hf.lo;omega) (by have:=hf.hi;omega) h1 h2 (hf.clo x hx) (hf.chi x hx)
theorem wet_in {B : Bl} {x : Wg} : x.lo ≤ (wetOf B x).lo∧(wetOf B x).hi ≤ x.hi:=by
 show x.lo ≤ max _ _∧min _ _ ≤ x.hi
 omega
theorem damper_two {B : Bl} {x : Wg} {n : Int} : damperOf B x n = 2 ↔ (wetOf B x).lo > n:=by
 unfold damperOf knb
 by_cases h1 : (wetOf B x).lo ≤ n
 ·rw [decide_eq_true h1,if_pos rfl]
  refine ⟨fun e=>?_,fun e=>by omega⟩
  split at e <;> cases e
 ·rw [decide_eq_false h1,if_neg (by decide)]
  exact ⟨fun _=>by omega,fun _=>rfl⟩
theorem damper_zero {B : Bl} {x : Wg} {n : Int} (h : (wetOf B x).lo ≤ (wetOf B x).hi) : damperOf B x n = 0 ↔ (wetOf B x).hi ≤ n:=by
 unfold damperOf knb
 by_cases h1 : (wetOf B x).lo ≤ n
 ·rw [decide_eq_true h1,if_pos rfl]
  by_cases h2 : (wetOf B x).hi > n
  ·rw [decide_eq_true h2,if_pos rfl]
   exact ⟨fun e=>(by cases e),fun e=>by omega⟩
  ·rw [decide_eq_false h2,if_neg (by decide)]
   exact ⟨fun _=>by omega,fun _=>rfl⟩
 ·rw [decide_eq_false h1,if_neg (by decide)]
  exact ⟨fun e=>(by cases e),fun e=>by omega⟩
theorem damper_three (B : Bl) (x : Wg) (n : Int) : damperOf B x n = 0∨damperOf B x n = 1∨damperOf B x n = 2:=by
 unfold damperOf knb
 split
 ·split
  ·exact .inr (.inl rfl)
  ·exact .inl rfl
 ·exact .inr (.inr rfl)
noncomputable def dmp (B : Bl) (n : Int) (j : Nat) : Int:=damperOf B (B.weighs.getD j wgz) n
noncomputable def weN (B : Bl) (n : Int) : Nat → Bool
 | 0=>false
 | j + 1=>weN B n j || decide (dmp B n j = 2)
noncomputable def daN (B : Bl) (n : Int) : Nat → Bool
 | 0=>false
 | j + 1=>daN B n j || decide (dmp B n j ≠ 0)
theorem aside_step {B : Bl} {k n : Int} (hk : k = 0∨k = 1∨k = 2) : ∀ j,(asideT B k n j = 2 ↔ (weN B n j = true∨k = 0))∧(asideT B k n j = 0 ↔ (daN B n j = false∧k = 2))∧(0 ≤ asideT B k n j∧asideT B k n j ≤ 2)∧(weN B n j = true → daN B n j = true)
 | 0=>by
  show (2 - k = 2 ↔ (false = true∨k = 0))∧(2 - k = 0 ↔ (false = false∧k = 2))∧(0 ≤ 2 - k∧2 - k ≤ 2)∧(false = true → false = true)
  refine ⟨⟨fun _ => .inr (by omega),fun h=>?_⟩,⟨fun _=>⟨rfl,by omega⟩,fun h=>by omega⟩,by omega,fun h=>h⟩
  rcases h with h | h
  ·cases h
  ·omega
 | j + 1=>by
  obtain ⟨h1,h2,h3,h4⟩:=aside_step (B:=B) (n:=n) hk j
  have h5:=damper_three B (B.weighs.getD j wgz) n
  show (max (asideT B k n j) (dmp B n j)=2 ↔ ((weN B n j || decide (dmp B n j = 2)) = true∨k = 0))∧(max (asideT B k n j) (dmp B n j)=0 ↔ ((daN B n j || decide (dmp B n j ≠ 0)) = false∧k = 2))∧(0 ≤ max (asideT B k n j) (dmp B n j)∧max (asideT B k n j) (dmp B n j)≤2)∧((weN B n j || decide (dmp B n j = 2)) = true → (daN B n j || decide (dmp B n j ≠ 0)) = true)
  change dmp B n j = 0∨dmp B n j = 1∨dmp B n j = 2 at h5
  obtain ⟨v,hv⟩ : ∃ v,v = dmp B n j:=⟨_,rfl⟩
  obtain ⟨A,hA⟩ : ∃ A,A = asideT B k n j:=⟨_,rfl⟩
  rw [← hv] at h5 ⊢
  rw [← hA] at h1 h2 h3 ⊢
  cases hw : weN B n j <;> cases hd : daN B n j <;> rw [hw] at h1 h4 <;> rw [hd] at h2 h4 <;> rcases h5 with rfl | rfl | rfl <;> simp at h1 h2 h4 ⊢ <;> omega
theorem aside_ge {B : Bl} {k n : Int} : ∀ m j,j < m → dmp B n j ≤ asideT B k n m
 | 0,_,h=>absurd h (Nat.not_lt_zero _)
 | m + 1,j,h=>by
  show _ ≤ max (asideT B k n m) (damperOf B (B.weighs.getD m wgz) n)
  by_cases q : j = m
  ·subst q
   exact Int.le_max_right _ _
  ·exact Int.le_trans (aside_ge m j (by omega)) (Int.le_max_left _ _)
def fnN (d lo v : Int) : Nat → Bool
 | 0=>false
 | j + 1=>fnN d lo v j || decide (weightP d (lo + (j : Int)) = v)
theorem fnN_has {d lo v : Int} : ∀ (m j : Nat),j < m → weightP d (lo + (j : Int)) = v → fnN d lo v m = true
 | 0,_,h,_=>absurd h (Nat.not_lt_zero _)
 | m + 1,j,h,e=>by
  show (fnN d lo v m || decide (weightP d (lo + (m : Int)) = v)) = true
  by_cases q : j = m
  ·subst q
   rw [decide_eq_true e,Bool.or_true]
  ·rw [fnN_has m j (by omega) e,Bool.true_or]
theorem rises_lt : ∀ {l : List Int} {p m : Int},rises p l → m ∈ l → p < m
 | [],_,_,_,h=>absurd h List.not_mem_nil
 | y::t,p,m,hr,h=>by
  have h1 : p < y:=hr.1
  rcases List.mem_cons.1 h with rfl | q
  ·exact h1
  ·have:=rises_lt hr.2 q
   omega
theorem numW_self : ∀ {l : List Dr} {p : Int} {x : Dr},rises p (l.map (·.number)) → x ∈ l → numW l x.number = x
 | [],_,_,_,h=>absurd h List.not_mem_nil
 | y::t,p,x,hr,h=>by
  unfold numW
  by_cases q : y.number = x.number
  ·rw [List.find?_cons_of_pos (by simpa using q)]
   rcases List.mem_cons.1 h with rfl | m
   ·rfl
   ·have : y.number < x.number:=rises_lt hr.2 (List.mem_map.2 ⟨x,m,rfl⟩)
    omega
  ·rw [List.find?_cons_of_neg (by simpa using q)]
   rcases List.mem_cons.1 h with rfl | m
   ·exact absurd rfl q
   ·exact numW_self hr.2 m
theorem bool_ne {a b : Bool} (h : a = b) : some (!(a == b)) = some false:=by subst h;cases a <;> rfl
theorem dec_eq {P Q : Prop} [Decidable P] [Decidable Q] (h : P ↔ Q) : decide P = decide Q:=by
 by_cases p : P
 ·rw [decide_eq_true p,decide_eq_true (h.1 p)]
 ·rw [decide_eq_false p,decide_eq_false (fun q=>p (h.2 q))]
def tsKw28 : List TOp:=[⟨some 225,[],[],[]⟩,⟨some 226,[0],[0],[]⟩,⟨some 227,[0,1],[],[]⟩,⟨some 228,[0,1],[],[]⟩,⟨some 229,[0,1,2,3],[2,3],[]⟩,⟨some 230,[0,1],[],[]⟩,⟨some 231,[0,1,5],[5],[]⟩,⟨some 232,[0,1,2,3,4,5,6],[4,6],[]⟩,⟨some 233,[0,1,2,3,4,5,6,7],[1,7],[]⟩,⟨some 25,[0,1,2,3,4,5,6,7,8],[8],[]⟩]
def valKw28 (b3 b20 b21 ab oo len c2 jj : Nat) (x : Dr) (n d A kk v rr y : Int) (w z wa wb : Bool) (k : Nat) (env : Env) : Value :=
 match k with
 | 0 => .bool w
 | 1 => .bool w
 | 2=>gt (w) (.int .i64 d)
 | 3=>gt (w) (.int .i64 rr)
 | 4=>gt (w) (.int .i64 y)
 | 5=>gt (w) (.pointer (some ⟨b20,1,none⟩))
 | 6=>gt (w) (.int .i64 x.val)
 | 7=>gt (w) (.bool z)
 | 8 => .bool (w || z)
 | 9 => .bool (w || z)
 | _=>undef
def rowsKw28 (b3 b20 b21 ab oo len c2 jj : Nat) (x : Dr) (n d A kk v rr y : Int) (w z wa wb : Bool) (k : Nat) (env : Env) : List Row :=
 match k with
 | _=>[]
theorem locKw28 (b3 b20 b21 ab oo len c2 jj : Nat) (x : Dr) (n d A kk v rr y : Int) (w z wa wb : Bool) : ∀ k env i q9,i ≠ k → (tAt tsKw28 k).sup.contains i = false → valKw28 b3 b20 b21 ab oo len c2 jj x n d A kk v rr y w z wa wb k (upd env i q9)=valKw28 b3 b20 b21 ab oo len c2 jj x n d A kk v rr y w z wa wb k env∧rowsKw28 b3 b20 b21 ab oo len c2 jj x n d A kk v rr y w z wa wb k (upd env i q9)=rowsKw28 b3 b20 b21 ab oo len c2 jj x n d A kk v rr y w z wa wb k env:=by
 intro k env i q hk hs
 have hu : ∀ j,j ≠ i → upd env i q j = env j:=fun j hj=>by unfold upd;rw [if_neg hj]
 match k,hk,hs with
 | 0,_,_=>exact ⟨rfl,rfl⟩
 | 1,_,_=>exact ⟨rfl,rfl⟩
 | 2,_,_=>exact ⟨rfl,rfl⟩
 | 3,_,_=>exact ⟨rfl,rfl⟩
 | 4,_,_=>exact ⟨rfl,rfl⟩
 | 5,_,_=>exact ⟨rfl,rfl⟩
 | 6,_,_=>exact ⟨rfl,rfl⟩
 | 7,_,_=>exact ⟨rfl,rfl⟩
 | 8,_,_=>exact ⟨rfl,rfl⟩
 | 9,_,_=>exact ⟨rfl,rfl⟩
 | _ + 10,_,_=>exact ⟨rfl,rfl⟩
def rdKw28 (_ : Nat) : List Nat:=[]
set_option maxHeartbeats 16000000 in
theorem we_r16 (B : Bl) (p : Pb) (n d A k : Int) (b3 cap3 : Nat) (ow3 : Option Kd) (h : Rdy B) (hn : 0 ≤ n∧n ≤ 200) (hd1 : (dryOf B).lo ≤ d) (hd2 : d ≤ (dryOf B).hi) (hk : k = 0∨k = 1∨k = 2) (hA : A = asideT B k n B.weighs.length) (F : FS) (G : List Row)
  (m3 : (⟨b3,0,cBl B p,ow3,cap3⟩ : Row) ∈ G) (hB : BlOk G B p) (hF : Sub [(3,.pointer (some ⟨b3,0,none⟩)),(7,.bool true),(8,.int .i64 n),(13,.int .i64 d),(14,.int .u8 A),(15,.int .u8 k)] F) : X Tryz.prog 303 (csnd (csnd (csnd (csnd (csnd (csnd (csnd (csnd (csnd (csnd (csnd (csnd (cof Tryz.f5))))))))))))) F G (retX Tryz.prog Tryz.f5 (fun v _=>v = .bool true)):=by
 refine X.weak hF (qR _) ?_
 obtain ⟨a1,c1,a2,c2⟩:=p
 have hs0:=aside_step (B:=B) (n:=n) hk
 have hge:=fun j (hj : j < B.weighs.length)=>aside_ge (B:=B) (k:=k) (n:=n) B.weighs.length j hj
 rw [← hA] at hge
 have hs9:=hs0 B.weighs.length
 rw [← hA] at hs9
 have kw:=fun S m hS=>kWet_spec B ⟨a1,c1,a2,c2⟩ m S hS
 have kn:=fun S m hS=>kKnown_spec B ⟨a1,c1,a2,c2⟩ m n S hS
 have hwl:=h.l.2
 have hdv:=dry_facts h.ok h.can
 have hdr:=h.ok.hdry
 have hd6 : 1 ≤ d∧d ≤ 600:=by have:=hdv.lo;have:=hdv.hi;omega
 repeat' (first | (refine uP rfl ?_;(first | ((first | refine uN rfl ?_);(first | (refine uE (uL (v := .slice a2 B.weighs.length c2) rfl rfl (uO (b:=b3) (cs:=cBl B ⟨a1,c1,a2,c2⟩) (te rfl) rfl m3 rfl)) rfl rfl ?_)|(refine uE (uY rfl rfl (te rfl)) rfl rfl ?_)|(refine uE (uM rfl rfl) rfl rfl ?_)|(refine uE (uA rfl rfl) rfl rfl ?_)|(refine uE (uF rfl rfl (te rfl) rfl (te rfl) (by decide)) rfl rfl ?_)))))|(refine uD rfl ?_;refine hK _ _ ?_;clear hK K) | refine uS rfl ?_ | refine uR rfl (fun K hK=>?_) | refine X.block rfl ?_)
 refine X.lp rfl (fun q F' H' => ∃ j : Nat,q = B.weighs.length - j∧j ≤ B.weighs.length∧G = H'∧F' = [(3,.pointer (some ⟨b3,0,none⟩)),(7,.bool true),(8,.int .i64 n),(13,.int .i64 d),(14,.int .u8 A),(15,.int .u8 k),(17,.bool (weN B n j)),(18,.bool (daN B n j)),(149,.slice a2 B.weighs.length c2),(150,.int .i64 B.weighs.length),(151,.int .i64 (j : Nat))])
  B.weighs.length [(3,.pointer (some ⟨b3,0,none⟩)),(7,.bool true),(8,.int .i64 n),(13,.int .i64 d),(14,.int .u8 A),(15,.int .u8 k),(17,.bool (weN B n 0)),(18,.bool (daN B n 0)),(149,.slice a2 B.weighs.length c2),(150,.int .i64 B.weighs.length),(151,.int .i64 (0 : Nat))] _ (by repeat (first | exact uU _ | refine uV rfl ?_)) (qR _) ⟨0,by omega,by omega,rfl,rfl⟩ ?_
 rintro _ _ _ ⟨j,rfl,hj,rfl,rfl⟩
 by_cases hlt : j < B.weighs.length
 ·have hlt' : (j : Int)<B.weighs.length:=by omega
  obtain ⟨ab,oo,x,hae,hx⟩:=hB.weighs.elem (i:=j) hlt
  dsimp only at hae
  subst hae
  have hxm:=List.mem_of_getElem? hx
  have hgd : B.weighs.getD j wgz = x:=by rw [List.getD_eq_getElem?_getD,hx];rfl
  have hnum:=numW_self h.ok.2.2.2.2.2.1.1 hxm
  have hop : openE B (caN x.number)=0:=oE h.ok h.can (fun _ h=>absurd h List.not_mem_nil) (fun _ h=>absurd h List.not_mem_nil) (fun m hm=>by rw [List.mem_singleton.1 hm];exact List.mem_map.2 ⟨x,hxm,rfl⟩) (fun _ h=>absurd h List.not_mem_nil)
  have kwx:=fun S hS=>kw S x.number hS
  have knx:=fun S hS=>kn S x.number hS
  rw [hop,hnum,spIf_pos rfl] at kwx
  rw [hop,hnum,uIf_pos rfl] at knx
  obtain ⟨r0,hr1,hr2,hr3⟩:=wet_explains h.ok h.can hxm hd1 hd2
  have hwi:=wet_in (B:=B) (x:=x)
  have hd2' := damper_two (B:=B) (x:=x) (n:=n)
  have hd0' := damper_zero (B:=B) (x:=x) (n:=n) (by omega)
  have hd3:=damper_three B x n
  have hvA:=hge j hlt
  have hwe : weN B n (j + 1)=(weN B n j || decide (dmp B n j = 2)):=rfl
  have hda : daN B n (j + 1)=(daN B n j || decide (dmp B n j ≠ 0)):=rfl
  have hdm : dmp B n j = damperOf B x n:=by unfold dmp;rw [hgd]
  rw [hdm] at hwe hda hvA
  have hwg:=h.ok.wg x hxm
  obtain ⟨T,hT⟩ : ∃ T,T = wetOf B x:=⟨_,rfl⟩
  obtain ⟨v,hv⟩ : ∃ v,v = damperOf B x n:=⟨_,rfl⟩
  rw [← hT] at kwx hr1 hr2 hwi hd2' hd0'
  rw [← hv] at knx hd2' hd0' hd3 hvA hwe hda
  clear kw kn hT hv hdm hge hnum hop
  have g1 : ¬ T.lo < x.lo:=by omega
  have g2 : ¬ T.lo > T.hi:=by omega
  have g3 : ¬ T.hi > x.hi:=by omega
  have e1:=bool_ne (dec_eq hd2')
  have e2:=bool_ne (dec_eq hd0')
  have hA3:=hs9.2.2.1
  repeat' (first | (refine uP rfl ?_;(first | ((first | refine uN rfl ?_ | (refine Xo.g rfl rfl ?_;with_reducible refine Xw.ff ?_));(first | (refine uE (uQ (b:=true) rfl rfl rfl (congrArg some (decide_eq_true hlt'))) rfl rfl ?_)|(refine uE (uL rfl rfl (LoadV.elA0 hB.weighs hx (te rfl) rfl (fun _ hm=>hm) rfl)) rfl rfl ?_)|(refine Xg.st (StF.alloc rfl Tryz.zeroValue41 rfl) rfl rfl ?_;rintro _ _ ⟨b20,rfl,rfl⟩)|(refine Xg.st0 (uZ (i:=0) (vs:=cDr x) rfl rfl rfl (te rfl) rfl rfl rfl rfl) rfl ?_;rintro _ _ ⟨rfl,rfl⟩;dsimp only [List.set])|(refine uE (uL rfl rfl (uW (b:=b3) (cs:=cBl B ⟨a1,c1,some ⟨ab,oo,none⟩,c2⟩) (te rfl) rfl (by (repeat (first | exact m3 | apply qT));done) rfl)) rfl rfl ?_)|(refine uE (uL rfl rfl (uO (te rfl) rfl (by repeat (first | exact qH _ | apply qT)) rfl)) rfl rfl ?_)|(refine uC (uT rfl (Args.cons rfl (Args.cons rfl Args.nil))) rfl rfl (kwx _ (hB.sub (fun _ h=>by repeat (first | exact h | apply qT)))) ?_;rintro _ _ ⟨rfl,e9⟩;have e9:=e9.symm;subst e9)|(refine uE (uX rfl rfl rfl) rfl rfl ?_)|(refine Xg.st (StF.alloc rfl Tryz.zeroValue24 rfl) rfl rfl ?_;rintro _ _ ⟨b21,rfl,rfl⟩)|(refine Xg.st0 (uZ (i:=0) (vs:=cSp T) rfl rfl rfl (te rfl) rfl rfl rfl rfl) rfl ?_;rintro _ _ ⟨rfl,rfl⟩;dsimp only [List.set])|(refine uC (uT rfl (Args.cons rfl (Args.cons rfl (Args.cons rfl Args.nil)))) rfl rfl (knx _ (hB.sub (fun _ h=>by repeat (first | exact h | apply qT)))) ?_;rintro _ _ ⟨rfl,e9⟩;have e9:=e9.symm;subst e9)|(refine uE (uQ (b:=false) rfl rfl rfl (congrArg some (nd_f (Eq.refl (0 : Int))))) rfl rfl ?_)|(refine uE (uQ (b:=false) rfl rfl rfl (congrArg some (decide_eq_false g1))) rfl rfl ?_)|(refine uE (uQ (b:=false) rfl rfl rfl (congrArg some (decide_eq_false g2))) rfl rfl ?_)|(refine uE (uQ (b:=false) rfl rfl rfl (congrArg some (decide_eq_false g3))) rfl rfl ?_)|(refine uE (uQ (b:=decide (v = 2)) rfl rfl rfl rfl) rfl rfl ?_)|(refine uE (uQ (b:=decide (T.lo > n)) rfl rfl rfl rfl) rfl rfl ?_)|(refine uE (uQ (b:=decide (v = 0)) rfl rfl rfl rfl) rfl rfl ?_)|(refine uE (uQ (b:=decide (T.hi ≤ n)) rfl rfl rfl rfl) rfl rfl ?_)|(refine uE (EvF.cmpB (b:=false) rfl rfl rfl Tryz.underlying4 e1) rfl rfl ?_)|(refine uE (EvF.cmpB (b:=false) rfl rfl rfl Tryz.underlying4 e2) rfl rfl ?_)|(refine uE (uM rfl rfl) rfl rfl ?_)|(refine uE (uA rfl rfl) rfl rfl ?_)|(refine uE (EvF.pickF rfl rfl rfl) rfl rfl ?_)|(refine uE (uF rfl rfl (te rfl) rfl (te rfl) (by decide)) rfl rfl ?_)|(refine uE (uJ rfl rfl rfl (te rfl) (te rfl) (by omega) (by omega)) rfl rfl ?_)))))|(refine uD rfl ?_;refine hK _ _ ?_;clear hK K) | refine uS rfl ?_ | refine uR rfl (fun K hK=>?_) | refine X.block rfl ?_ | refine X.skip rfl ?_ | (refine X.ite rfl rfl (fun hc=>?_);(first | (with_reducible refine Xb.t hc ?_)|(with_reducible refine Xb.f hc ?_)) <;> clear hc))
  all_goals try (exfalso;contradiction)
  obtain ⟨N,hN⟩ : ∃ N,N = (T.hi - T.lo + 1).toNat:=⟨_,rfl⟩
  refine X.lp rfl (fun q F' H' => ∃ r : Nat,q = N - r∧r ≤ N∧⟨b21,0,cSp T,some 24,2⟩::⟨b20,0,cDr x,some 41,4⟩::G = H'∧F' = [(3,.pointer (some ⟨b3,0,none⟩)),(7,.bool true),(8,.int .i64 n),(13,.int .i64 d),(14,.int .u8 A),(15,.int .u8 k),(17,.bool (weN B n j)),(18,.bool (daN B n j)),(149,.slice (some ⟨ab,oo,none⟩) B.weighs.length c2),(150,.int .i64 B.weighs.length),(151,.int .i64 (j : Nat)),(20,.pointer (some ⟨b20,0,none⟩)),(21,.pointer (some ⟨b21,0,none⟩)),(23,.int .u8 v),(25,.bool (fnN d T.lo x.val r)),(26,.int .i64 (T.lo + (r : Nat)))])
   N [(3,.pointer (some ⟨b3,0,none⟩)),(7,.bool true),(8,.int .i64 n),(13,.int .i64 d),(14,.int .u8 A),(15,.int .u8 k),(17,.bool (weN B n j)),(18,.bool (daN B n j)),(149,.slice (some ⟨ab,oo,none⟩) B.weighs.length c2),(150,.int .i64 B.weighs.length),(151,.int .i64 (j : Nat)),(20,.pointer (some ⟨b20,0,none⟩)),(21,.pointer (some ⟨b21,0,none⟩)),(23,.int .u8 v),(25,.bool (fnN d T.lo x.val 0)),(26,.int .i64 (T.lo + (0 : Nat)))] _ (by rw [show T.lo + ((0 : Nat) : Int)=T.lo by omega];exact (by repeat (first | exact uU _ | refine uV rfl ?_))) (qR _) ⟨0,by omega,by omega,rfl,rfl⟩ ?_
  rintro _ _ _ ⟨r,rfl,hr,rfl,rfl⟩
  by_cases hrt : r < N
  ·have hfs : fnN d T.lo x.val (r + 1)=(fnN d T.lo x.val r || decide (weightP d (T.lo + (r : Int)) = x.val)):=rfl
   have hρe : T.lo + (r : Int) + 1 = T.lo + ((r + 1 : Nat) : Int):=by omega
   obtain ⟨ρ,hρ⟩ : ∃ ρ,ρ = T.lo + (r : Int):=⟨_,rfl⟩
   rw [← hρ] at hfs hρe ⊢
   obtain ⟨w,hw⟩ : ∃ w,w = fnN d T.lo x.val r:=⟨_,rfl⟩
   rw [← hw] at hfs ⊢
   have hρb : 0 ≤ ρ∧ρ ≤ 200:=by have:=hwg.2;omega
   have hrt' : ρ ≤ T.hi:=by omega
   have kwt:=fun S=>weight_spec d ρ S (by omega) (by omega)
   obtain ⟨y,hy⟩ : ∃ y,y = weightP d ρ:=⟨_,rfl⟩
   rw [← hy] at hfs kwt
   obtain ⟨wa,hwa⟩ : ∃ wa,wa = weN B n j:=⟨_,rfl⟩
   obtain ⟨wb,hwb⟩ : ∃ wb,wb = daN B n j:=⟨_,rfl⟩
   rw [← hwa, ← hwb]
   clear hw hρ hy
   repeat' (first | (refine uP rfl ?_;(first | ((first | refine uN rfl ?_);(first | (refine uE (uQ (b:=true) rfl rfl rfl (congrArg some (decide_eq_true hrt'))) rfl rfl ?_)|(refine uE (uL rfl rfl (uO (te rfl) rfl (by repeat (first | exact qH _ | apply qT)) rfl)) rfl rfl ?_)|(refine uE (uM rfl rfl) rfl rfl ?_)|(refine uE (uF rfl rfl (te rfl) rfl (te rfl) (by decide)) rfl rfl ?_)))))|(refine uD rfl ?_;refine hK _ _ ?_;clear hK K) | refine uS rfl ?_ | refine uR rfl (fun K hK=>?_) | refine X.block rfl ?_ | refine X.skip rfl ?_ | (refine X.ite rfl rfl (fun hc=>?_);(first | (with_reducible refine Xb.t hc ?_)) <;> clear hc))
   refine X.weak (F' := [(3,.pointer (some ⟨b3,0,none⟩)),(7,.bool true),(8,.int .i64 n),(13,.int .i64 d),(14,.int .u8 A),(15,.int .u8 k),(17,.bool (wa)),(18,.bool (wb)),(149,.slice (some ⟨ab,oo,none⟩) B.weighs.length c2),(150,.int .i64 B.weighs.length),(151,.int .i64 (j : Nat)),(20,.pointer (some ⟨b20,0,none⟩)),(21,.pointer (some ⟨b21,0,none⟩)),(23,.int .u8 v),(25,.bool w),(26,.int .i64 ρ)]) (H' := ⟨b21,0,cSp T,some 24,2⟩::⟨b20,0,cDr x,some 41,4⟩::G) (by repeat (first | exact uU _ | refine uV rfl ?_)) (qR _) ?_
   cases w
   ·refine X.regionRs [] tsKw28 rdKw28 [3,7,8,13,14,15,17,18,20,21,23,26,149,150,151] [(3,.pointer (some ⟨b3,0,none⟩)),(7,.bool true),(8,.int .i64 n),(13,.int .i64 d),(14,.int .u8 A),(15,.int .u8 k),(17,.bool wa),(18,.bool wb),(20,.pointer (some ⟨b20,0,none⟩)),(21,.pointer (some ⟨b21,0,none⟩)),(23,.int .u8 v),(26,.int .i64 ρ),(149,.slice (some ⟨ab,oo,none⟩) B.weighs.length c2),(150,.int .i64 B.weighs.length),(151,.int .i64 (j : Nat))] (valKw28 b3 b20 b21 ab oo B.weighs.length c2 j x n d A k v ρ y false (decide (y = x.val)) wa wb) (rowsKw28 b3 b20 b21 ab oo B.weighs.length c2 j x n d A k v ρ y false (decide (y = x.val)) wa wb) (fun _=>(0,0)) (⟨b21,0,cSp T,some 24,2⟩::⟨b20,0,cDr x,some 41,4⟩::G) rfl mixed (by repeat (first | exact uU _ | refine uV rfl ?_)) rfl (by kernel_rfl) (by kernel_rfl) (locKw28 b3 b20 b21 ab oo B.weighs.length c2 j x n d A k v ρ y false (decide (y = x.val)) wa wb) (fun i d hi=>by cases hi) (qR _) [(9,25,.bool false)] (by intro e he;simp only [List.mem_cons,List.not_mem_nil,or_false] at he;rcases he with rfl <;> exact ⟨rfl,Nat.le_of_ble_eq_true rfl⟩) (by intro e he;simp only [List.mem_cons,List.not_mem_nil,or_false] at he;rcases he with rfl <;> exact rfl) ?_ ?_
    ·repeat' (first | exact AllF.done rfl | (refine AllF.step rfl ?_ ?_;·(first | fail | (refine Ob.toR ?_;((first | refine Ob.ng rfl ?_ | refine Ob.g rfl rfl (fun _=>rfl) ?_);(first | exact uK (fun env R hR=>by exact ⟨_,uM rfl rfl,rfl⟩) rfl (fun _=>rfl) | exact uK (fun env R hR=>by exact ⟨_,uA rfl rfl,rfl⟩) rfl (fun _=>rfl) | exact uK (fun env R hR=>by exact ⟨_,EvF.pickF rfl rfl rfl,rfl⟩) rfl (fun _=>rfl) | exact uK (fun env R hR=>by exact ⟨_,uF rfl rfl (te rfl) rfl (te rfl) (by decide),rfl⟩) rfl (fun _=>rfl) | exact uK (fun env R hR=>by exact ⟨_,uQ rfl rfl rfl rfl,rfl⟩) rfl (fun _=>rfl) | exact uK (fun env R hR=>by exact ⟨_,uL rfl rfl (uO (te rfl) rfl (hR _ (qT _ (qH _))) rfl),rfl⟩) rfl (fun _=>rfl)|(exact fun env S hS=>OpF.callV (Z:=[]) (uT rfl (Args.cons rfl (Args.cons rfl Args.nil))) (kwt _) rfl rfl)))))))
    ·intro env t ha2 hv;refine ⟨_,ha2.cons (hv 9 25 (Nat.le_of_ble_eq_true rfl) rfl),?_⟩;clear hv ha2
     show X _ _ _ ((25,.bool (decide (y = x.val)))::[(3,.pointer (some ⟨b3,0,none⟩)),(7,.bool true),(8,.int .i64 n),(13,.int .i64 d),(14,.int .u8 A),(15,.int .u8 k),(17,.bool wa),(18,.bool wb),(20,.pointer (some ⟨b20,0,none⟩)),(21,.pointer (some ⟨b21,0,none⟩)),(23,.int .u8 v),(26,.int .i64 ρ),(149,.slice (some ⟨ab,oo,none⟩) B.weighs.length c2),(150,.int .i64 B.weighs.length),(151,.int .i64 (j : Nat))]) (⟨b21,0,cSp T,some 24,2⟩::⟨b20,0,cDr x,some 41,4⟩::G) _
     repeat' (first | (refine uP rfl ?_;(first | ((first | refine uN rfl ?_);(first | (refine uE (EvF.add64 (p:=ρ) (q:=1) rfl rfl rfl (by omega) (by omega)) rfl rfl ?_)|(refine uE (uM rfl rfl) rfl rfl ?_)|(refine uE (uA rfl rfl) rfl rfl ?_)))))|(refine uD rfl ?_;refine hK _ _ ?_;clear hK K) | refine uR rfl (fun K hK=>?_))
     exact ⟨_,_,_,(by rw [hfs, ← hρe,Bool.false_or];exact (by repeat (first | exact uU _ | refine uV rfl ?_))),qR _,⟨r + 1,rfl,by omega,rfl,rfl⟩,by omega⟩
   ·refine X.regionRs [] tsKw28 rdKw28 [3,7,8,13,14,15,17,18,20,21,23,26,149,150,151] [(3,.pointer (some ⟨b3,0,none⟩)),(7,.bool true),(8,.int .i64 n),(13,.int .i64 d),(14,.int .u8 A),(15,.int .u8 k),(17,.bool wa),(18,.bool wb),(20,.pointer (some ⟨b20,0,none⟩)),(21,.pointer (some ⟨b21,0,none⟩)),(23,.int .u8 v),(26,.int .i64 ρ),(149,.slice (some ⟨ab,oo,none⟩) B.weighs.length c2),(150,.int .i64 B.weighs.length),(151,.int .i64 (j : Nat))] (valKw28 b3 b20 b21 ab oo B.weighs.length c2 j x n d A k v ρ 0 true false wa wb) (rowsKw28 b3 b20 b21 ab oo B.weighs.length c2 j x n d A k v ρ 0 true false wa wb) (fun _=>(0,0)) (⟨b21,0,cSp T,some 24,2⟩::⟨b20,0,cDr x,some 41,4⟩::G) rfl mixed (by repeat (first | exact uU _ | refine uV rfl ?_)) rfl (by kernel_rfl) (by kernel_rfl) (locKw28 b3 b20 b21 ab oo B.weighs.length c2 j x n d A k v ρ 0 true false wa wb) (fun i d hi=>by cases hi) (qR _) [(9,25,.bool true)] (by intro e he;simp only [List.mem_cons,List.not_mem_nil,or_false] at he;rcases he with rfl <;> exact ⟨rfl,Nat.le_of_ble_eq_true rfl⟩) (by intro e he;simp only [List.mem_cons,List.not_mem_nil,or_false] at he;rcases he with rfl <;> exact rfl) ?_ ?_
    ·repeat' (first | exact AllF.done rfl | (refine AllF.step rfl ?_ ?_;·(first | exact Ob.toR (Ob.sk rfl rfl (fun _=>rfl) (fun _=>rfl) (fun _=>rfl) (fun _=>rfl))|(refine Ob.toR ?_;((first | refine Ob.ng rfl ?_);(first | exact uK (fun env R hR=>by exact ⟨_,uM rfl rfl,rfl⟩) rfl (fun _=>rfl) | exact uK (fun env R hR=>by exact ⟨_,uA rfl rfl,rfl⟩) rfl (fun _=>rfl) | exact uK (fun env R hR=>by exact ⟨_,EvF.pickT rfl rfl rfl,rfl⟩) rfl (fun _=>rfl)))))))
    ·intro env t ha2 hv;refine ⟨_,ha2.cons (hv 9 25 (Nat.le_of_ble_eq_true rfl) rfl),?_⟩;clear hv ha2
     show X _ _ _ ((25,.bool true)::[(3,.pointer (some ⟨b3,0,none⟩)),(7,.bool true),(8,.int .i64 n),(13,.int .i64 d),(14,.int .u8 A),(15,.int .u8 k),(17,.bool wa),(18,.bool wb),(20,.pointer (some ⟨b20,0,none⟩)),(21,.pointer (some ⟨b21,0,none⟩)),(23,.int .u8 v),(26,.int .i64 ρ),(149,.slice (some ⟨ab,oo,none⟩) B.weighs.length c2),(150,.int .i64 B.weighs.length),(151,.int .i64 (j : Nat))]) (⟨b21,0,cSp T,some 24,2⟩::⟨b20,0,cDr x,some 41,4⟩::G) _
     repeat' (first | (refine uP rfl ?_;(first | ((first | refine uN rfl ?_);(first | (refine uE (EvF.add64 (p:=ρ) (q:=1) rfl rfl rfl (by omega) (by omega)) rfl rfl ?_)|(refine uE (uM rfl rfl) rfl rfl ?_)|(refine uE (uA rfl rfl) rfl rfl ?_)))))|(refine uD rfl ?_;refine hK _ _ ?_;clear hK K) | refine uR rfl (fun K hK=>?_))
     exact ⟨_,_,_,(by rw [hfs, ← hρe,Bool.true_or];exact (by repeat (first | exact uU _ | refine uV rfl ?_))),qR _,⟨r + 1,rfl,by omega,rfl,rfl⟩,by omega⟩
  ·have hrN : r = N:=by omega
   have hfn : fnN d T.lo x.val r = true:=by
    rw [hrN]
    exact fnN_has N (r0 - T.lo).toNat (by omega) (by rw [show T.lo + (((r0 - T.lo).toNat : Nat) : Int)=r0 by omega];exact hr3)
   rw [hfn]
   have hrt' : ¬ T.lo + (r : Int)≤T.hi:=by omega
   clear hfn hrN hrt hr3
   cases hwa : weN B n j <;> cases hwb : daN B n j <;> rw [hwa] at hwe <;> rw [hwb] at hda <;> rcases hd3 with rfl | rfl | rfl
   all_goals repeat' (first | (refine uP rfl ?_;(first | ((first | refine uN rfl ?_ | (refine Xo.g rfl rfl ?_;with_reducible refine Xw.tt ?_)|(refine Xo.g rfl rfl ?_;with_reducible refine Xw.ff ?_));(first | (refine uE (uQ (b:=false) rfl rfl rfl (congrArg some (decide_eq_false hrt'))) rfl rfl ?_)|(refine uE (uL rfl rfl (uO (te rfl) rfl (by repeat (first | exact qH _ | apply qT)) rfl)) rfl rfl ?_)|(refine uE (notT rfl rfl) rfl rfl ?_)|(refine uE (uQ (b:=true) rfl rfl rfl rfl) rfl rfl ?_)|(refine uE (uQ (b:=false) rfl rfl rfl rfl) rfl rfl ?_)|(refine uE (uQ (b:=false) rfl rfl rfl (congrArg some (decide_eq_false (by omega)))) rfl rfl ?_)|(refine uE (uQ (b:=false) rfl rfl rfl (congrArg some (nd_f (by omega)))) rfl rfl ?_)|(refine uE (EvF.add64 (p:=(j : Int)) (q:=1) rfl rfl rfl (by omega) (by omega)) rfl rfl ?_)|(refine uE (uM rfl rfl) rfl rfl ?_)|(refine uE (uA rfl rfl) rfl rfl ?_)|(refine uE (EvF.pickT rfl rfl rfl) rfl rfl ?_)|(refine uE (EvF.pickF rfl rfl rfl) rfl rfl ?_)|(refine uE (uF rfl rfl (te rfl) rfl (te rfl) (by decide)) rfl rfl ?_)))|(refine Xo.g rfl rfl ?_;(first | (with_reducible refine Xw.tf rfl rfl ?_)|(with_reducible refine Xw.ft rfl rfl ?_)))))|(refine uD rfl ?_;refine hK _ _ ?_;clear hK K) | refine uS rfl ?_ | refine uR rfl (fun K hK=>?_)|(refine X.brk rfl ?_;repeat (first | refine blockX_hit rfl ?_ | refine blockX_miss (by decide) ?_)) | refine X.skip rfl ?_ | (refine X.ite rfl rfl (fun hc=>?_);(first | (with_reducible refine Xb.f hc ?_)) <;> clear hc))
   all_goals try (exfalso;contradiction)
   all_goals exact ⟨_,_,_,(by rw [hwe,hda,show ((j + 1 : Nat) : Int)=(j : Int) + 1 by omega];exact (by repeat (first | exact uU _ | refine uV rfl ?_))),(qC _ (List.sublist_cons_self _ _)),⟨j + 1,rfl,by omega,rfl,rfl⟩,by omega⟩
 ·have hjl : j = B.weighs.length:=by omega
  subst hjl
  have hlt' : ¬ ((B.weighs.length : Nat) : Int)<B.weighs.length:=by omega
  obtain ⟨q1,q2,q3,q4⟩:=hs9
  have hA9 : A = 0∨A = 1∨A = 2:=by omega
  clear hs0 hge kw kn hA
  cases hwa : weN B n B.weighs.length <;> cases hwb : daN B n B.weighs.length <;> rw [hwa] at q1 q4 <;> rw [hwb] at q2 q4 <;> rcases hk with rfl | rfl | rfl <;> rcases hA9 with rfl | rfl | rfl
  all_goals try (exfalso;clear hwa hwb q3;revert q1 q2 q4;decide)
  all_goals (by_cases hl : ((B.weighs.length : Nat) : Int) > 1)
  all_goals repeat' (first | (refine uP rfl ?_;(first | ((first | refine uN rfl ?_ | (refine Xo.g rfl rfl ?_;with_reducible refine Xw.tt ?_)|(refine Xo.g rfl rfl ?_;with_reducible refine Xw.ff ?_));(first | (refine uE (uQ (b:=false) rfl rfl rfl (congrArg some (decide_eq_false hlt'))) rfl rfl ?_)|(refine uE (notF rfl rfl) rfl rfl ?_)|(refine uE (uQ (b:=true) rfl rfl rfl rfl) rfl rfl ?_)|(refine uE (uQ (b:=false) rfl rfl rfl rfl) rfl rfl ?_)|(refine uE (uQ (b:=true) rfl rfl rfl (congrArg some (decide_eq_true hl))) rfl rfl ?_)|(refine uE (uQ (b:=false) rfl rfl rfl (congrArg some (decide_eq_false hl))) rfl rfl ?_)|(refine uE (uL (v := .slice a2 B.weighs.length c2) rfl rfl (uO (b:=b3) (cs:=cBl B ⟨a1,c1,a2,c2⟩) (te rfl) rfl m3 rfl)) rfl rfl ?_)|(refine uE (uY rfl rfl (te rfl)) rfl rfl ?_)|(refine uE (EvF.cmpB (b:=true) rfl rfl rfl Tryz.underlying4 rfl) rfl rfl ?_)|(refine uE (uM rfl rfl) rfl rfl ?_)|(refine uE (uA rfl rfl) rfl rfl ?_)|(refine uE (EvF.pickT rfl rfl rfl) rfl rfl ?_)|(refine uE (EvF.pickF rfl rfl rfl) rfl rfl ?_)|(refine uE (uF rfl rfl (te rfl) rfl (te rfl) (by decide)) rfl rfl ?_)))|(refine Xo.g rfl rfl ?_;(first | (with_reducible refine Xw.tf rfl rfl ?_)))|(refine Xo.sk rfl rfl rfl rfl ?_)))|(refine uD rfl ?_;refine hK _ _ ?_;clear hK K) | refine uS rfl ?_ | refine uR rfl (fun K hK=>?_)|(refine X.brk rfl ?_;repeat (first | refine blockX_hit rfl ?_ | refine blockX_miss (by decide) ?_)) | refine X.ret rfl ?_ | (refine X.ite rfl rfl (fun hc=>?_);(first | (with_reducible refine Xb.f hc ?_)) <;> clear hc))
  all_goals try (exfalso;contradiction)
  all_goals exact ret_one (by simp) Tryz.results5 rfl (H' := _) (qR _) rfl
theorem lawIn3 (n : Int) (s : Sp) (h1 : n ≥ s.lo) (h2 : n ≤ s.hi) (H : List Row) : Fc Tryz.prog 32 [.int .i64 n,.agg (cSp s).toArray] H (fun v H' => v = .bool true∧H' = H):=by
 refine Fc.mk (callable Tryz.call32) Tryz.func32 rfl Tryz.ntmps32 rfl ?_;dsimp only [fr]
 repeat' (first | (refine uP rfl ?_;(first | ((first | refine uN rfl ?_ | (refine Xo.g rfl rfl ?_;with_reducible refine Xw.tt ?_));(first | (refine uE (uQ (b:=true) rfl rfl rfl (congrArg some (decide_eq_true h1))) rfl rfl ?_)|(refine uE (uQ (b:=true) rfl rfl rfl (congrArg some (decide_eq_true h2))) rfl rfl ?_)|(refine uE (uM rfl rfl) rfl rfl ?_)|(refine uE (uA rfl rfl) rfl rfl ?_)|(refine uE (EvF.pickT rfl rfl rfl) rfl rfl ?_)|(refine uE (uF rfl rfl (te rfl) rfl (te rfl) (by decide)) rfl rfl ?_)|(refine uE (uL rfl rfl (uO (te rfl) rfl (qH _) rfl)) rfl rfl ?_)|(refine Xg.st (StF.boxAgg rfl rfl) rfl rfl ?_;rintro _ _ ⟨bx,rfl,rfl⟩)))))|(refine uD rfl ?_;refine hK _ _ ?_;clear hK K) | refine uS rfl ?_ | refine uR rfl (fun K hK=>?_) | refine X.ret rfl ?_)
 all_goals try (exfalso;contradiction)
 exact ret_one (by simp) Tryz.results32 rfl (H' := H) (by repeat (first | exact qR _ | apply qK | apply qC)) ⟨rfl,rfl⟩
theorem u16_und : (Tryz.prog.underlying 61).isSome = true:=by kernel_rfl
def tsKw9 : List TOp:=[⟨some 79,[],[],[]⟩,⟨some 80,[0],[0],[]⟩,⟨some 81,[],[],[]⟩,⟨some 82,[2],[2],[]⟩,⟨some 83,[],[],[]⟩,⟨some 84,[4],[4],[]⟩,⟨some 85,[],[],[]⟩,⟨some 86,[6],[6],[]⟩,⟨some 87,[4,5,6,7],[5,7],[]⟩,⟨some 88,[4,5,6,7,8],[8],[]⟩,⟨some 89,[2,3,4,5,6,7,8,9],[3,9],[]⟩,⟨some 90,[0,1,2,3,4,5,6,7,8,9,10],[1,10],[]⟩,⟨some 13,[0,1,2,3,4,5,6,7,8,9,10,11],[11],[]⟩]
def valKw9 (b3 b9 b11 : Nat) (of n f e : Int) (k : Nat) (env : Env) : Value :=
 match k with
 | 0 => .pointer (some ⟨b9,0,none⟩)
 | 1 => .int .i64 f
 | 2 => .int .u16 of
 | 3 => .int .i64 of
 | 4 => .pointer (some ⟨b9,1,none⟩)
 | 5 => .int .i64 e
 | 6 => .pointer (some ⟨b9,0,none⟩)
 | 7 => .int .i64 f
 | 8 => .int .i64 (e - f)
 | 9 => .int .i64 (e - f + 1)
 | 10 => .int .i64 (of % (e - f + 1))
 | 11 => .int .i64 (f + of % (e - f + 1))
 | 12 => .int .i64 (f + of % (e - f + 1))
 | _=>undef
def rowsKw9 (b3 b9 b11 : Nat) (of n f e : Int) (k : Nat) (env : Env) : List Row :=
 match k with
 | _=>[]
theorem locKw9 (b3 b9 b11 : Nat) (of n f e : Int) : ∀ k env i q9,i ≠ k → (tAt tsKw9 k).sup.contains i = false → valKw9 b3 b9 b11 of n f e k (upd env i q9)=valKw9 b3 b9 b11 of n f e k env∧rowsKw9 b3 b9 b11 of n f e k (upd env i q9)=rowsKw9 b3 b9 b11 of n f e k env:=by
 intro k env i q hk hs
 have hu : ∀ j,j ≠ i → upd env i q j = env j:=fun j hj=>by unfold upd;rw [if_neg hj]
 match k,hk,hs with
 | 0,_,_=>exact ⟨rfl,rfl⟩
 | 1,_,_=>exact ⟨rfl,rfl⟩
 | 2,_,_=>exact ⟨rfl,rfl⟩
 | 3,_,_=>exact ⟨rfl,rfl⟩
 | 4,_,_=>exact ⟨rfl,rfl⟩
 | 5,_,_=>exact ⟨rfl,rfl⟩
 | 6,_,_=>exact ⟨rfl,rfl⟩
 | 7,_,_=>exact ⟨rfl,rfl⟩
 | 8,_,_=>exact ⟨rfl,rfl⟩
 | 9,_,_=>exact ⟨rfl,rfl⟩
 | 10,_,_=>exact ⟨rfl,rfl⟩
 | 11,_,_=>exact ⟨rfl,rfl⟩
 | 12,_,_=>exact ⟨rfl,rfl⟩
 | _ + 13,_,_=>exact ⟨rfl,rfl⟩
def tsKw10 : List TOp:=[⟨some 91,[],[],[]⟩,⟨some 92,[],[],[]⟩,⟨some 93,[0,1],[0,1],[]⟩,⟨some 94,[],[],[]⟩,⟨some 95,[0,1,2,3],[2,3],[]⟩,⟨some 96,[0,1,2,3,4],[4],[]⟩,⟨some 97,[0,1,2,3,4,5],[5],[]⟩,⟨some 98,[0,1,2,3,4,5,6],[],[]⟩,⟨some 99,[0,1,2,3,4,5,6,7],[7],[]⟩,⟨some 100,[0,1,2,3,4,5,6],[],[]⟩,⟨some 101,[0,1,2,3,4,5,6,9],[9],[]⟩,⟨some 102,[0,1,2,3,4,5,6],[],[]⟩,⟨some 103,[0,1,2,3,4,5,6,9,10,11],[10,11],[]⟩,⟨some 104,[0,1,2,3,4,5,6,7,8,9,10,11,12],[8,12],[]⟩,⟨some 105,[0,1,2,3,4,5,6,7,8,9,10,11,12,13],[6,13],[]⟩,⟨some 106,[0,1,2,3,4,5,6,7,8,9,10,11,12,13,14],[14],[]⟩,⟨some 107,[0,1,2,3,4,5,6,7,8,9,10,11,12,13,14,15],[],[]⟩,⟨some 108,[0,1,2,3,4,5,6,7,8,9,10,11,12,13,14,15,16],[16],[]⟩,⟨some 109,[0,1,2,3,4,5,6,7,8,9,10,11,12,13,14,15],[],[]⟩,⟨some 110,[0,1,2,3,4,5,6,7,8,9,10,11,12,13,14,15,18],[18],[]⟩,⟨some 111,[0,1,2,3,4,5,6,7,8,9,10,11,12,13,14,15],[],[]⟩,⟨some 112,[0,1,2,3,4,5,6,7,8,9,10,11,12,13,14,15,18,19,20],[19,20],[]⟩,⟨some 113,[0,1,2,3,4,5,6,7,8,9,10,11,12,13,14,15,16,17,18,19,20,21],[17,21],[]⟩,⟨some 114,[0,1,2,3,4,5,6,7,8,9,10,11,12,13,14,15,16,17,18,19,20,21,22],[15,22],[]⟩]
def valKw10 (b3 b9 b11 : Nat) (n f e d y pl ph : Int) (k : Nat) (env : Env) : Value :=
 match k with
 | 0 => .int .i64 d
 | 1 => .int .i64 n
 | 2 => .int .i64 y
 | 3 => .agg (cSp ⟨pl,ph⟩).toArray
 | 4 => .bool true
 | 5 => .bool false
 | 6 => .bool false
 | 7=>gt (false) (.pointer (some ⟨b11,0,none⟩))
 | 8=>gt (false) (.int .i64 pl)
 | 9=>gt (false) (.pointer (some ⟨b9,0,none⟩))
 | 10=>gt (false) (.int .i64 f)
 | 11=>gt (false) (.int .i64 n)
 | 12=>gt (false) (.int .i64 pl)
 | 13=>gt (false) (.bool false)
 | 14 => .bool (false && true)
 | 15 => .bool (false && true)
 | 16=>gt (false && true) (.pointer (some ⟨b11,1,none⟩))
 | 17=>gt (false && true) (.int .i64 ph)
 | 18=>gt (false && true) (.pointer (some ⟨b9,1,none⟩))
 | 19=>gt (false && true) (.int .i64 e)
 | 20=>gt (false && true) (.int .i64 n)
 | 21=>gt (false && true) (.int .i64 ph)
 | 22=>gt (false && true) (.bool false)
 | 23 => .bool ((false && true) && true)
 | _=>undef
def rowsKw10 (b3 b9 b11 : Nat) (n f e d y pl ph : Int) (k : Nat) (env : Env) : List Row :=
 match k with
 | _=>[]
theorem locKw10 (b3 b9 b11 : Nat) (n f e d y pl ph : Int) : ∀ k env i q9,i ≠ k → (tAt tsKw10 k).sup.contains i = false → valKw10 b3 b9 b11 n f e d y pl ph k (upd env i q9)=valKw10 b3 b9 b11 n f e d y pl ph k env∧rowsKw10 b3 b9 b11 n f e d y pl ph k (upd env i q9)=rowsKw10 b3 b9 b11 n f e d y pl ph k env:=by
 intro k env i q hk hs
 have hu : ∀ j,j ≠ i → upd env i q j = env j:=fun j hj=>by unfold upd;rw [if_neg hj]
 match k,hk,hs with
 | 0,_,_=>exact ⟨rfl,rfl⟩
 | 1,_,_=>exact ⟨rfl,rfl⟩
 | 2,_,_=>exact ⟨rfl,rfl⟩
 | 3,_,_=>exact ⟨rfl,rfl⟩
 | 4,_,_=>exact ⟨rfl,rfl⟩
 | 5,_,_=>exact ⟨rfl,rfl⟩
 | 6,_,_=>exact ⟨rfl,rfl⟩
 | 7,_,_=>exact ⟨rfl,rfl⟩
 | 8,_,_=>exact ⟨rfl,rfl⟩
 | 9,_,_=>exact ⟨rfl,rfl⟩
 | 10,_,_=>exact ⟨rfl,rfl⟩
 | 11,_,_=>exact ⟨rfl,rfl⟩
 | 12,_,_=>exact ⟨rfl,rfl⟩
 | 13,_,_=>exact ⟨rfl,rfl⟩
 | 14,_,_=>exact ⟨rfl,rfl⟩
 | 15,_,_=>exact ⟨rfl,rfl⟩
 | 16,_,_=>exact ⟨rfl,rfl⟩
 | 17,_,_=>exact ⟨rfl,rfl⟩
 | 18,_,_=>exact ⟨rfl,rfl⟩
 | 19,_,_=>exact ⟨rfl,rfl⟩
 | 20,_,_=>exact ⟨rfl,rfl⟩
 | 21,_,_=>exact ⟨rfl,rfl⟩
 | 22,_,_=>exact ⟨rfl,rfl⟩
 | 23,_,_=>exact ⟨rfl,rfl⟩
 | _ + 24,_,_=>exact ⟨rfl,rfl⟩
set_option maxHeartbeats 16000000 in
theorem we_r9 (B : Bl) (p : Pb) (of n : Int) (b3 b9 b11 cap3 : Nat) (ow3 : Option Kd) (h : Rdy B) (hof : 0 ≤ of∧of ≤ 65535) (hn : 0 ≤ n∧n ≤ 200) (F : FS) (G : List Row)
  (m3 : (⟨b3,0,cBl B p,ow3,cap3⟩ : Row) ∈ G) (hB : BlOk G B p) (hF : Sub [(1,.int .u16 of),(3,.pointer (some ⟨b3,0,none⟩)),(7,.bool true),(8,.int .i64 n),(9,.pointer (some ⟨b9,0,none⟩)),(11,.pointer (some ⟨b11,0,none⟩))] F) : X Tryz.prog 303 (csnd (csnd (csnd (csnd (csnd (csnd (csnd (cof Tryz.f5)))))))) F (⟨b11,0,cSp (payF (dryOf B) n),some 24,2⟩::⟨b9,0,cSp (dryOf B),some 24,2⟩::G) (retX Tryz.prog Tryz.f5 (fun v _=>v = .bool true)):=by
 refine X.weak hF (qR _) ?_
 have hdv:=dry_facts h.ok h.can
 have hdr:=h.ok.hdry
 have q1:=hdv.lo;have q2:=hdv.le;have q3:=hdv.hi
 have ka:=fun S hS=>kAside_spec B p n S hS
 have kk:=fun S hS=>kKind_spec B p 1 S hS
 rw [openE_rdy h [1] (fun m hm=>by rw [List.mem_singleton.1 hm];omega),uIf_pos rfl] at kk
 rw [show openE B (caD n)=0 from oE h.ok h.can (fun _ h=>absurd h List.not_mem_nil) (fun _ h=>absurd h List.not_mem_nil) (fun _ h=>absurd h List.not_mem_nil) (fun m hm=>by rw [List.mem_singleton.1 hm];exact hn),uIf_pos rfl] at ka
 have hk3:=of_bd (truthsB B) 1
 have hA9:=(aside_step (B:=B) (n:=n) hk3 B.weighs.length)
 have hAe : asideF B n = asideT B (ofKind (truthsB B) 1) n B.weighs.length:=rfl
 rw [← hAe] at hA9
 obtain ⟨k,hk⟩ : ∃ k,k = ofKind (truthsB B) 1:=⟨_,rfl⟩
 obtain ⟨A,hA⟩ : ∃ A,A = asideF B n:=⟨_,rfl⟩
 rw [← hk] at kk hk3 hA9 hAe
 rw [← hA] at ka hA9 hAe
 obtain ⟨i1,i2,i3,_⟩:=hA9
 have j1 : k = 0 → A = 2:=fun e=>i1.2 (.inr e)
 have j2 : k = 1 → A ≠ 0:=fun e z=>by have:=(i2.1 z).2;omega
 have hP : payF (dryOf B) n = ⟨weightP (dryOf B).lo n,weightP (dryOf B).hi n⟩:=rfl
 rw [hP]
 have hD : dryOf B = ⟨(dryOf B).lo,(dryOf B).hi⟩:=rfl
 obtain ⟨f,hf⟩ : ∃ f,f = (dryOf B).lo:=⟨_,rfl⟩
 obtain ⟨e,he⟩ : ∃ e,e = (dryOf B).hi:=⟨_,rfl⟩
 rw [hD, ← hf, ← he]
 try dsimp only
 obtain ⟨d,hd⟩ : ∃ d,d = f + of % (e - f + 1):=⟨_,rfl⟩
 have hm0:=Int.emod_nonneg of (show e - f + 1 ≠ 0 by omega)
 have hm1:=Int.emod_lt_of_pos of (show 0 < e - f + 1 by omega)
 have hdb : f ≤ d∧d ≤ e:=by omega
 have kw1:=fun S=>weight_spec d n S (by omega) (by omega)
 have kw2:=fun S=>weight_spec f n S (by omega) (by omega)
 have kw3:=fun S=>weight_spec e n S (by omega) (by omega)
 have w1 : weightP d n ≥ weightP f n:=w_mono hdb.1 (by omega)
 have w2 : weightP d n ≤ weightP e n:=w_mono hdb.2 (by omega)
 obtain ⟨y,hy⟩ : ∃ y,y = weightP d n:=⟨_,rfl⟩
 obtain ⟨pl,hpl⟩ : ∃ y,y = weightP f n:=⟨_,rfl⟩
 obtain ⟨ph,hph⟩ : ∃ y,y = weightP e n:=⟨_,rfl⟩
 rw [← hy] at kw1 w1 w2
 rw [← hpl] at kw2 w1 ⊢
 rw [← hph] at kw3 w2 ⊢
 have kin:=fun S=>lawIn3 y ⟨pl,ph⟩ w1 w2 S
 clear hy hpl hph hP hD w1 w2
 repeat' (first | refine uS rfl ?_)
 refine X.weak (F' := [(1,.int .u16 of),(3,.pointer (some ⟨b3,0,none⟩)),(7,.bool true),(8,.int .i64 n),(9,.pointer (some ⟨b9,0,none⟩)),(11,.pointer (some ⟨b11,0,none⟩))]) (H' := ⟨b11,0,cSp ⟨pl,ph⟩,some 24,2⟩::⟨b9,0,cSp ⟨f,e⟩,some 24,2⟩::G) (by repeat (first | exact uU _ | refine uV rfl ?_)) (qR _) ?_
 refine X.regionOb tsKw9 [1,3,7,8,9,11] [(1,.int .u16 of),(3,.pointer (some ⟨b3,0,none⟩)),(7,.bool true),(8,.int .i64 n),(9,.pointer (some ⟨b9,0,none⟩)),(11,.pointer (some ⟨b11,0,none⟩))] (valKw9 b3 b9 b11 of n f e) (rowsKw9 b3 b9 b11 of n f e) (fun _=>(0,0)) (⟨b11,0,cSp ⟨pl,ph⟩,some 24,2⟩::⟨b9,0,cSp ⟨f,e⟩,some 24,2⟩::G) rfl mixed (by repeat (first | exact uU _ | refine uV rfl ?_)) rfl (by kernel_rfl) (locKw9 b3 b9 b11 of n f e) (qR _) ?_ ?_
 ·repeat' (first | exact AllF.done rfl | (refine AllF.step rfl ?_ ?_;·(first | fail | ((first | refine Ob.ng rfl ?_);(first | exact uK (fun env R hR=>by exact ⟨_,uM rfl rfl,rfl⟩) rfl (fun _=>rfl) | exact uK (fun env R hR=>by exact ⟨_,uA rfl rfl,rfl⟩) rfl (fun _=>rfl) | exact uK (fun env R hR=>by exact ⟨_,uF rfl rfl (te rfl) rfl (te rfl) (by decide),rfl⟩) rfl (fun _=>rfl) | exact uK (fun env R hR=>by exact ⟨_,uL rfl rfl (uO (te rfl) rfl (hR _ (qT _ (qH _))) rfl),rfl⟩) rfl (fun _=>rfl)|(exact uK (fun env S hS=>⟨_,EvF.conv rfl rfl u16_und int_und (by omega) (by omega),rfl⟩) rfl (fun _=>rfl))|(exact uK (fun env S hS=>⟨_,EvF.sub64 (p:=e) (q:=f) rfl rfl rfl (by omega) (by omega),rfl⟩) rfl (fun _=>rfl))|(exact uK (fun env S hS=>⟨_,EvF.add64 (p:=e - f) (q:=1) rfl rfl rfl (by omega) (by omega),rfl⟩) rfl (fun _=>rfl))|(exact uK (fun env S hS=>⟨_,EvF.rem64 (p:=of) (q:=e - f + 1) rfl rfl rfl (by omega) (by omega),rfl⟩) rfl (fun _=>rfl))|(exact uK (fun env S hS=>⟨_,EvF.add64 (p:=f) (q:=of % (e - f + 1)) rfl rfl rfl (by omega) (by omega),rfl⟩) rfl (fun _=>rfl)))))))
 ·intro env t ha2 hv;refine ⟨_,ha2.cons (hv 12 13 (Nat.le_of_ble_eq_true rfl) rfl),?_⟩;clear hv ha2
  show X _ _ _ ((13,.int .i64 (f + of % (e - f + 1)))::[(1,.int .u16 of),(3,.pointer (some ⟨b3,0,none⟩)),(7,.bool true),(8,.int .i64 n),(9,.pointer (some ⟨b9,0,none⟩)),(11,.pointer (some ⟨b11,0,none⟩))]) (⟨b11,0,cSp ⟨pl,ph⟩,some 24,2⟩::⟨b9,0,cSp ⟨f,e⟩,some 24,2⟩::G) _
  rw [← hd]
  repeat' (first | refine uS rfl ?_)
  refine X.weak (F' := [(3,.pointer (some ⟨b3,0,none⟩)),(7,.bool true),(8,.int .i64 n),(9,.pointer (some ⟨b9,0,none⟩)),(11,.pointer (some ⟨b11,0,none⟩)),(13,.int .i64 d)]) (H' := ⟨b11,0,cSp ⟨pl,ph⟩,some 24,2⟩::⟨b9,0,cSp ⟨f,e⟩,some 24,2⟩::G) (by repeat (first | exact uU _ | refine uV rfl ?_)) (qR _) ?_
  refine X.regionOb tsKw10 [3,7,8,9,11,13] [(3,.pointer (some ⟨b3,0,none⟩)),(7,.bool true),(8,.int .i64 n),(9,.pointer (some ⟨b9,0,none⟩)),(11,.pointer (some ⟨b11,0,none⟩)),(13,.int .i64 d)] (valKw10 b3 b9 b11 n f e d y pl ph) (rowsKw10 b3 b9 b11 n f e d y pl ph) (fun _=>(0,0)) (⟨b11,0,cSp ⟨pl,ph⟩,some 24,2⟩::⟨b9,0,cSp ⟨f,e⟩,some 24,2⟩::G) rfl mixed (by repeat (first | exact uU _ | refine uV rfl ?_)) rfl (by kernel_rfl) (locKw10 b3 b9 b11 n f e d y pl ph) (qR _) ?_ ?_
  ·repeat' (first | exact AllF.done rfl | (refine AllF.step rfl ?_ ?_;·(first | fail | ((first | refine Ob.ng rfl ?_ | refine Ob.g rfl rfl (fun _=>rfl) ?_);(first | exact uK (fun env R hR=>by exact ⟨_,uM rfl rfl,rfl⟩) rfl (fun _=>rfl) | exact uK (fun env R hR=>by exact ⟨_,EvF.pickF rfl rfl rfl,rfl⟩) rfl (fun _=>rfl) | exact uK (fun env R hR=>by exact ⟨_,uF rfl rfl (te rfl) rfl (te rfl) (by decide),rfl⟩) rfl (fun _=>rfl) | exact uK (fun env R hR=>by exact ⟨_,EvF.not rfl rfl,rfl⟩) rfl (fun _=>rfl) | exact uK (fun env R hR=>by exact ⟨_,uL rfl rfl (uO (te rfl) rfl (hR _ (qH _)) rfl),rfl⟩) rfl (fun _=>rfl) | exact uK (fun env R hR=>by exact ⟨_,uL rfl rfl (uO (te rfl) rfl (hR _ (qT _ (qH _))) rfl),rfl⟩) rfl (fun _=>rfl) | exact uK (fun env R hR=>by exact ⟨_,uL rfl rfl (uW (te rfl) rfl (hR _ (qH _)) rfl),rfl⟩) rfl (fun _=>rfl)|(exact fun env S hS=>OpF.callV (Z:=[]) (uT rfl (Args.cons rfl (Args.cons rfl Args.nil))) (kw1 _) rfl rfl)|(exact fun env S hS=>OpF.callV (Z:=[]) (uT rfl (Args.cons rfl (Args.cons rfl Args.nil))) (kw2 _) rfl rfl)|(exact fun env S hS=>OpF.callV (Z:=[]) (uT rfl (Args.cons rfl (Args.cons rfl Args.nil))) (kw3 _) rfl rfl)|(exact fun env S hS=>OpF.callV (Z:=[]) (uT rfl (Args.cons rfl (Args.cons rfl Args.nil))) (kin _) rfl rfl)|(exact uK (fun env S hS=>⟨_,uQ (b:=false) rfl rfl rfl (congrArg some (nd_f (Eq.refl pl))),rfl⟩) rfl (fun _=>rfl))|(exact uK (fun env S hS=>⟨_,uQ (b:=false) rfl rfl rfl (congrArg some (nd_f (Eq.refl ph))),rfl⟩) rfl (fun _=>rfl)))))))
  ·intro env t ha2 hv;refine ⟨_,ha2.cons (hv 23 114 (Nat.le_of_ble_eq_true rfl) rfl),?_⟩;clear hv ha2
   show X _ _ _ ((114,.bool false)::[(3,.pointer (some ⟨b3,0,none⟩)),(7,.bool true),(8,.int .i64 n),(9,.pointer (some ⟨b9,0,none⟩)),(11,.pointer (some ⟨b11,0,none⟩)),(13,.int .i64 d)]) (⟨b11,0,cSp ⟨pl,ph⟩,some 24,2⟩::⟨b9,0,cSp ⟨f,e⟩,some 24,2⟩::G) _
   refine X.weak (F' := [(114,.bool false),(3,.pointer (some ⟨b3,0,none⟩)),(7,.bool true),(8,.int .i64 n),(9,.pointer (some ⟨b9,0,none⟩)),(11,.pointer (some ⟨b11,0,none⟩)),(13,.int .i64 d)]) (H' := ⟨b11,0,cSp ⟨pl,ph⟩,some 24,2⟩::⟨b9,0,cSp ⟨f,e⟩,some 24,2⟩::G) (by repeat (first | exact uU _ | refine uV rfl ?_)) (qR _) ?_
   have m3' : (⟨b3,0,cBl B p,ow3,cap3⟩ : Row) ∈ ⟨b11,0,cSp ⟨pl,ph⟩,some 24,2⟩::⟨b9,0,cSp ⟨f,e⟩,some 24,2⟩::G:=qT _ (qT _ m3)
   have hB' : BlOk (⟨b11,0,cSp ⟨pl,ph⟩,some 24,2⟩::⟨b9,0,cSp ⟨f,e⟩,some 24,2⟩::G) B p:=hB.sub (fun _ q=>qT _ (qT _ q))
   rcases hk3 with rfl | rfl | rfl
   all_goals repeat' (first | (refine we_r16 B p n d A _ b3 _ _ h hn (by omega) (by omega) (by omega) hAe _ _ m3' hB' ?_;exact (by repeat (first | exact uU _ | refine uV rfl ?_)))|(refine uP rfl ?_;(first | ((first | refine uN rfl ?_ | (refine Xo.g rfl rfl ?_;with_reducible refine Xw.tt ?_)|(refine Xo.g rfl rfl ?_;with_reducible refine Xw.ff ?_));(first | (refine uE (uL rfl rfl (uW (b:=b3) (cs:=cBl B p) (te rfl) rfl m3' rfl)) rfl rfl ?_)|(refine uC (uT rfl (Args.cons rfl (Args.cons rfl Args.nil))) rfl rfl (ka _ hB') ?_;rintro _ _ ⟨rfl,rfl⟩)|(refine uC (uT rfl (Args.cons rfl (Args.cons rfl Args.nil))) rfl rfl (kk _ hB') ?_;rintro _ _ ⟨rfl,rfl⟩)|(refine uE (uX rfl rfl rfl) rfl rfl ?_)|(refine uE (uQ (b:=false) rfl rfl rfl (congrArg some (nd_f (Eq.refl (0 : Int))))) rfl rfl ?_)|(refine uE (uQ (b:=true) rfl rfl rfl (congrArg some (decide_eq_true (by omega)))) rfl rfl ?_)|(refine uE (uQ (b:=false) rfl rfl rfl (congrArg some (decide_eq_false (by omega)))) rfl rfl ?_)|(refine uE (uQ (b:=false) rfl rfl rfl (congrArg some (nd_f (by omega)))) rfl rfl ?_)|(refine uE (uM rfl rfl) rfl rfl ?_)|(refine uE (uA rfl rfl) rfl rfl ?_)|(refine uE (EvF.pickT rfl rfl rfl) rfl rfl ?_)|(refine uE (EvF.pickF rfl rfl rfl) rfl rfl ?_)))|(refine Xo.g rfl rfl ?_;(first | (with_reducible refine Xw.ft rfl rfl ?_)))))|(refine uD rfl ?_;refine hK _ _ ?_;clear hK K) | refine uS rfl ?_ | refine uR rfl (fun K hK=>?_) | refine X.skip rfl ?_ | (refine X.ite rfl rfl (fun hc=>?_);(first | (with_reducible refine Xb.f hc ?_)) <;> clear hc))
   all_goals try (exfalso;contradiction)
end Go.Proofs.YtbpcbdbclijomaaGreat
