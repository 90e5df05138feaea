/- Own work: contracts of functions, from rows of what is known of the memory; contracts of functions, from rows of what is known of the memory; contracts of functions, from rows of what is known of the memory; contracts of functions, from rows of what is known of the memory; contracts of functions, from rows of what is known of the memory; contracts of functions, from rows of what is known of the memory; contracts of functions, from rows of what is known of the memory; contracts of functions, from rows of what is known of the memory; contracts of functions, from rows of what is known of the memory; contracts of functions, from rows of what is known of the memory -/
import Derived.Test.YtbpcbdbclijomaaGreatW05
set_option linter.unusedVariables false
set_option linter.unusedSimpArgs false
namespace Go.Proofs.YtbpcbdbclijomaaGreat
open Go Go.Fw
set_option maxRecDepth 10000
def payF (s : Sp) (d : Int) : Sp:=⟨s.lo * (1000 + d) / 1000,s.hi * (1000 + d) / 1000⟩
set_option maxHeartbeats 4000000 in
theorem pays1_spec (B : Bl) (p : Pb) (g : List Sp) (d : Int) (bn : Nat) (ow : Option Kd) (cap : Nat) (H : List Row) (hd : 1 ≤ B.dlo∧B.dlo ≤ B.dhi∧B.dhi ≤ 600) (hw : ∀ x ∈ B.weighs,0 ≤ x.val∧x.val ≤ 10000) (hg : g.length = 5) (hB : BlOk H B p) (hne : 0 < (wts B).length)
  (hm : ⟨bn,0,[.int .i64 d],ow,cap⟩ ∈ H) (hdv : 0 ≤ d∧d ≤ 200) :
  Fc Tryz.prog 65 ([.agg (cPr B p g).toArray]++[.pointer (some ⟨bn,0,none⟩)]) H (fun v H' => v = .agg (cSp (payF (dryOf B) d)).toArray∧H' = H):=by
 show Fc Tryz.prog 65 [.agg (cPr B p g).toArray,.pointer (some ⟨bn,0,none⟩)] H _
 obtain ⟨⟨d1,d2⟩,d3,d4⟩:=dryOf_in hd hne
 have hds:=fun S (hS : BlOk S B p)=>dry_spec B p g S hd hw hg hS hne
 obtain ⟨D,hD⟩ : ∃ D,D = dryOf B:=⟨_,rfl⟩
 rw [← hD] at d1 d2 d3 d4 hds ⊢
 have m1:=mul_small (a:=D.lo) (b:=1000 + d) (A:=600) (B:=1200) (by omega) d2 (by omega) (by omega)
 have m2:=mul_small (a:=D.hi) (b:=1000 + d) (A:=600) (B:=1200) (by omega) d4 (by omega) (by omega)
 refine Fc.mk (callable Tryz.call65) Tryz.func65 rfl Tryz.ntmps65 rfl ?_;dsimp only [fr]
 repeat' (first | (refine uP rfl ?_;(first | ((first | refine uN rfl ?_);(first | (refine uE (uL rfl rfl (uW (te rfl) rfl (qT _ (qH _)) (lenPr hg))) rfl rfl ?_)|(refine uC (uT rfl (Args.cons rfl Args.nil)) rfl rfl (hds _ (hB.sub (fun _ h=>qT _ (qT _ h)))) ?_;rintro _ H9 ⟨rfl,hH9⟩;subst H9)|(refine uE (uL (v := .int .i64 d) rfl rfl (uO (te rfl) rfl (qT _ (qT _ (qT _ hm))) rfl)) rfl rfl ?_)|(refine uE (EvF.mul64 rfl rfl rfl (by omega) (by omega)) rfl rfl ?_)|(refine uE (EvF.quo64 rfl rfl rfl (by omega) (by omega) (by omega)) rfl rfl ?_)|(refine uE (EvF.build (cs:=cSp (payF D d)) rfl (ArgsP.cons rfl (ArgsP.cons rfl ArgsP.nil)) (te rfl) (Places.cons (te rfl) (Places.cons (te rfl) Places.nil)) Tryz.zeroValue24 rfl) rfl rfl ?_)|(refine uE (EvF.add64 rfl rfl rfl (by omega) (by omega)) rfl rfl ?_)|(refine uE (uF rfl rfl (te rfl) rfl (te rfl) (by decide)) rfl rfl ?_)|(refine uE (uL rfl rfl (uO (te rfl) rfl (qH _) rfl)) rfl rfl ?_)|(refine Xg.st (StF.boxAgg rfl rfl) rfl rfl ?_;rintro _ _ ⟨bx,rfl,rfl⟩)|(refine Xg.st (StF.alloc rfl Tryz.zeroValue24 rfl) rfl rfl ?_;rintro _ _ ⟨bx,rfl,rfl⟩)|(refine Xg.st0 (uZ (i:=0) rfl rfl rfl (te rfl) rfl rfl rfl rfl) rfl ?_;rintro _ _ ⟨rfl,rfl⟩;dsimp only [List.set])|(refine Xg.st0 (uZ (i:=1) rfl rfl rfl (te rfl) rfl rfl rfl rfl) rfl ?_;rintro _ _ ⟨rfl,rfl⟩;dsimp only [List.set])))))|(refine uD rfl ?_;refine hK _ _ ?_;clear hK K) | refine uS rfl ?_ | refine uR rfl (fun K hK=>?_) | refine X.ret rfl ?_)
 exact ret_one (v := .agg (cSp (payF D d)).toArray) (by simp) Tryz.results65 ⟨_,rfl,uW (te rfl) rfl (by repeat (first | exact qH _ | apply qT)) rfl⟩ (H' := H) (by (repeat (first | exact qR _ | apply qC));done) ⟨rfl,rfl⟩
theorem knb_bd (a b : Bool) : 0 ≤ knb a b∧knb a b ≤ 2:=by cases a <;> cases b <;> decide
/-- put aside: not plain, or damper at some weighing -/
noncomputable def asideT (B : Bl) (k d : Int) : Nat → Int
 | 0=>2 - k
 | j + 1=>max (asideT B k d j) (damperOf B (B.weighs.getD j wgz) d)
theorem asideT_bd (B : Bl) (k d : Int) (hk : 0 ≤ k∧k ≤ 2) : ∀ j,0 ≤ asideT B k d j∧asideT B k d j ≤ 2
 | 0=>by show 0 ≤ 2 - k∧2 - k ≤ 2;omega
 | j + 1=>by
  have h:=asideT_bd B k d hk j
  have h2 : 0 ≤ damperOf B (B.weighs.getD j wgz) d∧damperOf B (B.weighs.getD j wgz) d ≤ 2:=knb_bd _ _
  show 0 ≤ max (asideT B k d j) (damperOf B (B.weighs.getD j wgz) d)∧max (asideT B k d j) (damperOf B (B.weighs.getD j wgz) d)≤2
  omega
noncomputable def asideF (B : Bl) (d : Int) : Int:=asideT B (ofKind (truthsB B) 1) d B.weighs.length
set_option maxHeartbeats 4000000 in
theorem aside1_spec (B : Bl) (p : Pb) (d : Int) (bn : Nat) (ow : Option Kd) (cap : Nat) (H : List Row) (hb : baleOk B) (hB : BlOk H B p) (hne : 0 < (wts B).length)
  (hm : ⟨bn,0,[.int .i64 d],ow,cap⟩ ∈ H) :
  Fc Tryz.prog 58 ([.agg (cPr B p (gradesOf B)).toArray]++[.pointer (some ⟨bn,0,none⟩)]) H (fun v H' => v = .int .u8 (asideF B d)∧H' = H):=by
 show Fc Tryz.prog 58 [.agg (cPr B p (gradesOf B)).toArray,.pointer (some ⟨bn,0,none⟩)] H _
 have hg5:=gradesOf_len hb
 have hlp : (cPr B p (gradesOf B)).length = 16:=lenPr hg5
 have ki:=fun S=>isOf_spec B p (gradesOf B) 1 S hg5 hb.h5 (gradesOf_bd hb)
 change ∀ S,Fc Tryz.prog 59 [.agg (cPr B p (gradesOf B)).toArray,.int .i64 1] S (fun v H' => v = .int .u8 (ofKind (truthsB B) 1)∧H' = S) at ki
 have kd:=fun S x hx (hS : BlOk S B p)=>wasDamper_spec B p (gradesOf B) x d S hb.hdry hb.hw hx hg5 hS hne
 unfold asideF
 have hkb : 0 ≤ ofKind (truthsB B) 1∧ofKind (truthsB B) 1 ≤ 2:=knb_bd _ _
 obtain ⟨k,hk⟩ : ∃ k,k = ofKind (truthsB B) 1:=⟨_,rfl⟩
 rw [← hk] at ki hkb ⊢
 have hab:=asideT_bd B k d hkb
 obtain ⟨g,hge⟩ : ∃ g,g = gradesOf B:=⟨_,rfl⟩
 rw [← hge] at ki kd hlp ⊢
 have hbw:=hb.hw
 have l2:=hB.l2
 clear hk hge hg5 hb hne
 obtain ⟨a1,c1,a2,c2⟩:=p
 refine Fc.mk (callable Tryz.call58) Tryz.func58 rfl Tryz.ntmps58 rfl ?_;dsimp only [fr]
 repeat' (first | (refine uP rfl ?_;(first | ((first | refine uN rfl ?_);(first | (refine uE (uL rfl rfl (uW (te rfl) rfl (qH _) hlp)) rfl rfl ?_)|(refine uC (uT rfl (Args.cons rfl (Args.cons rfl Args.nil))) rfl rfl (ki _) ?_;rintro _ H9 ⟨rfl,hH9⟩;subst H9)|(refine uE (EvF.subU8 rfl rfl rfl (by omega) (by omega)) rfl rfl ?_)|(refine uE (uM rfl rfl) rfl rfl ?_)|(refine uE (uA rfl rfl) rfl rfl ?_)|(refine uE (uF rfl rfl (te rfl) rfl (te rfl) (by decide)) rfl rfl ?_)|(refine uE (uY rfl rfl (te rfl)) rfl rfl ?_)|(refine uE (uL rfl rfl (uO (te rfl) rfl (qH _) rfl)) rfl rfl ?_)|(refine Xg.st (StF.boxAgg rfl rfl) rfl rfl ?_;rintro _ _ ⟨bx,rfl,rfl⟩)))))|(refine uD rfl ?_;refine hK _ _ ?_;clear hK K) | refine uS rfl ?_ | refine uR rfl (fun K hK=>?_) | refine X.block rfl ?_)
 obtain ⟨b2,hb2⟩ : ∃ b,b = bx:=⟨_,rfl⟩
 rw [← hb2]
 clear hb2
 refine X.lp rfl (fun q F' H' => ∃ j : Nat,q = B.weighs.length - j∧j ≤ B.weighs.length∧⟨b2,0,cPr B ⟨a1,c1,a2,c2⟩ g,some 91,16⟩::H = H' ∧
   F' = [(1,.pointer (some ⟨bn,0,none⟩)),(2,.pointer (some ⟨b2,0,none⟩)),(4,.int .u8 (asideT B k d j)),(12,.slice a2 B.weighs.length c2),(13,.int .i64 B.weighs.length),(14,.int .i64 (j : Nat))])
  B.weighs.length [(1,.pointer (some ⟨bn,0,none⟩)),(2,.pointer (some ⟨b2,0,none⟩)),(4,.int .u8 (asideT B k d 0)),(12,.slice a2 B.weighs.length c2),(13,.int .i64 B.weighs.length),(14,.int .i64 (0 : Nat))] (⟨b2,0,cPr B ⟨a1,c1,a2,c2⟩ g,some 91,16⟩::H) (by repeat (first | exact uU _ | refine uV rfl ?_)) (by rw [← hlp];exact qR _) ⟨0,by omega,by omega,rfl,rfl⟩ ?_
 rintro _ _ _ ⟨j,rfl,hj,rfl,rfl⟩
 by_cases hlt : j < B.weighs.length
 ·have hlt' : (j : Int)<B.weighs.length:=by omega
  obtain ⟨b,off,e,rfl,he⟩:=hB.weighs.elem (i:=j) hlt
  have hst : asideT B k d (j + 1)=max (asideT B k d j) (damperOf B e d):=by
   show max (asideT B k d j) (damperOf B (B.weighs.getD j wgz) d)=_
   rw [List.getD_eq_getElem?_getD,he,Option.getD_some]
  have kde:=fun S (hS : BlOk S B ⟨a1,c1,some ⟨b,off,none⟩,c2⟩)=>kd S e (hbw e (List.mem_of_getElem? he)) hS
  obtain ⟨m,hm9⟩ : ∃ m,m = damperOf B e d:=⟨_,rfl⟩
  rw [← hm9] at hst kde
  have hB2 : ∀ r1 r2,BlOk (r1::r2::H) B ⟨a1,c1,some ⟨b,off,none⟩,c2⟩:=fun r1 r2=>hB.sub (fun _ h=>qT _ (qT _ h))
  have hw1 : ∀ r1,SlE (r1::H) (some ⟨b,off,none⟩) cDr 4 B.weighs:=fun r1=>hB.weighs.sub (fun _ h=>qT _ h)
  repeat' (first | (refine uP rfl ?_;(first | ((first | refine uN rfl ?_);(first | (refine uE (uQ (b:=true) rfl rfl rfl (congrArg some (decide_eq_true (by omega)))) rfl rfl ?_)|(refine uE (uL rfl rfl (LoadV.elA0 (hw1 _) he (te rfl) rfl (fun _ hm=>hm) rfl)) rfl rfl ?_)|(refine Xg.st (StF.alloc rfl Tryz.zeroValue41 rfl) rfl rfl ?_;rintro _ _ ⟨b6,rfl,rfl⟩)|(refine uE (uL rfl rfl (uW (te rfl) rfl (qT _ (qH _)) hlp)) rfl rfl ?_)|(refine uE (uL (v := .int .i64 d) rfl rfl (uO (te rfl) rfl (qT _ (qT _ hm)) rfl)) rfl rfl ?_)|(refine uC (uT rfl (Args.cons rfl (Args.cons rfl (Args.cons rfl Args.nil)))) rfl rfl (kde _ (hB2 _ _)) ?_;rintro _ H9 ⟨rfl,hH9⟩;subst H9)|(refine uE (EvF.maxK rfl rfl rfl) rfl rfl ?_)|(refine uE (EvF.add64 (p:=(j : Int)) (q:=1) rfl rfl rfl (by omega) (by omega)) rfl rfl ?_)|(refine uE (uM rfl rfl) rfl rfl ?_)|(refine uE (uA rfl rfl) rfl rfl ?_)|(refine uE (uJ rfl rfl rfl (te rfl) (te rfl) (by omega) (by omega)) rfl rfl ?_)|(refine uE (uL rfl rfl (uW (te rfl) rfl (qH _) rfl)) rfl rfl ?_)|(refine Xg.st0 (uZ (i:=0) rfl rfl rfl (te rfl) rfl rfl rfl rfl) rfl ?_;rintro _ _ ⟨rfl,rfl⟩;dsimp only [List.set])))))|(refine uD rfl ?_;refine hK _ _ ?_;clear hK K) | refine uS rfl ?_ | refine uR rfl (fun K hK=>?_) | refine X.block rfl ?_ | refine X.skip rfl ?_ | (refine X.ite rfl rfl (fun hc=>?_);(first | (with_reducible refine Xb.t hc ?_)) <;> clear hc))
  exact ⟨_,_,_,(by rw [hst,show (j : Int) + 1 = ((j + 1 : Nat) : Int) by omega];exact (by repeat (first | exact uU _ | refine uV rfl ?_))),(List.sublist_cons_self _ _),⟨j + 1,rfl,by omega,rfl,rfl⟩,by omega⟩
 ·obtain rfl : j = B.weighs.length:=by omega
  have hlt' : ¬ ((B.weighs.length : Nat) : Int)<B.weighs.length:=by omega
  repeat' (first | (refine uP rfl ?_;(first | ((first | refine uN rfl ?_);(first | (refine uE (uQ (b:=false) rfl rfl rfl (congrArg some (decide_eq_false (by omega)))) rfl rfl ?_)|(refine uE (uM rfl rfl) rfl rfl ?_)|(refine uE (uA rfl rfl) rfl rfl ?_)))))|(refine uD rfl ?_;refine hK _ _ ?_;clear hK K) | refine uS rfl ?_ | refine uR rfl (fun K hK=>?_)|(refine X.brk rfl ?_;repeat (first | refine blockX_hit rfl ?_ | refine blockX_miss (by decide) ?_)) | refine X.ret rfl ?_ | (refine X.ite rfl rfl (fun hc=>?_);(first | (with_reducible refine Xb.f hc ?_)) <;> clear hc))
  exact ret_one (by simp) Tryz.results58 rfl (H' := H) (by (repeat (first | exact qR _ | apply qC));done) ⟨rfl,rfl⟩
/-- the numbers that one is asked about -/
abbrev caN (n : Int) : Ca:=⟨[],[],[n],[]⟩
abbrev caD (d : Int) : Ca:=⟨[],[],[],[d]⟩
abbrev ca0 : Ca:=⟨[],[],[],[]⟩
abbrev pc0 : Pc:=⟨none,0,none,0,none,0,none,0⟩
theorem openE_full {B : Bl} {C : Ca} (h : openE B C = 0) : (baleOk B∧canB B)∧askL B C∧askK C∧askW B C∧askD C:=by
 unfold openE at h
 split at h
 ·split at h
  ·split at h
   ·split at h
    ·split at h
     ·split at h
      ·exact ⟨⟨by assumption,by assumption⟩,by assumption,by assumption,by assumption,by assumption⟩
      ·omega
     ·omega
    ·omega
   ·omega
  ·omega
 ·omega
set_option maxHeartbeats 4000000 in
theorem kdry_spec (B : Bl) (p : Pb) (H : List Row) (hB : BlOk H B p) :
  Fc Tryz.prog 36 [.agg (cBl B p).toArray] H (fun v H' => v = .tuple #[.agg (cSp (spIf (openE B ca0 = 0) (dryOf B))).toArray,.int .i64 (openE B ca0)]∧H' = H):=by
 have hB2 : ∀ r1 r2,BlOk (r1::r2::H) B p:=fun r1 r2=>hB.sub (fun _ h=>qT _ (qT _ h))
 have kt:=fun r1 r2=>toldSp_spec B p ca0 pc0 66 [] (dryOf B) (r1::r2::H) (hB2 _ _) ⟨sleNil,sleNil,sleNil,sleNil,by simp,by simp,by simp,by simp⟩ (fun h0 H' hs=>dry_spec B p (gradesOf B) H' (openE_zero h0).1.hdry (openE_zero h0).1.hw (gradesOf_len (openE_zero h0).1) ((hB2 _ _).sub hs) (openE_zero h0).2.2.2)
 obtain ⟨rr,hrr⟩ : ∃ x,spIf (openE B ca0 = 0) (dryOf B)=x:=⟨_,rfl⟩
 rw [hrr] at kt ⊢
 refine Fc.mk (callable Tryz.call36) Tryz.func36 rfl Tryz.ntmps36 rfl ?_;dsimp only [fr]
 repeat' (first | (refine uP rfl ?_;(first | ((first | refine uN rfl ?_);(first | (refine uE (EvF.build (cs:=cCa ca0 pc0) rfl ArgsP.nil (te rfl) (Places.cons (te rfl) (Places.cons (te rfl) (Places.cons (te rfl) (Places.cons (te rfl) Places.nil)))) Tryz.zeroValue88 rfl) rfl rfl ?_)|(refine uC (uT rfl (Args.cons rfl (Args.cons rfl (Args.cons rfl Args.nil)))) rfl rfl (kt _ _) ?_;rintro _ H9 ⟨rfl,hH9⟩;subst H9)|(refine uE (uA rfl rfl) rfl rfl ?_)|(refine uE (uL rfl rfl (uW (te rfl) rfl (qT _ (qH _)) rfl)) rfl rfl ?_)|(refine uE (uX rfl rfl rfl) rfl rfl ?_)|(refine Xg.st (StF.boxAgg rfl rfl) rfl rfl ?_;rintro _ _ ⟨bx,rfl,rfl⟩)|(refine Xg.st (StF.alloc rfl Tryz.zeroValue24 rfl) rfl rfl ?_;rintro _ _ ⟨bx,rfl,rfl⟩)|(refine Xg.st0 (uZ (i:=0) rfl rfl rfl (te rfl) rfl rfl rfl rfl) rfl ?_;rintro _ _ ⟨rfl,rfl⟩;dsimp only [List.set])))))|(refine uD rfl ?_;refine hK _ _ ?_;clear hK K) | refine uS rfl ?_ | refine uR rfl (fun K hK=>?_) | refine X.ret rfl ?_)
 exact ret_two (v := .agg (cSp rr).toArray) (by simp) Tryz.results36 ⟨_,rfl,uW (te rfl) rfl (qH _) rfl⟩ rfl (H' := H) (by (repeat (first | exact qR _ | apply qC));done) ⟨rfl,rfl⟩
set_option maxHeartbeats 4000000 in
theorem kWet_spec (B : Bl) (p : Pb) (n : Int) (H : List Row) (hB : BlOk H B p) :
  Fc Tryz.prog 14 [.agg (cBl B p).toArray,.int .i64 n] H (fun v H' => v = .tuple #[.agg (cSp (spIf (openE B (caN n)=0) (wetOf B (numW B.weighs n)))).toArray,.int .i64 (openE B (caN n))]∧H' = H):=by
 obtain ⟨rr,hrr⟩ : ∃ x,spIf (openE B (caN n)=0) (wetOf B (numW B.weighs n)) = x:=⟨_,rfl⟩
 have kt:=fun S (hS : BlOk S B p) bo bn (hm : (⟨bn,0,[.int .i64 n],some 3,1⟩ : Row) ∈ S) (hm2 : (⟨bo,0,[n].flatMap cI,some 3,1⟩ : Row) ∈ S)=>toldSp_spec B p (caN n) ⟨none,0,none,0,some ⟨bo,0,none⟩,1,none,0⟩ 52 [.pointer (some ⟨bn,0,none⟩)] (wetOf B (numW B.weighs n)) S hS ⟨sleNil,sleNil,SlE.ofRow (l:=[n]) hm2 (fun _ _=>rfl),sleNil,by simp,by simp,by simp,by simp⟩
  (fun h0 H' hs=>wet1_spec B p (gradesOf B) n bn _ _ H' (openE_zero h0).1.hdry (openE_zero h0).1.hw (gradesOf_len (openE_zero h0).1) (hS.sub hs) (openE_zero h0).2.2.2 (hs _ hm))
 rw [hrr] at kt ⊢
 refine Fc.mk (callable Tryz.call14) Tryz.func14 rfl Tryz.ntmps14 rfl ?_;dsimp only [fr]
 repeat' (first | (refine uP rfl ?_;(first | ((first | refine uN rfl ?_);(first | (refine Xg.st (StF.buildOne rfl el55 rfl rfl rfl (by decide) (by decide)) rfl rfl ?_;rintro _ _ ⟨bo,rfl,rfl⟩)|(refine uE (EvF.build (cs:=cCa (caN n) ⟨none,0,none,0,some ⟨bo,0,none⟩,1,none,0⟩) rfl (ArgsP.cons rfl ArgsP.nil) (te rfl) (Places.cons (te rfl) (Places.cons (te rfl) (Places.cons (te rfl) (Places.cons (te rfl) Places.nil)))) Tryz.zeroValue88 rfl) rfl rfl ?_)|(refine uE (EvF.makeFunc (fl:=[]) rfl Args.nil (Args.cons rfl Args.nil)) rfl rfl ?_)|(refine uC (uT rfl (Args.cons rfl (Args.cons rfl (Args.cons rfl Args.nil)))) rfl rfl (kt _ (hB.sub (fun _ h=>qT _ (qT _ (qT _ (qT _ h))))) _ _ (qT _ (qT _ (qH _))) (qH _)) ?_;rintro _ H9 ⟨rfl,hH9⟩;subst H9)|(refine uE (uA rfl rfl) rfl rfl ?_)|(refine uE (uL rfl rfl (uO (te rfl) rfl (qT _ (qH _)) rfl)) rfl rfl ?_)|(refine uE (uL rfl rfl (uW (te rfl) rfl (qT _ (qT _ (qH _))) rfl)) rfl rfl ?_)|(refine uE (uX rfl rfl rfl) rfl rfl ?_)|(refine Xg.st (StF.boxAgg rfl rfl) rfl rfl ?_;rintro _ _ ⟨bx,rfl,rfl⟩)|(refine Xg.st (StF.boxOne rfl rfl rfl) rfl rfl ?_;rintro _ _ ⟨bx,rfl,rfl⟩)|(refine Xg.st (StF.alloc rfl Tryz.zeroValue24 rfl) rfl rfl ?_;rintro _ _ ⟨bx,rfl,rfl⟩)|(refine Xg.st0 (uZ (i:=1) rfl rfl rfl (te rfl) rfl rfl rfl rfl) rfl ?_;rintro _ _ ⟨rfl,rfl⟩;dsimp only [List.set])))))|(refine uD rfl ?_;refine hK _ _ ?_;clear hK K) | refine uS rfl ?_ | refine uR rfl (fun K hK=>?_) | refine X.ret rfl ?_)
 exact ret_two (v := .agg (cSp rr).toArray) (by simp) Tryz.results14 ⟨_,rfl,uW (te rfl) rfl (by repeat (first | exact qH _ | apply qT)) rfl⟩ rfl (H' := H) (by (repeat (first | exact qR _ | apply qC));done) ⟨rfl,rfl⟩
set_option maxHeartbeats 4000000 in
theorem kKnown_spec (B : Bl) (p : Pb) (n d : Int) (H : List Row) (hB : BlOk H B p) :
  Fc Tryz.prog 15 [.agg (cBl B p).toArray,.int .i64 n,.int .i64 d] H (fun v H' => v = .tuple #[.int .u8 (uIf (openE B (caN n)=0) (damperOf B (numW B.weighs n) d)),.int .i64 (openE B (caN n))]∧H' = H):=by
 obtain ⟨rr,hrr⟩ : ∃ x,uIf (openE B (caN n)=0) (damperOf B (numW B.weighs n) d)=x:=⟨_,rfl⟩
 have kt:=fun S (hS : BlOk S B p) bo bn bd (hm : (⟨bn,0,[.int .i64 n],some 3,1⟩ : Row) ∈ S) (hmd : (⟨bd,0,[.int .i64 d],some 3,1⟩ : Row) ∈ S) (hm2 : (⟨bo,0,[n].flatMap cI,some 3,1⟩ : Row) ∈ S)=>toldU_spec B p (caN n) ⟨none,0,none,0,some ⟨bo,0,none⟩,1,none,0⟩ 56 [.pointer (some ⟨bn,0,none⟩),.pointer (some ⟨bd,0,none⟩)] (damperOf B (numW B.weighs n) d) S hS ⟨sleNil,sleNil,SlE.ofRow (l:=[n]) hm2 (fun _ _=>rfl),sleNil,by simp,by simp,by simp,by simp⟩
  (fun h0 H' hs=>known1_spec B p (gradesOf B) n d bn bd _ _ _ _ H' (openE_zero h0).1.hdry (openE_zero h0).1.hw (gradesOf_len (openE_zero h0).1) (hS.sub hs) (openE_zero h0).2.2.2 (hs _ hm) (hs _ hmd))
 rw [hrr] at kt ⊢
 refine Fc.mk (callable Tryz.call15) Tryz.func15 rfl Tryz.ntmps15 rfl ?_;dsimp only [fr]
 repeat' (first | (refine uP rfl ?_;(first | ((first | refine uN rfl ?_);(first | (refine Xg.st (StF.buildOne rfl el55 rfl rfl rfl (by decide) (by decide)) rfl rfl ?_;rintro _ _ ⟨bo,rfl,rfl⟩)|(refine uE (EvF.build (cs:=cCa (caN n) ⟨none,0,none,0,some ⟨bo,0,none⟩,1,none,0⟩) rfl (ArgsP.cons rfl ArgsP.nil) (te rfl) (Places.cons (te rfl) (Places.cons (te rfl) (Places.cons (te rfl) (Places.cons (te rfl) Places.nil)))) Tryz.zeroValue88 rfl) rfl rfl ?_)|(refine uE (EvF.makeFunc (fl:=[]) rfl Args.nil (Args.cons rfl (Args.cons rfl Args.nil))) rfl rfl ?_)|(refine uC (uT rfl (Args.cons rfl (Args.cons rfl (Args.cons rfl Args.nil)))) rfl rfl (kt _ (hB.sub (fun _ h=>qT _ (qT _ (qT _ (qT _ h))))) _ _ _ (qT _ (qT _ (qH _))) (qT _ (qH _)) (qH _)) ?_;rintro _ H9 ⟨rfl,hH9⟩;subst H9)|(refine uE (uA rfl rfl) rfl rfl ?_)|(refine uE (uL rfl rfl (uO (te rfl) rfl (qT _ (qH _)) rfl)) rfl rfl ?_)|(refine uE (uL rfl rfl (uW (te rfl) rfl (qT _ (qT _ (qH _))) rfl)) rfl rfl ?_)|(refine uE (uX rfl rfl rfl) rfl rfl ?_)|(refine Xg.st (StF.boxAgg rfl rfl) rfl rfl ?_;rintro _ _ ⟨bx,rfl,rfl⟩)|(refine Xg.st (StF.boxOne rfl rfl rfl) rfl rfl ?_;rintro _ _ ⟨bx,rfl,rfl⟩)))))|(refine uD rfl ?_;refine hK _ _ ?_;clear hK K) | refine uS rfl ?_ | refine uR rfl (fun K hK=>?_) | refine X.ret rfl ?_)
 exact ret_two (by simp) Tryz.results15 rfl rfl (H' := H) (by (repeat (first | exact qR _ | apply qC));done) ⟨rfl,rfl⟩
set_option maxHeartbeats 4000000 in
theorem kPays_spec (B : Bl) (p : Pb) (d : Int) (H : List Row) (hB : BlOk H B p) :
  Fc Tryz.prog 23 [.agg (cBl B p).toArray,.int .i64 d] H (fun v H' => v = .tuple #[.agg (cSp (spIf (openE B (caD d)=0) (payF (dryOf B) d))).toArray,.int .i64 (openE B (caD d))]∧H' = H):=by
 obtain ⟨rr,hrr⟩ : ∃ x,spIf (openE B (caD d)=0) (payF (dryOf B) d)=x:=⟨_,rfl⟩
 have kt:=fun S (hS : BlOk S B p) bo bn (hm : (⟨bn,0,[.int .i64 d],some 3,1⟩ : Row) ∈ S) (hm2 : (⟨bo,0,[d].flatMap cI,some 3,1⟩ : Row) ∈ S)=>toldSp_spec B p (caD d) ⟨none,0,none,0,none,0,some ⟨bo,0,none⟩,1⟩ 65 [.pointer (some ⟨bn,0,none⟩)] (payF (dryOf B) d) S hS ⟨sleNil,sleNil,sleNil,SlE.ofRow (l:=[d]) hm2 (fun _ _=>rfl),by simp,by simp,by simp,by simp⟩
  (fun h0 H' hs=>pays1_spec B p (gradesOf B) d bn _ _ H' (openE_zero h0).1.hdry (openE_zero h0).1.hw (gradesOf_len (openE_zero h0).1) (hS.sub hs) (openE_zero h0).2.2.2 (hs _ hm) ((openE_full h0).2.2.2.2 d List.mem_cons_self))
 rw [hrr] at kt ⊢
 refine Fc.mk (callable Tryz.call23) Tryz.func23 rfl Tryz.ntmps23 rfl ?_;dsimp only [fr]
 repeat' (first | (refine uP rfl ?_;(first | ((first | refine uN rfl ?_);(first | (refine Xg.st (StF.buildOne rfl el55 rfl rfl rfl (by decide) (by decide)) rfl rfl ?_;rintro _ _ ⟨bo,rfl,rfl⟩)|(refine uE (EvF.build (cs:=cCa (caD d) ⟨none,0,none,0,none,0,some ⟨bo,0,none⟩,1⟩) rfl (ArgsP.cons rfl ArgsP.nil) (te rfl) (Places.cons (te rfl) (Places.cons (te rfl) (Places.cons (te rfl) (Places.cons (te rfl) Places.nil)))) Tryz.zeroValue88 rfl) rfl rfl ?_)|(refine uE (EvF.makeFunc (fl:=[]) rfl Args.nil (Args.cons rfl Args.nil)) rfl rfl ?_)|(refine uC (uT rfl (Args.cons rfl (Args.cons rfl (Args.cons rfl Args.nil)))) rfl rfl (kt _ (hB.sub (fun _ h=>qT _ (qT _ (qT _ (qT _ h))))) _ _ (qT _ (qT _ (qH _))) (qH _)) ?_;rintro _ H9 ⟨rfl,hH9⟩;subst H9)|(refine uE (uA rfl rfl) rfl rfl ?_)|(refine uE (uL rfl rfl (uO (te rfl) rfl (qT _ (qH _)) rfl)) rfl rfl ?_)|(refine uE (uL rfl rfl (uW (te rfl) rfl (qT _ (qT _ (qH _))) rfl)) rfl rfl ?_)|(refine uE (uX rfl rfl rfl) rfl rfl ?_)|(refine Xg.st (StF.boxAgg rfl rfl) rfl rfl ?_;rintro _ _ ⟨bx,rfl,rfl⟩)|(refine Xg.st (StF.boxOne rfl rfl rfl) rfl rfl ?_;rintro _ _ ⟨bx,rfl,rfl⟩)|(refine Xg.st (StF.alloc rfl Tryz.zeroValue24 rfl) rfl rfl ?_;rintro _ _ ⟨bx,rfl,rfl⟩)|(refine Xg.st0 (uZ (i:=1) rfl rfl rfl (te rfl) rfl rfl rfl rfl) rfl ?_;rintro _ _ ⟨rfl,rfl⟩;dsimp only [List.set])))))|(refine uD rfl ?_;refine hK _ _ ?_;clear hK K) | refine uS rfl ?_ | refine uR rfl (fun K hK=>?_) | refine X.ret rfl ?_)
 exact ret_two (v := .agg (cSp rr).toArray) (by simp) Tryz.results23 ⟨_,rfl,uW (te rfl) rfl (by repeat (first | exact qH _ | apply qT)) rfl⟩ rfl (H' := H) (by (repeat (first | exact qR _ | apply qC));done) ⟨rfl,rfl⟩
set_option maxHeartbeats 4000000 in
theorem kAside_spec (B : Bl) (p : Pb) (d : Int) (H : List Row) (hB : BlOk H B p) :
  Fc Tryz.prog 16 [.agg (cBl B p).toArray,.int .i64 d] H (fun v H' => v = .tuple #[.int .u8 (uIf (openE B (caD d)=0) (asideF B d)),.int .i64 (openE B (caD d))]∧H' = H):=by
 obtain ⟨rr,hrr⟩ : ∃ x,uIf (openE B (caD d)=0) (asideF B d)=x:=⟨_,rfl⟩
 have kt:=fun S (hS : BlOk S B p) bo bn (hm : (⟨bn,0,[.int .i64 d],some 3,1⟩ : Row) ∈ S) (hm2 : (⟨bo,0,[d].flatMap cI,some 3,1⟩ : Row) ∈ S)=>toldU_spec B p (caD d) ⟨none,0,none,0,none,0,some ⟨bo,0,none⟩,1⟩ 58 [.pointer (some ⟨bn,0,none⟩)] (asideF B d) S hS ⟨sleNil,sleNil,sleNil,SlE.ofRow (l:=[d]) hm2 (fun _ _=>rfl),by simp,by simp,by simp,by simp⟩
  (fun h0 H' hs=>aside1_spec B p d bn _ _ H' (openE_zero h0).1 (hS.sub hs) (openE_zero h0).2.2.2 (hs _ hm))
 rw [hrr] at kt ⊢
 refine Fc.mk (callable Tryz.call16) Tryz.func16 rfl Tryz.ntmps16 rfl ?_;dsimp only [fr]
 repeat' (first | (refine uP rfl ?_;(first | ((first | refine uN rfl ?_);(first | (refine Xg.st (StF.buildOne rfl el55 rfl rfl rfl (by decide) (by decide)) rfl rfl ?_;rintro _ _ ⟨bo,rfl,rfl⟩)|(refine uE (EvF.build (cs:=cCa (caD d) ⟨none,0,none,0,none,0,some ⟨bo,0,none⟩,1⟩) rfl (ArgsP.cons rfl ArgsP.nil) (te rfl) (Places.cons (te rfl) (Places.cons (te rfl) (Places.cons (te rfl) (Places.cons (te rfl) Places.nil)))) Tryz.zeroValue88 rfl) rfl rfl ?_)|(refine uE (EvF.makeFunc (fl:=[]) rfl Args.nil (Args.cons rfl Args.nil)) rfl rfl ?_)|(refine uC (uT rfl (Args.cons rfl (Args.cons rfl (Args.cons rfl Args.nil)))) rfl rfl (kt _ (hB.sub (fun _ h=>qT _ (qT _ (qT _ h)))) _ _ (qT _ (qH _)) (qH _)) ?_;rintro _ H9 ⟨rfl,hH9⟩;subst H9)|(refine uE (uA rfl rfl) rfl rfl ?_)|(refine uE (uL rfl rfl (uO (te rfl) rfl (qH _) rfl)) rfl rfl ?_)|(refine uE (uL rfl rfl (uW (te rfl) rfl (qT _ (qH _)) rfl)) rfl rfl ?_)|(refine uE (uX rfl rfl rfl) rfl rfl ?_)|(refine Xg.st (StF.boxAgg rfl rfl) rfl rfl ?_;rintro _ _ ⟨bx,rfl,rfl⟩)|(refine Xg.st (StF.boxOne rfl rfl rfl) rfl rfl ?_;rintro _ _ ⟨bx,rfl,rfl⟩)))))|(refine uD rfl ?_;refine hK _ _ ?_;clear hK K) | refine uS rfl ?_ | refine uR rfl (fun K hK=>?_) | refine X.ret rfl ?_)
 exact ret_two (by simp) Tryz.results16 rfl rfl (H' := H) (by (repeat (first | exact qR _ | apply qC));done) ⟨rfl,rfl⟩
def stp (i : Int) (s : Sp) (x : Dr) : Sp:=if x.val = i then ⟨max s.lo x.lo,min s.hi x.hi⟩ else s
def gr1 (l : List Dr) (i : Int) : Sp:=l.foldl (stp i) ⟨1,9⟩
theorem spAt_set {g : List Sp} {i j : Nat} {s : Sp} (h : i < g.length) : spAt (g.set i s) j = if i = j then s else spAt g j:=by
 unfold spAt List.getD
 rw [List.getElem?_set]
 by_cases h1 : i = j
 ·subst h1;simp [h]
 ·simp [h1]
theorem fold_at (i : Nat) : ∀ (l : List Dr) (g : List Sp),g.length = 5 → i < 5 → (∀ x ∈ l,0 ≤ x.val∧x.val < 5) → spAt (l.foldl stepG g) i = l.foldl (stp i) (spAt g i)
 | [],g,_,_,_=>rfl
 | x::l,g,hg,hi,hx=>by
  have h1:=hx x List.mem_cons_self
  rw [List.foldl_cons,List.foldl_cons,fold_at i l (stepG g x) (by rw [stepG_len,hg]) hi (fun y hy=>hx y (List.mem_cons_of_mem _ hy))]
  congr 1
  unfold stepG stp
  rw [spAt_set (by omega)]
  by_cases h2 : x.val = i
  ·rw [if_pos (by omega),if_pos h2,show x.val.toNat = i by omega]
  ·rw [if_neg (by omega),if_neg h2]
theorem initG_at {n i : Nat} (hi : i < n) : spAt (initG n) i = ⟨1,9⟩:=by
 unfold spAt initG List.getD
 rw [List.getElem?_append_left (by simpa using hi),List.getElem?_replicate,if_pos hi]
 rfl
theorem gr1_eq {B : Bl} (h5 : 1 ≤ B.layers∧B.layers ≤ 5) (hd : ∀ x ∈ B.draws,0 ≤ x.val∧x.val < 5) {i : Nat} (hi : i < B.layers.toNat) : gr1 B.draws i = spAt (gradesOf B) i:=by
 unfold gr1 gradesOf
 rw [fold_at i B.draws _ (initG_len (by omega)) (by omega) hd,initG_at hi]
/-- a list of spans in memory of one's own, or nil -/
def OutS (l : List Sp) (out : Value) (Z : List Row) : Prop:=(l = []∧out = .slice none 0 0∧Z = []) ∨ ∃ b q,out = .slice (some ⟨b,0,none⟩) l.length q∧Z = [⟨b,0,l.flatMap cSp,some 24,q * 2⟩]
theorem OutS.sl {l : List Sp} {out : Value} {Z H : List Row} (h : OutS l out Z) : ∃ a c,out = .slice a l.length c∧SlE (Z++H) a cSp 2 l:=by
 rcases h with ⟨rfl,rfl,rfl⟩ | ⟨b,q,rfl,rfl⟩
 ·exact ⟨none,0,rfl,sleNil⟩
 ·exact ⟨_,_,rfl,SlE.ofRow (qH _) (fun _ _=>rfl)⟩
def gsOf (B : Bl) : List Sp:=(gradesOf B).take B.layers.toNat
theorem gsOf_len {B : Bl} (h : baleOk B) : (gsOf B).length = B.layers.toNat:=by
 unfold gsOf;rw [List.length_take,gradesOf_len h];have:=h.h5;omega
theorem spAt_gs {B : Bl} {i : Nat} (hi : i < B.layers.toNat) : spAt (gsOf B) i = spAt (gradesOf B) i:=by
 unfold spAt gsOf List.getD
 rw [List.getElem?_take,if_pos hi]
theorem alike_same {l r : List Int} (h : ∀ a,a ∈ l ↔ a ∈ r) : alikeB l = alikeB r:=by
 rw [Bool.eq_iff_iff]
 exact ⟨fun q=>alike_sub q (fun a ha=>(h a).2 ha),fun q=>alike_sub q (fun a ha=>(h a).1 ha)⟩
theorem alike_rev (l : List Int) : alikeB l.reverse = alikeB l:=alike_same (fun _=>List.mem_reverse)
theorem cuts_some {l : List Int} : (cutsF l).lo ≤ (cutsF l).hi ↔ ∃ k : Nat,1 ≤ k∧k < l.length∧alikeB (l.take k)=true∧alikeB (l.drop k)=true:=by
 constructor
 ·intro h
  obtain ⟨h1,h2⟩:=cuts_bd h
  obtain ⟨q1,q2⟩:=(cuts_iff (l:=l) (k:=(cutsF l).lo) h1 (by omega)).2 ⟨Int.le_refl _,h⟩
  exact ⟨(cutsF l).lo.toNat,by omega,by omega,q1,q2⟩
 ·rintro ⟨k,h1,h2,h3,h4⟩
  have:=(cuts_iff (l:=l) (k:=(k : Int)) (by omega) (by omega)).1 ⟨h3,h4⟩
  omega
theorem cuts_rev1 {l : List Int} (h : (cutsF l).lo ≤ (cutsF l).hi) : (cutsF l.reverse).lo ≤ (cutsF l.reverse).hi:=by
 obtain ⟨k,h1,h2,h3,h4⟩:=cuts_some.1 h
 refine cuts_some.2 ⟨l.length - k,by omega,by rw [List.length_reverse];omega,?_,?_⟩
 ·rw [List.take_reverse,show l.length - (l.length - k)=k by omega,alike_rev];exact h4
 ·rw [List.drop_reverse,show l.length - (l.length - k)=k by omega,alike_rev];exact h3
theorem cuts_rev (l : List Int) : (cutsF l.reverse).lo ≤ (cutsF l.reverse).hi ↔ (cutsF l).lo ≤ (cutsF l).hi :=
 ⟨fun h=>by have:=cuts_rev1 h;rwa [List.reverse_reverse] at this,cuts_rev1⟩
theorem mid_rev (l : List Int) : midL l.reverse = (midL l).reverse:=by
 unfold midL
 rw [List.drop_reverse,List.take_reverse,List.length_reverse,List.length_take]
 congr 1
 by_cases h : l.length ≤ 2
 ·have e1 : l.length - 2 = 0:=by omega
  rw [e1,List.take_zero,Nat.sub_zero]
  refine List.drop_eq_nil_of_le ?_
  rw [List.length_take];omega
 ·rw [show min (l.length - 1) l.length - (l.length - 2)=1 by omega,List.drop_take,show l.length - 1 - 1 = l.length - 2 by omega]
theorem head_rev (l : List Int) : l.reverse.headD 0 = l.getLastD 0:=by
 rw [List.headD_eq_head?_getD,List.head?_reverse,List.getLastD_eq_getLast?]
theorem last_rev (l : List Int) : l.reverse.getLastD 0 = l.headD 0:=by
 rw [List.getLastD_eq_getLast?,List.getLast?_reverse,List.headD_eq_head?_getD]
theorem false_rev (l : List Int) : falseF l.reverse = falseF l:=by
 unfold falseF
 rw [mid_rev,head_rev,last_rev,List.all_reverse,List.any_reverse,Int.max_comm (l.getLastD 0) (l.headD 0),alike_same (l:=[l.getLastD 0,l.headD 0]) (r:=[l.headD 0,l.getLastD 0]) (fun a=>by simp [or_comm])]
theorem kind_rev (l : List Int) : kindF l.reverse = kindF l:=by
 unfold kindF
 rw [alike_rev,false_rev]
 by_cases h : (cutsF l).lo ≤ (cutsF l).hi
 ·rw [if_pos h,if_pos (cuts_rev1 h)]
 ·rw [if_neg h,if_neg (fun q=>h ((cuts_rev l).1 q))]
theorem kind_one {l : List Int} : kindF l = 1 ↔ alikeB l = true:=by
 unfold kindF
 constructor
 ·intro h
  split at h
  ·assumption
  ·split at h
   ·cases h
   ·split at h <;> cases h
 ·intro h
  rw [if_pos h]
theorem kind_two {l : List Int} : kindF l = 2 ↔ alikeB l = false∧(cutsF l).lo ≤ (cutsF l).hi:=by
 unfold kindF
 constructor
 ·intro h
  split at h
  ·cases h
  ·split at h
   ·exact ⟨by simpa using (by assumption : ¬ alikeB l = true),by assumption⟩
   ·split at h <;> cases h
 ·rintro ⟨h1,h2⟩
  rw [if_neg (by rw [h1];decide),if_pos h2]
def pin (x : Int) : Sp:=⟨x,x⟩
theorem exts_pin : ∀ g : List Int,exts (g.map pin) = [g]
 | []=>rfl
 | x::g=>by
  show (List.range (x - x + 1).toNat).flatMap (fun (k : Nat)=>(exts (g.map pin)).map ((x + k) :: ·)) = _
  rw [exts_pin g,show (x - x + 1).toNat = 1 by omega]
  simp [List.range_succ]
def shD : Nat → List Int → List Dr
 | _,[]=>[]
 | k,x::t=>⟨k + 1,k,x,x⟩::shD (k + 1) t
def shB (g : List Int) : Bl:=⟨1,g.length,1,1,shD 0 g,[]⟩
theorem shD_len : ∀ (k : Nat) (g : List Int),(shD k g).length = g.length
 | _,[]=>rfl
 | k,_::t=>congrArg (·+ 1) (shD_len (k + 1) t)
theorem shD_snoc : ∀ (k : Nat) (g : List Int) (x : Int),shD k (g++[x]) = shD k g++[⟨(k + g.length : Nat) + 1,(k + g.length : Nat),x,x⟩]
 | k,[],x=>rfl
 | k,y::t,x=>by
  show (⟨k + 1,k,y,y⟩ : Dr)::shD (k + 1) (t++[x]) = (⟨k + 1,k,y,y⟩ : Dr)::shD (k + 1) t++_
  rw [shD_snoc (k + 1) t x,List.length_cons,show k + 1 + t.length = k + (t.length + 1) by omega]
  rfl
theorem shD_get : ∀ (k : Nat) (g : List Int) (i : Nat) (x : Int),g[i]? = some x → (shD k g)[i]? = some ⟨(k + i : Nat) + 1,(k + i : Nat),x,x⟩
 | k,[],i,x,h=>by cases h
 | k,y::t,0,x,h=>by cases h;rfl
 | k,y::t,i + 1,x,h=>by
  have:=shD_get (k + 1) t i x h
  rw [show k + 1 + i = k + (i + 1) by omega] at this
  exact this
theorem shD_rz (B : Bl) : ∀ (k : Nat) (g : List Int),(∀ x ∈ g,1 ≤ x∧x ≤ 9) → (k + g.length : Int)≤B.layers → B.layers ≤ 5 → rz (rdOk B) (k : Nat) (shD k g)
 | k,[],_,_,_=>trivial
 | k,x::t,h,hk,h5=>by
  have hx:=h x List.mem_cons_self
  rw [List.length_cons] at hk
  have ih:=shD_rz B (k + 1) t (fun y hy=>h y (List.mem_cons_of_mem _ hy)) (by omega) h5
  refine ⟨Int.le_refl _,by show (k : Int) + 1 ≤ 9999;omega,⟨⟨by show (0 : Int)≤(k : Nat);omega,by show ((k : Nat) : Int)≤B.layers - 1;omega⟩,⟨hx.1,Int.le_refl _⟩,hx.2⟩,?_⟩
  exact ih
theorem shB_ok {g : List Int} (h1 : 1 ≤ g.length) (h5 : g.length ≤ 5) (hg : ∀ x ∈ g,1 ≤ x∧x ≤ 9) : baleOk (shB g):=by
 refine (refBale_iff _).1 ⟨⟨by show (1 : Int)≤1;decide,by show (1 : Int)≤9999;decide⟩,⟨by show (1 : Int)≤(g.length : Nat);omega,by show ((g.length : Nat) : Int)≤5;omega⟩,⟨by show (1 : Int)≤1;decide,by show (1 : Int)≤1;decide⟩,by show (1 : Int)≤600;decide,?_,by show 0 ≤ 8;decide,?_,trivial⟩
 ·show (shD 0 g).length ≤ 10
  rw [shD_len];omega
 ·exact shD_rz (shB g) 0 g hg (by show ((0 : Nat) : Int) + _ ≤ ((g.length : Nat) : Int);omega) (by show ((g.length : Nat) : Int)≤5;omega)
theorem stp_shD (i : Nat) : ∀ (k : Nat) (g : List Int) (s : Sp),g[i - k]? = none∨i < k → (shD k g).foldl (stp i) s = s
 | k,[],s,_=>rfl
 | k,x::t,s,h=>by
  have hne : ¬ ((k : Nat) : Int)=i:=by
   rintro q
   have : k = i:=by omega
   subst this
   rcases h with h | h
   ·rw [Nat.sub_self] at h;cases h
   ·omega
  show (shD (k + 1) t).foldl (stp i) (stp i s ⟨k + 1,k,x,x⟩) = s
  have e : stp i s ⟨k + 1,k,x,x⟩ = s:=by unfold stp;rw [if_neg hne]
  rw [e]
  refine stp_shD i (k + 1) t s ?_
  rcases h with h | h
  ·by_cases q : i < k + 1
   ·exact .inr q
   ·refine .inl ?_
    rw [show i - k = (i - (k + 1)) + 1 by omega] at h
    exact h
  ·exact .inr (by omega)
theorem stp_shD' (i : Nat) : ∀ (k : Nat) (g : List Int) (s : Sp) (x : Int),k ≤ i → g[i - k]? = some x → s.lo ≤ x → x ≤ s.hi → (shD k g).foldl (stp i) s = pin x
 | k,[],s,x,_,h,_,_=>by cases h
 | k,y::t,s,x,hk,h,h1,h2=>by
  show (shD (k + 1) t).foldl (stp i) (stp i s ⟨k + 1,k,y,y⟩) = pin x
  by_cases q : k = i
  ·subst q
   rw [Nat.sub_self] at h
   obtain rfl : y = x:=Option.some.inj h
   have e : stp k s ⟨k + 1,k,y,y⟩ = pin y:=by
    unfold stp pin
    rw [if_pos rfl,Int.max_eq_right h1,Int.min_eq_right h2]
   rw [e]
   exact stp_shD k (k + 1) t (pin y) (.inr (by omega))
  ·have e : stp i s ⟨k + 1,k,y,y⟩ = s:=by
    unfold stp
    rw [if_neg (by show ¬ ((k : Nat) : Int)=i;omega)]
   rw [e]
   rw [show i - k = (i - (k + 1)) + 1 by omega] at h
   exact stp_shD' i (k + 1) t s x (by omega) h h1 h2
theorem gs_at {B : Bl} (hb : baleOk B) {i : Nat} (hi : i < B.layers.toNat) : (gsOf B)[i]? = some (gr1 B.draws i):=by
 rw [spAt_get (g:=gsOf B) (by rw [gsOf_len hb];exact hi),spAt_gs hi,gr1_eq hb.h5 hb.hd hi]
theorem gs_sh {g : List Int} (h1 : 1 ≤ g.length) (h5 : g.length ≤ 5) (hg : ∀ x ∈ g,1 ≤ x∧x ≤ 9) : gsOf (shB g)=g.map pin:=by
 have hb:=shB_ok h1 h5 hg
 have hn : (shB g).layers.toNat = g.length:=by show ((g.length : Nat) : Int).toNat = _;omega
 refine List.ext_getElem? fun i=>?_
 by_cases hi : i < g.length
 ·obtain ⟨x,hx⟩ : ∃ x,g[i]? = some x:=⟨_,List.getElem?_eq_getElem hi⟩
  have hxv:=hg x (List.mem_of_getElem? hx)
  rw [gs_at hb (by omega),List.getElem?_map,hx,Option.map_some]
  show some ((shD 0 g).foldl (stp i) ⟨1,9⟩) = _
  rw [stp_shD' i 0 g ⟨1,9⟩ x (Nat.zero_le _) hx hxv.1 hxv.2]
 ·rw [List.getElem?_eq_none (by rw [gsOf_len hb];omega),List.getElem?_eq_none (by rw [List.length_map];omega)]
theorem truths_sh {g : List Int} (h1 : 1 ≤ g.length) (h5 : g.length ≤ 5) (hg : ∀ x ∈ g,1 ≤ x∧x ≤ 9) : truthsB (shB g) = [g]:=by
 show exts (gsOf (shB g)) = [g]
 rw [gs_sh h1 h5 hg,exts_pin]
theorem can_sh {g : List Int} (h1 : 1 ≤ g.length) (h5 : g.length ≤ 5) (hg : ∀ x ∈ g,1 ≤ x∧x ≤ 9) : canB (shB g):=by
 refine ⟨?_,?_⟩
 ·intro s hs
  change s ∈ gsOf (shB g) at hs
  rw [gs_sh h1 h5 hg] at hs
  obtain ⟨x,_,rfl⟩:=List.mem_map.1 hs
  show ¬ x > x
  omega
 ·have e : okW (shB g) 1 = true:=decide_eq_true (fun x hx=>absurd hx List.not_mem_nil)
  have e2 : wts (shB g) = [1]:=by
   show wl (okW (shB g)) 1 1 = [1]
   show wl (okW (shB g)) 1 0++(if okW (shB g) (1 + ((0 : Nat) : Int)) = true then [1 + ((0 : Nat) : Int)] else []) = [1]
   rw [show (1 : Int) + ((0 : Nat) : Int)=1 from rfl,e]
   rfl
  rw [e2]
  decide
theorem nK_pin (g : List Int) : nKinds (g.map pin)=1:=by
 have h : hasK (g.map pin)=fun k=>decide (kindF g = k):=by
  funext k
  unfold hasK
  rw [exts_pin]
  show (decide (kindF g = k) || false)=_
  rw [Bool.or_false]
 unfold nKinds
 rw [h]
 rcases kindF_four g with q | q | q | q <;> rw [q] <;> rfl
theorem map_pin_set : ∀ (g : List Int) (j : Nat) (x : Int),g[j]? = some x → (g.map pin).set j (pin x)=g.map pin
 | [],_,_,h=>by cases h
 | y::t,0,x,h=>by cases h;rfl
 | y::t,j + 1,x,h=>by
  show pin y::(t.map pin).set j (pin x)=pin y::t.map pin
  rw [map_pin_set t j x h]
theorem leav_sh {g : List Int} (h1 : 1 ≤ g.length) (h5 : g.length ≤ 5) (hg : ∀ x ∈ g,1 ≤ x∧x ≤ 9) {j : Nat} (hj : j < g.length) : leavB (gradesOf (shB g)) g.length j = 1:=by
 have hb:=shB_ok h1 h5 hg
 have hn : (shB g).layers.toNat = g.length:=by show ((g.length : Nat) : Int).toNat = _;omega
 obtain ⟨x,hx⟩ : ∃ x,g[j]? = some x:=⟨_,List.getElem?_eq_getElem hj⟩
 have e1 : spAt (gradesOf (shB g)) j = pin x:=by
  rw [← spAt_gs (by omega),gs_sh h1 h5 hg]
  unfold spAt
  rw [List.getD_eq_getElem?_getD,List.getElem?_map,hx]
  rfl
 unfold leavB
 rw [e1]
 show leavT (gradesOf (shB g)) g.length j x (x - x + 1).toNat = 1
 rw [show (x - x + 1).toNat = 1 by omega]
 unfold leavT
 show max 0 (nKinds (((gradesOf (shB g)).set j ⟨x + ((0 : Nat) : Int),x + ((0 : Nat) : Int)⟩).take g.length) : Int)=1
 have e2 : ((gradesOf (shB g)).set j ⟨x + ((0 : Nat) : Int),x + ((0 : Nat) : Int)⟩).take g.length = g.map pin:=by
  rw [show x + ((0 : Nat) : Int)=x by omega,List.take_set]
  have e3 : (gradesOf (shB g)).take g.length = g.map pin:=by
   have:=gs_sh h1 h5 hg
   unfold gsOf at this
   rwa [hn] at this
  rw [e3]
  exact map_pin_set g j x hx
 rw [e2,nK_pin]
 rfl
theorem ask_sh {g : List Int} (h1 : 1 ≤ g.length) (h5 : g.length ≤ 5) (hg : ∀ x ∈ g,1 ≤ x∧x ≤ 9) : askB (shB g)=(0,1):=by
 have hn : (shB g).layers.toNat = g.length:=by show ((g.length : Nat) : Int).toNat = _;omega
 have h : ∀ j,j < g.length → askT (gradesOf (shB g)) g.length (j + 1)=(0,1):=by
  intro j
  induction j with
  | zero =>
   intro hj
   show (if (0 : Nat)=0∨_ then (((0 : Nat) : Int),leavB (gradesOf (shB g)) g.length 0) else _)=_
   rw [if_pos (.inl rfl),leav_sh h1 h5 hg hj]
   rfl
  | succ j ih =>
   intro hj
   show (if j + 1 = 0∨leavB (gradesOf (shB g)) g.length (j + 1)<(askT (gradesOf (shB g)) g.length (j + 1)).2 then _ else askT (gradesOf (shB g)) g.length (j + 1)) = _
   rw [ih (by omega),leav_sh h1 h5 hg hj,if_neg (by rintro (q | q) <;> revert q <;> simp)]
 unfold askB
 rw [hn]
 have:=h (g.length - 1) (by omega)
 rwa [show g.length - 1 + 1 = g.length by omega] at this
theorem few_nil {α : Type} (ok : List α → Bool) (l : List α) (k : Nat) (h : ok [] = true) : fewG ok l (k + 1) 0 = some []:=by
 show (match lonG ok l 0 [] with | some r=>some r | none=>fewG ok l k 1)=some []
 rw [lonG_zero,if_pos h]
theorem cut_sh {g : List Int} (h1 : 1 ≤ g.length) (h5 : g.length ≤ 5) (hg : ∀ x ∈ g,1 ≤ x∧x ≤ 9) : cutT (shB g).layers (truthsB (shB g)) = if kindF g = 2 then cutsF g else ⟨g.length,0⟩:=by
 rw [truths_sh h1 h5 hg]
 show cutStep ⟨g.length,0⟩ g = _
 unfold cutStep
 by_cases h : kindF g = 2
 ·rw [if_pos h,if_pos h]
  obtain ⟨_,q⟩:=kind_two.1 h
  obtain ⟨q1,q2⟩:=cuts_bd q
  have e1 : min (g.length : Int) (cutsF g).lo = (cutsF g).lo:=Int.min_eq_right (by omega)
  have e2 : max (0 : Int) (cutsF g).hi = (cutsF g).hi:=Int.max_eq_right (by omega)
  show (⟨min (g.length : Int) (cutsF g).lo,max 0 (cutsF g).hi⟩ : Sp)=cutsF g
  rw [e1,e2]
 ·rw [if_neg h,if_neg h]
set_option maxRecDepth 100000
theorem oE {B : Bl} {C : Ca} (hb : baleOk B) (hc : canB B) (hl : askL B C) (hk : askK C) (hw : askW B C) (hd : askD C) : openE B C = 0:=by
 unfold openE
 rw [if_pos hb,if_pos hl,if_pos hk,if_pos hw,if_pos hd,if_pos hc]
theorem okE : baleOk (balE []):=(refBale_iff _).1 (by simp [rz,rdOk,rwOk,refBale,balE,drE,wgE])
theorem okO : baleOk (balE oddD):=(refBale_iff _).1 (by simp [rz,rdOk,rwOk,refBale,balE,drE,wgE,oddD])
theorem wtsE : wts (balE []) = [441,442,443,444,445,446,447,448,449,450,451,452]:=by
 rw [← wts_eq okE.wg okE.hdry]
 kernel_rfl
theorem wtsO : wts (balE oddD) = [441,442,443,444,445,446,447,448,449,450,451,452]:=by
 rw [← wts_eq okO.wg okO.hdry]
 kernel_rfl
theorem gsE : gsOf (balE []) = [⟨3,3⟩,⟨3,6⟩,⟨1,9⟩,⟨3,4⟩]:=by kernel_rfl
theorem gsO : gsOf (balE oddD) = [⟨5,3⟩,⟨3,6⟩,⟨1,9⟩,⟨3,4⟩]:=by kernel_rfl
theorem canE : canB (balE []):=by
 refine ⟨?_,by rw [wtsE];decide⟩
 intro s hs
 change s ∈ gsOf (balE []) at hs
 rw [gsE] at hs
 simp only [List.mem_cons,List.not_mem_nil,or_false] at hs
 rcases hs with rfl | rfl | rfl | rfl <;> decide
theorem noO : ¬ canB (balE oddD):=by
 rintro ⟨h,_⟩
 have : (⟨5,3⟩ : Sp) ∈ gsOf (balE oddD):=by rw [gsO];exact List.mem_cons_self
 exact h _ this (by decide)
theorem oE0 : openE (balE []) ca0 = 0:=oE okE canE (fun _ h=>absurd h List.not_mem_nil) (fun _ h=>absurd h List.not_mem_nil) (fun _ h=>absurd h List.not_mem_nil) (fun _ h=>absurd h List.not_mem_nil)
theorem oEL {i : Int} (h : 0 ≤ i∧i ≤ 3) : openE (balE []) ⟨[i],[],[],[]⟩ = 0:=oE okE canE (fun n hn=>by rw [List.mem_singleton.1 hn];exact h) (fun _ h=>absurd h List.not_mem_nil) (fun _ h=>absurd h List.not_mem_nil) (fun _ h=>absurd h List.not_mem_nil)
theorem oEK {k : Int} (h : 1 ≤ k∧k ≤ 4) : openE (balE []) ⟨[],[k],[],[]⟩ = 0:=oE okE canE (fun _ h=>absurd h List.not_mem_nil) (fun n hn=>by rw [List.mem_singleton.1 hn];exact h) (fun _ h=>absurd h List.not_mem_nil) (fun _ h=>absurd h List.not_mem_nil)
theorem oEW {n : Int} (h : n = 1∨n = 2) : openE (balE []) (caN n)=0:=oE okE canE (fun _ h=>absurd h List.not_mem_nil) (fun _ h=>absurd h List.not_mem_nil) (fun m hm=>by rw [List.mem_singleton.1 hm];rcases h with rfl | rfl;exact List.mem_cons_self;exact List.mem_cons_of_mem _ List.mem_cons_self) (fun _ h=>absurd h List.not_mem_nil)
theorem oED {d : Int} (h : 0 ≤ d∧d ≤ 200) : openE (balE []) (caD d)=0:=oE okE canE (fun _ h=>absurd h List.not_mem_nil) (fun _ h=>absurd h List.not_mem_nil) (fun _ h=>absurd h List.not_mem_nil) (fun n hn=>by rw [List.mem_singleton.1 hn];exact h)
theorem vKinds : ((ofKind (truthsB (balE [])) 1,ofKind (truthsB (balE [])) 2),ofKind (truthsB (balE [])) 3,ofKind (truthsB (balE [])) 4)=((1,1),1,1):=by kernel_rfl
theorem vKind1 : ofKind (truthsB (balE [])) 1 = 1:=congrArg (fun x=>x.1.1) vKinds
theorem vKind3 : ofKind (truthsB (balE [])) 3 = 1:=congrArg (fun x=>x.2.1) vKinds
theorem vCutT : cutT 4 (truthsB (balE [])) = ⟨1,3⟩:=by kernel_rfl
theorem vCut : cutB (balE []) = (⟨1,3⟩,0):=by
 unfold cutB
 rw [if_pos oE0,show (balE []).layers = 4 from rfl,vCutT,if_neg (by decide)]
theorem vAsk : askB (balE []) = (2,3):=by
 unfold askB
 kernel_rfl
theorem vDry : dryOf (balE []) = ⟨441,452⟩:=by
 unfold dryOf
 rw [wtsE]
 rfl
theorem vWet1 : wetOf (balE []) ⟨1,480,60,90⟩ = ⟨62,90⟩:=by
 unfold wetOf
 rw [vDry]
 kernel_rfl
theorem vWet2 : wetOf (balE []) ⟨2,470,40,70⟩ = ⟨40,68⟩:=by
 unfold wetOf
 rw [vDry]
 kernel_rfl
theorem vAside {d : Int} : asideF (balE []) d = max (max 1 (knb (decide ((90 : Int) > d)) (decide ((62 : Int)≤d)))) (knb (decide ((68 : Int) > d)) (decide ((40 : Int)≤d))):=by
 unfold asideF
 rw [vKind1]
 show max (max (2 - 1) (damperOf (balE []) ⟨1,480,60,90⟩ d)) (damperOf (balE []) ⟨2,470,40,70⟩ d)=_
 unfold damperOf
 rw [vWet1,vWet2]
 rfl
theorem exD_nil (B : Bl) : outD B [] = B:=by
 unfold outD excDr
 rw [List.filter_eq_self.2 (fun e _=>by simp)]
theorem exW_nil (B : Bl) : outW B [] = B:=by
 unfold outW excWg
 rw [List.filter_eq_self.2 (fun e _=>by simp)]
theorem vDecT : decL (truthsB (balE [])) 4 = [1,2,3]:=by kernel_rfl
theorem vDecide : decideB (balE []) = [1,2,3]:=by
 unfold decideB lIf
 rw [if_pos oE0]
 exact vDecT
theorem vFewD : fewD (balE oddD)=some [⟨1,0,3,3⟩]:=by
 have h0 : okD (balE oddD) [] = false:=by
  unfold okD
  rw [exD_nil]
  exact decide_eq_false (fun h=>by
   have : (⟨5,3⟩ : Sp) ∈ gsOf (balE oddD):=by rw [gsO];exact List.mem_cons_self
   exact h _ this (by decide))
 have e1 : outD (balE oddD) [⟨1,0,3,3⟩] = ⟨1,4,400,500,[⟨2,3,3,4⟩,⟨3,1,3,6⟩,⟨4,0,5,6⟩],wgE⟩:=by
  unfold outD excDr
  simp [balE,drE,oddD]
 have h1 : okD (balE oddD) [⟨1,0,3,3⟩] = true:=by
  unfold okD
  rw [e1]
  refine decide_eq_true (fun s hs=>?_)
  have e : (gradesOf ⟨1,4,400,500,[⟨2,3,3,4⟩,⟨3,1,3,6⟩,⟨4,0,5,6⟩],wgE⟩).take (4 : Int).toNat = [⟨5,6⟩,⟨3,6⟩,⟨1,9⟩,⟨3,4⟩]:=by kernel_rfl
  change s ∈ (gradesOf ⟨1,4,400,500,[⟨2,3,3,4⟩,⟨3,1,3,6⟩,⟨4,0,5,6⟩],wgE⟩).take (4 : Int).toNat at hs
  rw [e] at hs
  simp only [List.mem_cons,List.not_mem_nil,or_false] at hs
  rcases hs with rfl | rfl | rfl | rfl <;> decide
 unfold fewD
 show few (okD (balE oddD)) [⟨1,0,3,3⟩,⟨2,3,3,4⟩,⟨3,1,3,6⟩,⟨4,0,5,6⟩] 4 0 = _
 simp [few,lon,h0,h1]
theorem vFewW : fewW (balE oddD)=some []:=by
 have h0 : okWt (balE oddD) [] = true:=by
  unfold okWt
  rw [exW_nil,wtsO]
  exact decide_eq_true (by decide)
 unfold fewW
 show few (okWt (balE oddD)) [⟨1,480,60,90⟩,⟨2,470,40,70⟩] 3 0 = _
 simp [few,lon,h0]
theorem vWrong : wrongF (balE oddD)=([1],[],0):=by
 unfold wrongF
 rw [if_pos okO,if_pos (by rw [vFewD,vFewW];exact ⟨rfl,rfl⟩),vFewD,vFewW]
 rfl
set_option maxRecDepth 10000
theorem X.gen {P : Program} {n : Nat} {c : Code} {F : FS} {H : List Row} {Q : QX} (k : ∀ G,G = H → X P n c F G Q) : X P n c F H Q:=k H rfl
theorem spIf_pos {p : Prop} [Decidable p] (h : p) (s : Sp) : spIf p s = s:=if_pos h
theorem uIf_pos {p : Prop} (h : p) (s : Int) : uIf p s = s:=if_pos h
theorem eqE (e : Sp) (w : World) : (Op.equalIn 10000 24 (.agg (cSp e).toArray) (.agg (cSp e).toArray)).run Tryz.prog w = .ok true w:=by
 rw [eqSp 9998,decide_eq_true rfl]
theorem intsT (l : List Int) (a a' : Option Addr) (c c' : Nat) (H : List Row) (hl : SlE H a cI 1 l) (hw : SlE H a' cI 1 l) (hb : l.length ≤ 1000) : Fc Tryz.prog 28 [.slice a l.length c,.slice a' l.length c'] H (fun v H' => v = .bool true∧H' = H):=by
 have:=ints_spec l l a a' c c' H hl hw hb
 rwa [decide_eq_true rfl] at this
theorem aLay (bn kn bw : Nat) (S : List Row) (h : BlOk S (balE []) ⟨some ⟨bn,0,none⟩,kn,some ⟨bw,0,none⟩,2⟩) : Fc Tryz.prog 12 [.agg (cBl (balE []) ⟨some ⟨bn,0,none⟩,kn,some ⟨bw,0,none⟩,2⟩).toArray,.int .i64 1] S (fun v H' => v = .tuple #[.agg (cSp ⟨3,6⟩).toArray,.int .i64 0]∧H' = S):=by
 have:=klayer_spec (balE []) ⟨some ⟨bn,0,none⟩,kn,some ⟨bw,0,none⟩,2⟩ 1 S h
 rw [spIf_pos (oEL (by decide)),oEL (by decide),show spAt (gradesOf (balE [])) (1 : Int).toNat = ⟨3,6⟩ from by kernel_rfl] at this
 exact this
theorem aBst (bn kn bw : Nat) (S : List Row) (h : BlOk S (balE []) ⟨some ⟨bn,0,none⟩,kn,some ⟨bw,0,none⟩,2⟩) : Fc Tryz.prog 33 [.agg (cBl (balE []) ⟨some ⟨bn,0,none⟩,kn,some ⟨bw,0,none⟩,2⟩).toArray] S (fun v H' => v = .tuple #[.agg (cSp ⟨1,3⟩).toArray,.int .i64 0]∧H' = S):=by
 have:=kbest_spec (balE []) ⟨some ⟨bn,0,none⟩,kn,some ⟨bw,0,none⟩,2⟩ S h
 rw [spIf_pos oE0,oE0,show bestF ((gradesOf (balE [])).take (balE []).layers.toNat) (spAt (gradesOf (balE [])) 0) = ⟨1,3⟩ from by kernel_rfl] at this
 exact this
theorem aWor (bn kn bw : Nat) (S : List Row) (h : BlOk S (balE []) ⟨some ⟨bn,0,none⟩,kn,some ⟨bw,0,none⟩,2⟩) : Fc Tryz.prog 34 [.agg (cBl (balE []) ⟨some ⟨bn,0,none⟩,kn,some ⟨bw,0,none⟩,2⟩).toArray] S (fun v H' => v = .tuple #[.agg (cSp ⟨3,9⟩).toArray,.int .i64 0]∧H' = S):=by
 have:=kworst_spec (balE []) ⟨some ⟨bn,0,none⟩,kn,some ⟨bw,0,none⟩,2⟩ S h
 rw [spIf_pos oE0,oE0,show worstF ((gradesOf (balE [])).take (balE []).layers.toNat) (spAt (gradesOf (balE [])) 0) = ⟨3,9⟩ from by kernel_rfl] at this
 exact this
theorem aKin (bn kn bw : Nat) (S : List Row) (h : BlOk S (balE []) ⟨some ⟨bn,0,none⟩,kn,some ⟨bw,0,none⟩,2⟩) : Fc Tryz.prog 18 [.agg (cBl (balE []) ⟨some ⟨bn,0,none⟩,kn,some ⟨bw,0,none⟩,2⟩).toArray,.int .i64 3] S (fun v H' => v = .tuple #[.int .u8 1,.int .i64 0]∧H' = S):=by
 have:=kKind_spec (balE []) ⟨some ⟨bn,0,none⟩,kn,some ⟨bw,0,none⟩,2⟩ 3 S h
 rw [uIf_pos (oEK (by decide)),oEK (by decide),vKind3] at this
 exact this
theorem aCut (bn kn bw : Nat) (S : List Row) (h : BlOk S (balE []) ⟨some ⟨bn,0,none⟩,kn,some ⟨bw,0,none⟩,2⟩) : Fc Tryz.prog 22 [.agg (cBl (balE []) ⟨some ⟨bn,0,none⟩,kn,some ⟨bw,0,none⟩,2⟩).toArray] S (fun v H' => v = .tuple #[.agg (cSp ⟨1,3⟩).toArray,.int .i64 0]∧H' = S):=by
 have:=kCut_spec (balE []) ⟨some ⟨bn,0,none⟩,kn,some ⟨bw,0,none⟩,2⟩ S h
 rw [vCut] at this
 exact this
theorem aAsk (bn kn bw : Nat) (S : List Row) (h : BlOk S (balE []) ⟨some ⟨bn,0,none⟩,kn,some ⟨bw,0,none⟩,2⟩) : Fc Tryz.prog 46 [.agg (cBl (balE []) ⟨some ⟨bn,0,none⟩,kn,some ⟨bw,0,none⟩,2⟩).toArray] S (fun v H' => v = .tuple #[.int .i64 2,.int .i64 3,.int .i64 0]∧H' = S):=by
 have:=kAsk_spec (balE []) ⟨some ⟨bn,0,none⟩,kn,some ⟨bw,0,none⟩,2⟩ S h
 rw [uIf_pos oE0,uIf_pos oE0,oE0,vAsk] at this
 exact this
theorem aDec (bn kn bw : Nat) (S : List Row) (h : BlOk S (balE []) ⟨some ⟨bn,0,none⟩,kn,some ⟨bw,0,none⟩,2⟩) : Fc Tryz.prog 41 [.agg (cBl (balE []) ⟨some ⟨bn,0,none⟩,kn,some ⟨bw,0,none⟩,2⟩).toArray] S (fun v H' => ∃ b q,v = .tuple #[.slice (some ⟨b,0,none⟩) 3 q,.int .i64 0]∧H' = ⟨b,0,[1,2,3].flatMap cI,some 3,q * 1⟩::S):=by
 refine (kDecide_spec (balE []) ⟨some ⟨bn,0,none⟩,kn,some ⟨bw,0,none⟩,2⟩ S h).mono fun v H' q=>?_
 rw [vDecide,oE0] at q
 obtain ⟨out,Z,h1,rfl,rfl⟩:=q
 rcases h1 with ⟨h1,_,_⟩ | ⟨b,q,rfl,rfl⟩
 ·cases h1
 ·exact ⟨b,q,rfl,rfl⟩
theorem aDry (bn kn bw : Nat) (S : List Row) (h : BlOk S (balE []) ⟨some ⟨bn,0,none⟩,kn,some ⟨bw,0,none⟩,2⟩) : Fc Tryz.prog 36 [.agg (cBl (balE []) ⟨some ⟨bn,0,none⟩,kn,some ⟨bw,0,none⟩,2⟩).toArray] S (fun v H' => v = .tuple #[.agg (cSp ⟨441,452⟩).toArray,.int .i64 0]∧H' = S):=by
 have:=kdry_spec (balE []) ⟨some ⟨bn,0,none⟩,kn,some ⟨bw,0,none⟩,2⟩ S h
 rw [spIf_pos oE0,oE0,vDry] at this
 exact this
theorem aWet (bn kn bw : Nat) (S : List Row) (h : BlOk S (balE []) ⟨some ⟨bn,0,none⟩,kn,some ⟨bw,0,none⟩,2⟩) : Fc Tryz.prog 14 [.agg (cBl (balE []) ⟨some ⟨bn,0,none⟩,kn,some ⟨bw,0,none⟩,2⟩).toArray,.int .i64 1] S (fun v H' => v = .tuple #[.agg (cSp ⟨62,90⟩).toArray,.int .i64 0]∧H' = S):=by
 have:=kWet_spec (balE []) ⟨some ⟨bn,0,none⟩,kn,some ⟨bw,0,none⟩,2⟩ 1 S h
 rw [spIf_pos (oEW (.inl rfl)),oEW (.inl rfl),show numW (balE []).weighs 1 = ⟨1,480,60,90⟩ from by kernel_rfl,vWet1] at this
 exact this
theorem aKno (bn kn bw : Nat) (S : List Row) (h : BlOk S (balE []) ⟨some ⟨bn,0,none⟩,kn,some ⟨bw,0,none⟩,2⟩) : Fc Tryz.prog 15 [.agg (cBl (balE []) ⟨some ⟨bn,0,none⟩,kn,some ⟨bw,0,none⟩,2⟩).toArray,.int .i64 1,.int .i64 61] S (fun v H' => v = .tuple #[.int .u8 2,.int .i64 0]∧H' = S):=by
 have:=kKnown_spec (balE []) ⟨some ⟨bn,0,none⟩,kn,some ⟨bw,0,none⟩,2⟩ 1 61 S h
 rw [uIf_pos (oEW (.inl rfl)),oEW (.inl rfl),show numW (balE []).weighs 1 = ⟨1,480,60,90⟩ from by kernel_rfl,show damperOf (balE []) ⟨1,480,60,90⟩ 61 = 2 from by unfold damperOf;rw [vWet1];rfl] at this
 exact this
theorem aPay (bn kn bw : Nat) (S : List Row) (h : BlOk S (balE []) ⟨some ⟨bn,0,none⟩,kn,some ⟨bw,0,none⟩,2⟩) : Fc Tryz.prog 23 [.agg (cBl (balE []) ⟨some ⟨bn,0,none⟩,kn,some ⟨bw,0,none⟩,2⟩).toArray,.int .i64 85] S (fun v H' => v = .tuple #[.agg (cSp ⟨478,490⟩).toArray,.int .i64 0]∧H' = S):=by
 have:=kPays_spec (balE []) ⟨some ⟨bn,0,none⟩,kn,some ⟨bw,0,none⟩,2⟩ 85 S h
 rw [spIf_pos (oED (by decide)),oED (by decide),vDry,show payF ⟨441,452⟩ 85 = ⟨478,490⟩ from by kernel_rfl] at this
 exact this
theorem aAsi (bn kn bw : Nat) (S : List Row) (h : BlOk S (balE []) ⟨some ⟨bn,0,none⟩,kn,some ⟨bw,0,none⟩,2⟩) : Fc Tryz.prog 16 [.agg (cBl (balE []) ⟨some ⟨bn,0,none⟩,kn,some ⟨bw,0,none⟩,2⟩).toArray,.int .i64 90] S (fun v H' => v = .tuple #[.int .u8 1,.int .i64 0]∧H' = S):=by
 have:=kAside_spec (balE []) ⟨some ⟨bn,0,none⟩,kn,some ⟨bw,0,none⟩,2⟩ 90 S h
 rw [uIf_pos (oED (by decide)),oED (by decide),vAside,show max (max 1 (knb (decide ((90 : Int) > 90)) (decide ((62 : Int)≤90)))) (knb (decide ((68 : Int) > 90)) (decide ((40 : Int)≤90))) = 1 from by decide] at this
 exact this
theorem aCan (bn kn bw : Nat) (S : List Row) (h : BlOk S (balE oddD) ⟨some ⟨bn,0,none⟩,kn,some ⟨bw,0,none⟩,2⟩) : Fc Tryz.prog 39 [.agg (cBl (balE oddD) ⟨some ⟨bn,0,none⟩,kn,some ⟨bw,0,none⟩,2⟩).toArray] S (fun v H' => v = .tuple #[.bool false,.int .i64 0]∧H' = S):=by
 have:=kcan_spec (balE oddD) ⟨some ⟨bn,0,none⟩,kn,some ⟨bw,0,none⟩,2⟩ S h
 rw [decide_eq_false (fun q=>noO q.2),if_pos okO] at this
 exact this
theorem aWrg (bn kn bw : Nat) (S : List Row) (h : BlOk S (balE oddD) ⟨some ⟨bn,0,none⟩,kn,some ⟨bw,0,none⟩,2⟩) : Fc Tryz.prog 27 [.agg (cBl (balE oddD) ⟨some ⟨bn,0,none⟩,kn,some ⟨bw,0,none⟩,2⟩).toArray] S (fun v H' => ∃ a1 c1 a2 c2 Z,v = .tuple #[.slice a1 1 c1,.slice a2 0 c2,.int .i64 0]∧SlE (Z++S) a1 cI 1 [1]∧SlE (Z++S) a2 cI 1 []∧H' = Z++S):=by
 have:=kwrong_spec (balE oddD) ⟨bn,0,none⟩ kn ⟨bw,0,none⟩ 2 S h
 rw [vWrong] at this
 exact this
theorem lit3 : fillL (fun i=>some (i * 1,1)) ((Array.range (3 * 1)).map (fun x=>(Value.int .i64 0).cells[x % (Value.int .i64 0).cells.size]!)).toList [(0,.int .i64 1),(1,.int .i64 2),(2,.int .i64 3)] = some [.int .i64 1,.int .i64 2,.int .i64 3]:=by kernel_rfl
def tsKal : List TOp:=[⟨some 57,[],[],[]⟩,⟨some 58,[0],[0],[]⟩,⟨some 59,[0,1],[1],[]⟩,⟨some 60,[0,1,2],[],[]⟩,⟨some 61,[0,1,2],[],[]⟩,⟨some 62,[0,1,2,3,4],[3,4],[]⟩,⟨some 63,[0,1,2,3,4,5],[2,5],[]⟩,⟨some 64,[0,1,2,3,4,5,6],[6],[]⟩,⟨some 65,[0,1,2,3,4,5,6,7],[],[]⟩,⟨some 66,[0,1,2,3,4,5,6,7,8],[8],[]⟩,⟨some 67,[0,1,2,3,4,5,6,7,8,9],[7,9],[]⟩,⟨some 68,[0,1,2,3,4,5,6,7,8,9,10],[10],[]⟩,⟨some 69,[0,1,2,3,4,5,6,7,8,9,10,11],[],[]⟩,⟨some 70,[0,1,2,3,4,5,6,7,8,9,10,11],[],[]⟩,⟨some 71,[0,1,2,3,4,5,6,7,8,9,10,11,12,13],[12,13],[]⟩,⟨some 72,[0,1,2,3,4,5,6,7,8,9,10,11,12,13,14],[11,14],[]⟩,⟨some 73,[0,1,2,3,4,5,6,7,8,9,10,11,12,13,14,15],[15],[]⟩,⟨some 74,[0,1,2,3,4,5,6,7,8,9,10,11,12,13,14,15,16],[],[]⟩,⟨some 75,[0,1,2,3,4,5,6,7,8,9,10,11,12,13,14,15,16,17],[17],[]⟩,⟨some 76,[0,1,2,3,4,5,6,7,8,9,10,11,12,13,14,15,16,17,18],[16,18],[]⟩,⟨some 77,[0,1,2,3,4,5,6,7,8,9,10,11,12,13,14,15,16,17,18,19],[19],[]⟩,⟨some 78,[0,1,2,3,4,5,6,7,8,9,10,11,12,13,14,15,16,17,18,19,20],[],[]⟩,⟨some 79,[0,1,2,3,4,5,6,7,8,9,10,11,12,13,14,15,16,17,18,19,20],[],[]⟩,⟨some 80,[0,1,2,3,4,5,6,7,8,9,10,11,12,13,14,15,16,17,18,19,20,21,22],[21,22],[]⟩,⟨some 81,[0,1,2,3,4,5,6,7,8,9,10,11,12,13,14,15,16,17,18,19,20,21,22,23],[20,23],[]⟩,⟨some 82,[0,1,2,3,4,5,6,7,8,9,10,11,12,13,14,15,16,17,18,19,20,21,22,23,24],[24],[]⟩,⟨some 83,[0,1,2,3,4,5,6,7,8,9,10,11,12,13,14,15,16,17,18,19,20,21,22,23,24,25],[],[]⟩,⟨some 84,[0,1,2,3,4,5,6,7,8,9,10,11,12,13,14,15,16,17,18,19,20,21,22,23,24,25,26],[26],[]⟩,⟨some 85,[0,1,2,3,4,5,6,7,8,9,10,11,12,13,14,15,16,17,18,19,20,21,22,23,24,25,26,27],[25,27],[]⟩,⟨some 86,[0,1,2,3,4,5,6,7,8,9,10,11,12,13,14,15,16,17,18,19,20,21,22,23,24,25,26,27,28],[28],[]⟩,⟨some 87,[0,1,2,3,4,5,6,7,8,9,10,11,12,13,14,15,16,17,18,19,20,21,22,23,24,25,26,27,28,29],[],[]⟩,⟨some 88,[0,1,2,3,4,5,6,7,8,9,10,11,12,13,14,15,16,17,18,19,20,21,22,23,24,25,26,27,28,29,30],[30],[]⟩,⟨some 89,[0,1,2,3,4,5,6,7,8,9,10,11,12,13,14,15,16,17,18,19,20,21,22,23,24,25,26,27,28,29,30,31],[29,31],[]⟩,⟨some 90,[0,1,2,3,4,5,6,7,8,9,10,11,12,13,14,15,16,17,18,19,20,21,22,23,24,25,26,27,28,29,30,31,32],[32],[]⟩,⟨some 91,[0,1,2,3,4,5,6,7,8,9,10,11,12,13,14,15,16,17,18,19,20,21,22,23,24,25,26,27,28,29,30,31,32,33],[],[]⟩,⟨some 92,[0,1,2,3,4,5,6,7,8,9,10,11,12,13,14,15,16,17,18,19,20,21,22,23,24,25,26,27,28,29,30,31,32,33,34],[34],[]⟩,⟨some 93,[0,1,2,3,4,5,6,7,8,9,10,11,12,13,14,15,16,17,18,19,20,21,22,23,24,25,26,27,28,29,30,31,32,33,34,35],[33,35],[]⟩,⟨some 94,[0,1,2,3,4,5,6,7,8,9,10,11,12,13,14,15,16,17,18,19,20,21,22,23,24,25,26,27,28,29,30,31,32,33,34,35,36],[36],[]⟩,⟨some 95,[0,1,2,3,4,5,6,7,8,9,10,11,12,13,14,15,16,17,18,19,20,21,22,23,24,25,26,27,28,29,30,31,32,33,34,35,36,37],[],[]⟩,⟨some 96,[0,1,2,3,4,5,6,7,8,9,10,11,12,13,14,15,16,17,18,19,20,21,22,23,24,25,26,27,28,29,30,31,32,33,34,35,36,37],[],[]⟩,⟨some 97,[0,1,2,3,4,5,6,7,8,9,10,11,12,13,14,15,16,17,18,19,20,21,22,23,24,25,26,27,28,29,30,31,32,33,34,35,36,37,38,39],[38,39],[]⟩,⟨some 98,[0,1,2,3,4,5,6,7,8,9,10,11,12,13,14,15,16,17,18,19,20,21,22,23,24,25,26,27,28,29,30,31,32,33,34,35,36,37,38,39,40],[37,40],[]⟩,⟨some 99,[0,1,2,3,4,5,6,7,8,9,10,11,12,13,14,15,16,17,18,19,20,21,22,23,24,25,26,27,28,29,30,31,32,33,34,35,36,37,38,39,40,41],[41],[]⟩,⟨some 100,[0,1,2,3,4,5,6,7,8,9,10,11,12,13,14,15,16,17,18,19,20,21,22,23,24,25,26,27,28,29,30,31,32,33,34,35,36,37,38,39,40,41,42],[],[]⟩,⟨some 101,[0,1,2,3,4,5,6,7,8,9,10,11,12,13,14,15,16,17,18,19,20,21,22,23,24,25,26,27,28,29,30,31,32,33,34,35,36,37,38,39,40,41,42,43],[43],[]⟩,⟨some 102,[0,1,2,3,4,5,6,7,8,9,10,11,12,13,14,15,16,17,18,19,20,21,22,23,24,25,26,27,28,29,30,31,32,33,34,35,36,37,38,39,40,41,42,43,44],[42,44],[]⟩,⟨some 103,[0,1,2,3,4,5,6,7,8,9,10,11,12,13,14,15,16,17,18,19,20,21,22,23,24,25,26,27,28,29,30,31,32,33,34,35,36,37,38,39,40,41,42,43,44,45],[45],[]⟩,⟨some 104,[0,1,2,3,4,5,6,7,8,9,10,11,12,13,14,15,16,17,18,19,20,21,22,23,24,25,26,27,28,29,30,31,32,33,34,35,36,37,38,39,40,41,42,43,44,45,46],[],[]⟩,⟨some 105,[0,1,2,3,4,5,6,7,8,9,10,11,12,13,14,15,16,17,18,19,20,21,22,23,24,25,26,27,28,29,30,31,32,33,34,35,36,37,38,39,40,41,42,43,44,45,46,47],[47],[]⟩,⟨some 106,[0,1,2,3,4,5,6,7,8,9,10,11,12,13,14,15,16,17,18,19,20,21,22,23,24,25,26,27,28,29,30,31,32,33,34,35,36,37,38,39,40,41,42,43,44,45,46,47,48],[46,48],[]⟩,⟨some 107,[0,1,2,3,4,5,6,7,8,9,10,11,12,13,14,15,16,17,18,19,20,21,22,23,24,25,26,27,28,29,30,31,32,33,34,35,36,37,38,39,40,41,42,43,44,45,46,47,48,49],[49],[]⟩,⟨some 108,[0,1,2,3,4,5,6,7,8,9,10,11,12,13,14,15,16,17,18,19,20,21,22,23,24,25,26,27,28,29,30,31,32,33,34,35,36,37,38,39,40,41,42,43,44,45,46,47,48,49,50],[],[]⟩,⟨some 109,[0,1,2,3,4,5,6,7,8,9,10,11,12,13,14,15,16,17,18,19,20,21,22,23,24,25,26,27,28,29,30,31,32,33,34,35,36,37,38,39,40,41,42,43,44,45,46,47,48,49,50,51],[51],[]⟩,⟨some 110,[0,1,2,3,4,5,6,7,8,9,10,11,12,13,14,15,16,17,18,19,20,21,22,23,24,25,26,27,28,29,30,31,32,33,34,35,36,37,38,39,40,41,42,43,44,45,46,47,48,49,50,51,52],[50,52],[]⟩,⟨some 111,[0,1,2,3,4,5,6,7,8,9,10,11,12,13,14,15,16,17,18,19,20,21,22,23,24,25,26,27,28,29,30,31,32,33,34,35,36,37,38,39,40,41,42,43,44,45,46,47,48,49,50,51,52,53],[53],[]⟩,⟨some 112,[0,1,2,3,4,5,6,7,8,9,10,11,12,13,14,15,16,17,18,19,20,21,22,23,24,25,26,27,28,29,30,31,32,33,34,35,36,37,38,39,40,41,42,43,44,45,46,47,48,49,50,51,52,53,54],[],[]⟩,⟨some 113,[0,1,2,3,4,5,6,7,8,9,10,11,12,13,14,15,16,17,18,19,20,21,22,23,24,25,26,27,28,29,30,31,32,33,34,35,36,37,38,39,40,41,42,43,44,45,46,47,48,49,50,51,52,53,54,55],[55],[]⟩,⟨some 114,[0,1,2,3,4,5,6,7,8,9,10,11,12,13,14,15,16,17,18,19,20,21,22,23,24,25,26,27,28,29,30,31,32,33,34,35,36,37,38,39,40,41,42,43,44,45,46,47,48,49,50,51,52,53,54,55,56],[54,56],[]⟩,⟨some 115,[0,1,2,3,4,5,6,7,8,9,10,11,12,13,14,15,16,17,18,19,20,21,22,23,24,25,26,27,28,29,30,31,32,33,34,35,36,37,38,39,40,41,42,43,44,45,46,47,48,49,50,51,52,53,54,55,56,57],[57],[]⟩,⟨some 116,[0,1,2,3,4,5,6,7,8,9,10,11,12,13,14,15,16,17,18,19,20,21,22,23,24,25,26,27,28,29,30,31,32,33,34,35,36,37,38,39,40,41,42,43,44,45,46,47,48,49,50,51,52,53,54,55,56,57,58],[],[]⟩,⟨some 117,[0,1,2,3,4,5,6,7,8,9,10,11,12,13,14,15,16,17,18,19,20,21,22,23,24,25,26,27,28,29,30,31,32,33,34,35,36,37,38,39,40,41,42,43,44,45,46,47,48,49,50,51,52,53,54,55,56,57,58],[],[]⟩,⟨some 118,[0,1,2,3,4,5,6,7,8,9,10,11,12,13,14,15,16,17,18,19,20,21,22,23,24,25,26,27,28,29,30,31,32,33,34,35,36,37,38,39,40,41,42,43,44,45,46,47,48,49,50,51,52,53,54,55,56,57,58,59,60],[59,60],[60]⟩,⟨some 119,[0,1,2,3,4,5,6,7,8,9,10,11,12,13,14,15,16,17,18,19,20,21,22,23,24,25,26,27,28,29,30,31,32,33,34,35,36,37,38,39,40,41,42,43,44,45,46,47,48,49,50,51,52,53,54,55,56,57,58,59,60,61],[61],[]⟩,⟨some 120,[0,1,2,3,4,5,6,7,8,9,10,11,12,13,14,15,16,17,18,19,20,21,22,23,24,25,26,27,28,29,30,31,32,33,34,35,36,37,38,39,40,41,42,43,44,45,46,47,48,49,50,51,52,53,54,55,56,57,58,59,60,61,62],[58,62],[]⟩]
def valKal (b1 b3 b5 b9 b14 q14 : Nat) (k : Nat) (env : Env) : Value :=
 match k with
 | 0 => .int .i64 0
 | 1 => .bool false
 | 2 => .bool false
 | 3=>gt (false) (.agg (cSp ⟨3,6⟩).toArray)
 | 4=>gt (false) (.agg (cSp ⟨3,6⟩).toArray)
 | 5=>gt (false) (.bool false)
 | 6 => .bool false
 | 7 => .bool false
 | 8=>gt (false) (.int .i64 0)
 | 9=>gt (false) (.bool false)
 | 10 => .bool false
 | 11 => .bool false
 | 12=>gt (false) (.agg (cSp ⟨1,3⟩).toArray)
 | 13=>gt (false) (.agg (cSp ⟨1,3⟩).toArray)
 | 14=>gt (false) (.bool false)
 | 15 => .bool false
 | 16 => .bool false
 | 17=>gt (false) (.int .i64 0)
 | 18=>gt (false) (.bool false)
 | 19 => .bool false
 | 20 => .bool false
 | 21=>gt (false) (.agg (cSp ⟨3,9⟩).toArray)
 | 22=>gt (false) (.agg (cSp ⟨3,9⟩).toArray)
 | 23=>gt (false) (.bool false)
 | 24 => .bool false
 | 25 => .bool false
 | 26=>gt (false) (.int .i64 0)
 | 27=>gt (false) (.bool false)
 | 28 => .bool false
 | 29 => .bool false
 | 30=>gt (false) (.int .u8 1)
 | 31=>gt (false) (.bool false)
 | 32 => .bool false
 | 33 => .bool false
 | 34=>gt (false) (.int .i64 0)
 | 35=>gt (false) (.bool false)
 | 36 => .bool false
 | 37 => .bool false
 | 38=>gt (false) (.agg (cSp ⟨1,3⟩).toArray)
 | 39=>gt (false) (.agg (cSp ⟨1,3⟩).toArray)
 | 40=>gt (false) (.bool false)
 | 41 => .bool false
 | 42 => .bool false
 | 43=>gt (false) (.int .i64 0)
 | 44=>gt (false) (.bool false)
 | 45 => .bool false
 | 46 => .bool false
 | 47=>gt (false) (.int .i64 2)
 | 48=>gt (false) (.bool false)
 | 49 => .bool false
 | 50 => .bool false
 | 51=>gt (false) (.int .i64 3)
 | 52=>gt (false) (.bool false)
 | 53 => .bool false
 | 54 => .bool false
 | 55=>gt (false) (.int .i64 0)
 | 56=>gt (false) (.bool false)
 | 57 => .bool false
 | 58 => .bool false
 | 59=>gt (false) (.slice (some ⟨b14,0,none⟩) 3 q14)
 | 60=>gt (false) (.slice (some ⟨(env 60).1,0,none⟩) 3 3)
 | 61=>gt (false) (.bool true)
 | 62=>gt (false) (.bool false)
 | 63 => .bool false
 | _=>undef
def rowsKal (b1 b3 b5 b9 b14 q14 : Nat) (k : Nat) (env : Env) : List Row :=
 match k with
 | 60=>gr (false) [⟨(env 60).1,0,[.int .i64 1,.int .i64 2,.int .i64 3],some 3,3 * 1⟩]
 | _=>[]
theorem locKal (b1 b3 b5 b9 b14 q14 : Nat) : ∀ k env i q9,i ≠ k → (tAt tsKal k).sup.contains i = false → valKal b1 b3 b5 b9 b14 q14 k (upd env i q9)=valKal b1 b3 b5 b9 b14 q14 k env∧rowsKal b1 b3 b5 b9 b14 q14 k (upd env i q9)=rowsKal b1 b3 b5 b9 b14 q14 k env:=by
 intro k env i q hk hs
 have hu : ∀ j,j ≠ i → upd env i q j = env j:=fun j hj=>by unfold upd;rw [if_neg hj]
 match k,hk,hs with
 | 0,_,_=>exact ⟨rfl,rfl⟩
 | 1,_,_=>exact ⟨rfl,rfl⟩
 | 2,_,_=>exact ⟨rfl,rfl⟩
 | 3,_,_=>exact ⟨rfl,rfl⟩
 | 4,_,_=>exact ⟨rfl,rfl⟩
 | 5,_,_=>exact ⟨rfl,rfl⟩
 | 6,_,_=>exact ⟨rfl,rfl⟩
 | 7,_,_=>exact ⟨rfl,rfl⟩
 | 8,_,_=>exact ⟨rfl,rfl⟩
 | 9,_,_=>exact ⟨rfl,rfl⟩
 | 10,_,_=>exact ⟨rfl,rfl⟩
 | 11,_,_=>exact ⟨rfl,rfl⟩
 | 12,_,_=>exact ⟨rfl,rfl⟩
 | 13,_,_=>exact ⟨rfl,rfl⟩
 | 14,_,_=>exact ⟨rfl,rfl⟩
 | 15,_,_=>exact ⟨rfl,rfl⟩
 | 16,_,_=>exact ⟨rfl,rfl⟩
 | 17,_,_=>exact ⟨rfl,rfl⟩
 | 18,_,_=>exact ⟨rfl,rfl⟩
 | 19,_,_=>exact ⟨rfl,rfl⟩
 | 20,_,_=>exact ⟨rfl,rfl⟩
 | 21,_,_=>exact ⟨rfl,rfl⟩
 | 22,_,_=>exact ⟨rfl,rfl⟩
 | 23,_,_=>exact ⟨rfl,rfl⟩
 | 24,_,_=>exact ⟨rfl,rfl⟩
 | 25,_,_=>exact ⟨rfl,rfl⟩
 | 26,_,_=>exact ⟨rfl,rfl⟩
 | 27,_,_=>exact ⟨rfl,rfl⟩
 | 28,_,_=>exact ⟨rfl,rfl⟩
 | 29,_,_=>exact ⟨rfl,rfl⟩
 | 30,_,_=>exact ⟨rfl,rfl⟩
 | 31,_,_=>exact ⟨rfl,rfl⟩
 | 32,_,_=>exact ⟨rfl,rfl⟩
 | 33,_,_=>exact ⟨rfl,rfl⟩
 | 34,_,_=>exact ⟨rfl,rfl⟩
 | 35,_,_=>exact ⟨rfl,rfl⟩
 | 36,_,_=>exact ⟨rfl,rfl⟩
 | 37,_,_=>exact ⟨rfl,rfl⟩
 | 38,_,_=>exact ⟨rfl,rfl⟩
 | 39,_,_=>exact ⟨rfl,rfl⟩
 | 40,_,_=>exact ⟨rfl,rfl⟩
 | 41,_,_=>exact ⟨rfl,rfl⟩
 | 42,_,_=>exact ⟨rfl,rfl⟩
 | 43,_,_=>exact ⟨rfl,rfl⟩
 | 44,_,_=>exact ⟨rfl,rfl⟩
 | 45,_,_=>exact ⟨rfl,rfl⟩
 | 46,_,_=>exact ⟨rfl,rfl⟩
 | 47,_,_=>exact ⟨rfl,rfl⟩
 | 48,_,_=>exact ⟨rfl,rfl⟩
 | 49,_,_=>exact ⟨rfl,rfl⟩
 | 50,_,_=>exact ⟨rfl,rfl⟩
 | 51,_,_=>exact ⟨rfl,rfl⟩
 | 52,_,_=>exact ⟨rfl,rfl⟩
 | 53,_,_=>exact ⟨rfl,rfl⟩
 | 54,_,_=>exact ⟨rfl,rfl⟩
 | 55,_,_=>exact ⟨rfl,rfl⟩
 | 56,_,_=>exact ⟨rfl,rfl⟩
 | 57,_,_=>exact ⟨rfl,rfl⟩
 | 58,_,_=>exact ⟨rfl,rfl⟩
 | 59,_,_=>exact ⟨rfl,rfl⟩
 | 60,hk,hs=>exact ⟨by simp only [valKal,hu 60 (fun e=>hk e.symm)],by simp only [rowsKal,hu 60 (fun e=>hk e.symm)]⟩
 | 61,_,_=>exact ⟨rfl,rfl⟩
 | 62,_,_=>exact ⟨rfl,rfl⟩
 | 63,_,_=>exact ⟨rfl,rfl⟩
 | _ + 64,_,_=>exact ⟨rfl,rfl⟩
def tsKbl : List TOp:=[⟨some 157,[],[],[]⟩,⟨some 158,[0],[0],[]⟩,⟨some 159,[0,1],[1],[]⟩,⟨some 160,[0,1,2],[],[]⟩,⟨some 161,[0,1,2],[],[]⟩,⟨some 162,[0,1,2,3,4],[3,4],[]⟩,⟨some 163,[0,1,2,3,4,5],[2,5],[]⟩,⟨some 164,[0,1,2,3,4,5,6],[6],[]⟩,⟨some 165,[0,1,2,3,4,5,6,7],[],[]⟩,⟨some 166,[0,1,2,3,4,5,6,7,8],[8],[]⟩,⟨some 167,[0,1,2,3,4,5,6,7,8,9],[7,9],[]⟩,⟨some 168,[0,1,2,3,4,5,6,7,8,9,10],[10],[]⟩,⟨some 169,[0,1,2,3,4,5,6,7,8,9,10,11],[],[]⟩,⟨some 170,[0,1,2,3,4,5,6,7,8,9,10,11],[],[]⟩,⟨some 171,[0,1,2,3,4,5,6,7,8,9,10,11,12,13],[12,13],[]⟩,⟨some 172,[0,1,2,3,4,5,6,7,8,9,10,11,12,13,14],[11,14],[]⟩,⟨some 173,[0,1,2,3,4,5,6,7,8,9,10,11,12,13,14,15],[15],[]⟩,⟨some 174,[0,1,2,3,4,5,6,7,8,9,10,11,12,13,14,15,16],[],[]⟩,⟨some 175,[0,1,2,3,4,5,6,7,8,9,10,11,12,13,14,15,16,17],[17],[]⟩,⟨some 176,[0,1,2,3,4,5,6,7,8,9,10,11,12,13,14,15,16,17,18],[16,18],[]⟩,⟨some 177,[0,1,2,3,4,5,6,7,8,9,10,11,12,13,14,15,16,17,18,19],[19],[]⟩,⟨some 178,[0,1,2,3,4,5,6,7,8,9,10,11,12,13,14,15,16,17,18,19,20],[],[]⟩,⟨some 179,[0,1,2,3,4,5,6,7,8,9,10,11,12,13,14,15,16,17,18,19,20,21],[21],[]⟩,⟨some 180,[0,1,2,3,4,5,6,7,8,9,10,11,12,13,14,15,16,17,18,19,20,21,22],[20,22],[]⟩,⟨some 181,[0,1,2,3,4,5,6,7,8,9,10,11,12,13,14,15,16,17,18,19,20,21,22,23],[23],[]⟩,⟨some 182,[0,1,2,3,4,5,6,7,8,9,10,11,12,13,14,15,16,17,18,19,20,21,22,23,24],[],[]⟩,⟨some 183,[0,1,2,3,4,5,6,7,8,9,10,11,12,13,14,15,16,17,18,19,20,21,22,23,24,25],[25],[]⟩,⟨some 184,[0,1,2,3,4,5,6,7,8,9,10,11,12,13,14,15,16,17,18,19,20,21,22,23,24,25,26],[24,26],[]⟩,⟨some 185,[0,1,2,3,4,5,6,7,8,9,10,11,12,13,14,15,16,17,18,19,20,21,22,23,24,25,26,27],[27],[]⟩,⟨some 186,[0,1,2,3,4,5,6,7,8,9,10,11,12,13,14,15,16,17,18,19,20,21,22,23,24,25,26,27,28],[],[]⟩,⟨some 187,[0,1,2,3,4,5,6,7,8,9,10,11,12,13,14,15,16,17,18,19,20,21,22,23,24,25,26,27,28],[],[]⟩,⟨some 188,[0,1,2,3,4,5,6,7,8,9,10,11,12,13,14,15,16,17,18,19,20,21,22,23,24,25,26,27,28,29,30],[29,30],[]⟩,⟨some 189,[0,1,2,3,4,5,6,7,8,9,10,11,12,13,14,15,16,17,18,19,20,21,22,23,24,25,26,27,28,29,30,31],[28,31],[]⟩,⟨some 190,[0,1,2,3,4,5,6,7,8,9,10,11,12,13,14,15,16,17,18,19,20,21,22,23,24,25,26,27,28,29,30,31,32],[32],[]⟩,⟨some 191,[0,1,2,3,4,5,6,7,8,9,10,11,12,13,14,15,16,17,18,19,20,21,22,23,24,25,26,27,28,29,30,31,32,33],[],[]⟩,⟨some 192,[0,1,2,3,4,5,6,7,8,9,10,11,12,13,14,15,16,17,18,19,20,21,22,23,24,25,26,27,28,29,30,31,32,33,34],[34],[]⟩,⟨some 193,[0,1,2,3,4,5,6,7,8,9,10,11,12,13,14,15,16,17,18,19,20,21,22,23,24,25,26,27,28,29,30,31,32,33,34,35],[33,35],[]⟩,⟨some 194,[0,1,2,3,4,5,6,7,8,9,10,11,12,13,14,15,16,17,18,19,20,21,22,23,24,25,26,27,28,29,30,31,32,33,34,35,36],[36],[]⟩,⟨some 195,[0,1,2,3,4,5,6,7,8,9,10,11,12,13,14,15,16,17,18,19,20,21,22,23,24,25,26,27,28,29,30,31,32,33,34,35,36,37],[],[]⟩,⟨some 196,[0,1,2,3,4,5,6,7,8,9,10,11,12,13,14,15,16,17,18,19,20,21,22,23,24,25,26,27,28,29,30,31,32,33,34,35,36,37,38],[38],[]⟩,⟨some 197,[0,1,2,3,4,5,6,7,8,9,10,11,12,13,14,15,16,17,18,19,20,21,22,23,24,25,26,27,28,29,30,31,32,33,34,35,36,37,38,39],[37,39],[]⟩,⟨some 198,[0,1,2,3,4,5,6,7,8,9,10,11,12,13,14,15,16,17,18,19,20,21,22,23,24,25,26,27,28,29,30,31,32,33,34,35,36,37,38,39,40],[40],[]⟩,⟨some 199,[0,1,2,3,4,5,6,7,8,9,10,11,12,13,14,15,16,17,18,19,20,21,22,23,24,25,26,27,28,29,30,31,32,33,34,35,36,37,38,39,40,41],[],[]⟩,⟨some 200,[0,1,2,3,4,5,6,7,8,9,10,11,12,13,14,15,16,17,18,19,20,21,22,23,24,25,26,27,28,29,30,31,32,33,34,35,36,37,38,39,40,41,42],[42],[]⟩,⟨some 201,[0,1,2,3,4,5,6,7,8,9,10,11,12,13,14,15,16,17,18,19,20,21,22,23,24,25,26,27,28,29,30,31,32,33,34,35,36,37,38,39,40,41,42,43],[41,43],[]⟩,⟨some 202,[0,1,2,3,4,5,6,7,8,9,10,11,12,13,14,15,16,17,18,19,20,21,22,23,24,25,26,27,28,29,30,31,32,33,34,35,36,37,38,39,40,41,42,43,44],[44],[]⟩,⟨some 203,[0,1,2,3,4,5,6,7,8,9,10,11,12,13,14,15,16,17,18,19,20,21,22,23,24,25,26,27,28,29,30,31,32,33,34,35,36,37,38,39,40,41,42,43,44,45],[],[]⟩,⟨some 204,[0,1,2,3,4,5,6,7,8,9,10,11,12,13,14,15,16,17,18,19,20,21,22,23,24,25,26,27,28,29,30,31,32,33,34,35,36,37,38,39,40,41,42,43,44,45,46],[46],[]⟩,⟨some 205,[0,1,2,3,4,5,6,7,8,9,10,11,12,13,14,15,16,17,18,19,20,21,22,23,24,25,26,27,28,29,30,31,32,33,34,35,36,37,38,39,40,41,42,43,44,45,46,47],[45,47],[]⟩,⟨some 206,[0,1,2,3,4,5,6,7,8,9,10,11,12,13,14,15,16,17,18,19,20,21,22,23,24,25,26,27,28,29,30,31,32,33,34,35,36,37,38,39,40,41,42,43,44,45,46,47,48],[48],[]⟩,⟨some 207,[0,1,2,3,4,5,6,7,8,9,10,11,12,13,14,15,16,17,18,19,20,21,22,23,24,25,26,27,28,29,30,31,32,33,34,35,36,37,38,39,40,41,42,43,44,45,46,47,48,49],[],[]⟩,⟨some 208,[0,1,2,3,4,5,6,7,8,9,10,11,12,13,14,15,16,17,18,19,20,21,22,23,24,25,26,27,28,29,30,31,32,33,34,35,36,37,38,39,40,41,42,43,44,45,46,47,48,49,50],[50],[]⟩,⟨some 209,[0,1,2,3,4,5,6,7,8,9,10,11,12,13,14,15,16,17,18,19,20,21,22,23,24,25,26,27,28,29,30,31,32,33,34,35,36,37,38,39,40,41,42,43,44,45,46,47,48,49,50,51],[49,51],[]⟩,⟨some 210,[0,1,2,3,4,5,6,7,8,9,10,11,12,13,14,15,16,17,18,19,20,21,22,23,24,25,26,27,28,29,30,31,32,33,34,35,36,37,38,39,40,41,42,43,44,45,46,47,48,49,50,51,52],[52],[]⟩,⟨some 211,[0,1,2,3,4,5,6,7,8,9,10,11,12,13,14,15,16,17,18,19,20,21,22,23,24,25,26,27,28,29,30,31,32,33,34,35,36,37,38,39,40,41,42,43,44,45,46,47,48,49,50,51,52,53],[],[]⟩,⟨some 212,[0,1,2,3,4,5,6,7,8,9,10,11,12,13,14,15,16,17,18,19,20,21,22,23,24,25,26,27,28,29,30,31,32,33,34,35,36,37,38,39,40,41,42,43,44,45,46,47,48,49,50,51,52,53],[],[]⟩,⟨some 213,[0,1,2,3,4,5,6,7,8,9,10,11,12,13,14,15,16,17,18,19,20,21,22,23,24,25,26,27,28,29,30,31,32,33,34,35,36,37,38,39,40,41,42,43,44,45,46,47,48,49,50,51,52,53,54,55],[54,55],[55]⟩,⟨some 214,[0,1,2,3,4,5,6,7,8,9,10,11,12,13,14,15,16,17,18,19,20,21,22,23,24,25,26,27,28,29,30,31,32,33,34,35,36,37,38,39,40,41,42,43,44,45,46,47,48,49,50,51,52,53,54,55,56],[53,56],[]⟩,⟨some 215,[0,1,2,3,4,5,6,7,8,9,10,11,12,13,14,15,16,17,18,19,20,21,22,23,24,25,26,27,28,29,30,31,32,33,34,35,36,37,38,39,40,41,42,43,44,45,46,47,48,49,50,51,52,53,54,55,56,57],[57],[]⟩,⟨some 216,[0,1,2,3,4,5,6,7,8,9,10,11,12,13,14,15,16,17,18,19,20,21,22,23,24,25,26,27,28,29,30,31,32,33,34,35,36,37,38,39,40,41,42,43,44,45,46,47,48,49,50,51,52,53,54,55,56,57,58],[],[]⟩,⟨some 217,[0,1,2,3,4,5,6,7,8,9,10,11,12,13,14,15,16,17,18,19,20,21,22,23,24,25,26,27,28,29,30,31,32,33,34,35,36,37,38,39,40,41,42,43,44,45,46,47,48,49,50,51,52,53,54,55,56,57,58,59],[59],[]⟩,⟨some 218,[0,1,2,3,4,5,6,7,8,9,10,11,12,13,14,15,16,17,18,19,20,21,22,23,24,25,26,27,28,29,30,31,32,33,34,35,36,37,38,39,40,41,42,43,44,45,46,47,48,49,50,51,52,53,54,55,56,57,58,59,60],[58,60],[]⟩,⟨some 0,[0,1,2,3,4,5,6,7,8,9,10,11,12,13,14,15,16,17,18,19,20,21,22,23,24,25,26,27,28,29,30,31,32,33,34,35,36,37,38,39,40,41,42,43,44,45,46,47,48,49,50,51,52,53,54,55,56,57,58,59,60,61],[61],[]⟩]
def valKbl (b1 b3 b5 c1 c2 : Nat) (a1 a2 : Option Addr) (k : Nat) (env : Env) : Value :=
 match k with
 | 0 => .int .i64 0
 | 1 => .bool true
 | 2 => .bool true
 | 3=>gt (!true) (.agg (cSp ⟨441,452⟩).toArray)
 | 4=>gt (!true) (.agg (cSp ⟨441,452⟩).toArray)
 | 5=>gt (!true) (.bool true)
 | 6 => .bool true
 | 7 => .bool true
 | 8=>gt (!true) (.int .i64 0)
 | 9=>gt (!true) (.bool true)
 | 10 => .bool true
 | 11 => .bool true
 | 12=>gt (!true) (.agg (cSp ⟨62,90⟩).toArray)
 | 13=>gt (!true) (.agg (cSp ⟨62,90⟩).toArray)
 | 14=>gt (!true) (.bool true)
 | 15 => .bool true
 | 16 => .bool true
 | 17=>gt (!true) (.int .i64 0)
 | 18=>gt (!true) (.bool true)
 | 19 => .bool true
 | 20 => .bool true
 | 21=>gt (!true) (.int .u8 2)
 | 22=>gt (!true) (.bool true)
 | 23 => .bool true
 | 24 => .bool true
 | 25=>gt (!true) (.int .i64 0)
 | 26=>gt (!true) (.bool true)
 | 27 => .bool true
 | 28 => .bool true
 | 29=>gt (!true) (.agg (cSp ⟨478,490⟩).toArray)
 | 30=>gt (!true) (.agg (cSp ⟨478,490⟩).toArray)
 | 31=>gt (!true) (.bool true)
 | 32 => .bool true
 | 33 => .bool true
 | 34=>gt (!true) (.int .i64 0)
 | 35=>gt (!true) (.bool true)
 | 36 => .bool true
 | 37 => .bool true
 | 38=>gt (!true) (.int .u8 1)
 | 39=>gt (!true) (.bool true)
 | 40 => .bool true
 | 41 => .bool true
 | 42=>gt (!true) (.int .i64 0)
 | 43=>gt (!true) (.bool true)
 | 44 => .bool true
 | 45 => .bool true
 | 46=>gt (!true) (.bool false)
 | 47=>gt (!true) (.bool true)
 | 48 => .bool true
 | 49 => .bool true
 | 50=>gt (!true) (.int .i64 0)
 | 51=>gt (!true) (.bool true)
 | 52 => .bool true
 | 53 => .bool true
 | 54=>gt (!true) (.slice a1 1 c1)
 | 55=>gt (!true) (.slice (some ⟨(env 55).1,0,none⟩) 1 1)
 | 56=>gt (!true) (.bool true)
 | 57 => .bool true
 | 58 => .bool true
 | 59=>gt (!true) (.slice a2 0 c2)
 | 60=>gt (!true) (.bool true)
 | 61 => .bool true
 | 62 => .bool true
 | _=>undef
def rowsKbl (b1 b3 b5 c1 c2 : Nat) (a1 a2 : Option Addr) (k : Nat) (env : Env) : List Row :=
 match k with
 | 55=>gr (!true) [⟨(env 55).1,0,[.int .i64 1],some 3,1 * 1⟩]
 | _=>[]
theorem locKbl (b1 b3 b5 c1 c2 : Nat) (a1 a2 : Option Addr) : ∀ k env i q9,i ≠ k → (tAt tsKbl k).sup.contains i = false → valKbl b1 b3 b5 c1 c2 a1 a2 k (upd env i q9)=valKbl b1 b3 b5 c1 c2 a1 a2 k env∧rowsKbl b1 b3 b5 c1 c2 a1 a2 k (upd env i q9)=rowsKbl b1 b3 b5 c1 c2 a1 a2 k env:=by
 intro k env i q hk hs
 have hu : ∀ j,j ≠ i → upd env i q j = env j:=fun j hj=>by unfold upd;rw [if_neg hj]
 match k,hk,hs with
 | 0,_,_=>exact ⟨rfl,rfl⟩
 | 1,_,_=>exact ⟨rfl,rfl⟩
 | 2,_,_=>exact ⟨rfl,rfl⟩
 | 3,_,_=>exact ⟨rfl,rfl⟩
 | 4,_,_=>exact ⟨rfl,rfl⟩
 | 5,_,_=>exact ⟨rfl,rfl⟩
 | 6,_,_=>exact ⟨rfl,rfl⟩
 | 7,_,_=>exact ⟨rfl,rfl⟩
 | 8,_,_=>exact ⟨rfl,rfl⟩
 | 9,_,_=>exact ⟨rfl,rfl⟩
 | 10,_,_=>exact ⟨rfl,rfl⟩
 | 11,_,_=>exact ⟨rfl,rfl⟩
 | 12,_,_=>exact ⟨rfl,rfl⟩
 | 13,_,_=>exact ⟨rfl,rfl⟩
 | 14,_,_=>exact ⟨rfl,rfl⟩
 | 15,_,_=>exact ⟨rfl,rfl⟩
 | 16,_,_=>exact ⟨rfl,rfl⟩
 | 17,_,_=>exact ⟨rfl,rfl⟩
 | 18,_,_=>exact ⟨rfl,rfl⟩
 | 19,_,_=>exact ⟨rfl,rfl⟩
 | 20,_,_=>exact ⟨rfl,rfl⟩
 | 21,_,_=>exact ⟨rfl,rfl⟩
 | 22,_,_=>exact ⟨rfl,rfl⟩
 | 23,_,_=>exact ⟨rfl,rfl⟩
 | 24,_,_=>exact ⟨rfl,rfl⟩
 | 25,_,_=>exact ⟨rfl,rfl⟩
 | 26,_,_=>exact ⟨rfl,rfl⟩
 | 27,_,_=>exact ⟨rfl,rfl⟩
 | 28,_,_=>exact ⟨rfl,rfl⟩
 | 29,_,_=>exact ⟨rfl,rfl⟩
 | 30,_,_=>exact ⟨rfl,rfl⟩
 | 31,_,_=>exact ⟨rfl,rfl⟩
 | 32,_,_=>exact ⟨rfl,rfl⟩
 | 33,_,_=>exact ⟨rfl,rfl⟩
 | 34,_,_=>exact ⟨rfl,rfl⟩
 | 35,_,_=>exact ⟨rfl,rfl⟩
 | 36,_,_=>exact ⟨rfl,rfl⟩
 | 37,_,_=>exact ⟨rfl,rfl⟩
 | 38,_,_=>exact ⟨rfl,rfl⟩
 | 39,_,_=>exact ⟨rfl,rfl⟩
 | 40,_,_=>exact ⟨rfl,rfl⟩
 | 41,_,_=>exact ⟨rfl,rfl⟩
 | 42,_,_=>exact ⟨rfl,rfl⟩
 | 43,_,_=>exact ⟨rfl,rfl⟩
 | 44,_,_=>exact ⟨rfl,rfl⟩
 | 45,_,_=>exact ⟨rfl,rfl⟩
 | 46,_,_=>exact ⟨rfl,rfl⟩
 | 47,_,_=>exact ⟨rfl,rfl⟩
 | 48,_,_=>exact ⟨rfl,rfl⟩
 | 49,_,_=>exact ⟨rfl,rfl⟩
 | 50,_,_=>exact ⟨rfl,rfl⟩
 | 51,_,_=>exact ⟨rfl,rfl⟩
 | 52,_,_=>exact ⟨rfl,rfl⟩
 | 53,_,_=>exact ⟨rfl,rfl⟩
 | 54,_,_=>exact ⟨rfl,rfl⟩
 | 55,hk,hs=>exact ⟨by simp only [valKbl,hu 55 (fun e=>hk e.symm)],by simp only [rowsKbl,hu 55 (fun e=>hk e.symm)]⟩
 | 56,_,_=>exact ⟨rfl,rfl⟩
 | 57,_,_=>exact ⟨rfl,rfl⟩
 | 58,_,_=>exact ⟨rfl,rfl⟩
 | 59,_,_=>exact ⟨rfl,rfl⟩
 | 60,_,_=>exact ⟨rfl,rfl⟩
 | 61,_,_=>exact ⟨rfl,rfl⟩
 | 62,_,_=>exact ⟨rfl,rfl⟩
 | _ + 63,_,_=>exact ⟨rfl,rfl⟩
set_option maxHeartbeats 8000000 in
theorem alive_spec (H : List Row) : Fc Tryz.prog 11 [] H (fun v H' => v = .bool true∧H' = H):=by
 refine Fc.mk (callable Tryz.call11) Tryz.func11 rfl Tryz.ntmps11 rfl ?_;dsimp only [fr]
 repeat' (first | (refine uP rfl ?_;(first | ((first | refine uN rfl ?_);(first | (refine uC (uT rfl (Args.cons rfl Args.nil)) rfl rfl (bale_specE [] none 0 _ sleNil (Nat.zero_le _)) ?_;rintro _ _ ⟨bn,kn,bw,rfl,rfl⟩)|(refine uC (uT rfl (Args.cons rfl (Args.cons rfl Args.nil))) rfl rfl (aLay bn kn bw _ (balOk [] (Nat.zero_le _) bn kn bw _ (qH _) (qT _ (qH _)))) ?_;rintro _ _ ⟨rfl,rfl⟩)|(refine uC (uT rfl (Args.cons rfl Args.nil)) rfl rfl (aBst bn kn bw _ (balOk [] (Nat.zero_le _) bn kn bw _ (qH _) (qT _ (qH _)))) ?_;rintro _ _ ⟨rfl,rfl⟩)|(refine uC (uT rfl (Args.cons rfl Args.nil)) rfl rfl (aWor bn kn bw _ (balOk [] (Nat.zero_le _) bn kn bw _ (qH _) (qT _ (qH _)))) ?_;rintro _ _ ⟨rfl,rfl⟩)|(refine uC (uT rfl (Args.cons rfl (Args.cons rfl Args.nil))) rfl rfl (aKin bn kn bw _ (balOk [] (Nat.zero_le _) bn kn bw _ (qH _) (qT _ (qH _)))) ?_;rintro _ _ ⟨rfl,rfl⟩)|(refine uC (uT rfl (Args.cons rfl Args.nil)) rfl rfl (aCut bn kn bw _ (balOk [] (Nat.zero_le _) bn kn bw _ (qH _) (qT _ (qH _)))) ?_;rintro _ _ ⟨rfl,rfl⟩)|(refine uC (uT rfl (Args.cons rfl Args.nil)) rfl rfl (aAsk bn kn bw _ (balOk [] (Nat.zero_le _) bn kn bw _ (qH _) (qT _ (qH _)))) ?_;rintro _ _ ⟨rfl,rfl⟩)|(refine uC (uT rfl (Args.cons rfl Args.nil)) rfl rfl (aDec bn kn bw _ (balOk [] (Nat.zero_le _) bn kn bw _ (qH _) (qT _ (qH _)))) ?_;rintro _ _ ⟨b14,q14,rfl,rfl⟩)|(refine uE (uX rfl rfl rfl) rfl rfl ?_)|(refine Xg.st (StF.alloc rfl Tryz.zeroValue24 rfl) rfl rfl ?_;rintro _ _ ⟨bx,rfl,rfl⟩)|(refine Xg.st0 (uZ (i:=0) (vs:=cSp ⟨3,6⟩) rfl rfl rfl (te rfl) rfl rfl rfl rfl) rfl ?_;rintro _ _ ⟨rfl,rfl⟩;dsimp only [List.set])|(refine Xg.st0 (uZ (i:=0) (vs:=cSp ⟨1,3⟩) rfl rfl rfl (te rfl) rfl rfl rfl rfl) rfl ?_;rintro _ _ ⟨rfl,rfl⟩;dsimp only [List.set])|(refine Xg.st0 (uZ (i:=0) (vs:=cSp ⟨3,9⟩) rfl rfl rfl (te rfl) rfl rfl rfl rfl) rfl ?_;rintro _ _ ⟨rfl,rfl⟩;dsimp only [List.set])|(refine uE (uM rfl rfl) rfl rfl ?_)|(refine uE (uA rfl rfl) rfl rfl ?_)))))|(refine uD rfl ?_;refine hK _ _ ?_;clear hK K) | refine uS rfl ?_ | refine uR rfl (fun K hK=>?_))
 rename_i bn1 kn1 bw1 b1 bn2 kn2 bw2 b3 bn3 kn3 bw3 b5 bn4 kn4 bw4 bn5 kn5 bw5 bn6 kn6 bw6
 generalize bx = b9
 refine X.weak (F' := [(1,.pointer (some ⟨b1,0,none⟩)),(2,.int .i64 0),(3,.pointer (some ⟨b3,0,none⟩)),(4,.int .i64 0),(5,.pointer (some ⟨b5,0,none⟩)),(6,.int .i64 0),(7,.int .u8 1),(8,.int .i64 0),(9,.pointer (some ⟨b9,0,none⟩)),(10,.int .i64 0),(11,.int .i64 2),(12,.int .i64 3),(13,.int .i64 0),(14,.slice (some ⟨b14,0,none⟩) 3 q14),(15,.int .i64 0)]) (H' := ⟨b14,0,[1,2,3].flatMap cI,some 3,q14 * 1⟩::⟨b9,0,cSp ⟨1,3⟩,some 24,2⟩::⟨b5,0,cSp ⟨3,9⟩,some 24,2⟩::⟨b3,0,cSp ⟨1,3⟩,some 24,2⟩::⟨b1,0,cSp ⟨3,6⟩,some 24,2⟩::H) (by repeat (first | exact uU _ | refine uV rfl ?_)) (by repeat (first | exact qR _ | apply qK | apply qC | refine List.Sublist.trans ?_ (List.sublist_append_right _ _))) ?_
 clear bn1 kn1 bw1 bn2 kn2 bw2 bn3 kn3 bw3 bn4 kn4 bw4 bn5 kn5 bw5 bn6 kn6 bw6
 refine X.regionOb tsKal [1,2,3,4,5,6,7,8,9,10,11,12,13,14,15] [(1,.pointer (some ⟨b1,0,none⟩)),(2,.int .i64 0),(3,.pointer (some ⟨b3,0,none⟩)),(4,.int .i64 0),(5,.pointer (some ⟨b5,0,none⟩)),(6,.int .i64 0),(7,.int .u8 1),(8,.int .i64 0),(9,.pointer (some ⟨b9,0,none⟩)),(10,.int .i64 0),(11,.int .i64 2),(12,.int .i64 3),(13,.int .i64 0),(14,.slice (some ⟨b14,0,none⟩) 3 q14),(15,.int .i64 0)] (valKal b1 b3 b5 b9 b14 q14) (rowsKal b1 b3 b5 b9 b14 q14) (fun _=>(0,0)) (⟨b14,0,[1,2,3].flatMap cI,some 3,q14 * 1⟩::⟨b9,0,cSp ⟨1,3⟩,some 24,2⟩::⟨b5,0,cSp ⟨3,9⟩,some 24,2⟩::⟨b3,0,cSp ⟨1,3⟩,some 24,2⟩::⟨b1,0,cSp ⟨3,6⟩,some 24,2⟩::H) rfl mixed (by repeat (first | exact uU _ | refine uV rfl ?_)) rfl (by kernel_rfl) (locKal b1 b3 b5 b9 b14 q14) (qR _) ?_ ?_
 ·repeat' (first | exact AllF.done rfl | (refine AllF.step rfl ?_ ?_;·(first | fail | ((first | refine Ob.ng rfl ?_ | refine Ob.g rfl rfl (fun _=>rfl) ?_);(first | exact uK (fun env R hR=>by exact ⟨_,uM rfl rfl,rfl⟩) rfl (fun _=>rfl) | exact uK (fun env R hR=>by exact ⟨_,EvF.pickF rfl rfl rfl,rfl⟩) rfl (fun _=>rfl) | exact uK (fun env R hR=>by exact ⟨_,EvF.not rfl rfl,rfl⟩) rfl (fun _=>rfl) | exact uK (fun env R hR=>by exact ⟨_,uQ rfl rfl rfl rfl,rfl⟩) rfl (fun _=>rfl) | exact uK (fun env R hR=>by exact ⟨_,uL rfl rfl (uW (te rfl) rfl (hR _ (qT _ (qH _))) rfl),rfl⟩) rfl (fun _=>rfl) | exact uK (fun env R hR=>by exact ⟨_,uL rfl rfl (uW (te rfl) rfl (hR _ (qT _ (qT _ (qH _)))) rfl),rfl⟩) rfl (fun _=>rfl) | exact uK (fun env R hR=>by exact ⟨_,uL rfl rfl (uW (te rfl) rfl (hR _ (qT _ (qT _ (qT _ (qH _))))) rfl),rfl⟩) rfl (fun _=>rfl)|(exact fun env S hS=>OpF.callV (Z:=[]) (uT rfl (Args.cons rfl (Args.cons rfl Args.nil))) (lawSpan 3 6 S) rfl rfl)|(exact fun env S hS=>OpF.callV (Z:=[]) (uT rfl (Args.cons rfl (Args.cons rfl Args.nil))) (lawSpan 1 3 S) rfl rfl)|(exact fun env S hS=>OpF.callV (Z:=[]) (uT rfl (Args.cons rfl (Args.cons rfl Args.nil))) (lawSpan 3 9 S) rfl rfl)|(exact uK (fun env S hS=>⟨_,uL rfl rfl (uW (te rfl) rfl (hS _ (qT _ (qT _ (qT _ (qT _ (qH _)))))) rfl),rfl⟩) rfl (fun _=>rfl))|(exact uK (fun env S hS=>⟨.bool false,EvF.eqSt (r:=true) rfl rfl rfl (by kernel_rfl) (fun w=>eqE ⟨3,6⟩ w) rfl,rfl⟩) rfl (fun _=>rfl))|(exact uK (fun env S hS=>⟨.bool false,EvF.eqSt (r:=true) rfl rfl rfl (by kernel_rfl) (fun w=>eqE ⟨1,3⟩ w) rfl,rfl⟩) rfl (fun _=>rfl))|(exact uK (fun env S hS=>⟨.bool false,EvF.eqSt (r:=true) rfl rfl rfl (by kernel_rfl) (fun w=>eqE ⟨3,9⟩ w) rfl,rfl⟩) rfl (fun _=>rfl))|(exact fun env S hS=>OpF.callV (Z:=[⟨(env 60).1,0,[.int .i64 1,.int .i64 2,.int .i64 3],some 3,3 * 1⟩]) (uT rfl (Args.cons rfl (Args.cons rfl Args.nil))) (intsT [1,2,3] (some ⟨b14,0,none⟩) (some ⟨(env 60).1,0,none⟩) q14 3 _ (SlE.ofRow (qT _ (hS _ (qH _))) (fun _ _=>rfl)) (SlE.ofRow (l:=[1,2,3]) (qH _) (fun _ _=>rfl)) (by decide)) rfl rfl)|(exact fun env S hS=>(StF.buildLit (len:=3) (vs:=[(0,.int .i64 1),(1,.int .i64 2),(2,.int .i64 3)]) (cs:=[.int .i64 1,.int .i64 2,.int .i64 3]) rfl el55 Tryz.zeroValue3 (ArgsP.cons rfl (ArgsP.cons rfl (ArgsP.cons rfl ArgsP.nil))) lit3 rfl rfl rfl).op.mono (fun v H' ⟨b,hv,hH⟩=>⟨(b,0),fun _=>hv,by rw [hH];exact List.Perm.refl _⟩)))))))
 intro env t ha2 hv;refine ⟨_,ha2.cons (hv 63 120 (Nat.le_of_ble_eq_true rfl) rfl),?_⟩;clear hv ha2
 refine X.weak (F' := [(120,.bool false),(1,.pointer (some ⟨b1,0,none⟩)),(3,.pointer (some ⟨b3,0,none⟩)),(5,.pointer (some ⟨b5,0,none⟩))]) (H' := ⟨b5,0,cSp ⟨3,9⟩,some 24,2⟩::⟨b3,0,cSp ⟨1,3⟩,some 24,2⟩::⟨b1,0,cSp ⟨3,6⟩,some 24,2⟩::H) (by repeat (first | exact uU _ | refine uV rfl ?_)) (by repeat (first | exact qR _ | apply qK | apply qC | refine List.Sublist.trans ?_ (List.sublist_append_right _ _))) ?_
 clear env
 repeat' (first | (refine uP rfl ?_;(first | ((first | refine uN rfl ?_);(first | (refine uC (uT rfl (Args.cons rfl Args.nil)) rfl rfl (bale_specE [] none 0 _ sleNil (Nat.zero_le _)) ?_;rintro _ _ ⟨bn,kn,bw,rfl,rfl⟩)|(refine uC (uT rfl Args.nil) rfl rfl (oddB _) ?_;rintro _ _ ⟨bn,kn,bw,Z,rfl,hpo,rfl⟩)|(refine uC (uT rfl (Args.cons rfl Args.nil)) rfl rfl (aDry bn kn bw _ (balOk [] (Nat.zero_le _) bn kn bw _ (qH _) (qT _ (qH _)))) ?_;rintro _ _ ⟨rfl,rfl⟩)|(refine uC (uT rfl (Args.cons rfl (Args.cons rfl Args.nil))) rfl rfl (aWet bn kn bw _ (balOk [] (Nat.zero_le _) bn kn bw _ (qH _) (qT _ (qH _)))) ?_;rintro _ _ ⟨rfl,rfl⟩)|(refine uC (uT rfl (Args.cons rfl (Args.cons rfl (Args.cons rfl Args.nil)))) rfl rfl (aKno bn kn bw _ (balOk [] (Nat.zero_le _) bn kn bw _ (qH _) (qT _ (qH _)))) ?_;rintro _ _ ⟨rfl,rfl⟩)|(refine uC (uT rfl (Args.cons rfl (Args.cons rfl Args.nil))) rfl rfl (aPay bn kn bw _ (balOk [] (Nat.zero_le _) bn kn bw _ (qH _) (qT _ (qH _)))) ?_;rintro _ _ ⟨rfl,rfl⟩)|(refine uC (uT rfl (Args.cons rfl (Args.cons rfl Args.nil))) rfl rfl (aAsi bn kn bw _ (balOk [] (Nat.zero_le _) bn kn bw _ (qH _) (qT _ (qH _)))) ?_;rintro _ _ ⟨rfl,rfl⟩)|(refine uC (uT rfl (Args.cons rfl Args.nil)) rfl rfl (aCan bn kn bw _ (hpo _)) ?_;rintro _ _ ⟨rfl,rfl⟩)|(refine uC (uT rfl (Args.cons rfl Args.nil)) rfl rfl (aWrg bn kn bw _ (hpo _)) ?_;rintro _ _ ⟨a1,c1,a2,c2,Zw,rfl,sw1,sw2,rfl⟩)|(refine uE (uX rfl rfl rfl) rfl rfl ?_)|(refine Xg.st0 (uZ (i:=4) (vs:=cSp ⟨441,452⟩) rfl rfl rfl (te rfl) rfl rfl rfl rfl) rfl ?_;rintro _ _ ⟨rfl,rfl⟩;dsimp only [List.set])|(refine Xg.st0 (uZ (i:=5) (vs:=cSp ⟨62,90⟩) rfl rfl rfl (te rfl) rfl rfl rfl rfl) rfl ?_;rintro _ _ ⟨rfl,rfl⟩;dsimp only [List.set])|(refine Xg.st0 (uZ (i:=8) (vs:=cSp ⟨478,490⟩) rfl rfl rfl (te rfl) rfl rfl rfl rfl) rfl ?_;rintro _ _ ⟨rfl,rfl⟩;dsimp only [List.set])|(refine uE (uM rfl rfl) rfl rfl ?_)|(refine uE (uA rfl rfl) rfl rfl ?_)))))|(refine uD rfl ?_;refine hK _ _ ?_;clear hK K) | refine uS rfl ?_ | refine uR rfl (fun K hK=>?_) | refine X.skip rfl ?_ | (refine X.ite rfl rfl (fun hc=>?_);(first | (with_reducible refine Xb.f hc ?_)) <;> clear hc))
 refine X.gen (fun G hG=>?_)
 rw [← hG] at sw1 sw2
 have m1 : (⟨b1,0,cSp ⟨441,452⟩,some 24,2⟩ : Row) ∈ G:=by rw [hG];repeat (first | exact qH _ | apply List.mem_append_right | apply qT)
 have m3 : (⟨b3,0,cSp ⟨62,90⟩,some 24,2⟩ : Row) ∈ G:=by rw [hG];repeat (first | exact qH _ | apply List.mem_append_right | apply qT)
 have m5 : (⟨b5,0,cSp ⟨478,490⟩,some 24,2⟩ : Row) ∈ G:=by rw [hG];repeat (first | exact qH _ | apply List.mem_append_right | apply qT)
 have hH : H.Sublist G:=by rw [hG];exact (by repeat (first | exact qR _ | apply qK | apply qC | refine List.Sublist.trans ?_ (List.sublist_append_right _ _)))
 clear hG hpo
 refine X.weak (F' := [(1,.pointer (some ⟨b1,0,none⟩)),(2,.int .i64 0),(3,.pointer (some ⟨b3,0,none⟩)),(4,.int .i64 0),(5,.pointer (some ⟨b5,0,none⟩)),(6,.int .i64 0),(7,.int .u8 2),(8,.int .i64 0),(10,.int .i64 0),(13,.int .i64 0),(16,.int .u8 1),(17,.bool false),(18,.slice a1 1 c1),(19,.slice a2 0 c2),(20,.int .i64 0)]) (H' := G) (by repeat (first | exact uU _ | refine uV rfl ?_)) (qR _) ?_
 refine X.regionOb tsKbl [1,2,3,4,5,6,7,8,10,13,16,17,18,19,20] [(1,.pointer (some ⟨b1,0,none⟩)),(2,.int .i64 0),(3,.pointer (some ⟨b3,0,none⟩)),(4,.int .i64 0),(5,.pointer (some ⟨b5,0,none⟩)),(6,.int .i64 0),(7,.int .u8 2),(8,.int .i64 0),(10,.int .i64 0),(13,.int .i64 0),(16,.int .u8 1),(17,.bool false),(18,.slice a1 1 c1),(19,.slice a2 0 c2),(20,.int .i64 0)] (valKbl b1 b3 b5 c1 c2 a1 a2) (rowsKbl b1 b3 b5 c1 c2 a1 a2) (fun _=>(0,0)) (G) rfl mixed (by repeat (first | exact uU _ | refine uV rfl ?_)) rfl (by kernel_rfl) (locKbl b1 b3 b5 c1 c2 a1 a2) (qR _) ?_ ?_
 ·repeat' (first | exact AllF.done rfl | (refine AllF.step rfl ?_ ?_;·(first | fail | ((first | refine Ob.ng rfl ?_ | refine Ob.g rfl rfl (fun _=>rfl) ?_);(first | exact uK (fun env R hR=>by exact ⟨_,uM rfl rfl,rfl⟩) rfl (fun _=>rfl) | exact uK (fun env R hR=>by exact ⟨_,uA rfl rfl,rfl⟩) rfl (fun _=>rfl) | exact uK (fun env R hR=>by exact ⟨_,EvF.pickT rfl rfl rfl,rfl⟩) rfl (fun _=>rfl) | exact uK (fun env R hR=>by exact ⟨_,EvF.not rfl rfl,rfl⟩) rfl (fun _=>rfl) | exact uK (fun env R hR=>by exact ⟨_,uQ rfl rfl rfl rfl,rfl⟩) rfl (fun _=>rfl)|(exact fun env S hS=>OpF.callV (Z:=[]) (uT rfl (Args.cons rfl (Args.cons rfl Args.nil))) (lawSpan 441 452 S) rfl rfl)|(exact fun env S hS=>OpF.callV (Z:=[]) (uT rfl (Args.cons rfl (Args.cons rfl Args.nil))) (lawSpan 62 90 S) rfl rfl)|(exact fun env S hS=>OpF.callV (Z:=[]) (uT rfl (Args.cons rfl (Args.cons rfl Args.nil))) (lawSpan 478 490 S) rfl rfl)|(exact uK (fun env S hS=>⟨_,uL rfl rfl (uW (te rfl) rfl (hS _ m1) rfl),rfl⟩) rfl (fun _=>rfl))|(exact uK (fun env S hS=>⟨_,uL rfl rfl (uW (te rfl) rfl (hS _ m3) rfl),rfl⟩) rfl (fun _=>rfl))|(exact uK (fun env S hS=>⟨_,uL rfl rfl (uW (te rfl) rfl (hS _ m5) rfl),rfl⟩) rfl (fun _=>rfl))|(exact uK (fun env S hS=>⟨.bool true,EvF.eqSt (r:=true) rfl rfl rfl (by kernel_rfl) (fun w=>eqE ⟨441,452⟩ w) rfl,rfl⟩) rfl (fun _=>rfl))|(exact uK (fun env S hS=>⟨.bool true,EvF.eqSt (r:=true) rfl rfl rfl (by kernel_rfl) (fun w=>eqE ⟨62,90⟩ w) rfl,rfl⟩) rfl (fun _=>rfl))|(exact uK (fun env S hS=>⟨.bool true,EvF.eqSt (r:=true) rfl rfl rfl (by kernel_rfl) (fun w=>eqE ⟨478,490⟩ w) rfl,rfl⟩) rfl (fun _=>rfl))|(exact fun env S hS=>OpF.callV (Z:=[⟨(env 55).1,0,[.int .i64 1],some 3,1 * 1⟩]) (uT rfl (Args.cons rfl (Args.cons rfl Args.nil))) (intsT [1] a1 (some ⟨(env 55).1,0,none⟩) c1 1 _ (sw1.sub (fun r h=>qT _ (hS r h))) (SlE.ofRow (l:=[1]) (qH _) (fun _ _=>rfl)) (by decide)) rfl rfl)|(exact fun env S hS=>OpF.callV (Z:=[]) (uT rfl (Args.cons rfl (Args.cons rfl Args.nil))) (intsT [] a2 none c2 0 _ (sw2.sub hS) sleNil (by decide)) rfl rfl)|(exact fun env S hS=>(StF.buildOne (v0 := .int .i64 1) rfl el55 rfl rfl rfl (by decide) (by decide)).op.mono (fun v H' ⟨b,hv,hH⟩=>⟨(b,0),fun _=>hv,by rw [hH];exact List.Perm.refl _⟩)))))))
 ·intro env t ha2 hv;refine ⟨_,ha2.cons (hv 62 0 (Nat.le_of_ble_eq_true rfl) rfl),?_⟩;clear hv ha2
  repeat' (first | refine X.ret rfl ?_)
  exact ret_one (by simp) Tryz.results11 rfl (H' := H) hH ⟨rfl,rfl⟩
def tsKq9 : List TOp:=[⟨some 29,[],[],[]⟩,⟨some 30,[0],[0],[]⟩,⟨some 31,[0,1],[1],[]⟩,⟨some 32,[],[],[]⟩,⟨some 33,[],[],[]⟩,⟨some 34,[4],[4],[]⟩,⟨some 35,[3,4,5],[3,5],[]⟩,⟨some 36,[3,4,5,6],[6],[]⟩,⟨some 37,[0,1,2,3,4,5,6,7],[2,7],[]⟩,⟨some 38,[0,1,2,3,4,5,6,7,8],[8],[8]⟩,⟨some 39,[0,1,2,3,4,5,6,7,8,9],[9],[]⟩]
def valKq9 (b off n c : Nat) (f g : Int) (al : Bool) (k : Nat) (env : Env) : Value :=
 match k with
 | 0 => .slice (some ⟨b,off,none⟩) n c
 | 1 => .pointer (some ⟨b,off + 0 * 1,none⟩)
 | 2 => .int .i64 f
 | 3 => .slice (some ⟨b,off,none⟩) n c
 | 4 => .int .i64 n
 | 5 => .int .i64 (n - 1)
 | 6 => .pointer (some ⟨b,off + (n - 1 : Nat) * 1,none⟩)
 | 7 => .int .i64 g
 | 8 => .slice (some ⟨(env 8).1,0,none⟩) 2 2
 | 9 => .bool al
 | 10 => .bool (!al)
 | _=>undef
def rowsKq9 (b off n c : Nat) (f g : Int) (al : Bool) (k : Nat) (env : Env) : List Row :=
 match k with
 | 8=>[⟨(env 8).1,0,[.int .i64 f,.int .i64 g],some 3,2 * 1⟩]
 | _=>[]
theorem locKq9 (b off n c : Nat) (f g : Int) (al : Bool) : ∀ k env i q9,i ≠ k → (tAt tsKq9 k).sup.contains i = false → valKq9 b off n c f g al k (upd env i q9)=valKq9 b off n c f g al k env∧rowsKq9 b off n c f g al k (upd env i q9)=rowsKq9 b off n c f g al k env:=by
 intro k env i q hk hs
 have hu : ∀ j,j ≠ i → upd env i q j = env j:=fun j hj=>by unfold upd;rw [if_neg hj]
 match k,hk,hs with
 | 0,_,_=>exact ⟨rfl,rfl⟩
 | 1,_,_=>exact ⟨rfl,rfl⟩
 | 2,_,_=>exact ⟨rfl,rfl⟩
 | 3,_,_=>exact ⟨rfl,rfl⟩
 | 4,_,_=>exact ⟨rfl,rfl⟩
 | 5,_,_=>exact ⟨rfl,rfl⟩
 | 6,_,_=>exact ⟨rfl,rfl⟩
 | 7,_,_=>exact ⟨rfl,rfl⟩
 | 8,hk,hs=>exact ⟨by simp only [valKq9,hu 8 (fun e=>hk e.symm)],by simp only [rowsKq9,hu 8 (fun e=>hk e.symm)]⟩
 | 9,_,_=>exact ⟨rfl,rfl⟩
 | 10,_,_=>exact ⟨rfl,rfl⟩
 | _ + 11,_,_=>exact ⟨rfl,rfl⟩
def tsKq11 : List TOp:=[⟨some 40,[],[],[]⟩,⟨some 41,[0],[0],[]⟩,⟨some 42,[0,1],[1],[]⟩,⟨some 43,[],[],[]⟩,⟨some 44,[],[],[]⟩,⟨some 45,[4],[4],[]⟩,⟨some 46,[3,4,5],[3,5],[]⟩,⟨some 47,[3,4,5,6],[6],[]⟩,⟨some 48,[0,1,2,3,4,5,6,7],[2,7],[]⟩,⟨some 5,[0,1,2,3,4,5,6,7,8],[8],[]⟩,⟨some 6,[0,1,2,3,4,5,6,7,8,9],[],[]⟩]
def valKq11 (b off n c : Nat) (f g : Int) (k : Nat) (env : Env) : Value :=
 match k with
 | 0 => .slice (some ⟨b,off,none⟩) n c
 | 1 => .pointer (some ⟨b,off + 0 * 1,none⟩)
 | 2 => .int .i64 f
 | 3 => .slice (some ⟨b,off,none⟩) n c
 | 4 => .int .i64 n
 | 5 => .int .i64 (n - 1)
 | 6 => .pointer (some ⟨b,off + (n - 1 : Nat) * 1,none⟩)
 | 7 => .int .i64 g
 | 8 => .int .i64 (max f g)
 | 9 => .int .i64 (max f g)
 | 10 => .int .i64 0
 | _=>undef
def rowsKq11 (b off n c : Nat) (f g : Int) (k : Nat) (env : Env) : List Row :=
 match k with
 | _=>[]
theorem locKq11 (b off n c : Nat) (f g : Int) : ∀ k env i q9,i ≠ k → (tAt tsKq11 k).sup.contains i = false → valKq11 b off n c f g k (upd env i q9)=valKq11 b off n c f g k env∧rowsKq11 b off n c f g k (upd env i q9)=rowsKq11 b off n c f g k env:=by
 intro k env i q hk hs
 have hu : ∀ j,j ≠ i → upd env i q j = env j:=fun j hj=>by unfold upd;rw [if_neg hj]
 match k,hk,hs with
 | 0,_,_=>exact ⟨rfl,rfl⟩
 | 1,_,_=>exact ⟨rfl,rfl⟩
 | 2,_,_=>exact ⟨rfl,rfl⟩
 | 3,_,_=>exact ⟨rfl,rfl⟩
 | 4,_,_=>exact ⟨rfl,rfl⟩
 | 5,_,_=>exact ⟨rfl,rfl⟩
 | 6,_,_=>exact ⟨rfl,rfl⟩
 | 7,_,_=>exact ⟨rfl,rfl⟩
 | 8,_,_=>exact ⟨rfl,rfl⟩
 | 9,_,_=>exact ⟨rfl,rfl⟩
 | 10,_,_=>exact ⟨rfl,rfl⟩
 | _ + 11,_,_=>exact ⟨rfl,rfl⟩
theorem any_max {l : List Int} {w : Int} (hw : 1 ≤ w) : decide (l.foldl max 0 ≥ w)=l.any (fun x=>decide (w ≤ x)):=by
 obtain ⟨b1,b2,b3⟩:=mx1 l 0
 rw [Bool.eq_iff_iff,decide_eq_true_iff,List.any_eq_true]
 constructor
 ·intro h
  rcases b3 with b3 | b3
  ·exact ⟨_,b3,decide_eq_true h⟩
  ·omega
 ·rintro ⟨x,hx,hd⟩
  have:=b1 x hx
  rw [decide_eq_true_iff] at hd
  omega
set_option maxHeartbeats 4000000 in
theorem rKindOf_spec (l : List Int) (a : Option Addr) (c : Nat) (H : List Row) (hl : SlE H a cI 1 l) (hb : l.length ≤ 1000) (h0 : 0 < l.length) (hc : l.length ≤ c) (hv : ∀ x ∈ l,1 ≤ x∧x ≤ 9) :
  Fc Tryz.prog 35 [.slice a l.length c] H (fun v H' => v = .int .i64 (kindF l)∧H' = H):=by
 have k1 : ∀ (S : List Row) (k : Nat),SlE S a cI 1 l → k ≤ l.length → Fc Tryz.prog 85 [.slice (sfrom a c k 1) (l.length - k) (c - k)] S (fun v H' => v = .bool (alikeB (l.drop k))∧H' = S):=by
  intro S k hS hk
  have w:=ralike_spec (l.drop k) (sfrom a c k 1) (c - k) S (sleFrom hS hc k) (by rw [List.length_drop];omega) (fun x hx=>hv x (List.mem_of_mem_drop hx))
  rwa [List.length_drop] at w
 have k2 : ∀ (S : List Row) (k : Nat),SlE S a cI 1 l → k ≤ l.length → Fc Tryz.prog 85 [.slice a k c] S (fun v H' => v = .bool (alikeB (l.take k))∧H' = S):=by
  intro S k hS hk
  have w:=ralike_spec (l.take k) a c S (sleTake hS k) (by rw [List.length_take];omega) (fun x hx=>hv x (List.mem_of_mem_take hx))
  rwa [List.length_take,Nat.min_eq_left hk] at w
 have k0:=ralike_spec l a c H hl hb hv
 cases hA : alikeB l with
 | true =>
  rw [hA] at k0
  rw [kind_one.2 hA]
  refine Fc.mk (callable Tryz.call35) Tryz.func35 rfl Tryz.ntmps35 rfl ?_;dsimp only [fr]
  repeat' (first | (refine uP rfl ?_;(first | ((first | refine uN rfl ?_);(first | (refine uC (uT rfl (Args.cons rfl Args.nil)) rfl rfl (k0) ?_;rintro _ H9 ⟨rfl,hH9⟩;subst H9)|(refine uE (uM rfl rfl) rfl rfl ?_)|(refine uE (uA rfl rfl) rfl rfl ?_)))))|(refine uD rfl ?_;refine hK _ _ ?_;clear hK K) | refine uS rfl ?_ | refine uR rfl (fun K hK=>?_) | refine X.ret rfl ?_ | (refine X.ite rfl rfl (fun hc=>?_);(first | (with_reducible refine Xb.t hc ?_)) <;> clear hc))
  all_goals try (exfalso;contradiction)
  exact ret_one (by simp) Tryz.results35 rfl (H' := H) (by repeat (first | exact qR _ | apply qK | apply qC)) ⟨rfl,rfl⟩
 | false =>
  rw [hA] at k0
  have h2 : 2 ≤ l.length:=by
   refine Classical.byContradiction fun q=>?_
   match l,h0,hA,q with
   | [x],_,hA,_ =>
    have : alikeB [x] = true:=alike_iff.2 (fun a ha b hb=>by rw [List.mem_singleton.1 ha,List.mem_singleton.1 hb];omega)
    rw [this] at hA
    cases hA
   | x::y::t,_,_,q=>simp at q
  refine Fc.mk (callable Tryz.call35) Tryz.func35 rfl Tryz.ntmps35 rfl ?_;dsimp only [fr]
  repeat' (first | (refine uP rfl ?_;(first | ((first | refine uN rfl ?_);(first | (refine uC (uT rfl (Args.cons rfl Args.nil)) rfl rfl (k0) ?_;rintro _ H9 ⟨rfl,hH9⟩;subst H9)|(refine uE (uM rfl rfl) rfl rfl ?_)|(refine uE (uA rfl rfl) rfl rfl ?_)))))|(refine uD rfl ?_;refine hK _ _ ?_;clear hK K) | refine uS rfl ?_ | refine uR rfl (fun K hK=>?_) | refine X.block rfl ?_ | refine X.skip rfl ?_ | (refine X.ite rfl rfl (fun hc=>?_);(first | (with_reducible refine Xb.f hc ?_)) <;> clear hc))
  all_goals try (exfalso;contradiction)
  refine X.lp rfl (fun q F' H' => ∃ k : Nat,q = l.length - k∧1 ≤ k∧k ≤ l.length∧(∀ j,1 ≤ j → j < k → ¬ (alikeB (l.take j)=true∧alikeB (l.drop j)=true))∧H = H'∧F' = [(0,.slice a l.length c),(3,.int .i64 (k : Nat))])
   (l.length - 1) [(0,.slice a l.length c),(3,.int .i64 (1 : Nat))] _ (by repeat (first | exact uU _ | refine uV rfl ?_)) (by repeat (first | exact qR _ | apply qK | apply qC)) ⟨1,by omega,by omega,by omega,fun j h1 h2=>by omega,rfl,rfl⟩ ?_
  rintro _ _ _ ⟨k,rfl,hk1,hk,hn,rfl,rfl⟩
  by_cases hlt : k < l.length
  ·have hlt' : (k : Int)<l.length:=by omega
   have k1' := k1 H k hl (by omega)
   have k2' := k2 H k hl (by omega)
   cases hT : alikeB (l.take k)
   ·rw [hT] at k2'
    repeat' (first | (refine uP rfl ?_;(first | ((first | refine uN rfl ?_);(first | (refine uE (uQ (b:=true) rfl rfl rfl (congrArg some (decide_eq_true (by omega)))) rfl rfl ?_)|(refine uE (EvF.sliceTo (hh:=k) rfl rfl (te rfl) (te rfl) rfl (by omega)) rfl rfl ?_)|(refine uC (uT rfl (Args.cons rfl Args.nil)) rfl rfl (k2') ?_;rintro _ H9 ⟨rfl,hH9⟩;subst H9)|(refine uE (EvF.add64 (p:=(k : Int)) (q:=1) rfl rfl rfl (by omega) (by omega)) rfl rfl ?_)|(refine uE (uM rfl rfl) rfl rfl ?_)|(refine uE (uA rfl rfl) rfl rfl ?_)|(refine uE (EvF.pickF rfl rfl rfl) rfl rfl ?_)|(refine uE (uY rfl rfl (te rfl)) rfl rfl ?_)))|(refine Xo.g rfl rfl ?_;(first | (with_reducible refine Xw.ft rfl rfl ?_)))))|(refine uD rfl ?_;refine hK _ _ ?_;clear hK K) | refine uS rfl ?_ | refine uR rfl (fun K hK=>?_) | refine X.block rfl ?_ | refine X.skip rfl ?_ | (refine X.ite rfl rfl (fun hc=>?_);(first | (with_reducible refine Xb.t hc ?_)|(with_reducible refine Xb.f hc ?_)) <;> clear hc))
    all_goals try (exfalso;contradiction)
    refine ⟨_,_,_,(by rw [show (k : Int) + 1 = ((k + 1 : Nat) : Int) by omega];exact (by repeat (first | exact uU _ | refine uV rfl ?_))),(by repeat (first | exact qR _ | apply qK | apply qC)),⟨k + 1,rfl,by omega,by omega,fun j g1 g2=>?_,rfl,rfl⟩,by omega⟩
    by_cases e : j = k
    ·subst e;rw [hT];exact fun q=>by cases q.1
    ·exact hn j g1 (by omega)
   ·rw [hT] at k2'
    cases hD : alikeB (l.drop k)
    ·rw [hD] at k1'
     repeat' (first | (refine uP rfl ?_;(first | ((first | refine uN rfl ?_ | (refine Xo.g rfl rfl ?_;with_reducible refine Xw.tt ?_));(first | (refine uE (uQ (b:=true) rfl rfl rfl (congrArg some (decide_eq_true (by omega)))) rfl rfl ?_)|(refine uE (EvF.sliceTo (hh:=k) rfl rfl (te rfl) (te rfl) rfl (by omega)) rfl rfl ?_)|(refine uE (EvF.sliceFrom (lo:=k) rfl rfl (te rfl) (te rfl) rfl (by omega) (by omega)) rfl rfl ?_)|(refine uC (uT rfl (Args.cons rfl Args.nil)) rfl rfl (k2') ?_;rintro _ H9 ⟨rfl,hH9⟩;subst H9)|(refine uC (uT rfl (Args.cons rfl Args.nil)) rfl rfl (k1') ?_;rintro _ H9 ⟨rfl,hH9⟩;subst H9)|(refine uE (EvF.add64 (p:=(k : Int)) (q:=1) rfl rfl rfl (by omega) (by omega)) rfl rfl ?_)|(refine uE (uM rfl rfl) rfl rfl ?_)|(refine uE (uA rfl rfl) rfl rfl ?_)|(refine uE (EvF.pickT rfl rfl rfl) rfl rfl ?_)|(refine uE (uY rfl rfl (te rfl)) rfl rfl ?_)))))|(refine uD rfl ?_;refine hK _ _ ?_;clear hK K) | refine uS rfl ?_ | refine uR rfl (fun K hK=>?_) | refine X.block rfl ?_ | refine X.skip rfl ?_ | (refine X.ite rfl rfl (fun hc=>?_);(first | (with_reducible refine Xb.t hc ?_)|(with_reducible refine Xb.f hc ?_)) <;> clear hc))
     all_goals try (exfalso;contradiction)
     refine ⟨_,_,_,(by rw [show (k : Int) + 1 = ((k + 1 : Nat) : Int) by omega];exact (by repeat (first | exact uU _ | refine uV rfl ?_))),(by repeat (first | exact qR _ | apply qK | apply qC)),⟨k + 1,rfl,by omega,by omega,fun j g1 g2=>?_,rfl,rfl⟩,by omega⟩
     by_cases e : j = k
     ·subst e;rw [hD];exact fun q=>by cases q.2
     ·exact hn j g1 (by omega)
    ·rw [hD] at k1'
     have hK : kindF l = 2:=kind_two.2 ⟨hA,cuts_some.2 ⟨k,hk1,hlt,hT,hD⟩⟩
     rw [hK]
     repeat' (first | (refine uP rfl ?_;(first | ((first | refine uN rfl ?_ | (refine Xo.g rfl rfl ?_;with_reducible refine Xw.tt ?_));(first | (refine uE (uQ (b:=true) rfl rfl rfl (congrArg some (decide_eq_true (by omega)))) rfl rfl ?_)|(refine uE (EvF.sliceTo (hh:=k) rfl rfl (te rfl) (te rfl) rfl (by omega)) rfl rfl ?_)|(refine uE (EvF.sliceFrom (lo:=k) rfl rfl (te rfl) (te rfl) rfl (by omega) (by omega)) rfl rfl ?_)|(refine uC (uT rfl (Args.cons rfl Args.nil)) rfl rfl (k2') ?_;rintro _ H9 ⟨rfl,hH9⟩;subst H9)|(refine uC (uT rfl (Args.cons rfl Args.nil)) rfl rfl (k1') ?_;rintro _ H9 ⟨rfl,hH9⟩;subst H9)|(refine uE (uM rfl rfl) rfl rfl ?_)|(refine uE (uA rfl rfl) rfl rfl ?_)|(refine uE (EvF.pickT rfl rfl rfl) rfl rfl ?_)|(refine uE (uY rfl rfl (te rfl)) rfl rfl ?_)))))|(refine uD rfl ?_;refine hK _ _ ?_;clear hK K) | refine uS rfl ?_ | refine uR rfl (fun K hK=>?_) | refine X.block rfl ?_ | refine X.skip rfl ?_ | refine X.ret rfl ?_ | (refine X.ite rfl rfl (fun hc=>?_);(first | (with_reducible refine Xb.t hc ?_)) <;> clear hc))
     all_goals try (exfalso;contradiction)
     exact ret_one (by simp) Tryz.results35 rfl (H' := H) (by repeat (first | exact qR _ | apply qK | apply qC)) ⟨rfl,rfl⟩
  ·obtain rfl : k = l.length:=by omega
   have hlt' : ¬ ((l.length : Nat) : Int)<l.length:=by omega
   have hK : kindF l = if falseF l = true then 3 else 4:=by
    have : ¬ (cutsF l).lo ≤ (cutsF l).hi:=fun q=>by
     obtain ⟨j,j1,j2,j3,j4⟩:=cuts_some.1 q
     exact hn j j1 j2 ⟨j3,j4⟩
    unfold kindF
    rw [if_neg (by rw [hA];decide),if_neg this]
   rw [hK]
   clear hK hn k0
   obtain ⟨b,off,f,rfl,hf⟩:=hl.elem (i:=0) (by omega)
   obtain ⟨g,hg⟩ : ∃ g,l[l.length - 1]? = some g:=⟨_,List.getElem?_eq_getElem (by omega)⟩
   have hfv:=hv f (List.mem_of_getElem? hf)
   have hgv:=hv g (List.mem_of_getElem? hg)
   have hF : falseF l = ((midL l).all (fun x=>decide (max f g ≤ x)) && ((midL l).any (fun x=>decide (max f g + 2 ≤ x)) && alikeB [f,g])):=by
    have e1 : l.headD 0 = f:=by rw [List.headD_eq_head?_getD,List.head?_eq_getElem?,hf];rfl
    have e2 : l.getLastD 0 = g:=by rw [List.getLastD_eq_getLast?,List.getLast?_eq_getElem?,hg];rfl
    unfold falseF
    rw [e1,e2]
   rw [hF]
   have k3 : ∀ (S : List Row) (d q : Nat),SlE S (some ⟨d,0,none⟩) cI 1 [f,g] → Fc Tryz.prog 85 [.slice (some ⟨d,0,none⟩) 2 q] S (fun v H' => v = .bool (alikeB [f,g])∧H' = S):=fun S d q hS =>
    ralike_spec [f,g] (some ⟨d,0,none⟩) q S hS (by simp) (fun x hx=>by
     rcases List.mem_cons.1 hx with rfl | hx
     ·exact hfv
     ·rw [List.mem_singleton.1 hx];exact hgv)
   obtain ⟨al,hal⟩ : ∃ al,al = alikeB [f,g]:=⟨_,rfl⟩
   rw [← hal] at k3 ⊢
   have hmid : SlE H (some ⟨b,off + 1 * 1,none⟩) cI 1 (midL l):=by
    have:=sleTake (sleFrom hl hc 1) (l.length - 2)
    rwa [sfrom_lt (by omega)] at this
   have hml : (midL l).length = l.length - 2:=by
    unfold midL
    rw [List.length_take,List.length_drop]
    omega
   have hmv : ∀ x ∈ midL l,1 ≤ x∧x ≤ 9:=fun x hx=>hv x (List.mem_of_mem_drop (List.mem_of_mem_take hx))
   obtain ⟨m,hm⟩ : ∃ m,m = midL l:=⟨_,rfl⟩
   rw [← hm] at hmid hml hmv ⊢
   obtain ⟨n,hnE⟩ : ∃ n,n = l.length:=⟨_,rfl⟩
   rw [← hnE] at hb h0 hg hml hc h2 hlt' ⊢
   have hnn : (n - 1 : Nat)=((n : Int) - 1).toNat:=by omega
   clear k1 k2 hA hF hal hm hlt hk hk1
   repeat' (first | (refine uP rfl ?_;(first | ((first | refine uN rfl ?_);(first | (refine uE (uQ (b:=false) rfl rfl rfl (congrArg some (decide_eq_false (by omega)))) rfl rfl ?_)|(refine uE (uM rfl rfl) rfl rfl ?_)|(refine uE (uA rfl rfl) rfl rfl ?_)|(refine uE (uY rfl rfl (te rfl)) rfl rfl ?_)))))|(refine uD rfl ?_;refine hK _ _ ?_;clear hK K) | refine uS rfl ?_ | refine uR rfl (fun K hK=>?_)|(refine X.brk rfl ?_;repeat (first | refine blockX_hit rfl ?_ | refine blockX_miss (by decide) ?_))|(refine X.ite rfl rfl (fun hc=>?_);(first | (with_reducible refine Xb.f hc ?_)) <;> clear hc))
   all_goals try (exfalso;contradiction)
   refine X.weak (F' := [(0,.slice (some ⟨b,off,none⟩) n c),(4,.int .i64 n)]) (H' := H) (by repeat (first | exact uU _ | refine uV rfl ?_)) (by repeat (first | exact qR _ | apply qK | apply qC)) ?_
   refine X.regionOb tsKq9 [0,4] [(0,.slice (some ⟨b,off,none⟩) n c),(4,.int .i64 n)] (valKq9 b off n c f g al) (rowsKq9 b off n c f g al) (fun _=>(0,0)) (H) rfl mixed (by repeat (first | exact uU _ | refine uV rfl ?_)) rfl (by kernel_rfl) (locKq9 b off n c f g al) (qR _) ?_ ?_
   ·repeat' (first | exact AllF.done rfl | (refine AllF.step rfl ?_ ?_;·(first | fail | ((first | refine Ob.ng rfl ?_);(first | exact uK (fun env R hR=>by exact ⟨_,uM rfl rfl,rfl⟩) rfl (fun _=>rfl) | exact uK (fun env R hR=>by exact ⟨_,EvF.not rfl rfl,rfl⟩) rfl (fun _=>rfl)|((refine uK (fun env S hS=>⟨.pointer (some ⟨b,off + 0 * 1,none⟩),?_,rfl⟩) rfl (fun _=>rfl);exact uJ (i:=0) (off:=off) (b:=b) (T:=49) (e:=3) (len:=n) rfl rfl rfl (te rfl) (te rfl) (by omega) (by omega)))|((refine uK (fun env S hS=>⟨.pointer (some ⟨b,off + (n - 1 : Nat) * 1,none⟩),?_,rfl⟩) rfl (fun _=>rfl);rw [hnn];exact uJ (i:=((n : Int) - 1)) (off:=off) (b:=b) (T:=49) (e:=3) (len:=n) rfl rfl rfl (te rfl) (te rfl) (by omega) (by omega)))|(exact uK (fun env S hS=>⟨.int .i64 f,uL rfl rfl (LoadV.el0 (n:=0) (hl.sub hS) hf (te rfl) rfl (fun _ h=>h) rfl),rfl⟩) rfl (fun _=>rfl))|(exact uK (fun env S hS=>⟨.int .i64 g,uL rfl rfl (LoadV.el0 (n:=n - 1) (hl.sub hS) hg (te rfl) rfl (fun _ h=>h) rfl),rfl⟩) rfl (fun _=>rfl))|(exact uK (fun env S hS=>⟨_,EvF.sub64 (p:=(n : Int)) (q:=1) rfl rfl rfl (by omega) (by omega),rfl⟩) rfl (fun _=>rfl))|(exact fun env S hS=>(StF.buildTwo (v0 := .int .i64 f) (v1 := .int .i64 g) rfl el55 rfl rfl rfl rfl rfl rfl (by decide) (by decide)).op.mono (fun v H' ⟨b,hv,hH⟩=>⟨(b,0),fun _=>hv,by rw [hH];exact List.Perm.refl _⟩))|(exact fun env S hS=>OpF.callV (Z:=[⟨(env 8).1,0,[.int .i64 f,.int .i64 g],some 3,2 * 1⟩]) (uT rfl (Args.cons rfl Args.nil)) (k3 _ (env 8).1 2 (SlE.ofRow (l:=[f,g]) (qH _) (fun _ _=>rfl))) rfl rfl))))))
   ·intro env t ha2 hv;refine ⟨_,ha2.cons (hv 10 39 (Nat.le_of_ble_eq_true rfl) rfl),?_⟩;clear hv ha2
    show X _ _ _ [(39,.bool (!al)),(0,.slice (some ⟨b,off,none⟩) n c),(4,.int .i64 n)] H _
    cases al
    ·rw [Bool.and_false,Bool.and_false,if_neg (by decide)]
     repeat' (first | (refine uP rfl ?_;(first | ((first | refine uN rfl ?_);(first | (refine uE (uA rfl rfl) rfl rfl ?_)))))|(refine uD rfl ?_;refine hK _ _ ?_;clear hK K) | refine uS rfl ?_ | refine uR rfl (fun K hK=>?_) | refine X.skip rfl ?_ | refine X.ret rfl ?_ | (refine X.ite rfl rfl (fun hc=>?_);(first | (with_reducible refine Xb.caseB hc (fun h=>?_) (fun h=>?_))) <;> clear hc))
     all_goals try (exfalso;contradiction)
     exact ret_one (by simp) Tryz.results35 rfl (H' := H) (by repeat (first | exact qR _ | apply qK | apply qC)) ⟨rfl,rfl⟩
    ·rw [Bool.and_true]
     repeat' (first | (refine uP rfl ?_;(first | ((first | refine uN rfl ?_);(first | (refine uE (uA rfl rfl) rfl rfl ?_)))))|(refine uD rfl ?_;refine hK _ _ ?_;clear hK K) | refine uS rfl ?_ | refine uR rfl (fun K hK=>?_) | refine X.skip rfl ?_ | refine X.ret rfl ?_ | (refine X.ite rfl rfl (fun hc=>?_);(first | (with_reducible refine Xb.caseB hc (fun h=>?_) (fun h=>?_))) <;> clear hc))
     all_goals try (exfalso;contradiction)
     refine X.weak (F' := [(0,.slice (some ⟨b,off,none⟩) n c),(4,.int .i64 n)]) (H' := H) (by repeat (first | exact uU _ | refine uV rfl ?_)) (by repeat (first | exact qR _ | apply qK | apply qC)) ?_
     refine X.regionOb tsKq11 [0,4] [(0,.slice (some ⟨b,off,none⟩) n c),(4,.int .i64 n)] (valKq11 b off n c f g) (rowsKq11 b off n c f g) (fun _=>(0,0)) (H) rfl mixed (by repeat (first | exact uU _ | refine uV rfl ?_)) rfl (by kernel_rfl) (locKq11 b off n c f g) (qR _) ?_ ?_
     ·repeat' (first | exact AllF.done rfl | (refine AllF.step rfl ?_ ?_;·(first | fail | ((first | refine Ob.ng rfl ?_);(first | exact uK (fun env R hR=>by exact ⟨_,uM rfl rfl,rfl⟩) rfl (fun _=>rfl) | exact uK (fun env R hR=>by exact ⟨_,uA rfl rfl,rfl⟩) rfl (fun _=>rfl)|((refine uK (fun env S hS=>⟨.pointer (some ⟨b,off + 0 * 1,none⟩),?_,rfl⟩) rfl (fun _=>rfl);exact uJ (i:=0) (off:=off) (b:=b) (T:=49) (e:=3) (len:=n) rfl rfl rfl (te rfl) (te rfl) (by omega) (by omega)))|((refine uK (fun env S hS=>⟨.pointer (some ⟨b,off + (n - 1 : Nat) * 1,none⟩),?_,rfl⟩) rfl (fun _=>rfl);rw [hnn];exact uJ (i:=((n : Int) - 1)) (off:=off) (b:=b) (T:=49) (e:=3) (len:=n) rfl rfl rfl (te rfl) (te rfl) (by omega) (by omega)))|(exact uK (fun env S hS=>⟨.int .i64 f,uL rfl rfl (LoadV.el0 (n:=0) (hl.sub hS) hf (te rfl) rfl (fun _ h=>h) rfl),rfl⟩) rfl (fun _=>rfl))|(exact uK (fun env S hS=>⟨.int .i64 g,uL rfl rfl (LoadV.el0 (n:=n - 1) (hl.sub hS) hg (te rfl) rfl (fun _ h=>h) rfl),rfl⟩) rfl (fun _=>rfl))|(exact uK (fun env S hS=>⟨_,EvF.sub64 (p:=(n : Int)) (q:=1) rfl rfl rfl (by omega) (by omega),rfl⟩) rfl (fun _=>rfl))|(exact uK (fun env S hS=>⟨_,EvF.max64 (p:=f) (q:=g) rfl rfl rfl,rfl⟩) rfl (fun _=>rfl)))))))
     ·intro env t ha2 hv;refine ⟨_,(ha2.cons (hv 9 5 (Nat.le_of_ble_eq_true rfl) rfl)).cons (hv 10 6 (Nat.le_of_ble_eq_true rfl) rfl),?_⟩;clear hv ha2
      show X _ _ _ [(6,.int .i64 0),(5,.int .i64 (max f g)),(0,.slice (some ⟨b,off,none⟩) n c),(4,.int .i64 n)] H _
      have hw1 : 1 ≤ max f g∧max f g ≤ 9:=by omega
      obtain ⟨w0,hw0⟩ : ∃ w0,w0 = max f g:=⟨_,rfl⟩
      rw [← hw0] at hw1 ⊢
      have hcn : ¬ c = 1:=by omega
      have hcn2 : ((n : Int) - 1)=((n - 1 : Nat) : Int):=by omega
      repeat' (first | (refine uP rfl ?_;(first | ((first | refine uN rfl ?_);(first | (refine uE (EvF.sub64 (p:=(n : Int)) (q:=1) rfl rfl rfl (by omega) (by omega)) rfl rfl ?_)|(refine uE (EvF.sliceLH (l:=1) (hh:=n - 1) rfl rfl (te rfl) (te rfl) rfl (congrArg (fun z=>some (Value.int .i64 z)) hcn2) (by omega) (by omega) (by omega)) rfl rfl ?_)|(refine uE (uM rfl rfl) rfl rfl ?_)|(refine uE (uY rfl rfl (te rfl)) rfl rfl ?_)))))|(refine uD rfl ?_;refine hK _ _ ?_;clear hK K) | refine uS rfl ?_ | refine uR rfl (fun K hK=>?_) | refine X.block rfl ?_)
      have hml' : n - 1 - 1 = m.length:=by omega
      rw [hml']
      clear hf hg hl hc hnE hnn hcn2
      refine X.lp rfl (fun q F' H' => ∃ i : Nat,q = m.length - i∧i ≤ m.length∧(∀ x ∈ m.take i,w0 ≤ x)∧H = H' ∧
        F' = [(5,.int .i64 w0),(6,.int .i64 ((m.take i).foldl max 0)),(52,.slice (some ⟨b,off + 1 * 1,none⟩) m.length (c - 1)),(53,.int .i64 m.length),(54,.int .i64 (i : Nat))])
       m.length [(5,.int .i64 w0),(6,.int .i64 ((m.take 0).foldl max 0)),(52,.slice (some ⟨b,off + 1 * 1,none⟩) m.length (c - 1)),(53,.int .i64 m.length),(54,.int .i64 (0 : Nat))] _ (by repeat (first | exact uU _ | refine uV rfl ?_)) (by repeat (first | exact qR _ | apply qK | apply qC)) ⟨0,by omega,by omega,fun x hx=>absurd hx List.not_mem_nil,rfl,rfl⟩ ?_
      rintro _ _ _ ⟨i,rfl,hi,hal,rfl,rfl⟩
      by_cases hq : i < m.length
      ·have hq' : (i : Int)<m.length:=by omega
       obtain ⟨x,hx⟩ : ∃ x,m[i]? = some x:=⟨_,List.getElem?_eq_getElem hq⟩
       have htk : m.take (i + 1)=m.take i++[x]:=take_snoc hx
       have hfo : (m.take (i + 1)).foldl max 0 = max ((m.take i).foldl max 0) x:=by rw [htk,List.foldl_append];rfl
       obtain ⟨mx,hmx⟩ : ∃ mx,mx = (m.take i).foldl max 0:=⟨_,rfl⟩
       rw [← hmx] at hfo ⊢
       by_cases hlt : x < w0
       ·have hno : m.all (fun x=>decide (w0 ≤ x)) = false:=by
         rw [← Bool.not_eq_true,List.all_eq_true]
         intro h
         have:=h x (List.mem_of_getElem? hx)
         rw [decide_eq_true_eq] at this
         omega
        rw [hno,Bool.false_and,if_neg (by decide)]
        repeat' (first | (refine uP rfl ?_;(first | ((first | refine uN rfl ?_);(first | (refine uE (uQ (b:=true) rfl rfl rfl (congrArg some (decide_eq_true (by omega)))) rfl rfl ?_)|(refine uE (uJ (i:=(i : Int)) rfl rfl rfl (te rfl) (te rfl) (by omega) (by omega)) rfl rfl ?_)|(refine uE (uL (v := .int .i64 x) rfl rfl (LoadV.el0 (n:=i) hmid hx (te rfl) rfl (fun _ h=>h) rfl)) rfl rfl ?_)|(refine uE (uM rfl rfl) rfl rfl ?_)|(refine uE (uA rfl rfl) rfl rfl ?_)))))|(refine uD rfl ?_;refine hK _ _ ?_;clear hK K) | refine uS rfl ?_ | refine uR rfl (fun K hK=>?_) | refine X.block rfl ?_ | refine X.skip rfl ?_ | refine X.ret rfl ?_ | (refine X.ite rfl rfl (fun hc=>?_);(first | (with_reducible refine Xb.t hc ?_)) <;> clear hc))
        exact ret_one (by simp) Tryz.results35 rfl (H' := H) (by repeat (first | exact qR _ | apply qK | apply qC)) ⟨rfl,rfl⟩
       ·repeat' (first | (refine uP rfl ?_;(first | ((first | refine uN rfl ?_);(first | (refine uE (uQ (b:=true) rfl rfl rfl (congrArg some (decide_eq_true (by omega)))) rfl rfl ?_)|(refine uE (uQ (b:=false) rfl rfl rfl (congrArg some (decide_eq_false (by omega)))) rfl rfl ?_)|(refine uE (uJ (i:=(i : Int)) rfl rfl rfl (te rfl) (te rfl) (by omega) (by omega)) rfl rfl ?_)|(refine uE (uL (v := .int .i64 x) rfl rfl (LoadV.el0 (n:=i) hmid hx (te rfl) rfl (fun _ h=>h) rfl)) rfl rfl ?_)|(refine uE (EvF.max64 (p:=mx) (q:=x) rfl rfl rfl) rfl rfl ?_)|(refine uE (EvF.add64 (p:=(i : Int)) (q:=1) rfl rfl rfl (by omega) (by omega)) rfl rfl ?_)|(refine uE (uM rfl rfl) rfl rfl ?_)|(refine uE (uA rfl rfl) rfl rfl ?_)))))|(refine uD rfl ?_;refine hK _ _ ?_;clear hK K) | refine uS rfl ?_ | refine uR rfl (fun K hK=>?_) | refine X.block rfl ?_ | refine X.skip rfl ?_ | (refine X.ite rfl rfl (fun hc=>?_);(first | (with_reducible refine Xb.t hc ?_)|(with_reducible refine Xb.f hc ?_)) <;> clear hc))
        refine ⟨_,_,_,(by rw [hfo,show (i : Int) + 1 = ((i + 1 : Nat) : Int) by omega];exact (by repeat (first | exact uU _ | refine uV rfl ?_))),(by repeat (first | exact qR _ | apply qK | apply qC)),⟨i + 1,rfl,by omega,fun y hy=>?_,rfl,rfl⟩,by omega⟩
        rw [htk,List.mem_append,List.mem_singleton] at hy
        rcases hy with h | rfl
        ·exact hal y h
        ·omega
      ·obtain rfl : i = m.length:=by omega
       have hq' : ¬ ((m.length : Nat) : Int)<m.length:=by omega
       rw [List.take_length] at hal ⊢
       have hyes : m.all (fun x=>decide (w0 ≤ x)) = true:=List.all_eq_true.2 (fun x hx=>decide_eq_true (hal x hx))
       have ham:=any_max (l:=m) (w:=w0 + 2) (by omega)
       rw [hyes,Bool.true_and, ← ham]
       obtain ⟨mx,hmx⟩ : ∃ mx,mx = m.foldl max 0:=⟨_,rfl⟩
       rw [← hmx]
       by_cases hge : mx ≥ w0 + 2
       ·rw [decide_eq_true hge,if_pos rfl]
        repeat' (first | (refine uP rfl ?_;(first | ((first | refine uN rfl ?_);(first | (refine uE (uQ (b:=true) rfl rfl rfl (congrArg some (decide_eq_true (by omega)))) rfl rfl ?_)|(refine uE (uQ (b:=false) rfl rfl rfl (congrArg some (decide_eq_false (by omega)))) rfl rfl ?_)|(refine uE (EvF.add64 (p:=w0) (q:=2) rfl rfl rfl (by omega) (by omega)) rfl rfl ?_)|(refine uE (uM rfl rfl) rfl rfl ?_)|(refine uE (uA rfl rfl) rfl rfl ?_)))))|(refine uD rfl ?_;refine hK _ _ ?_;clear hK K) | refine uS rfl ?_ | refine uR rfl (fun K hK=>?_)|(refine X.brk rfl ?_;repeat (first | refine blockX_hit rfl ?_ | refine blockX_miss (by decide) ?_)) | refine X.ret rfl ?_ | (refine X.ite rfl rfl (fun hc=>?_);(first | (with_reducible refine Xb.t hc ?_)|(with_reducible refine Xb.f hc ?_)) <;> clear hc))
        exact ret_one (by simp) Tryz.results35 rfl (H' := H) (by repeat (first | exact qR _ | apply qK | apply qC)) ⟨rfl,rfl⟩
       ·rw [decide_eq_false hge,if_neg (by decide)]
        repeat' (first | (refine uP rfl ?_;(first | ((first | refine uN rfl ?_);(first | (refine uE (uQ (b:=false) rfl rfl rfl (congrArg some (decide_eq_false (by omega)))) rfl rfl ?_)|(refine uE (EvF.add64 (p:=w0) (q:=2) rfl rfl rfl (by omega) (by omega)) rfl rfl ?_)|(refine uE (uM rfl rfl) rfl rfl ?_)|(refine uE (uA rfl rfl) rfl rfl ?_)))))|(refine uD rfl ?_;refine hK _ _ ?_;clear hK K) | refine uS rfl ?_ | refine uR rfl (fun K hK=>?_)|(refine X.brk rfl ?_;repeat (first | refine blockX_hit rfl ?_ | refine blockX_miss (by decide) ?_)) | refine X.skip rfl ?_ | refine X.ret rfl ?_ | (refine X.ite rfl rfl (fun hc=>?_);(first | (with_reducible refine Xb.f hc ?_)) <;> clear hc))
        exact ret_one (by simp) Tryz.results35 rfl (H' := H) (by repeat (first | exact qR _ | apply qK | apply qC)) ⟨rfl,rfl⟩
theorem set_dr : ∀ (l : List Dr) (j : Nat) (e : Dr) (a b : Int),l[j]? = some e → ((l.flatMap cDr).set (j * 4 + 2) (.int .i64 a)).set (j * 4 + 3) (.int .i64 b)=(l.set j ⟨e.number,e.val,a,b⟩).flatMap cDr
 | [],_,_,_,_,h=>by cases h
 | d::t,0,e,a,b,h=>by cases h;rfl
 | d::t,j + 1,e,a,b,h=>by
  have ih:=set_dr t j e a b h
  rw [List.flatMap_cons,List.set_cons_succ,List.flatMap_cons, ← ih,show (j + 1) * 4 + 2 = j * 4 + 2 + 4 by omega,show (j + 1) * 4 + 3 = j * 4 + 3 + 4 by omega]
  rfl
theorem splice_dr {l : List Dr} {j : Nat} {e : Dr} {a b : Int} (h : l[j]? = some e) : splice (l.flatMap cDr) (j * 4 + 2) (cSp ⟨a,b⟩) = (l.set j ⟨e.number,e.val,a,b⟩).flatMap cDr:=by
 have hl : j * 4 + 3 < (l.flatMap cDr).length:=by
  have:=(List.getElem?_eq_some_iff.1 h).1
  rw [lenDr]
  omega
 rw [← set_dr l j e a b h]
 show splice _ _ [.int .i64 a,.int .i64 b] = _
 rw [← splice_cons (by show j * 4 + 2 + (1 + 1)≤(l.flatMap cDr).length;omega), ← splice_cons (by show j * 4 + 2 + 1 + (0 + 1)≤((l.flatMap cDr).set _ _).length;rw [List.length_set];omega),splice_nil]
theorem shD_set : ∀ (k : Nat) (g : List Int) (j : Nat) (x : Int),(shD k g).set j ⟨(k + j : Nat) + 1,(k + j : Nat),x,x⟩ = shD k (g.set j x)
 | _,[],_,_=>rfl
 | k,y::t,0,x=>rfl
 | k,y::t,j + 1,x=>by
  have:=shD_set (k + 1) t j x
  rw [show k + 1 + j = k + (j + 1) by omega] at this
  show (⟨k + 1,k,y,y⟩ : Dr)::(shD (k + 1) t).set j _ = (⟨k + 1,k,y,y⟩ : Dr)::shD (k + 1) (t.set j x)
  rw [this]
/-- turned round, as far as it is done -/
def mixL (g : List Int) (j : Nat) : List Int:=g.reverse.take j++g.drop j
theorem mixL_len {g : List Int} {j : Nat} (h : j ≤ g.length) : (mixL g j).length = g.length:=by
 unfold mixL
 rw [List.length_append,List.length_take,List.length_drop,List.length_reverse]
 omega
theorem mixL_step {g : List Int} {j : Nat} {x : Int} (h : j < g.length) (hx : g[g.length - 1 - j]? = some x) : (mixL g j).set j x = mixL g (j + 1):=by
 have hr : g.reverse[j]? = some x:=by rw [List.getElem?_reverse h];exact hx
 unfold mixL
 rw [take_snoc hr,List.set_append_right _ _ (by rw [List.length_take];omega),List.length_take,List.length_reverse,Nat.min_eq_left (by omega),Nat.sub_self,List.append_assoc]
 obtain ⟨y,hy⟩ : ∃ y,g[j]? = some y:=⟨_,List.getElem?_eq_getElem h⟩
 rw [drop_cons hy]
 rfl
theorem shB_cells (g : List Int) (n : Nat) (h : g.length = n) (p : Pb) : cBl (shB g) p = [.int .i64 1,.int .i64 n,.int .i64 1,.int .i64 1,.slice p.a1 n p.c1,.slice p.a2 0 p.c2]:=by
 show [_,_,_,_,Value.slice p.a1 (shD 0 g).length p.c1,_] = _
 rw [shD_len,h]
 subst h
 rfl
theorem openE_sh {g : List Int} (h1 : 1 ≤ g.length) (h5 : g.length ≤ 5) (hg : ∀ x ∈ g,1 ≤ x∧x ≤ 9) (k : List Int) (hk : ∀ n ∈ k,1 ≤ n∧n ≤ 4) : openE (shB g) ⟨[],k,[],[]⟩ = 0 :=
 oE (shB_ok h1 h5 hg) (can_sh h1 h5 hg) (fun _ h=>absurd h List.not_mem_nil) hk (fun _ h=>absurd h List.not_mem_nil) (fun _ h=>absurd h List.not_mem_nil)
theorem of_sh {g : List Int} (h1 : 1 ≤ g.length) (h5 : g.length ≤ 5) (hg : ∀ x ∈ g,1 ≤ x∧x ≤ 9) (k : Int) : ofKind (truthsB (shB g)) k = if kindF g = k then 2 else 0:=by
 unfold ofKind
 rw [truths_sh h1 h5 hg]
 show knb (decide (kindF g = k) || false) (!decide (kindF g = k) || false)=_
 by_cases h : kindF g = k
 ·rw [decide_eq_true h,if_pos h];rfl
 ·rw [decide_eq_false h,if_neg h];rfl
def tsKr30 : List TOp:=[⟨some 193,[],[],[]⟩,⟨some 194,[0],[0],[]⟩,⟨some 195,[],[],[]⟩,⟨some 196,[],[],[]⟩,⟨some 197,[],[],[]⟩,⟨some 198,[4],[4],[]⟩,⟨some 199,[4,5],[5],[]⟩,⟨some 200,[],[],[]⟩,⟨some 201,[4,5,6,7],[6,7],[]⟩,⟨some 202,[3,4,5,6,7,8],[3,8],[]⟩,⟨some 203,[3,4,5,6,7,8,9],[9],[]⟩,⟨some 204,[],[],[]⟩,⟨some 205,[],[],[]⟩,⟨some 206,[12],[12],[]⟩,⟨some 207,[12,13],[13],[]⟩,⟨some 208,[],[],[]⟩,⟨some 209,[12,13,14,15],[14,15],[]⟩,⟨some 210,[11,12,13,14,15,16],[11,16],[]⟩,⟨some 211,[11,12,13,14,15,16,17],[17],[]⟩,⟨some 212,[3,4,5,6,7,8,9,10,11,12,13,14,15,16,17,18],[10,18],[]⟩,⟨some 213,[0,1,2,3,4,5,6,7,8,9,10,11,12,13,14,15,16,17,18,19],[1,2],[]⟩,⟨some 214,[0,1,2,3,4,5,6,7,8,9,10,11,12,13,14,15,16,17,18,19,20],[20],[]⟩,⟨none,[0,1,2,3,4,5,6,7,8,9,10,11,12,13,14,15,16,17,18,19,20,21],[21,19],[23]⟩,⟨none,[],[],[]⟩]
def valKr30 (b19 b5 bd n c5 k1 cap j r : Nat) (g : List Int) (x w : Int) (k : Nat) (env : Env) : Value :=
 match k with
 | 0 => .pointer (some ⟨b19,4,none⟩)
 | 1 => .slice (some ⟨bd,0,none⟩) n k1
 | 2 => .int .i64 j
 | 3 => .slice (some ⟨b5,0,none⟩) n c5
 | 4 => .slice (some ⟨b5,0,none⟩) n c5
 | 5 => .int .i64 n
 | 6 => .int .i64 (n - 1)
 | 7 => .int .i64 j
 | 8 => .int .i64 (n - 1 - j)
 | 9 => .pointer (some ⟨b5,0 + r * 1,none⟩)
 | 10 => .int .i64 x
 | 11 => .slice (some ⟨b5,0,none⟩) n c5
 | 12 => .slice (some ⟨b5,0,none⟩) n c5
 | 13 => .int .i64 n
 | 14 => .int .i64 (n - 1)
 | 15 => .int .i64 j
 | 16 => .int .i64 (n - 1 - j)
 | 17 => .pointer (some ⟨b5,0 + r * 1,none⟩)
 | 18 => .int .i64 x
 | 19 => .agg (cSp ⟨x,x⟩).toArray
 | 20 => .pointer (some ⟨bd,0 + j * 4,none⟩)
 | 21 => .pointer (some ⟨bd,0 + j * 4 + 2,none⟩)
 | 22=>undef
 | _=>undef
def rowsKr30 (b19 b5 bd n c5 k1 cap j r : Nat) (g : List Int) (x w : Int) (k : Nat) (env : Env) : List Row :=
 match k with
 | 22=>[⟨bd,0,(shD 0 (mixL g (j + 1))).flatMap cDr,some 38,cap⟩]
 | 23=>[⟨bd,0,(shD 0 (mixL g j)).flatMap cDr,some 38,cap⟩]
 | _=>[]
theorem locKr30 (b19 b5 bd n c5 k1 cap j r : Nat) (g : List Int) (x w : Int) : ∀ k env i q9,i ≠ k → (tAt tsKr30 k).sup.contains i = false → valKr30 b19 b5 bd n c5 k1 cap j r g x w k (upd env i q9)=valKr30 b19 b5 bd n c5 k1 cap j r g x w k env∧rowsKr30 b19 b5 bd n c5 k1 cap j r g x w k (upd env i q9)=rowsKr30 b19 b5 bd n c5 k1 cap j r g x w k env:=by
 intro k env i q hk hs
 have hu : ∀ j,j ≠ i → upd env i q j = env j:=fun j hj=>by unfold upd;rw [if_neg hj]
 match k,hk,hs with
 | 0,_,_=>exact ⟨rfl,rfl⟩
 | 1,_,_=>exact ⟨rfl,rfl⟩
 | 2,_,_=>exact ⟨rfl,rfl⟩
 | 3,_,_=>exact ⟨rfl,rfl⟩
 | 4,_,_=>exact ⟨rfl,rfl⟩
 | 5,_,_=>exact ⟨rfl,rfl⟩
 | 6,_,_=>exact ⟨rfl,rfl⟩
 | 7,_,_=>exact ⟨rfl,rfl⟩
 | 8,_,_=>exact ⟨rfl,rfl⟩
 | 9,_,_=>exact ⟨rfl,rfl⟩
 | 10,_,_=>exact ⟨rfl,rfl⟩
 | 11,_,_=>exact ⟨rfl,rfl⟩
 | 12,_,_=>exact ⟨rfl,rfl⟩
 | 13,_,_=>exact ⟨rfl,rfl⟩
 | 14,_,_=>exact ⟨rfl,rfl⟩
 | 15,_,_=>exact ⟨rfl,rfl⟩
 | 16,_,_=>exact ⟨rfl,rfl⟩
 | 17,_,_=>exact ⟨rfl,rfl⟩
 | 18,_,_=>exact ⟨rfl,rfl⟩
 | 19,_,_=>exact ⟨rfl,rfl⟩
 | 20,_,_=>exact ⟨rfl,rfl⟩
 | 21,_,_=>exact ⟨rfl,rfl⟩
 | 22,_,_=>exact ⟨rfl,rfl⟩
 | 23,_,_=>exact ⟨rfl,rfl⟩
 | _ + 24,_,_=>exact ⟨rfl,rfl⟩
set_option maxHeartbeats 8000000 in
theorem kind_r26 (g : List Int) (p : Pb) (b4 b5 c5 cap4 : Nat) (ow4 : Option Kd) (w : Int) (hw : w = kindF g) (h1 : 1 ≤ g.length) (h5 : g.length ≤ 5) (hg : ∀ x ∈ g,1 ≤ x∧x ≤ 9) (F : FS) (G : List Row)
  (m4 : (⟨b4,0,cBl (shB g) p,ow4,cap4⟩ : Row) ∈ G) (hB : BlOk G (shB g) p) (hs : SlE G (some ⟨b5,0,none⟩) cI 1 g)
  (hF : Sub [(3,.bool true),(4,.pointer (some ⟨b4,0,none⟩)),(5,.slice (some ⟨b5,0,none⟩) g.length c5),(8,.int .i64 w)] F) :
  X Tryz.prog 231 (csnd (csnd (csnd (csnd (csnd (csnd (csnd (csnd (csnd (csnd (csnd (csnd (csnd (cof Tryz.f10)))))))))))))) F G (retX Tryz.prog Tryz.f10 (fun v _=>v = .bool true)):=by
 refine X.weak hF (qR _) ?_
 repeat' (first | (refine uP rfl ?_;(first | ((first | refine uN rfl ?_);(first | (refine uE (uL rfl rfl (uW (te rfl) rfl m4 rfl)) rfl rfl ?_)|(refine uC (uT rfl (Args.cons rfl Args.nil)) rfl rfl (twinB_spec (shB g) p _ hB) ?_;rintro _ _ ⟨b1,k1,b2,k2,rfl,rfl⟩)|(refine Xg.st (StF.alloc rfl Tryz.zeroValue31 rfl) rfl rfl ?_;rintro _ _ ⟨bx,rfl,rfl⟩)|(refine Xg.st0 (uZ (i:=0) (vs:=cBl (shB g) ⟨some ⟨b1,0,none⟩,k1,some ⟨b2,0,none⟩,k2⟩) rfl rfl rfl (te rfl) rfl rfl rfl rfl) rfl ?_;rintro _ _ ⟨rfl,rfl⟩;dsimp only [List.set])|(refine uE (uM rfl rfl) rfl rfl ?_)|(refine uE (uF rfl rfl (te rfl) rfl (te rfl) (by decide)) rfl rfl ?_)|(refine uE (uY rfl rfl (te rfl)) rfl rfl ?_)|(refine uE (uL rfl rfl (uO (te rfl) rfl (qH _) rfl)) rfl rfl ?_)))))|(refine uD rfl ?_;refine hK _ _ ?_;clear hK K) | refine uS rfl ?_ | refine uR rfl (fun K hK=>?_) | refine X.block rfl ?_)
 generalize bx = b19
 obtain ⟨p',hp'⟩ : ∃ p' : Pb,p' = ⟨some ⟨b1,0,none⟩,k1,some ⟨b2,0,none⟩,k2⟩:=⟨_,rfl⟩
 have hcc : cBl (shB g) p' = cBl (shB g.reverse) p' := by rw [shB_cells g g.length rfl,shB_cells g.reverse g.length (List.length_reverse ..)]
 have hcB:=shB_cells g g.length rfl p'
 rw [hp'] at hcB
 refine X.permH (H' := ⟨b1,0,(shD 0 g).flatMap cDr,some 38,k1 * 4⟩::⟨b19,0,cBl (shB g) ⟨some ⟨b1,0,none⟩,k1,some ⟨b2,0,none⟩,k2⟩,some 31,6⟩::⟨b2,0,[],some 41,k2 * 4⟩::G) (List.Perm.swap _ _ _) ?_
 rw [← hp']
 obtain ⟨G0,hG0⟩ : ∃ G0,G0 = (⟨b19,0,cBl (shB g) p',some 31,6⟩ : Row)::⟨b2,0,[],some 41,k2 * 4⟩::G:=⟨_,rfl⟩
 have m19 : (⟨b19,0,cBl (shB g.reverse) p',some 31,6⟩ : Row) ∈ G0:=by rw [hG0, ← hcc];exact qH _
 have m19c : (⟨b19,0,[.int .i64 1,.int .i64 g.length,.int .i64 1,.int .i64 1,.slice (some ⟨b1,0,none⟩) g.length k1,.slice (some ⟨b2,0,none⟩) 0 k2],some 31,6⟩ : Row) ∈ G0:=by rw [hG0,hp',hcB];exact qH _
 have m2 : (⟨b2,0,([] : List Dr).flatMap cDr,some 41,k2 * 4⟩ : Row) ∈ G0:=by rw [hG0];exact qT _ (qH _)
 have hs0 : SlE G0 (some ⟨b5,0,none⟩) cI 1 g:=hs.sub (fun r h=>by rw [hG0];exact qT _ (qT _ h))
 rw [← hG0]
 clear hG0 hcc hcB hB m4 hs
 have hrev : ∀ x ∈ g.reverse,1 ≤ x∧x ≤ 9:=fun x hx=>hg x (List.mem_reverse.1 hx)
 obtain ⟨n,hn⟩ : ∃ n,n = g.length:=⟨_,rfl⟩
 rw [← hn] at m19c
 have hkk:=fun S hS=>kKind_spec (shB g.reverse) p' w S hS
 have hk4 : 1 ≤ w∧w ≤ 4:=by rcases kindF_four g with q | q | q | q <;> omega
 rw [openE_sh (by rw [List.length_reverse];exact h1) (by rw [List.length_reverse];exact h5) hrev [w] (fun m hm=>by rw [List.mem_singleton.1 hm];exact hk4),uIf_pos rfl,of_sh (by rw [List.length_reverse];exact h1) (by rw [List.length_reverse];exact h5) hrev,kind_rev,if_pos hw.symm] at hkk
 have hbk : ∀ S : List Row,(∀ r ∈ G0,r ∈ S) → (⟨b1,0,(shD 0 g.reverse).flatMap cDr,some 38,k1 * 4⟩ : Row) ∈ S → BlOk S (shB g.reverse) p' := fun S hS hm=>by
  rw [hp']
  exact ⟨SlE.ofRow hm (fun _ _=>rfl),SlE.ofRow (hS _ m2) (fun _ _=>rfl),by show (shD 0 g.reverse).length ≤ _;rw [shD_len,List.length_reverse];omega,Nat.le_of_ble_eq_true rfl⟩
 refine X.lp rfl (fun q F' H' => ∃ j : Nat,q = n - j∧j ≤ n∧⟨b1,0,(shD 0 (mixL g j)).flatMap cDr,some 38,k1 * 4⟩::G0 = H' ∧
   F' = [(3,.bool true),(5,.slice (some ⟨b5,0,none⟩) n c5),(8,.int .i64 w),(19,.pointer (some ⟨b19,0,none⟩)),(189,.int .i64 n),(190,.int .i64 (j : Nat))])
  n [(3,.bool true),(5,.slice (some ⟨b5,0,none⟩) n c5),(8,.int .i64 w),(19,.pointer (some ⟨b19,0,none⟩)),(189,.int .i64 n),(190,.int .i64 (0 : Nat))] (⟨b1,0,(shD 0 (mixL g 0)).flatMap cDr,some 38,k1 * 4⟩::G0) (by rw [hn];rw [show (shB g).draws.length = g.length from shD_len 0 g];exact (by repeat (first | exact uU _ | refine uV rfl ?_))) (qR _) ⟨0,by omega,by omega,rfl,rfl⟩ ?_
 rintro _ _ _ ⟨j,rfl,hj,rfl,rfl⟩
 by_cases hlt : j < n
 ·have hlt' : (j : Int)<n:=by omega
  obtain ⟨r,hr⟩ : ∃ r : Nat,r = n - 1 - j:=⟨_,rfl⟩
  have hrr : r = ((n : Int) - 1 - j).toNat:=by omega
  obtain ⟨x,hx⟩ : ∃ x,g[r]? = some x:=⟨_,List.getElem?_eq_getElem (by omega)⟩
  have hst:=mixL_step (g:=g) (j:=j) (x:=x) (by omega) (by rw [← hn, ← hr];exact hx)
  have hml:=mixL_len (g:=g) (j:=j) (by omega)
  obtain ⟨y,hy⟩ : ∃ y,(mixL g j)[j]? = some y:=⟨_,List.getElem?_eq_getElem (by omega)⟩
  have hsp : splice ((shD 0 (mixL g j)).flatMap cDr) (0 + j * 4 + 2) (cSp ⟨x,x⟩) = (shD 0 (mixL g (j + 1))).flatMap cDr:=by
   rw [Nat.zero_add,splice_dr (shD_get 0 _ j y hy), ← hst, ← shD_set]
  have hln : 0 + j * 4 + 2 + 2 ≤ ((shD 0 (mixL g j)).flatMap cDr).length:=by rw [lenDr,shD_len,hml];omega
  repeat' (first | (refine uP rfl ?_;(first | ((first | refine uN rfl ?_);(first | (refine uE (uQ (b:=true) rfl rfl rfl (congrArg some (decide_eq_true (by omega)))) rfl rfl ?_)|(refine uE (uM rfl rfl) rfl rfl ?_)|(refine uE (uA rfl rfl) rfl rfl ?_)))))|(refine uD rfl ?_;refine hK _ _ ?_;clear hK K) | refine uS rfl ?_ | refine uR rfl (fun K hK=>?_) | refine X.block rfl ?_ | refine X.skip rfl ?_ | (refine X.ite rfl rfl (fun hc=>?_);(first | (with_reducible refine Xb.t hc ?_)) <;> clear hc))
  refine X.weak (F' := [(3,.bool true),(5,.slice (some ⟨b5,0,none⟩) n c5),(8,.int .i64 w),(19,.pointer (some ⟨b19,0,none⟩)),(20,.int .i64 (j : Nat)),(189,.int .i64 n),(190,.int .i64 (j : Nat))]) (H' := ⟨b1,0,(shD 0 (mixL g j)).flatMap cDr,some 38,k1 * 4⟩::G0) (by repeat (first | exact uU _ | refine uV rfl ?_)) (qR _) ?_
  refine X.regionOb tsKr30 [3,5,8,19,20,189,190] [(3,.bool true),(5,.slice (some ⟨b5,0,none⟩) n c5),(8,.int .i64 w),(19,.pointer (some ⟨b19,0,none⟩)),(20,.int .i64 j),(189,.int .i64 n),(190,.int .i64 j)] (valKr30 b19 b5 b1 n c5 k1 (k1 * 4) j r g x w) (rowsKr30 b19 b5 b1 n c5 k1 (k1 * 4) j r g x w) (fun _=>(0,0)) (G0) rfl mixed (by repeat (first | exact uU _ | refine uV rfl ?_)) rfl (by kernel_rfl) (locKr30 b19 b5 b1 n c5 k1 (k1 * 4) j r g x w) (qR _) ?_ ?_
  ·repeat' (first | exact AllF.done rfl | (refine AllF.step rfl ?_ ?_;·(first | fail | ((first | refine Ob.ng rfl ?_);(first | exact uK (fun env R hR=>by exact ⟨_,uM rfl rfl,rfl⟩) rfl (fun _=>rfl) | exact uK (fun env R hR=>by exact ⟨_,uF rfl rfl (te rfl) rfl (te rfl) (by decide),rfl⟩) rfl (fun _=>rfl) | exact uK (fun env R hR=>by exact ⟨_,uY rfl rfl (te rfl),rfl⟩) rfl (fun _=>rfl)|(exact uK (fun env S hS=>⟨_,uL rfl rfl (uO (te rfl) rfl (hS _ m19c) rfl),rfl⟩) rfl (fun _=>rfl))|(exact uK (fun env S hS=>⟨_,EvF.sub64 (p:=(n : Int)) (q:=1) rfl rfl rfl (by omega) (by omega),rfl⟩) rfl (fun _=>rfl))|(exact uK (fun env S hS=>⟨_,EvF.sub64 (p:=(n : Int) - 1) (q:=(j : Int)) rfl rfl rfl (by omega) (by omega),rfl⟩) rfl (fun _=>rfl))|((refine uK (fun env S hS=>⟨.pointer (some ⟨b5,0 + r * 1,none⟩),?_,rfl⟩) rfl (fun _=>rfl);rw [hrr];exact uJ (i:=((n : Int) - 1 - j)) (off:=0) (b:=b5) (T:=49) (e:=3) (len:=n) rfl rfl rfl (te rfl) (te rfl) (by omega) (by omega)))|(exact uK (fun env S hS=>⟨.int .i64 x,uL rfl rfl (LoadV.el0 (n:=r) (hs0.sub hS) hx (te rfl) rfl (fun _ h=>h) rfl),rfl⟩) rfl (fun _=>rfl))|(exact fun env S hS=>OpF.callV (Z:=[]) (uT rfl (Args.cons rfl (Args.cons rfl Args.nil))) (lawSpan x x S) rfl rfl)|((refine uK (fun env S hS=>⟨.pointer (some ⟨b1,0 + j * 4,none⟩),?_,rfl⟩) rfl (fun _=>rfl);exact uJ (i:=(j : Int)) (off:=0) (b:=b1) (T:=28) (e:=38) (len:=n) rfl rfl rfl (te rfl) (te rfl) (by omega) (by omega)))|(exact fun env S hS=>(StF.storeAt (q:=0) (j:=0 + j * 4 + 2) (vs:=cSp ⟨x,x⟩) (cs:=(shD 0 (mixL g j)).flatMap cDr) rfl rfl rfl (te rfl) rfl rfl rfl hln).op.mono (fun v H' ⟨hv,hH⟩=>⟨(0,0),fun h=>absurd rfl h,by rw [hH,hsp];exact List.Perm.refl _⟩)))))))
  ·intro env t ha2 hv
   refine ⟨_,ha2,?_⟩
   clear hv ha2
   show X _ _ _ _ (⟨b1,0,(shD 0 (mixL g (j + 1))).flatMap cDr,some 38,k1 * 4⟩::G0) _
   repeat' (first | (refine uP rfl ?_;(first | ((first | refine uN rfl ?_);(first | (refine uE (EvF.add64 (p:=(j : Int)) (q:=1) rfl rfl rfl (by omega) (by omega)) rfl rfl ?_)|(refine uE (uM rfl rfl) rfl rfl ?_)))))|(refine uD rfl ?_;refine hK _ _ ?_;clear hK K) | refine uR rfl (fun K hK=>?_))
   exact ⟨_,_,_,(by rw [show (j : Int) + 1 = ((j + 1 : Nat) : Int) by omega];exact (by repeat (first | exact uU _ | refine uV rfl ?_))),qR _,⟨j + 1,rfl,by omega,rfl,rfl⟩,by omega⟩
 ·obtain rfl : j = n:=by omega
  have hlt' : ¬ (j : Int)<j:=by omega
  have hmx : mixL g j = g.reverse:=by unfold mixL;rw [hn,List.take_of_length_le (by rw [List.length_reverse];exact Nat.le_refl _),List.drop_length,List.append_nil]
  rw [hmx]
  repeat' (first | (refine uP rfl ?_;(first | ((first | refine uN rfl ?_ | (refine Xo.g rfl rfl ?_;with_reducible refine Xw.tt ?_));(first | (refine uE (uQ (b:=true) rfl rfl rfl (congrArg some (decide_eq_true (by omega)))) rfl rfl ?_)|(refine uE (uQ (b:=false) rfl rfl rfl (congrArg some (decide_eq_false (by omega)))) rfl rfl ?_)|(refine uE (uL rfl rfl (uW (te rfl) rfl (qT _ m19) rfl)) rfl rfl ?_)|(refine uC (uT rfl (Args.cons rfl (Args.cons rfl Args.nil))) rfl rfl (hkk _ (hbk _ (fun _ h=>qT _ h) (qH _))) ?_;rintro _ _ ⟨rfl,rfl⟩)|(refine uE (uX rfl rfl rfl) rfl rfl ?_)|(refine uE (uM rfl rfl) rfl rfl ?_)|(refine uE (uA rfl rfl) rfl rfl ?_)|(refine uE (EvF.pickT rfl rfl rfl) rfl rfl ?_)))))|(refine uD rfl ?_;refine hK _ _ ?_;clear hK K) | refine uS rfl ?_ | refine uR rfl (fun K hK=>?_)|(refine X.brk rfl ?_;repeat (first | refine blockX_hit rfl ?_ | refine blockX_miss (by decide) ?_)) | refine X.ret rfl ?_ | (refine X.ite rfl rfl (fun hc=>?_);(first | (with_reducible refine Xb.f hc ?_)) <;> clear hc))
  all_goals try (exfalso;contradiction)
  exact ret_one (by simp) Tryz.results10 rfl (H' := _) (qR _) rfl
theorem sh_dec (g : List Int) (h1 : 1 ≤ g.length) (h5 : g.length ≤ 5) (hg : ∀ x ∈ g,1 ≤ x∧x ≤ 9) (p : Pb) (S : List Row) (hB : BlOk S (shB g) p) :
  Fc Tryz.prog 41 [.agg (cBl (shB g) p).toArray] S (fun v H' => ∃ a c Z,v = .tuple #[.slice a 0 c,.int .i64 0]∧H' = Z++S):=by
 have h0:=openE_sh h1 h5 hg [] (fun _ h=>absurd h List.not_mem_nil)
 have hd : decideB (shB g) = []:=by
  unfold decideB lIf
  rw [if_pos h0]
  unfold decL
  rw [few_nil _ _ _ (show decO [] (truthsB (shB g)) = true from by
   rw [truths_sh h1 h5 hg]
   exact decO_iff.2 (fun t ht u hu _=>by rw [List.mem_singleton.1 ht,List.mem_singleton.1 hu]))]
  rfl
 refine (kDecide_spec (shB g) p S hB).mono fun v H' q=>?_
 rw [hd,h0] at q
 obtain ⟨out,Z,h1,rfl,rfl⟩:=q
 obtain ⟨a,c,rfl,_⟩:=h1.sl (H:=S)
 exact ⟨a,c,Z,rfl,rfl⟩
theorem sh_ask (g : List Int) (h1 : 1 ≤ g.length) (h5 : g.length ≤ 5) (hg : ∀ x ∈ g,1 ≤ x∧x ≤ 9) (p : Pb) (S : List Row) (hB : BlOk S (shB g) p) :
  Fc Tryz.prog 46 [.agg (cBl (shB g) p).toArray] S (fun v H' => v = .tuple #[.int .i64 0,.int .i64 1,.int .i64 0]∧H' = S):=by
 have h0:=openE_sh h1 h5 hg [] (fun _ h=>absurd h List.not_mem_nil)
 have:=kAsk_spec (shB g) p S hB
 rw [h0,uIf_pos rfl,uIf_pos rfl,ask_sh h1 h5 hg] at this
 exact this
theorem cutB_sh (g : List Int) (h1 : 1 ≤ g.length) (h5 : g.length ≤ 5) (hg : ∀ x ∈ g,1 ≤ x∧x ≤ 9) : cutB (shB g)=if kindF g = 2 then (cutsF g,0) else (⟨0,0⟩,6):=by
 have h0:=openE_sh h1 h5 hg [] (fun _ h=>absurd h List.not_mem_nil)
 unfold cutB
 rw [if_pos h0,cut_sh h1 h5 hg]
 by_cases h : kindF g = 2
 ·rw [if_pos h,if_pos h,if_neg (by have:=(kind_two.1 h).2;omega)]
 ·rw [if_neg h,if_neg h,if_pos (by show (g.length : Int) > 0;omega)]
theorem sh_kind (g : List Int) (h1 : 1 ≤ g.length) (h5 : g.length ≤ 5) (hg : ∀ x ∈ g,1 ≤ x∧x ≤ 9) (p : Pb) (k : Int) (hk : 1 ≤ k∧k ≤ 4) (S : List Row) (hB : BlOk S (shB g) p) :
  Fc Tryz.prog 18 [.agg (cBl (shB g) p).toArray,.int .i64 k] S (fun v H' => v = .tuple #[.int .u8 (if kindF g = k then 2 else 0),.int .i64 0]∧H' = S):=by
 have:=kKind_spec (shB g) p k S hB
 rw [openE_sh h1 h5 hg [k] (fun m hm=>by rw [List.mem_singleton.1 hm];exact hk),uIf_pos rfl,of_sh h1 h5 hg] at this
 exact this
set_option maxHeartbeats 8000000 in
theorem kind_r19 (g : List Int) (p : Pb) (b4 b5 c5 cap4 : Nat) (ow4 : Option Kd) (w : Int) (hw : w = kindF g) (h1 : 1 ≤ g.length) (h5 : g.length ≤ 5) (hg : ∀ x ∈ g,1 ≤ x∧x ≤ 9) (hc5 : g.length ≤ c5) (F : FS) (G : List Row)
  (m4 : (⟨b4,0,cBl (shB g) p,ow4,cap4⟩ : Row) ∈ G) (hB : BlOk G (shB g) p) (hs : SlE G (some ⟨b5,0,none⟩) cI 1 g)
  (hF : Sub [(3,.bool true),(4,.pointer (some ⟨b4,0,none⟩)),(5,.slice (some ⟨b5,0,none⟩) g.length c5),(8,.int .i64 w)] F) :
  X Tryz.prog 231 (csnd (csnd (csnd (csnd (csnd (csnd (csnd (csnd (cof Tryz.f10))))))))) F G (retX Tryz.prog Tryz.f10 (fun v _=>v = .bool true)):=by
 refine X.weak hF (qR _) ?_
 have kd:=sh_dec g h1 h5 hg p
 have ka:=sh_ask g h1 h5 hg p
 have kc:=fun S hS=>kCut_spec (shB g) p S hS
 rw [cutB_sh g h1 h5 hg] at kc
 have hk4 : 1 ≤ w∧w ≤ 4:=by rcases kindF_four g with q | q | q | q <;> omega
 by_cases h2 : w = 2
 ·have hk2 : kindF g = 2:=by omega
  rw [if_pos hk2] at kc
  obtain ⟨hA,hC⟩:=kind_two.1 hk2
  obtain ⟨c1,c2⟩:=cuts_bd hC
  obtain ⟨q1,_⟩:=(cuts_iff (l:=g) (k:=(cutsF g).lo) c1 (by omega)).2 ⟨Int.le_refl _,hC⟩
  obtain ⟨_,q2⟩:=(cuts_iff (l:=g) (k:=(cutsF g).hi) (by omega) c2).2 ⟨hC,Int.le_refl _⟩
  obtain ⟨lo,hlo⟩ : ∃ lo : Nat,(cutsF g).lo = lo:=⟨(cutsF g).lo.toNat,by omega⟩
  obtain ⟨hi,hhi⟩ : ∃ hi : Nat,(cutsF g).hi = hi:=⟨(cutsF g).hi.toNat,by omega⟩
  obtain ⟨cu,hcu⟩ : ∃ cu,cu = cutsF g:=⟨_,rfl⟩
  rw [← hcu] at kc hC c1 c2 q1 q2 hlo hhi
  have hcu2 : cu = ⟨lo,hi⟩:=by cases cu;simp at hlo hhi;rw [hlo,hhi]
  rw [hlo] at q1 c1 hC
  rw [hhi] at q2 c2 hC
  rw [Int.toNat_natCast] at q1 q2
  rw [hcu2] at kc
  dsimp only at kc
  have kt : ∀ S : List Row,SlE S (some ⟨b5,0,none⟩) cI 1 g → Fc Tryz.prog 35 [.slice (some ⟨b5,0,none⟩) lo c5] S (fun v H' => v = .int .i64 1∧H' = S):=fun S hS=>by
   have:=rKindOf_spec (g.take lo) (some ⟨b5,0,none⟩) c5 S (sleTake hS lo) (by rw [List.length_take];omega) (by rw [List.length_take];omega) (by rw [List.length_take];omega) (fun x hx=>hg x (List.mem_of_mem_take hx))
   rw [kind_one.2 q1,List.length_take,Nat.min_eq_left (by omega)] at this
   exact this
  have kf : ∀ S : List Row,SlE S (some ⟨b5,0,none⟩) cI 1 g → Fc Tryz.prog 35 [.slice (sfrom (some ⟨b5,0,none⟩) c5 hi 1) (g.length - hi) (c5 - hi)] S (fun v H' => v = .int .i64 1∧H' = S):=fun S hS=>by
   have:=rKindOf_spec (g.drop hi) (sfrom (some ⟨b5,0,none⟩) c5 hi 1) (c5 - hi) S (sleFrom hS hc5 hi) (by rw [List.length_drop];omega) (by rw [List.length_drop];omega) (by rw [List.length_drop];omega) (fun x hx=>hg x (List.mem_of_mem_drop hx))
   rw [kind_one.2 q2,List.length_drop] at this
   exact this
  have e1 : ¬ (lo : Int)<1:=by omega
  have e2 : ¬ (lo : Int) > hi:=by omega
  have e3 : ¬ (hi : Int) ≥ g.length:=by omega
  clear hcu hcu2 hlo hhi q1 q2 hA
  repeat' (first | (refine kind_r26 g p b4 b5 c5 cap4 ow4 w hw h1 h5 hg _ _ (qT _ (List.mem_append_right _ m4)) (hB.sub (fun _ h=>qT _ (List.mem_append_right _ h))) (hs.sub (fun _ h=>qT _ (List.mem_append_right _ h))) ?_;exact (by repeat (first | exact uU _ | refine uV rfl ?_)))|(refine uP rfl ?_;(first | ((first | refine uN rfl ?_ | (refine Xo.g rfl rfl ?_;with_reducible refine Xw.tt ?_)|(refine Xo.g rfl rfl ?_;with_reducible refine Xw.ff ?_));(first | (refine uE (uL rfl rfl (uW (te rfl) rfl m4 rfl)) rfl rfl ?_)|(refine uE (uL rfl rfl (uW (te rfl) rfl (List.mem_append_right _ m4) rfl)) rfl rfl ?_)|(refine uC (uT rfl (Args.cons rfl Args.nil)) rfl rfl (kd _ hB) ?_;rintro _ _ ⟨ad,cd,Z,rfl,rfl⟩)|(refine uC (uT rfl (Args.cons rfl Args.nil)) rfl rfl (ka _ (hB.sub (fun _ h=>List.mem_append_right _ h))) ?_;rintro _ _ ⟨rfl,rfl⟩)|(refine uC (uT rfl (Args.cons rfl Args.nil)) rfl rfl (kc _ (hB.sub (fun _ h=>List.mem_append_right _ h))) ?_;rintro _ _ ⟨rfl,rfl⟩)|(refine uE (uX rfl rfl rfl) rfl rfl ?_)|(refine Xg.st (StF.alloc rfl Tryz.zeroValue24 rfl) rfl rfl ?_;rintro _ _ ⟨bx,rfl,rfl⟩)|(refine uE (EvF.cmpB rfl rfl rfl Tryz.underlying4 rfl) rfl rfl ?_)|(refine uE (uQ (b:=false) rfl rfl rfl (congrArg some (nd_f (Eq.refl (0 : Int))))) rfl rfl ?_)|(refine uE (uQ (b:=false) rfl rfl rfl (congrArg some (nd_f (Eq.refl (1 : Int))))) rfl rfl ?_)|(refine uE (uL rfl rfl (uO (te rfl) rfl (by repeat (first | exact qH _ | apply qT)) rfl)) rfl rfl ?_)|(refine Xg.st0 (uZ (i:=0) (vs:=cSp ⟨lo,hi⟩) rfl rfl rfl (te rfl) rfl rfl rfl rfl) rfl ?_;rintro _ _ ⟨rfl,rfl⟩;dsimp only [List.set])|(refine uE (uQ (b:=true) rfl rfl rfl (congrArg some (decide_eq_true (Eq.refl (0 : Int))))) rfl rfl ?_)|(refine uE (uQ (b:=true) rfl rfl rfl (congrArg some (decide_eq_true h2))) rfl rfl ?_)|(refine uE (uQ (b:=false) rfl rfl rfl (congrArg some (decide_eq_false e1))) rfl rfl ?_)|(refine uE (uQ (b:=false) rfl rfl rfl (congrArg some (decide_eq_false e2))) rfl rfl ?_)|(refine uE (uQ (b:=false) rfl rfl rfl (congrArg some (decide_eq_false e3))) rfl rfl ?_)|(refine uE (EvF.sliceTo (hh:=lo) rfl rfl (te rfl) (te rfl) rfl (by omega)) rfl rfl ?_)|(refine uE (EvF.sliceFrom (lo:=hi) rfl rfl (te rfl) (te rfl) rfl (by omega) (by omega)) rfl rfl ?_)|(refine uC (uT rfl (Args.cons rfl Args.nil)) rfl rfl (kt _ (hs.sub (fun _ h=>qT _ (List.mem_append_right _ h)))) ?_;rintro _ _ ⟨rfl,rfl⟩)|(refine uC (uT rfl (Args.cons rfl Args.nil)) rfl rfl (kf _ (hs.sub (fun _ h=>qT _ (List.mem_append_right _ h)))) ?_;rintro _ _ ⟨rfl,rfl⟩)|(refine uE (uM rfl rfl) rfl rfl ?_)|(refine uE (uA rfl rfl) rfl rfl ?_)|(refine uE (EvF.pickT rfl rfl rfl) rfl rfl ?_)|(refine uE (EvF.pickF rfl rfl rfl) rfl rfl ?_)|(refine uE (uF rfl rfl (te rfl) rfl (te rfl) (by decide)) rfl rfl ?_)|(refine uE (uY rfl rfl (te rfl)) rfl rfl ?_)))|(refine Xo.g rfl rfl ?_;(first | (with_reducible refine Xw.tf rfl rfl ?_)|(with_reducible refine Xw.ft rfl rfl ?_)|(with_reducible refine Xw.caseB (fun h=>?_) (fun h=>?_) <;> simp only [h,decide_true,decide_false,Bool.not_true,Bool.not_false,and_self,and_true,true_and,and_false,false_and])))|(refine Xo.sk rfl rfl rfl rfl ?_)))|(refine uD rfl ?_;refine hK _ _ ?_;clear hK K) | refine uS rfl ?_ | refine uR rfl (fun K hK=>?_) | refine X.skip rfl ?_ | refine X.ret rfl ?_ | (refine X.ite rfl rfl (fun hc=>?_);(first | (with_reducible refine Xb.t hc ?_)|(with_reducible refine Xb.f hc ?_)) <;> clear hc))
  all_goals try (exfalso;contradiction)
 ·have hk2 : ¬ kindF g = 2:=by omega
  rw [if_neg hk2] at kc
  dsimp only at kc
  repeat' (first | (refine kind_r26 g p b4 b5 c5 cap4 ow4 w hw h1 h5 hg _ _ (qT _ (List.mem_append_right _ m4)) (hB.sub (fun _ h=>qT _ (List.mem_append_right _ h))) (hs.sub (fun _ h=>qT _ (List.mem_append_right _ h))) ?_;exact (by repeat (first | exact uU _ | refine uV rfl ?_)))|(refine uP rfl ?_;(first | ((first | refine uN rfl ?_ | (refine Xo.g rfl rfl ?_;with_reducible refine Xw.tt ?_)|(refine Xo.g rfl rfl ?_;with_reducible refine Xw.ff ?_));(first | (refine uE (uL rfl rfl (uW (te rfl) rfl m4 rfl)) rfl rfl ?_)|(refine uE (uL rfl rfl (uW (te rfl) rfl (List.mem_append_right _ m4) rfl)) rfl rfl ?_)|(refine uC (uT rfl (Args.cons rfl Args.nil)) rfl rfl (kd _ hB) ?_;rintro _ _ ⟨ad,cd,Z,rfl,rfl⟩)|(refine uC (uT rfl (Args.cons rfl Args.nil)) rfl rfl (ka _ (hB.sub (fun _ h=>List.mem_append_right _ h))) ?_;rintro _ _ ⟨rfl,rfl⟩)|(refine uC (uT rfl (Args.cons rfl Args.nil)) rfl rfl (kc _ (hB.sub (fun _ h=>List.mem_append_right _ h))) ?_;rintro _ _ ⟨rfl,rfl⟩)|(refine uE (uX rfl rfl rfl) rfl rfl ?_)|(refine Xg.st (StF.alloc rfl Tryz.zeroValue24 rfl) rfl rfl ?_;rintro _ _ ⟨bx,rfl,rfl⟩)|(refine uE (EvF.cmpB rfl rfl rfl Tryz.underlying4 rfl) rfl rfl ?_)|(refine uE (uQ (b:=false) rfl rfl rfl (congrArg some (nd_f (Eq.refl (0 : Int))))) rfl rfl ?_)|(refine uE (uQ (b:=false) rfl rfl rfl (congrArg some (nd_f (Eq.refl (1 : Int))))) rfl rfl ?_)|(refine uE (uQ (b:=false) rfl rfl rfl (congrArg some (decide_eq_false (Int.lt_irrefl (0 : Int))))) rfl rfl ?_)|(refine Xg.st0 (uZ (i:=0) (vs:=cSp ⟨0,0⟩) rfl rfl rfl (te rfl) rfl rfl rfl rfl) rfl ?_;rintro _ _ ⟨rfl,rfl⟩;dsimp only [List.set])|(refine uE (uQ (b:=false) rfl rfl rfl (congrArg some (decide_eq_false h2))) rfl rfl ?_)|(refine uE (uQ (b:=true) rfl rfl rfl (congrArg some (nd_t (show ¬ (6 : Int)=0 by decide)))) rfl rfl ?_)|(refine uE (uM rfl rfl) rfl rfl ?_)|(refine uE (uA rfl rfl) rfl rfl ?_)|(refine uE (EvF.pickT rfl rfl rfl) rfl rfl ?_)|(refine uE (EvF.pickF rfl rfl rfl) rfl rfl ?_)|(refine uE (uY rfl rfl (te rfl)) rfl rfl ?_)))|(refine Xo.g rfl rfl ?_;(first | (with_reducible refine Xw.tf rfl rfl ?_)|(with_reducible refine Xw.ft rfl rfl ?_)|(with_reducible refine Xw.caseB (fun h=>?_) (fun h=>?_) <;> simp only [h,decide_true,decide_false,Bool.not_true,Bool.not_false,and_self,and_true,true_and,and_false,false_and])))|(refine Xo.sk rfl rfl rfl rfl ?_)))|(refine uD rfl ?_;refine hK _ _ ?_;clear hK K) | refine uS rfl ?_ | refine uR rfl (fun K hK=>?_) | refine X.skip rfl ?_ | refine X.ret rfl ?_ | (refine X.ite rfl rfl (fun hc=>?_);(first | (with_reducible refine Xb.t hc ?_)|(with_reducible refine Xb.f hc ?_)) <;> clear hc))
  all_goals try (exfalso;contradiction)
set_option maxHeartbeats 8000000 in
theorem kind_r13 (g : List Int) (p : Pb) (b4 b5 c5 cap4 : Nat) (ow4 : Option Kd) (w : Int) (hw : w = kindF g) (h1 : 1 ≤ g.length) (h5 : g.length ≤ 5) (hg : ∀ x ∈ g,1 ≤ x∧x ≤ 9) (hc5 : g.length ≤ c5) (F : FS) (G : List Row)
  (m4 : (⟨b4,0,cBl (shB g) p,ow4,cap4⟩ : Row) ∈ G) (hB : BlOk G (shB g) p) (hs : SlE G (some ⟨b5,0,none⟩) cI 1 g)
  (hF : Sub [(3,.bool true),(4,.pointer (some ⟨b4,0,none⟩)),(5,.slice (some ⟨b5,0,none⟩) g.length c5),(8,.int .i64 w)] F) :
  X Tryz.prog 231 (csnd (csnd (csnd (csnd (csnd (csnd (csnd (cof Tryz.f10)))))))) F G (retX Tryz.prog Tryz.f10 (fun v _=>v = .bool true)):=by
 refine X.weak hF (qR _) ?_
 have kk:=sh_kind g h1 h5 hg p
 have hk4 : 1 ≤ w∧w ≤ 4:=by rcases kindF_four g with q | q | q | q <;> omega
 repeat' (first | (refine uP rfl ?_;(first | ((first | refine uN rfl ?_);(first | (refine uE (uA rfl rfl) rfl rfl ?_)))))|(refine uD rfl ?_;refine hK _ _ ?_;clear hK K) | refine uS rfl ?_ | refine uR rfl (fun K hK=>?_) | refine X.block rfl ?_)
 refine X.lp rfl (fun q F' H' => ∃ k : Nat,q = 5 - k∧1 ≤ k∧k ≤ 5∧G = H'∧F' = [(3,.bool true),(4,.pointer (some ⟨b4,0,none⟩)),(5,.slice (some ⟨b5,0,none⟩) g.length c5),(8,.int .i64 w),(9,.int .i64 (k : Nat))])
  4 [(3,.bool true),(4,.pointer (some ⟨b4,0,none⟩)),(5,.slice (some ⟨b5,0,none⟩) g.length c5),(8,.int .i64 w),(9,.int .i64 (1 : Nat))] _ (by repeat (first | exact uU _ | refine uV rfl ?_)) (qR _) ⟨1,by omega,by omega,by omega,rfl,rfl⟩ ?_
 rintro _ _ _ ⟨k,rfl,hk1,hk,rfl,rfl⟩
 by_cases hlt : k < 5
 ·have hlt' : (k : Int)≤4:=by omega
  have kj:=fun S hS=>kk k (by omega) S hS
  by_cases hq : (k : Int)=w
  ·rw [if_pos (by omega)] at kj
   repeat' (first | (refine uP rfl ?_;(first | ((first | refine uN rfl ?_ | (refine Xo.g rfl rfl ?_;with_reducible refine Xw.ff ?_));(first | (refine uE (uL rfl rfl (uW (te rfl) rfl m4 rfl)) rfl rfl ?_)|(refine uC (uT rfl (Args.cons rfl (Args.cons rfl Args.nil))) rfl rfl (kj _ hB) ?_;rintro _ _ ⟨rfl,rfl⟩)|(refine uE (uX rfl rfl rfl) rfl rfl ?_)|(refine uE (uQ (b:=true) rfl rfl rfl (congrArg some (decide_eq_true hlt'))) rfl rfl ?_)|(refine uE (uQ (b:=false) rfl rfl rfl (congrArg some (nd_f (Eq.refl (0 : Int))))) rfl rfl ?_)|(refine uE (uQ (b:=true) rfl rfl rfl (congrArg some (decide_eq_true (Eq.refl (2 : Int))))) rfl rfl ?_)|(refine uE (uQ (b:=true) rfl rfl rfl (congrArg some (decide_eq_true hq))) rfl rfl ?_)|(refine uE (EvF.cmpB rfl rfl rfl Tryz.underlying4 rfl) rfl rfl ?_)|(refine uE (EvF.add64 (p:=(k : Int)) (q:=1) rfl rfl rfl (by omega) (by omega)) rfl rfl ?_)|(refine uE (uM rfl rfl) rfl rfl ?_)|(refine uE (uA rfl rfl) rfl rfl ?_)|(refine uE (EvF.pickT rfl rfl rfl) rfl rfl ?_)|(refine uE (EvF.pickF rfl rfl rfl) rfl rfl ?_)))|(refine Xo.g rfl rfl ?_;(first | (with_reducible refine Xw.tf rfl rfl ?_)|(with_reducible refine Xw.caseB (fun h=>?_) (fun h=>?_) <;> simp only [h,decide_true,decide_false,Bool.not_true,Bool.not_false,and_self,and_true,true_and,and_false,false_and])))))|(refine uD rfl ?_;refine hK _ _ ?_;clear hK K) | refine uS rfl ?_ | refine uR rfl (fun K hK=>?_) | refine X.block rfl ?_ | refine X.skip rfl ?_ | refine X.ret rfl ?_ | (refine X.ite rfl rfl (fun hc=>?_);(first | (with_reducible refine Xb.t hc ?_)|(with_reducible refine Xb.f hc ?_)) <;> clear hc))
   all_goals try (exfalso;contradiction)
   exact ⟨_,_,_,(by rw [show (k : Int) + 1 = ((k + 1 : Nat) : Int) by omega];exact (by repeat (first | exact uU _ | refine uV rfl ?_))),qR _,⟨k + 1,rfl,by omega,by omega,rfl,rfl⟩,by omega⟩
  ·rw [if_neg (by omega)] at kj
   repeat' (first | (refine uP rfl ?_;(first | ((first | refine uN rfl ?_ | (refine Xo.g rfl rfl ?_;with_reducible refine Xw.ff ?_));(first | (refine uE (uL rfl rfl (uW (te rfl) rfl m4 rfl)) rfl rfl ?_)|(refine uC (uT rfl (Args.cons rfl (Args.cons rfl Args.nil))) rfl rfl (kj _ hB) ?_;rintro _ _ ⟨rfl,rfl⟩)|(refine uE (uX rfl rfl rfl) rfl rfl ?_)|(refine uE (uQ (b:=true) rfl rfl rfl (congrArg some (decide_eq_true hlt'))) rfl rfl ?_)|(refine uE (uQ (b:=false) rfl rfl rfl (congrArg some (nd_f (Eq.refl (0 : Int))))) rfl rfl ?_)|(refine uE (uQ (b:=false) rfl rfl rfl (congrArg some (decide_eq_false hq))) rfl rfl ?_)|(refine uE (EvF.cmpB rfl rfl rfl Tryz.underlying4 rfl) rfl rfl ?_)|(refine uE (EvF.add64 (p:=(k : Int)) (q:=1) rfl rfl rfl (by omega) (by omega)) rfl rfl ?_)|(refine uE (uM rfl rfl) rfl rfl ?_)|(refine uE (uA rfl rfl) rfl rfl ?_)|(refine uE (EvF.pickT rfl rfl rfl) rfl rfl ?_)|(refine uE (EvF.pickF rfl rfl rfl) rfl rfl ?_)))|(refine Xo.g rfl rfl ?_;(first | (with_reducible refine Xw.tf rfl rfl ?_)|(with_reducible refine Xw.caseB (fun h=>?_) (fun h=>?_) <;> simp only [h,decide_true,decide_false,Bool.not_true,Bool.not_false,and_self,and_true,true_and,and_false,false_and])))))|(refine uD rfl ?_;refine hK _ _ ?_;clear hK K) | refine uS rfl ?_ | refine uR rfl (fun K hK=>?_) | refine X.block rfl ?_ | refine X.skip rfl ?_ | refine X.ret rfl ?_ | (refine X.ite rfl rfl (fun hc=>?_);(first | (with_reducible refine Xb.t hc ?_)|(with_reducible refine Xb.f hc ?_)) <;> clear hc))
   all_goals try (exfalso;contradiction)
   exact ⟨_,_,_,(by rw [show (k : Int) + 1 = ((k + 1 : Nat) : Int) by omega];exact (by repeat (first | exact uU _ | refine uV rfl ?_))),qR _,⟨k + 1,rfl,by omega,by omega,rfl,rfl⟩,by omega⟩
 ·obtain rfl : k = 5:=by omega
  have hlt' : ¬ ((5 : Nat) : Int)≤4:=by omega
  repeat' (first | (refine kind_r19 g p b4 b5 c5 cap4 ow4 w hw h1 h5 hg hc5 _ _ m4 hB hs ?_;exact (by repeat (first | exact uU _ | refine uV rfl ?_)))|(refine uP rfl ?_;(first | ((first | refine uN rfl ?_);(first | (refine uE (uQ (b:=false) rfl rfl rfl (congrArg some (decide_eq_false hlt'))) rfl rfl ?_)|(refine uE (uM rfl rfl) rfl rfl ?_)))))|(refine uD rfl ?_;refine hK _ _ ?_;clear hK K) | refine uS rfl ?_ | refine uR rfl (fun K hK=>?_)|(refine X.brk rfl ?_;repeat (first | refine blockX_hit rfl ?_ | refine blockX_miss (by decide) ?_))|(refine X.ite rfl rfl (fun hc=>?_);(first | (with_reducible refine Xb.f hc ?_)) <;> clear hc))
  all_goals try (exfalso;contradiction)
def cU (n : Int) : List Value:=[.int .u8 n]
theorem u8_und : (Tryz.prog.underlying 5).isSome = true:=by kernel_rfl
end Go.Proofs.YtbpcbdbclijomaaGreat
