/- Own work: contracts of functions, from rows of what is known of the memory; contracts of functions, from rows of what is known of the memory; contracts of functions, from rows of what is known of the memory; contracts of functions, from rows of what is known of the memory; contracts of functions, from rows of what is known of the memory; contracts of functions, from rows of what is known of the memory; contracts of functions, from rows of what is known of the memory; contracts of functions, from rows of what is known of the memory; contracts of functions, from rows of what is known of the memory; contracts of functions, from rows of what is known of the memory; contracts of functions, from rows of what is known of the memory; contracts of functions, from rows of what is known of the memory -/
import Derived.Test.YtbpcbdbclijomaaGreatW05
set_option linter.unusedVariables false
set_option linter.unusedSimpArgs false
namespace Go.Proofs.YtbpcbdbclijomaaGreat
open Go Go.Fw
set_option maxRecDepth 10000
noncomputable def dryOf (B : Bl) : Sp:=⟨(wts B).getD 0 0,(wts B).getD ((wts B).length - 1) 0⟩
def tsDry : List TOp:=[⟨some 6,[],[],[]⟩,⟨some 7,[0],[0],[]⟩,⟨some 8,[0,1],[1],[]⟩,⟨some 9,[],[],[]⟩,⟨some 10,[],[],[]⟩,⟨some 11,[4],[4],[]⟩,⟨some 12,[4,5],[5],[]⟩,⟨some 13,[3,4,5,6],[3,6],[]⟩,⟨some 14,[3,4,5,6,7],[7],[]⟩,⟨some 15,[0,1,2,3,4,5,6,7,8],[2,8],[]⟩,⟨none,[0,1,2,3,4,5,6,7,8,9],[9],[11]⟩,⟨none,[],[],[]⟩]
def rowsDry (b2 : Nat) (s : Sp) (k : Nat) (_ : Env) : List Row :=
 match k with
 | 10=>[⟨b2,0,cSp s,some 24,2⟩]
 | 11=>[⟨b2,0,[.int .i64 0,.int .i64 0],some 24,2⟩]
 | _=>[]
set_option maxHeartbeats 4000000 in
theorem dry_spec (B : Bl) (p : Pb) (g : List Sp) (H : List Row) (hd : 1 ≤ B.dlo∧B.dlo ≤ B.dhi∧B.dhi ≤ 600) (hw : ∀ x ∈ B.weighs,0 ≤ x.val∧x.val ≤ 10000) (hg : g.length = 5) (hB : BlOk H B p) (hne : 0 < (wts B).length) :
  Fc Tryz.prog 66 [.agg (cPr B p g).toArray] H (fun v H' => v = .agg (cSp (dryOf B)).toArray∧H' = H):=by
 have hB2 : ∀ r1 r2,BlOk (r1::r2::H) B p:=fun r1 r2=>hB.sub (fun _ h=>qT _ (qT _ h))
 have hwl : (wts B).length ≤ 1000000:=by unfold wts;have:=wl_len (okW B) B.dlo (B.dhi - B.dlo + 1).toNat;omega
 have hf : (wts B)[0]? = some ((wts B).getD 0 0):=by simp [List.getD,List.getElem?_eq_getElem hne]
 have hl : (wts B)[(((wts B).length : Int) - 1).toNat]? = some ((wts B).getD ((wts B).length - 1) 0):=by
  rw [show (((wts B).length : Int) - 1).toNat = (wts B).length - 1 by omega]
  simp [List.getD,List.getElem?_eq_getElem (show (wts B).length - 1 < (wts B).length by omega)]
 refine Fc.mk (callable Tryz.call66) Tryz.func66 rfl Tryz.ntmps66 rfl ?_;dsimp only [fr]
 refine uS rfl ?_;refine uR rfl (fun K hK=>?_);repeat' (first | (refine uP rfl ?_;(first | ((first | refine uN rfl ?_);(first | (refine Xg.st (StF.boxAgg rfl rfl) rfl rfl ?_;rintro _ _ ⟨bx,rfl,rfl⟩)|(refine Xg.st (StF.alloc rfl Tryz.zeroValue24 rfl) rfl rfl ?_;rintro _ _ ⟨bx,rfl,rfl⟩)))))|(refine uD rfl ?_;refine hK _ _ ?_;clear hK K))
 rename_i b1
 rename Nat=>b2
 repeat' (first | (refine uP rfl ?_;(first | ((first | refine uN rfl ?_);(first | (refine uE (uL rfl rfl (uW (te rfl) rfl (qT _ (qH _)) (lenPr hg))) rfl rfl ?_)|(refine uC (uT rfl (by (repeat (first | exact Args.nil | refine Args.cons rfl ?_));done)) rfl rfl (weights_spec B p g _ hd hw hg (hB2 _ _)) ?_;rintro _ _ ⟨Z,hO,rfl⟩)|(refine uE (uA rfl rfl) rfl rfl ?_)))))|(refine uD rfl ?_;refine hK _ _ ?_;clear hK K) | refine uS rfl ?_ | refine uR rfl (fun K hK=>?_))
 rcases hO with ⟨h0,_,_⟩ | ⟨t,q,rfl,rfl⟩
 ·rw [h0] at hne;exact absurd hne (Nat.lt_irrefl _)
 obtain ⟨f,hfE⟩ : ∃ f,f = (wts B).getD 0 0:=⟨_,rfl⟩
 obtain ⟨e,heE⟩ : ∃ e,e = (wts B).getD ((wts B).length - 1) 0:=⟨_,rfl⟩
 unfold dryOf
 rw [← hfE] at hf ⊢
 rw [← heE] at hl ⊢
 repeat' (first | fail)
 simp only [List.cons_append,List.nil_append]
 refine X.permH (H' := ⟨b2,0,[.int .i64 0,.int .i64 0],some 24,2⟩::⟨t,0,(wts B).flatMap cI,some 3,q * 1⟩::⟨b1,0,cPr B p g,some 91,(cPr B p g).length⟩::H) (List.Perm.swap _ _ _) ?_
 have hs : ∀ S,SlE (⟨t,0,(wts B).flatMap cI,some 3,q * 1⟩::S) (some ⟨t,0,none⟩) cI 1 (wts B):=fun S=>SlE.ofRow (qH _) (fun _ _=>rfl)
 refine X.regionOb tsDry [2,3] [(2,.pointer (some ⟨b2,0,none⟩)),(3,.slice (some ⟨t,0,none⟩) (wts B).length q)]
  (valL [.slice (some ⟨t,0,none⟩) (wts B).length q,.pointer (some ⟨t,0 + (0 : Int).toNat * 1,none⟩),.int .i64 f,.slice (some ⟨t,0,none⟩) (wts B).length q,.slice (some ⟨t,0,none⟩) (wts B).length q,.int .i64 (wts B).length,.int .i64 ((wts B).length - 1),.pointer (some ⟨t,0 + (((wts B).length : Int) - 1).toNat * 1,none⟩),.int .i64 e,.agg (cSp ⟨f,e⟩).toArray])
  (rowsDry b2 ⟨f,e⟩) (fun _=>(0,0)) (⟨t,0,(wts B).flatMap cI,some 3,q * 1⟩::⟨b1,0,cPr B p g,some 91,(cPr B p g).length⟩::H) rfl mixed (by repeat (first | exact uU _ | refine uV rfl ?_)) rfl (by kernel_rfl) (fun _ _ _ _ _ _=>⟨rfl,rfl⟩) (qR _) ?_ ?_
 ·repeat' (first | exact AllF.done rfl | (refine AllF.step rfl ?_ ?_;·(first | fail | ((first | refine Ob.ng rfl ?_);(first | exact uK (fun env R hR=>by exact ⟨_,uM rfl rfl,rfl⟩) rfl (fun _=>rfl) | exact uK (fun env R hR=>by exact ⟨_,uY rfl rfl (te rfl),rfl⟩) rfl (fun _=>rfl)|(exact uK (fun env S hS=>⟨_,EvF.sub64 (p:=((wts B).length : Int)) (q:=1) rfl rfl rfl (by omega) (by omega),rfl⟩) rfl (fun _=>rfl))|(exact uK (fun env S hS=>⟨_,uJ (T:=49) (e:=3) (i:=0) (off:=0) (b:=t) (len:=(wts B).length) (ti:=⟨.int .i64,1,8⟩) rfl rfl rfl (te rfl) (te rfl) (by omega) (by omega),rfl⟩) rfl (fun _=>rfl))|(exact uK (fun env S hS=>⟨_,uJ (T:=49) (e:=3) (i:=((wts B).length : Int) - 1) (off:=0) (b:=t) (len:=(wts B).length) (ti:=⟨.int .i64,1,8⟩) rfl rfl rfl (te rfl) (te rfl) (by omega) (by omega),rfl⟩) rfl (fun _=>rfl))|(exact uK (fun env S hS=>⟨.int .i64 f,uL rfl rfl (LoadV.el0 (n:=0) (hs _) hf (te rfl) rfl (fun _ h=>hS _ h) rfl),rfl⟩) rfl (fun _=>rfl))|(exact uK (fun env S hS=>⟨.int .i64 e,uL rfl rfl (LoadV.el0 (n:=(((wts B).length : Int) - 1).toNat) (hs _) hl (te rfl) rfl (fun _ h=>hS _ h) rfl),rfl⟩) rfl (fun _=>rfl))|(exact uK (fun env S hS=>⟨_,EvF.build (cs:=cSp ⟨f,e⟩) rfl (ArgsP.cons rfl (ArgsP.cons rfl ArgsP.nil)) (te rfl) (Places.cons (te rfl) (Places.cons (te rfl) Places.nil)) Tryz.zeroValue24 rfl,rfl⟩) rfl (fun _=>rfl))|(exact fun env S hS=>(uZ (i:=0) (vs:=cSp ⟨f,e⟩) (cs:=[.int .i64 0,.int .i64 0]) rfl rfl rfl (te rfl) rfl rfl rfl rfl).op.mono (fun v H' ⟨hv,hH⟩=>⟨(0,0),fun h=>absurd rfl h,by rw [hH];exact List.Perm.refl _⟩)))))))
 ·intro env t' ha hv
  refine ⟨_,ha,?_⟩
  show X _ _ _ _ (⟨b2,0,cSp ⟨f,e⟩,some 24,2⟩::⟨t,0,(wts B).flatMap cI,some 3,q * 1⟩::⟨b1,0,cPr B p g,some 91,(cPr B p g).length⟩::H) _
  repeat' (first | refine X.ret rfl ?_)
  exact ret_one (by simp) Tryz.results66 ⟨_,rfl,uW (te rfl) rfl (qH _) rfl⟩ (H' := H) (by (repeat (first | exact qR _ | apply qC));done) ⟨rfl,rfl⟩
theorem wl_in (ok : Int → Bool) (lo : Int) : ∀ k,∀ x ∈ wl ok lo k,lo ≤ x∧x < lo + k
 | 0,x,h=>absurd h List.not_mem_nil
 | k + 1,x,h=>by
  simp only [wl,List.mem_append] at h
  rcases h with h | h
  ·have:=wl_in ok lo k x h
   omega
  ·split at h
   ·rw [List.mem_singleton] at h;omega
   ·exact absurd h List.not_mem_nil
theorem dryOf_in {B : Bl} (hd : 1 ≤ B.dlo∧B.dlo ≤ B.dhi∧B.dhi ≤ 600) (hne : 0 < (wts B).length) : (1 ≤ (dryOf B).lo∧(dryOf B).lo ≤ 600)∧1 ≤ (dryOf B).hi∧(dryOf B).hi ≤ 600:=by
 have h1 : ∀ x ∈ wts B,1 ≤ x∧x ≤ 600:=fun x hx=>by
  have:=wl_in (okW B) B.dlo (B.dhi - B.dlo + 1).toNat x hx
  omega
 have h2 : (wts B).getD 0 0 ∈ wts B:=by simp [List.getD,List.getElem?_eq_getElem hne]
 have h3 : (wts B).getD ((wts B).length - 1) 0 ∈ wts B:=by
  have hl : (wts B).length - 1 < (wts B).length:=by omega
  have:=List.getElem_mem hl
  simp [List.getD,List.getElem?_eq_getElem hl]
 exact ⟨h1 _ h2,h1 _ h3⟩
noncomputable def wetOf (B : Bl) (x : Wg) : Sp:=⟨(dampOf x (dryOf B).hi).lo,(dampOf x (dryOf B).lo).hi⟩
def tsWet : List TOp:=[⟨some 8,[],[],[]⟩,⟨some 9,[],[],[]⟩,⟨some 10,[1],[1],[]⟩,⟨some 11,[0,1,2],[0,2],[]⟩,⟨some 12,[0,1,2,3],[3],[]⟩,⟨some 13,[],[],[]⟩,⟨some 14,[],[],[]⟩,⟨some 15,[6],[6],[]⟩,⟨some 16,[0,1,2,3,5,6,7],[5,7],[]⟩,⟨some 17,[0,1,2,3,5,6,7,8],[8],[]⟩,⟨some 18,[0,1,2,3,4,5,6,7,8,9],[4,9],[]⟩,⟨none,[0,1,2,3,4,5,6,7,8,9,10],[10],[12]⟩,⟨none,[],[],[]⟩]
def rowsWet (b4 : Nat) (s : Sp) (k : Nat) (_ : Env) : List Row :=
 match k with
 | 11=>[⟨b4,0,cSp s,some 24,2⟩]
 | 12=>[⟨b4,0,[.int .i64 0,.int .i64 0],some 24,2⟩]
 | _=>[]
set_option maxHeartbeats 4000000 in
theorem wet_spec (B : Bl) (p : Pb) (g : List Sp) (x : Wg) (H : List Row) (hd : 1 ≤ B.dlo∧B.dlo ≤ B.dhi∧B.dhi ≤ 600) (hw : ∀ x ∈ B.weighs,0 ≤ x.val∧x.val ≤ 10000) (hx : 0 ≤ x.val∧x.val ≤ 10000) (hg : g.length = 5) (hB : BlOk H B p) (hne : 0 < (wts B).length) :
  Fc Tryz.prog 53 [.agg (cPr B p g).toArray,.agg (cDr x).toArray] H (fun v H' => v = .agg (cSp (wetOf B x)).toArray∧H' = H):=by
 obtain ⟨⟨d1,d2⟩,d3,d4⟩:=dryOf_in hd hne
 unfold wetOf
 obtain ⟨D,hD⟩ : ∃ D,D = dryOf B:=⟨_,rfl⟩
 have hds:=fun S (hS : BlOk S B p)=>dry_spec B p g S hd hw hg hS hne
 rw [← hD] at d1 d2 d3 d4 hds ⊢
 refine Fc.mk (callable Tryz.call53) Tryz.func53 rfl Tryz.ntmps53 rfl ?_;dsimp only [fr]
 refine uS rfl ?_;refine uR rfl (fun K hK=>?_);repeat' (first | (refine uP rfl ?_;(first | ((first | refine uN rfl ?_);(first | (refine Xg.st (StF.boxAgg rfl rfl) rfl rfl ?_;rintro _ _ ⟨bx,rfl,rfl⟩)|(refine Xg.st (StF.alloc rfl Tryz.zeroValue24 rfl) rfl rfl ?_;rintro _ _ ⟨bx,rfl,rfl⟩)))))|(refine uD rfl ?_;refine hK _ _ ?_;clear hK K))
 rename_i b2 b3
 rename Nat=>b4
 repeat' (first | (refine uP rfl ?_;(first | ((first | refine uN rfl ?_);(first | (refine uE (uL rfl rfl (uW (te rfl) rfl (qT _ (qT _ (qH _))) (lenPr hg))) rfl rfl ?_)|(refine uC (uT rfl (Args.cons rfl Args.nil)) rfl rfl (hds _ (hB.sub (fun _ h=>qT _ (qT _ (qT _ h))))) ?_;rintro _ H9 ⟨rfl,hH9⟩;subst H9)|(refine Xg.st (StF.alloc rfl Tryz.zeroValue24 rfl) rfl rfl ?_;rintro _ _ ⟨bx,rfl,rfl⟩)|(refine Xg.st0 (uZ (i:=0) rfl rfl rfl (te rfl) rfl rfl rfl rfl) rfl ?_;rintro _ _ ⟨rfl,rfl⟩;dsimp only [List.set])))))|(refine uD rfl ?_;refine hK _ _ ?_;clear hK K) | refine uS rfl ?_ | refine uR rfl (fun K hK=>?_))
 rename Nat=>b5
 refine X.permH (H' := ⟨b4,0,[.int .i64 0,.int .i64 0],some 24,2⟩::⟨b5,0,cSp D,some 24,2⟩::⟨b3,0,cDr x,some 41,4⟩::⟨b2,0,cPr B p g,some 91,(cPr B p g).length⟩::H) (List.Perm.swap _ _ _) ?_
 refine X.regionOb tsWet [3,4,5] [(3,.pointer (some ⟨b3,0,none⟩)),(4,.pointer (some ⟨b4,0,none⟩)),(5,.pointer (some ⟨b5,0,none⟩))]
  (valL [.agg (cDr x).toArray,.pointer (some ⟨b5,0 + 1,none⟩),.int .i64 D.hi,.agg (cSp (dampOf x D.hi)).toArray,.int .i64 (dampOf x D.hi).lo,.agg (cDr x).toArray,.pointer (some ⟨b5,0 + 0,none⟩),.int .i64 D.lo,.agg (cSp (dampOf x D.lo)).toArray,.int .i64 (dampOf x D.lo).hi,.agg (cSp ⟨(dampOf x D.hi).lo,(dampOf x D.lo).hi⟩).toArray])
  (rowsWet b4 ⟨(dampOf x D.hi).lo,(dampOf x D.lo).hi⟩) (fun _=>(0,0)) (⟨b5,0,cSp D,some 24,2⟩::⟨b3,0,cDr x,some 41,4⟩::⟨b2,0,cPr B p g,some 91,(cPr B p g).length⟩::H) rfl mixed (by repeat (first | exact uU _ | refine uV rfl ?_)) rfl (by kernel_rfl) (fun _ _ _ _ _ _=>⟨rfl,rfl⟩) (qR _) ?_ ?_
 ·repeat' (first | exact AllF.done rfl | (refine AllF.step rfl ?_ ?_;·(first | fail | ((first | refine Ob.ng rfl ?_);(first | exact uK (fun env R hR=>by exact ⟨_,uF rfl rfl (te rfl) rfl (te rfl) (by decide),rfl⟩) rfl (fun _=>rfl) | exact uK (fun env R hR=>by exact ⟨_,uL rfl rfl (uO (te rfl) rfl (hR _ (qH _)) rfl),rfl⟩) rfl (fun _=>rfl) | exact uK (fun env R hR=>by exact ⟨_,uL rfl rfl (uW (te rfl) rfl (hR _ (qT _ (qH _))) rfl),rfl⟩) rfl (fun _=>rfl)|(exact fun env S hS=>(OpF.call (uT rfl (Args.cons rfl (Args.cons rfl Args.nil))) (damp_spec x D.hi S hx (by omega))).mono (fun v H' ⟨hv,hH⟩=>⟨(0,0),fun _=>hv,by rw [hH];exact List.Perm.refl _⟩))|(exact fun env S hS=>(OpF.call (uT rfl (Args.cons rfl (Args.cons rfl Args.nil))) (damp_spec x D.lo S hx (by omega))).mono (fun v H' ⟨hv,hH⟩=>⟨(0,0),fun _=>hv,by rw [hH];exact List.Perm.refl _⟩))|(exact uK (fun env S hS=>⟨_,EvF.field rfl rfl (te rfl) rfl (te rfl) rfl rfl,rfl⟩) rfl (fun _=>rfl))|(exact uK (fun env S hS=>⟨_,EvF.build (cs:=cSp ⟨(dampOf x D.hi).lo,(dampOf x D.lo).hi⟩) rfl (ArgsP.cons rfl (ArgsP.cons rfl ArgsP.nil)) (te rfl) (Places.cons (te rfl) (Places.cons (te rfl) Places.nil)) Tryz.zeroValue24 rfl,rfl⟩) rfl (fun _=>rfl))|(exact fun env S hS=>(uZ (i:=0) (vs:=cSp ⟨(dampOf x D.hi).lo,(dampOf x D.lo).hi⟩) (cs:=[.int .i64 0,.int .i64 0]) rfl rfl rfl (te rfl) rfl rfl rfl rfl).op.mono (fun v H' ⟨hv,hH⟩=>⟨(0,0),fun h=>absurd rfl h,by rw [hH];exact List.Perm.refl _⟩)))))))
 ·intro env t' ha hv
  refine ⟨_,ha,?_⟩
  show X _ _ _ _ (⟨b4,0,cSp ⟨(dampOf x D.hi).lo,(dampOf x D.lo).hi⟩,some 24,2⟩::⟨b5,0,cSp D,some 24,2⟩::⟨b3,0,cDr x,some 41,4⟩::⟨b2,0,cPr B p g,some 91,(cPr B p g).length⟩::H) _
  repeat' (first | refine X.ret rfl ?_)
  exact ret_one (by simp) Tryz.results53 ⟨_,rfl,uW (te rfl) rfl (qH _) rfl⟩ (H' := H) (by (repeat (first | exact qR _ | apply qC));done) ⟨rfl,rfl⟩
noncomputable def damperOf (B : Bl) (x : Wg) (d : Int) : Int:=knb (decide ((wetOf B x).hi > d)) (decide ((wetOf B x).lo ≤ d))
set_option maxHeartbeats 4000000 in
theorem wasDamper_spec (B : Bl) (p : Pb) (g : List Sp) (x : Wg) (d : Int) (H : List Row) (hd : 1 ≤ B.dlo∧B.dlo ≤ B.dhi∧B.dhi ≤ 600) (hw : ∀ x ∈ B.weighs,0 ≤ x.val∧x.val ≤ 10000) (hx : 0 ≤ x.val∧x.val ≤ 10000) (hg : g.length = 5) (hB : BlOk H B p) (hne : 0 < (wts B).length) :
  Fc Tryz.prog 57 [.agg (cPr B p g).toArray,.agg (cDr x).toArray,.int .i64 d] H (fun v H' => v = .int .u8 (damperOf B x d)∧H' = H):=by
 unfold damperOf
 have hws:=fun S (hS : BlOk S B p)=>wet_spec B p g x S hd hw hx hg hS hne
 obtain ⟨W,hW⟩ : ∃ W,W = wetOf B x:=⟨_,rfl⟩
 rw [← hW] at hws ⊢
 refine Fc.mk (callable Tryz.call57) Tryz.func57 rfl Tryz.ntmps57 rfl ?_;dsimp only [fr]
 refine uS rfl ?_;refine uR rfl (fun K hK=>?_);repeat' (first | (refine uP rfl ?_;(first | ((first | refine uN rfl ?_);(first | (refine uE (uA rfl rfl) rfl rfl ?_)|(refine Xg.st (StF.boxAgg rfl rfl) rfl rfl ?_;rintro _ _ ⟨bx,rfl,rfl⟩)))))|(refine uD rfl ?_;refine hK _ _ ?_;clear hK K))
 rename_i b3
 rename Nat=>b4
 repeat' (first | (refine uP rfl ?_;(first | ((first | refine uN rfl ?_);(first | (refine uE (uL rfl rfl (uW (te rfl) rfl (qT _ (qH _)) (lenPr hg))) rfl rfl ?_)|(refine uC (uT rfl (Args.cons rfl (Args.cons rfl Args.nil))) rfl rfl (hws _ (hB.sub (fun _ h=>qT _ (qT _ h)))) ?_;rintro _ H9 ⟨rfl,hH9⟩;subst H9)|(refine uC (uT rfl (Args.cons rfl (Args.cons rfl Args.nil))) rfl rfl (lKnown_spec _ _ _) ?_;rintro _ H9 ⟨rfl,hH9⟩;subst H9)|(refine uE (uM rfl rfl) rfl rfl ?_)|(refine uE (uA rfl rfl) rfl rfl ?_)|(refine uE (uQ rfl rfl rfl rfl) rfl rfl ?_)|(refine uE (uF rfl rfl (te rfl) rfl (te rfl) (by decide)) rfl rfl ?_)|(refine uE (uL rfl rfl (uO (te rfl) rfl (qH _) rfl)) rfl rfl ?_)|(refine uE (uL rfl rfl (uW (te rfl) rfl (qH _) rfl)) rfl rfl ?_)|(refine Xg.st (StF.alloc rfl Tryz.zeroValue24 rfl) rfl rfl ?_;rintro _ _ ⟨bx,rfl,rfl⟩)|(refine Xg.st0 (uZ (i:=0) rfl rfl rfl (te rfl) rfl rfl rfl rfl) rfl ?_;rintro _ _ ⟨rfl,rfl⟩;dsimp only [List.set])))))|(refine uD rfl ?_;refine hK _ _ ?_;clear hK K) | refine uS rfl ?_ | refine uR rfl (fun K hK=>?_) | refine X.ret rfl ?_)
 refine ret_one (by simp) Tryz.results57 rfl (H' := H) (by (repeat (first | exact qR _ | apply qC));done) ?_;simp only [and_true,true_and]
/-- the weighing with a number -/
def wgz : Dr:=⟨0,0,0,0⟩
def numW (l : List Dr) (n : Int) : Dr:=(l.find? (fun e=>decide (e.number = n))).getD wgz
theorem numW_in {l : List Dr} {n : Int} (h : ∀ x ∈ l,0 ≤ x.val∧x.val ≤ 10000) : 0 ≤ (numW l n).val∧(numW l n).val ≤ 10000:=by
 unfold numW
 cases hf : l.find? (fun e=>decide (e.number = n)) with
 | none=>exact ⟨Int.le_refl 0,by show (0 : Int)≤10000;decide⟩
 | some e=>exact h e (List.mem_of_find?_eq_some hf)
set_option maxHeartbeats 4000000 in
theorem numbered_spec (l : List Dr) (a : Option Addr) (c : Nat) (n : Int) (H : List Row) (hl : SlE H a cDr 4 l) (hb : l.length ≤ 1000000) :
  Fc Tryz.prog 96 [.slice a l.length c,.int .i64 n,.func (.func 72) #[] #[]] H (fun v H' => v = .agg (cDr (numW l n)).toArray∧H' = H):=by
 refine Fc.mk (callable Tryz.call96) Tryz.func96 rfl Tryz.ntmps96 rfl ?_;dsimp only [fr]
 repeat' (first | (refine uP rfl ?_;(first | ((first | refine uN rfl ?_);(first | (refine Xg.st (StF.alloc rfl Tryz.zeroValue41 rfl) rfl rfl ?_;rintro _ _ ⟨b6,rfl,rfl⟩)|(refine uE (uM rfl rfl) rfl rfl ?_)|(refine uE (uY rfl rfl (te rfl)) rfl rfl ?_)))))|(refine uD rfl ?_;refine hK _ _ ?_;clear hK K) | refine uS rfl ?_ | refine uR rfl (fun K hK=>?_) | refine X.block rfl ?_)
 refine X.lp rfl (fun q F' H' => ∃ k : Nat,q = l.length - k∧k ≤ l.length∧l.find? (fun e=>decide (e.number = n)) = (l.drop k).find? (fun e=>decide (e.number = n))∧⟨b6,0,cDr wgz,some 41,4⟩::H = H' ∧
   F' = [(1,.int .i64 n),(2,.func (.func 72) #[] #[]),(6,.pointer (some ⟨b6,0,none⟩)),(10,.slice a l.length c),(11,.int .i64 l.length),(12,.int .i64 (k : Nat))])
  l.length [(1,.int .i64 n),(2,.func (.func 72) #[] #[]),(6,.pointer (some ⟨b6,0,none⟩)),(10,.slice a l.length c),(11,.int .i64 l.length),(12,.int .i64 (0 : Nat))] _ (by repeat (first | exact uU _ | refine uV rfl ?_)) (qR _) ⟨0,by omega,by omega,rfl,rfl,rfl⟩ ?_
 rintro _ _ _ ⟨k,rfl,hk,hf,rfl,rfl⟩
 have hl1 : ∀ r,SlE (r::H) a cDr 4 l:=fun r=>hl.sub (fun _ h=>qT _ h)
 by_cases hlt : k < l.length
 ·have hlt' : (k : Int)<l.length:=by omega
  obtain ⟨b,off,e,rfl,he⟩:=hl.elem (i:=k) hlt
  rw [drop_cons he,List.find?_cons] at hf
  by_cases hq : e.number = n
  ·have hnw : numW l n = e:=by unfold numW;rw [hf,decide_eq_true hq];rfl
   rw [hnw]
   repeat' (first | (refine uP rfl ?_;(first | ((first | refine uN rfl ?_);(first | (refine uE (uQ (b:=true) rfl rfl rfl (congrArg some (decide_eq_true (by omega)))) rfl rfl ?_)|(refine uE (uL rfl rfl (LoadV.elA0 (hl1 _) he (te rfl) rfl (fun _ hm=>hm) rfl)) rfl rfl ?_)|(refine Xg.st (StF.alloc rfl Tryz.zeroValue41 rfl) rfl rfl ?_;rintro _ _ ⟨b8,rfl,rfl⟩)|(refine uC (EnF.dyn0 rfl rfl (Args.cons rfl Args.nil)) rfl rfl (numberWg_spec e _) ?_;rintro _ H9 ⟨rfl,hH9⟩;subst H9)|(refine uE (uM rfl rfl) rfl rfl ?_)|(refine uE (uJ rfl rfl rfl (te rfl) (te rfl) (by omega) (by omega)) rfl rfl ?_)|(refine uE (uL rfl rfl (uW (te rfl) rfl (qH _) rfl)) rfl rfl ?_)|(refine Xg.st0 (uZ (i:=0) rfl rfl rfl (te rfl) rfl rfl rfl rfl) rfl ?_;rintro _ _ ⟨rfl,rfl⟩;dsimp only [List.set])|(refine Xg.st0 (uZ (i:=1) rfl rfl rfl (te rfl) rfl rfl rfl rfl) rfl ?_;rintro _ _ ⟨rfl,rfl⟩;dsimp only [List.set])))))|(refine uD rfl ?_;refine hK _ _ ?_;clear hK K) | refine uS rfl ?_ | refine uR rfl (fun K hK=>?_) | refine X.block rfl ?_ | refine X.skip rfl ?_ | refine X.ret rfl ?_ | (refine X.ite rfl rfl (fun hc=>?_);(first | (with_reducible refine Xb.t hc ?_)) <;> clear hc))
   exact ret_one (v := .agg (cDr e).toArray) (by simp) Tryz.results96 ⟨_,rfl,uW (te rfl) rfl (by repeat (first | exact qH _ | apply qT)) rfl⟩ (H' := H) (by (repeat (first | exact qR _ | apply qC));done) ⟨rfl,rfl⟩
  ·rw [decide_eq_false hq] at hf
   repeat' (first | (refine uP rfl ?_;(first | ((first | refine uN rfl ?_);(first | (refine uE (uQ (b:=true) rfl rfl rfl (congrArg some (decide_eq_true (by omega)))) rfl rfl ?_)|(refine uE (uQ (b:=false) rfl rfl rfl (congrArg some (decide_eq_false (by omega)))) rfl rfl ?_)|(refine uE (uL rfl rfl (LoadV.elA0 (hl1 _) he (te rfl) rfl (fun _ hm=>hm) rfl)) rfl rfl ?_)|(refine Xg.st (StF.alloc rfl Tryz.zeroValue41 rfl) rfl rfl ?_;rintro _ _ ⟨b8,rfl,rfl⟩)|(refine uC (EnF.dyn0 rfl rfl (Args.cons rfl Args.nil)) rfl rfl (numberWg_spec e _) ?_;rintro _ H9 ⟨rfl,hH9⟩;subst H9)|(refine uE (EvF.add64 (p:=(k : Int)) (q:=1) rfl rfl rfl (by omega) (by omega)) rfl rfl ?_)|(refine uE (uM rfl rfl) rfl rfl ?_)|(refine uE (uJ rfl rfl rfl (te rfl) (te rfl) (by omega) (by omega)) rfl rfl ?_)|(refine uE (uL rfl rfl (uW (te rfl) rfl (qH _) rfl)) rfl rfl ?_)|(refine Xg.st0 (uZ (i:=0) rfl rfl rfl (te rfl) rfl rfl rfl rfl) rfl ?_;rintro _ _ ⟨rfl,rfl⟩;dsimp only [List.set])))))|(refine uD rfl ?_;refine hK _ _ ?_;clear hK K) | refine uS rfl ?_ | refine uR rfl (fun K hK=>?_) | refine X.block rfl ?_ | refine X.skip rfl ?_ | (refine X.ite rfl rfl (fun hc=>?_);(first | (with_reducible refine Xb.t hc ?_)|(with_reducible refine Xb.f hc ?_)) <;> clear hc))
   exact ⟨_,_,_,(by rw [show (k : Int) + 1 = ((k + 1 : Nat) : Int) by omega];exact (by repeat (first | exact uU _ | refine uV rfl ?_))),(List.sublist_cons_self _ _),⟨k + 1,rfl,by omega,hf,rfl,rfl⟩,by omega⟩
 ·obtain rfl : k = l.length:=by omega
  have hlt' : ¬ ((l.length : Nat) : Int)<l.length:=by omega
  rw [List.drop_length] at hf
  have hnw : numW l n = wgz:=by unfold numW;rw [hf];rfl
  rw [hnw]
  repeat' (first | (refine uP rfl ?_;(first | ((first | refine uN rfl ?_);(first | (refine uE (uQ (b:=false) rfl rfl rfl (congrArg some (decide_eq_false (by omega)))) rfl rfl ?_)|(refine Xg.st (StF.alloc rfl Tryz.zeroValue41 rfl) rfl rfl ?_;rintro _ _ ⟨b9,rfl,rfl⟩)|(refine uE (uL rfl rfl (uW (te rfl) rfl (qH _) rfl)) rfl rfl ?_)|(refine Xg.st0 (uZ (i:=1) rfl rfl rfl (te rfl) rfl rfl rfl rfl) rfl ?_;rintro _ _ ⟨rfl,rfl⟩;dsimp only [List.set])))))|(refine uD rfl ?_;refine hK _ _ ?_;clear hK K) | refine uS rfl ?_ | refine uR rfl (fun K hK=>?_)|(refine X.brk rfl ?_;repeat (first | refine blockX_hit rfl ?_ | refine blockX_miss (by decide) ?_)) | refine X.ret rfl ?_ | (refine X.ite rfl rfl (fun hc=>?_);(first | (with_reducible refine Xb.f hc ?_)) <;> clear hc))
  exact ret_one (v := .agg (cDr wgz).toArray) (by simp) Tryz.results96 ⟨_,rfl,uW (te rfl) rfl (by repeat (first | exact qH _ | apply qT)) rfl⟩ (H' := H) (by (repeat (first | exact qR _ | apply qC));done) ⟨rfl,rfl⟩
set_option maxHeartbeats 4000000 in
theorem weighing_spec (B : Bl) (p : Pb) (g : List Sp) (n : Int) (H : List Row) (hB : BlOk H B p) :
  Fc Tryz.prog 54 [.agg (cPr B p g).toArray,.int .i64 n] H (fun v H' => v = .agg (cDr (numW B.weighs n)).toArray∧H' = H):=by
 have l2:=hB.l2
 have kn:=fun S (hS : SlE S p.a2 cDr 4 B.weighs)=>numbered_spec B.weighs p.a2 p.c2 n S hS (by omega)
 obtain ⟨e,he⟩ : ∃ e,e = numW B.weighs n:=⟨_,rfl⟩
 rw [← he] at kn ⊢
 have hw2 : ∀ r1 r2,SlE (r1::r2::H) p.a2 cDr 4 B.weighs:=fun r1 r2=>hB.weighs.sub (fun _ h=>qT _ (qT _ h))
 obtain ⟨a1,c1,a2,c2⟩:=p
 refine Fc.mk (callable Tryz.call54) Tryz.func54 rfl Tryz.ntmps54 rfl ?_;dsimp only [fr]
 repeat' (first | (refine uP rfl ?_;(first | ((first | refine uN rfl ?_);(first | (refine Xg.st (StF.alloc rfl Tryz.zeroValue41 rfl) rfl rfl ?_;rintro _ _ ⟨b4,rfl,rfl⟩)|(refine uC (uT rfl (Args.cons rfl (Args.cons rfl (Args.cons rfl Args.nil)))) rfl rfl (kn _ (hw2 _ _)) ?_;rintro _ H9 ⟨rfl,hH9⟩;subst H9)|(refine uE (uM rfl rfl) rfl rfl ?_)|(refine uE (uF rfl rfl (te rfl) rfl (te rfl) (by decide)) rfl rfl ?_)|(refine uE (uL rfl rfl (uO (te rfl) rfl (qT _ (qH _)) rfl)) rfl rfl ?_)|(refine Xg.st (StF.boxAgg rfl rfl) rfl rfl ?_;rintro _ _ ⟨bx,rfl,rfl⟩)|(refine Xg.st0 (uZ (i:=0) rfl rfl rfl (te rfl) rfl rfl rfl rfl) rfl ?_;rintro _ _ ⟨rfl,rfl⟩;dsimp only [List.set])))))|(refine uD rfl ?_;refine hK _ _ ?_;clear hK K) | refine uS rfl ?_ | refine uR rfl (fun K hK=>?_) | refine X.ret rfl ?_)
 exact ret_one (v := .agg (cDr e).toArray) (by simp) Tryz.results54 ⟨_,rfl,uW (te rfl) rfl (by repeat (first | exact qH _ | apply qT)) rfl⟩ (H' := H) (by (repeat (first | exact qR _ | apply qC));done) ⟨rfl,rfl⟩
def tsWt1 : List TOp:=[⟨some 4,[],[],[]⟩,⟨some 5,[],[],[]⟩,⟨some 6,[],[],[]⟩,⟨some 7,[1,2],[1,2],[]⟩,⟨some 8,[0,1,2,3],[0,3],[]⟩,⟨none,[0,1,2,3,4],[4],[6]⟩,⟨none,[],[],[]⟩]
def rowsWt1 (b4 : Nat) (s : Sp) (k : Nat) (_ : Env) : List Row :=
 match k with
 | 5=>[⟨b4,0,cSp s,some 24,2⟩]
 | 6=>[⟨b4,0,[.int .i64 0,.int .i64 0],some 24,2⟩]
 | _=>[]
set_option maxHeartbeats 4000000 in
theorem wet1_spec (B : Bl) (p : Pb) (g : List Sp) (n : Int) (bn : Nat) (ow : Option Kd) (cap : Nat) (H : List Row) (hd : 1 ≤ B.dlo∧B.dlo ≤ B.dhi∧B.dhi ≤ 600) (hw : ∀ x ∈ B.weighs,0 ≤ x.val∧x.val ≤ 10000) (hg : g.length = 5) (hB : BlOk H B p) (hne : 0 < (wts B).length)
  (hm : ⟨bn,0,[.int .i64 n],ow,cap⟩ ∈ H) :
  Fc Tryz.prog 52 ([.agg (cPr B p g).toArray]++[.pointer (some ⟨bn,0,none⟩)]) H (fun v H' => v = .agg (cSp (wetOf B (numW B.weighs n))).toArray∧H' = H):=by
 have hx:=numW_in (n:=n) hw
 have kwe:=fun S (hS : BlOk S B p)=>weighing_spec B p g n S hS
 obtain ⟨e,he⟩ : ∃ e,e = numW B.weighs n:=⟨_,rfl⟩
 rw [← he] at hx kwe ⊢
 show Fc Tryz.prog 52 [.agg (cPr B p g).toArray,.pointer (some ⟨bn,0,none⟩)] H _
 refine Fc.mk (callable Tryz.call52) Tryz.func52 rfl Tryz.ntmps52 rfl ?_;dsimp only [fr]
 refine uS rfl ?_;refine uR rfl (fun K hK=>?_);repeat' (first | (refine uP rfl ?_;(first | ((first | refine uN rfl ?_);(first | (refine Xg.st (StF.boxAgg rfl rfl) rfl rfl ?_;rintro _ _ ⟨bx,rfl,rfl⟩)|(refine Xg.st (StF.alloc rfl Tryz.zeroValue24 rfl) rfl rfl ?_;rintro _ _ ⟨bx,rfl,rfl⟩)))))|(refine uD rfl ?_;refine hK _ _ ?_;clear hK K))
 rename_i b2
 rename Nat=>b3
 repeat' (first | refine uS rfl ?_)
 refine X.regionOb tsWt1 [1,2,3] [(1,.pointer (some ⟨bn,0,none⟩)),(2,.pointer (some ⟨b2,0,none⟩)),(3,.pointer (some ⟨b3,0,none⟩))]
  (valL [.agg (cPr B p g).toArray,.agg (cPr B p g).toArray,.int .i64 n,.agg (cDr e).toArray,.agg (cSp (wetOf B e)).toArray])
  (rowsWt1 b3 (wetOf B e)) (fun _=>(0,0)) (⟨b2,0,cPr B p g,some 91,(cPr B p g).length⟩::H) rfl mixed (by repeat (first | exact uU _ | refine uV rfl ?_)) rfl (by kernel_rfl) (fun _ _ _ _ _ _=>⟨rfl,rfl⟩) (qR _) ?_ ?_
 ·repeat' (first | exact AllF.done rfl | (refine AllF.step rfl ?_ ?_;·(first | fail | ((first | refine Ob.ng rfl ?_);(first | (exact uK (fun env S hS=>⟨.agg (cPr B p g).toArray,uL rfl rfl (uW (te rfl) rfl (hS _ (qH _)) (lenPr hg)),rfl⟩) rfl (fun _=>rfl))|(exact uK (fun env S hS=>⟨.int .i64 n,uL rfl rfl (uO (te rfl) rfl (hS _ (qT _ hm)) rfl),rfl⟩) rfl (fun _=>rfl))|(exact fun env S hS=>(OpF.call (uT rfl (Args.cons rfl (Args.cons rfl Args.nil))) (kwe S (hB.sub (fun r hr=>hS r (qT _ hr))))).mono (fun v H' ⟨hv,hH⟩=>⟨(0,0),fun _=>hv,by rw [hH];exact List.Perm.refl _⟩))|(exact fun env S hS=>(OpF.call (uT rfl (Args.cons rfl (Args.cons rfl Args.nil))) (wet_spec B p g e S hd hw hx hg (hB.sub (fun r hr=>hS r (qT _ hr))) hne)).mono (fun v H' ⟨hv,hH⟩=>⟨(0,0),fun _=>hv,by rw [hH];exact List.Perm.refl _⟩))|(exact fun env S hS=>(uZ (i:=0) (vs:=cSp (wetOf B e)) (cs:=[.int .i64 0,.int .i64 0]) rfl rfl rfl (te rfl) rfl rfl rfl rfl).op.mono (fun v H' ⟨hv,hH⟩=>⟨(0,0),fun h=>absurd rfl h,by rw [hH];exact List.Perm.refl _⟩)))))))
 ·intro env t' ha hv
  refine ⟨_,ha,?_⟩
  show X _ _ _ _ (⟨b3,0,cSp (wetOf B e),some 24,2⟩::⟨b2,0,cPr B p g,some 91,(cPr B p g).length⟩::H) _
  repeat' (first | refine X.ret rfl ?_)
  exact ret_one (by simp) Tryz.results52 ⟨_,rfl,uW (te rfl) rfl (qH _) rfl⟩ (H' := H) (by (repeat (first | exact qR _ | apply qC));done) ⟨rfl,rfl⟩
def tsKn1 : List TOp:=[⟨some 5,[],[],[]⟩,⟨some 6,[],[],[]⟩,⟨some 7,[],[],[]⟩,⟨some 8,[1,2],[1,2],[]⟩,⟨some 9,[],[],[]⟩,⟨some 10,[0,1,2,3,4],[0,3,4],[]⟩,⟨some 4,[0,1,2,3,4,5],[5],[]⟩]
set_option maxHeartbeats 4000000 in
theorem known1_spec (B : Bl) (p : Pb) (g : List Sp) (n d : Int) (bn bd : Nat) (ow ow' : Option Kd) (cap cap' : Nat) (H : List Row) (hd : 1 ≤ B.dlo∧B.dlo ≤ B.dhi∧B.dhi ≤ 600) (hw : ∀ x ∈ B.weighs,0 ≤ x.val∧x.val ≤ 10000) (hg : g.length = 5) (hB : BlOk H B p) (hne : 0 < (wts B).length)
  (hm : ⟨bn,0,[.int .i64 n],ow,cap⟩ ∈ H) (hm' : ⟨bd,0,[.int .i64 d],ow',cap'⟩ ∈ H) :
  Fc Tryz.prog 56 ([.agg (cPr B p g).toArray]++[.pointer (some ⟨bn,0,none⟩),.pointer (some ⟨bd,0,none⟩)]) H (fun v H' => v = .int .u8 (damperOf B (numW B.weighs n) d)∧H' = H):=by
 have hx:=numW_in (n:=n) hw
 have kwe:=fun S (hS : BlOk S B p)=>weighing_spec B p g n S hS
 obtain ⟨e,he⟩ : ∃ e,e = numW B.weighs n:=⟨_,rfl⟩
 rw [← he] at hx kwe ⊢
 show Fc Tryz.prog 56 [.agg (cPr B p g).toArray,.pointer (some ⟨bn,0,none⟩),.pointer (some ⟨bd,0,none⟩)] H _
 refine Fc.mk (callable Tryz.call56) Tryz.func56 rfl Tryz.ntmps56 rfl ?_;dsimp only [fr]
 refine uS rfl ?_;refine uR rfl (fun K hK=>?_);repeat' (first | (refine uP rfl ?_;(first | ((first | refine uN rfl ?_);(first | (refine uE (uA rfl rfl) rfl rfl ?_)|(refine Xg.st (StF.boxAgg rfl rfl) rfl rfl ?_;rintro _ _ ⟨bx,rfl,rfl⟩)))))|(refine uD rfl ?_;refine hK _ _ ?_;clear hK K))
 rename Nat=>b3
 repeat' (first | refine uS rfl ?_)
 refine X.regionOb tsKn1 [1,2,3] [(1,.pointer (some ⟨bn,0,none⟩)),(2,.pointer (some ⟨bd,0,none⟩)),(3,.pointer (some ⟨b3,0,none⟩))]
  (valL [.agg (cPr B p g).toArray,.agg (cPr B p g).toArray,.int .i64 n,.agg (cDr e).toArray,.int .i64 d,.int .u8 (damperOf B e d),.int .u8 (damperOf B e d)])
  (fun _ _=>[]) (fun _=>(0,0)) (⟨b3,0,cPr B p g,some 91,(cPr B p g).length⟩::H) rfl mixed (by repeat (first | exact uU _ | refine uV rfl ?_)) rfl (by kernel_rfl) (fun _ _ _ _ _ _=>⟨rfl,rfl⟩) (qR _) ?_ ?_
 ·repeat' (first | exact AllF.done rfl | (refine AllF.step rfl ?_ ?_;·(first | fail | ((first | refine Ob.ng rfl ?_);(first | exact uK (fun env R hR=>by exact ⟨_,uA rfl rfl,rfl⟩) rfl (fun _=>rfl)|(exact uK (fun env S hS=>⟨.agg (cPr B p g).toArray,uL rfl rfl (uW (te rfl) rfl (hS _ (qH _)) (lenPr hg)),rfl⟩) rfl (fun _=>rfl))|(exact uK (fun env S hS=>⟨.int .i64 n,uL rfl rfl (uO (te rfl) rfl (hS _ (qT _ hm)) rfl),rfl⟩) rfl (fun _=>rfl))|(exact uK (fun env S hS=>⟨.int .i64 d,uL rfl rfl (uO (te rfl) rfl (hS _ (qT _ hm')) rfl),rfl⟩) rfl (fun _=>rfl))|(exact fun env S hS=>(OpF.call (uT rfl (Args.cons rfl (Args.cons rfl Args.nil))) (kwe S (hB.sub (fun r hr=>hS r (qT _ hr))))).mono (fun v H' ⟨hv,hH⟩=>⟨(0,0),fun _=>hv,by rw [hH];exact List.Perm.refl _⟩))|(exact fun env S hS=>(OpF.call (uT rfl (Args.cons rfl (Args.cons rfl (Args.cons rfl Args.nil)))) (wasDamper_spec B p g e d S hd hw hx hg (hB.sub (fun r hr=>hS r (qT _ hr))) hne)).mono (fun v H' ⟨hv,hH⟩=>⟨(0,0),fun _=>hv,by rw [hH];exact List.Perm.refl _⟩)))))))
 ·intro env t' ha hv
  refine ⟨(4,.int .u8 (damperOf B e d))::[(1,.pointer (some ⟨bn,0,none⟩)),(2,.pointer (some ⟨bd,0,none⟩)),(3,.pointer (some ⟨b3,0,none⟩))],ha.cons (hv 6 4 (Nat.le_of_ble_eq_true rfl) rfl),?_⟩
  show X _ _ _ _ (⟨b3,0,cPr B p g,some 91,(cPr B p g).length⟩::H) _
  repeat' (first | refine X.ret rfl ?_)
  exact ret_one (by simp) Tryz.results56 rfl (H' := H) (by (repeat (first | exact qR _ | apply qC));done) ⟨rfl,rfl⟩
theorem mul_small {a b A B : Int} (ha : 0 ≤ a) (hA : a ≤ A) (hb : 0 ≤ b) (hB : b ≤ B) : 0 ≤ a * b∧a * b ≤ A * B:=by
 refine ⟨Int.mul_nonneg ha hb,?_⟩
 exact Int.mul_le_mul hA hB hb (by omega)
def weightP (d r : Int) : Int:=d * (1000 + r) / 1000
theorem weight_spec (d r : Int) (H : List Row) (hd : 0 ≤ d∧d ≤ 100000) (hr : 0 ≤ r∧r ≤ 100000) : Fc Tryz.prog 37 [.int .i64 d,.int .i64 r] H (fun v H' => v = .int .i64 (weightP d r)∧H' = H):=by
 have hm:=mul_small hd.1 hd.2 (show 0 ≤ 1000 + r by omega) (show 1000 + r ≤ 101000 by omega)
 refine Fc.mk (callable Tryz.call37) Tryz.func37 rfl Tryz.ntmps37 rfl ?_;dsimp only [fr]
 repeat' (first | (refine uP rfl ?_;(first | ((first | refine uN rfl ?_);(first | (refine uE (EvF.mul64 rfl rfl rfl (by omega) (by omega)) rfl rfl ?_)|(refine uE (EvF.quo64 rfl rfl rfl (by omega) (by omega) (by omega)) rfl rfl ?_)|(refine uE (uM rfl rfl) rfl rfl ?_)|(refine uE (uA rfl rfl) rfl rfl ?_)|(refine uE (EvF.add64 rfl rfl rfl (by omega) (by omega)) rfl rfl ?_)))))|(refine uD rfl ?_;refine hK _ _ ?_;clear hK K) | refine uS rfl ?_ | refine uR rfl (fun K hK=>?_) | refine X.ret rfl ?_)
 refine ret_one (by simp) Tryz.results37 rfl (H' := H) (by (repeat (first | exact qR _ | apply qC));done) ?_;simp only [and_true,true_and]
 rfl
def couldP (x : Dr) (d : Int) : Prop:=weightP d x.lo ≤ x.val∧weightP d x.hi ≥ x.val
instance (x : Dr) (d : Int) : Decidable (couldP x d):=by unfold couldP;infer_instance
def wgOk (x : Wg) : Prop:=(0 ≤ x.val∧x.val ≤ 1200)∧0 ≤ x.lo∧x.lo ≤ x.hi∧x.hi ≤ 200
theorem could_spec (x : Wg) (d : Int) (H : List Row) (hd : 1 ≤ d∧d ≤ 600) (hx : wgOk x) : Fc Tryz.prog 160 [.int .i64 d,.agg (cDr x).toArray] H (fun v H' => v = .bool (decide (couldP x d))∧H' = H):=by
 obtain ⟨h1,h2,h3,h4⟩:=hx
 refine Fc.mk (callable Tryz.call160) Tryz.func160 rfl Tryz.ntmps160 rfl ?_;dsimp only [fr]
 repeat' (first | (refine uP rfl ?_;(first | ((first | refine uN rfl ?_);(first | (refine uE (uA rfl rfl) rfl rfl ?_)|(refine Xg.st (StF.boxAgg rfl rfl) rfl rfl ?_;rintro _ _ ⟨bx,rfl,rfl⟩)))))|(refine uD rfl ?_;refine hK _ _ ?_;clear hK K)|(refine XQ.op rfl ?_;(first | ((first | refine Yo.ng rfl ?_ | (refine Yo.g rfl rfl ?_;with_reducible refine Yw.tt ?_));(first | (refine Yg.call (uT rfl (Args.cons rfl (Args.cons rfl Args.nil))) rfl rfl (weight_spec d x.lo _ (by omega) (by omega)) ?_)|(refine Yg.call (uT rfl (Args.cons rfl (Args.cons rfl Args.nil))) rfl rfl (weight_spec d x.hi _ (by omega) (by omega)) ?_)|(refine Yg.ev (uM rfl rfl) rfl rfl ?_)|(refine Yg.ev (uA rfl rfl) rfl rfl ?_)|(refine Yg.ev (EvF.pickT rfl rfl rfl) rfl rfl ?_)|(refine Yg.ev (EvF.pickF rfl rfl rfl) rfl rfl ?_)|(refine Yg.ev (uQ rfl rfl rfl rfl) rfl rfl ?_)|(refine Yg.ev (uF rfl rfl (te rfl) rfl (te rfl) (by decide)) rfl rfl ?_)|(refine Yg.ev (uL rfl rfl (uO (te rfl) rfl (qH _) rfl)) rfl rfl ?_)))|(refine Yo.g rfl rfl ?_;(first | (with_reducible refine Yw.ft rfl rfl ?_)|(with_reducible refine Yw.case (fun h=>?_) (fun h=>?_) <;> simp only [h,decide_true,decide_false,Bool.not_true,Bool.not_false,and_self,and_true,true_and,and_false,false_and])))))|(refine XQ.done rfl ?_;refine hK _ ?_;clear hK K) | refine uS rfl ?_ | refine uR rfl (fun K hK=>?_) | refine X.regionD rfl mixed (by kernel_rfl) (fun K hK=>?_) | refine X.ret rfl ?_)
 all_goals (refine ret_one (by simp) Tryz.results160 rfl (H' := H) (by (repeat (first | exact qR _ | apply qC));done) ?_;simp only [and_true,true_and])
 all_goals (congr 1)
 all_goals first
  | (symm;exact decide_eq_false (fun q=>absurd q.1 (by assumption)))
  | exact decide_eq_decide.2 ⟨fun q=>⟨by assumption,q⟩,fun q=>q.2⟩
theorem ceil_le {q d m : Int} (hd : 0 < d) : (1000 * q + d - 1) / d ≤ m ↔ 1000 * q ≤ m * d:=by
 have h:=Int.ediv_lt_iff_lt_mul (a:=1000 * q + d - 1) (b:=m + 1) hd
 rw [Int.add_mul,Int.one_mul] at h
 constructor
 ·intro h1
  have:=h.1 (by omega)
  omega
 ·intro h1
  have:=h.2 (by omega)
  omega
theorem could_iff {x : Wg} {d : Int} (hx : wgOk x) (hd : 1 ≤ d∧d ≤ 600) : ¬ (dampOf x d).lo > (dampOf x d).hi ↔ couldP x d:=by
 obtain ⟨h1,h2,h3,h4⟩:=hx
 have e1 : ∀ r q : Int,leastD q d ≤ r ↔ 1000 * q ≤ (r + 1000) * d:=by
  intro r q
  have:=ceil_le (q:=q) (m:=r + 1000) (show 0 < d by omega)
  unfold leastD
  rw [← this];omega
 have e2 : ∀ r : Int,weightP d r ≤ x.val ↔ ¬ leastD (x.val + 1) d ≤ r:=by
  intro r
  rw [e1]
  unfold weightP
  rw [Int.mul_comm d,Int.add_comm 1000 r]
  omega
 have e3 : ∀ r : Int,weightP d r ≥ x.val ↔ leastD x.val d ≤ r:=by
  intro r
  rw [e1]
  unfold weightP
  rw [Int.mul_comm d,Int.add_comm 1000 r]
  omega
 have e4 : ¬ leastD (x.val + 1) d ≤ leastD x.val d:=by
  rw [e1]
  have h5 : (1000 * x.val + d - 1) / d * d ≤ 1000 * x.val + d - 1:=Int.ediv_mul_le _ (by omega)
  have h6 : leastD x.val d + 1000 = (1000 * x.val + d - 1) / d:=by unfold leastD;omega
  rw [h6]
  omega
 unfold couldP
 rw [e2,e3]
 simp only [dampOf]
 omega
def allC (l : List Dr) (d : Int) : Bool:=l.all (fun x=>decide (couldP x d))
def okR (B : Bl) (d : Int) : Bool:=allC B.weighs d
theorem ok_eq {B : Bl} {d : Int} (hw : ∀ x ∈ B.weighs,wgOk x) (hd : 1 ≤ d∧d ≤ 600) : okR B d = okW B d:=by
 rw [Bool.eq_iff_iff]
 unfold okR allC okW
 rw [List.all_eq_true,decide_eq_true_iff]
 unfold canW
 exact ⟨fun q x hx=>(could_iff (hw x hx) hd).2 (of_decide_eq_true (q x hx)),fun q x hx=>decide_eq_true ((could_iff (hw x hx) hd).1 (q x hx))⟩
theorem wts_eq {B : Bl} (hw : ∀ x ∈ B.weighs,wgOk x) (hd : 1 ≤ B.dlo∧B.dlo ≤ B.dhi∧B.dhi ≤ 600) : wl (okR B) B.dlo (B.dhi - B.dlo + 1).toNat = wts B:=by
 unfold wts
 exact wl_congr _ (fun i hi=>ok_eq hw ⟨by omega,by omega⟩)
theorem baleOk.wg {B : Bl} (h : baleOk B) : ∀ x ∈ B.weighs,wgOk x:=by
 intro x hx
 have h1:=(h.2.2.2.2.2.2 x hx)
 have h2:=h1.1 x.val (List.mem_singleton.2 rfl)
 have h3:=h1.2
 unfold partOk at h3
 simp only at h2 h3
 unfold wgOk
 omega
set_option maxHeartbeats 4000000 in
theorem dries_spec (B : Bl) (p : Pb) (H : List Row) (hd : 1 ≤ B.dlo∧B.dlo ≤ B.dhi∧B.dhi ≤ 600) (hw : ∀ x ∈ B.weighs,wgOk x) (hB : BlOk H B p) :
  Fc Tryz.prog 135 [.agg (cBl B p).toArray] H (fun v H' => ∃ Z,OutI (wts B) v Z∧H' = Z++H):=by
 rw [← wts_eq hw hd]
 obtain ⟨N,hN⟩ : ∃ N : Nat,(B.dhi - B.dlo + 1).toNat = N:=⟨_,rfl⟩
 rw [hN]
 have hNN : B.dlo + N = B.dhi + 1:=by omega
 have l2:=hB.l2
 have hBZ : ∀ (Z : List Row) r,BlOk (Z++r::H) B p:=fun Z r=>hB.sub (fun _ h=>List.mem_append_right _ (List.mem_cons_of_mem _ h))
 obtain ⟨a1,c1,a2,c2⟩:=p
 refine Fc.mk (callable Tryz.call135) Tryz.func135 rfl Tryz.ntmps135 rfl ?_;dsimp only [fr]
 repeat' (first | (refine uP rfl ?_;(first | ((first | refine uN rfl ?_);(first | (refine uE (uM rfl rfl) rfl rfl ?_)|(refine uE (uA rfl rfl) rfl rfl ?_)|(refine uE (uQ rfl rfl rfl rfl) rfl rfl ?_)|(refine uE (EvF.add64 rfl rfl rfl (by omega) (by omega)) rfl rfl ?_)|(refine uE (uF rfl rfl (te rfl) rfl (te rfl) (by decide)) rfl rfl ?_)|(refine uE (uL rfl rfl (uO (te rfl) rfl (qH _) rfl)) rfl rfl ?_)|(refine Xg.st (StF.boxAgg rfl rfl) rfl rfl ?_;rintro _ _ ⟨bx,rfl,rfl⟩)))))|(refine uD rfl ?_;refine hK _ _ ?_;clear hK K) | refine uS rfl ?_ | refine uR rfl (fun K hK=>?_) | refine X.block rfl ?_ | (refine X.brk rfl ?_;repeat (first | refine blockX_hit rfl ?_ | refine blockX_miss (by decide) ?_)) | refine X.skip rfl ?_ | (refine X.ite rfl rfl (fun hc=>?_);(first | (with_reducible refine Xb.case hc (fun h=>?_) (fun h=>?_))|(with_reducible refine Xb.caseB hc (fun h=>?_) (fun h=>?_))) <;> clear hc))
 rename Nat=>b1
 refine X.lp rfl (fun m F' H' => ∃ (k : Nat) (d : Int) (out : Value) (Z : List Row),m = N - k∧k ≤ N∧d = B.dlo + k∧OutI (wl (okR B) B.dlo k) out Z∧Z++⟨b1,0,cBl B ⟨a1,c1,a2,c2⟩,some 31,6⟩::H = H' ∧
   F' = [(1,.pointer (some ⟨b1,0,none⟩)),(3,out),(4,.int .i64 d)])
  N [(1,.pointer (some ⟨b1,0,none⟩)),(3,.slice none 0 0),(4,.int .i64 B.dlo)] (⟨b1,0,cBl B ⟨a1,c1,a2,c2⟩,some 31,6⟩::H) (by repeat (first | exact uU _ | refine uV rfl ?_)) (qR _) ⟨0,_,_,[],by omega,by omega,by omega,.inl ⟨rfl,rfl,rfl⟩,rfl,rfl⟩ ?_
 rintro _ _ H2 ⟨k,d,out,Z,rfl,hk,hdk,hO,hH,rfl⟩
 subst hH
 repeat' (first | (refine uP rfl ?_;(first | ((first | refine uN rfl ?_);(first | (refine uE (uL rfl rfl (uO (te rfl) rfl (List.mem_append_right _ (qH _)) rfl)) rfl rfl ?_)|(refine uE (uM rfl rfl) rfl rfl ?_)|(refine uE (uA rfl rfl) rfl rfl ?_)|(refine uE (uQ rfl rfl rfl rfl) rfl rfl ?_)|(refine uE (uF rfl rfl (te rfl) rfl (te rfl) (by decide)) rfl rfl ?_)|(refine uE (uY rfl rfl (te rfl)) rfl rfl ?_)))))|(refine uD rfl ?_;refine hK _ _ ?_;clear hK K) | refine uS rfl ?_ | refine uR rfl (fun K hK=>?_) | refine X.block rfl ?_ | (refine X.brk rfl ?_;repeat (first | refine blockX_hit rfl ?_ | refine blockX_miss (by decide) ?_)) | refine X.skip rfl ?_ | refine X.ret rfl ?_ | (refine X.ite rfl rfl (fun hc=>?_);(first | (with_reducible refine Xb.case hc (fun h=>?_) (fun h=>?_))) <;> clear hc))
 ·refine X.lp rfl (fun m F' H' => ∃ (q : Nat) (is : Bool),m = B.weighs.length - q∧q ≤ B.weighs.length∧is = allC (B.weighs.take q) d∧Z++⟨b1,0,cBl B ⟨a1,c1,a2,c2⟩,some 31,6⟩::H = H' ∧
    F' = [(1,.pointer (some ⟨b1,0,none⟩)),(3,out),(4,.int .i64 d),(5,.bool is),(19,.slice a2 B.weighs.length c2),(20,.int .i64 B.weighs.length),(21,.int .i64 q)])
   B.weighs.length [(1,.pointer (some ⟨b1,0,none⟩)),(3,out),(4,.int .i64 d),(5,.bool true),(19,.slice a2 B.weighs.length c2),(20,.int .i64 B.weighs.length),(21,.int .i64 (0 : Nat))] _ (by repeat (first | exact uU _ | refine uV rfl ?_)) (qR _) ⟨0,true,by omega,by omega,rfl,rfl,rfl⟩ ?_
  rintro _ _ H2 ⟨q,is,rfl,hq,hn,hH,rfl⟩
  subst hH
  repeat' (first | (refine uP rfl ?_;(first | ((first | refine uN rfl ?_);(first | (refine uE (uM rfl rfl) rfl rfl ?_)|(refine uE (uA rfl rfl) rfl rfl ?_)|(refine uE (uQ rfl rfl rfl rfl) rfl rfl ?_)|(refine uE (EvF.add64 rfl rfl rfl (by omega) (by omega)) rfl rfl ?_)|(refine uE (uF rfl rfl (te rfl) rfl (te rfl) (by decide)) rfl rfl ?_)|(refine uE (uL rfl rfl (uO (te rfl) rfl (qH _) rfl)) rfl rfl ?_)|(refine Xg.st (StF.boxAgg rfl rfl) rfl rfl ?_;rintro _ _ ⟨bx,rfl,rfl⟩)))))|(refine uD rfl ?_;refine hK _ _ ?_;clear hK K) | refine uS rfl ?_ | refine uR rfl (fun K hK=>?_) | refine X.block rfl ?_ | (refine X.brk rfl ?_;repeat (first | refine blockX_hit rfl ?_ | refine blockX_miss (by decide) ?_)) | refine X.skip rfl ?_ | (refine X.ite rfl rfl (fun hc=>?_);(first | (with_reducible refine Xb.case hc (fun h=>?_) (fun h=>?_))|(with_reducible refine Xb.caseB hc (fun h=>?_) (fun h=>?_))) <;> clear hc))
  ·obtain ⟨b,off,e,rfl,he⟩:=hB.weighs.elem (i:=q) (by omega)
   have hwe:=hw e (List.mem_of_getElem? he)
   have hn' : allC (B.weighs.take (q + 1)) d = (is && decide (couldP e d)):=by
    rw [take_snoc he,hn]
    unfold allC
    rw [List.all_append]
    simp
   clear hn
   repeat' (first | (refine uP rfl ?_;(first | ((first | refine uN rfl ?_ | (refine Xo.g rfl rfl ?_;with_reducible refine Xw.tt ?_));(first | (refine uE (uL rfl rfl (LoadV.elA0 (hBZ _ _).weighs he (te rfl) rfl (fun _ hm=>hm) rfl)) rfl rfl ?_)|(refine uC (uT rfl (Args.cons rfl (Args.cons rfl Args.nil))) rfl rfl (could_spec e d _ (by omega) hwe) ?_;rintro _ H9 ⟨rfl,hH9⟩;subst H9)|(refine uE (uM rfl rfl) rfl rfl ?_)|(refine uE (uA rfl rfl) rfl rfl ?_)|(refine uE (EvF.pickT rfl rfl rfl) rfl rfl ?_)|(refine uE (EvF.pickF rfl rfl rfl) rfl rfl ?_)|(refine uE (EvF.add64 rfl rfl rfl (by omega) (by omega)) rfl rfl ?_)|(refine uE (uJ rfl rfl rfl (te rfl) (te rfl) (by omega) (by omega)) rfl rfl ?_)|(refine uE (uL rfl rfl (uW (te rfl) rfl (qH _) rfl)) rfl rfl ?_)|(refine Xg.st (StF.alloc rfl Tryz.zeroValue38 rfl) rfl rfl ?_;rintro _ _ ⟨bx,rfl,rfl⟩)|(refine Xg.st0 (uZ (i:=0) rfl rfl rfl (te rfl) rfl rfl rfl rfl) rfl ?_;rintro _ _ ⟨rfl,rfl⟩;dsimp only [List.set])))|(refine Xo.g rfl rfl ?_;(first | (with_reducible refine Xw.ft rfl rfl ?_)|(with_reducible refine Xw.caseB (fun h=>?_) (fun h=>?_) <;> simp only [h,decide_true,decide_false,Bool.not_true,Bool.not_false,and_self,and_true,true_and,and_false,false_and])))))|(refine uD rfl ?_;refine hK _ _ ?_;clear hK K) | refine uR rfl (fun K hK=>?_))
   ·refine ⟨_,_,_,(by repeat (first | exact uU _ | refine uV rfl ?_)),(by (repeat (first | exact qR _ | apply qC));done),⟨q + 1,_,rfl,by omega,by rw [hn'];simp_all,rfl,rfl⟩,by omega⟩
   ·refine ⟨_,_,_,(by repeat (first | exact uU _ | refine uV rfl ?_)),(by (repeat (first | exact qR _ | apply qC));done),⟨q + 1,_,rfl,by omega,by rw [hn'];simp_all,rfl,rfl⟩,by omega⟩
  ·have hyes : okR B d = is:=by rw [hn,List.take_of_length_le (by omega)];rfl
   have hi : is = true:=by assumption
   rw [hi] at hyes
   have hwl : wl (okR B) B.dlo (k + 1)=wl (okR B) B.dlo k++[d]:=by
    rw [hdk] at hyes
    simp only [wl,hyes,if_true,hdk]
   have hk1:=wl_len (okR B) B.dlo k
   obtain ⟨l,hlE⟩ : ∃ l,wl (okR B) B.dlo k = l:=⟨_,rfl⟩
   rw [hlE] at hO hwl hk1
   clear hn
   rcases hO with ⟨rfl,rfl,rfl⟩ | ⟨b0,q0,rfl,rfl⟩
   ·repeat' (first | (refine uP rfl ?_;(first | ((first | refine uN rfl ?_);(first | (refine Xg.st (StF.buildOne rfl el55 rfl rfl rfl (by decide) (by decide)) rfl rfl ?_;rintro _ _ ⟨bs,rfl,rfl⟩)|(refine Xg.st (StF.appendNew rfl el55 rfl rfl (by decide) rfl (Rd.own (qH _)) (by decide)) rfl rfl ?_;rintro _ _ ⟨bn,kn,rfl,rfl⟩)|(refine uE (uM rfl rfl) rfl rfl ?_)|(refine uE (uA rfl rfl) rfl rfl ?_)|(refine uE (EvF.add64 rfl rfl rfl (by omega) (by omega)) rfl rfl ?_)))))|(refine uD rfl ?_;refine hK _ _ ?_;clear hK K) | refine uR rfl (fun K hK=>?_))
    refine ⟨_,_,_,(by repeat (first | exact uU _ | refine uV rfl ?_)),?_,⟨k + 1,_,_,[⟨bn,0,([]++[d]).flatMap cI,some 3,kn * 1⟩],rfl,by omega,?_,?_,rfl,rfl⟩,by omega⟩
    ·exact qK _ (qC _ (qR _))
    ·omega
    ·rw [hwl];exact .inr ⟨_,_,rfl,rfl⟩
   ·have hlen : (l.flatMap cI).length = l.length * 1:=lenI l
    repeat' (first | (refine uP rfl ?_;(first | ((first | refine uN rfl ?_);(first | (refine Xg.st (StF.buildOne rfl el55 rfl rfl rfl (by decide) (by decide)) rfl rfl ?_;rintro _ _ ⟨bs,rfl,rfl⟩)|(refine Xg.st (StF.appendOwn (i:=1) rfl el55 rfl rfl rfl hlen rfl (Rd.own (qH _)) rfl (by omega)) rfl rfl ?_;rintro _ _ ⟨bn,kn,rfl,rfl⟩;dsimp only [List.eraseIdx])|(refine uE (uM rfl rfl) rfl rfl ?_)|(refine uE (uA rfl rfl) rfl rfl ?_)|(refine uE (EvF.add64 rfl rfl rfl (by omega) (by omega)) rfl rfl ?_)))))|(refine uD rfl ?_;refine hK _ _ ?_;clear hK K) | refine uR rfl (fun K hK=>?_))
    refine ⟨_,_,_,(by repeat (first | exact uU _ | refine uV rfl ?_)),?_,⟨k + 1,_,_,[⟨bn,0,(l++[d]).flatMap cI,some 3,kn * 1⟩],rfl,by omega,?_,?_,rfl,rfl⟩,by omega⟩
    ·rw [List.flatMap_append]
     exact qK _ (qC _ (qR _))
    ·omega
    ·rw [hwl];exact .inr ⟨_,_,by rw [List.length_append];rfl,rfl⟩
  ·have hno : okR B d = is:=by rw [hn,List.take_of_length_le (by omega)];rfl
   have hi : is = false:=by assumption
   rw [hi] at hno
   refine ⟨_,_,_,(by repeat (first | exact uU _ | refine uV rfl ?_)),(by (repeat (first | exact qR _ | apply qC));done),⟨k + 1,_,_,Z,rfl,by omega,?_,?_,rfl,rfl⟩,by omega⟩
   ·omega
   ·rw [hdk] at hno
    simp only [wl,hno,Bool.false_eq_true,if_false,List.append_nil]
    exact hO
 ·obtain rfl : k = N:=by omega
  exact ret_one (by simp) Tryz.results135 rfl (H' := Z++H) (List.Sublist.append (qR _) (List.sublist_cons_self _ _)) ⟨Z,hO,rfl⟩
def payF (s : Sp) (d : Int) : Sp:=⟨s.lo * (1000 + d) / 1000,s.hi * (1000 + d) / 1000⟩
set_option maxHeartbeats 4000000 in
theorem pays1_spec (B : Bl) (p : Pb) (g : List Sp) (d : Int) (bn : Nat) (ow : Option Kd) (cap : Nat) (H : List Row) (hd : 1 ≤ B.dlo∧B.dlo ≤ B.dhi∧B.dhi ≤ 600) (hw : ∀ x ∈ B.weighs,0 ≤ x.val∧x.val ≤ 10000) (hg : g.length = 5) (hB : BlOk H B p) (hne : 0 < (wts B).length)
  (hm : ⟨bn,0,[.int .i64 d],ow,cap⟩ ∈ H) (hdv : 0 ≤ d∧d ≤ 200) :
  Fc Tryz.prog 65 ([.agg (cPr B p g).toArray]++[.pointer (some ⟨bn,0,none⟩)]) H (fun v H' => v = .agg (cSp (payF (dryOf B) d)).toArray∧H' = H):=by
 show Fc Tryz.prog 65 [.agg (cPr B p g).toArray,.pointer (some ⟨bn,0,none⟩)] H _
 obtain ⟨⟨d1,d2⟩,d3,d4⟩:=dryOf_in hd hne
 have hds:=fun S (hS : BlOk S B p)=>dry_spec B p g S hd hw hg hS hne
 obtain ⟨D,hD⟩ : ∃ D,D = dryOf B:=⟨_,rfl⟩
 rw [← hD] at d1 d2 d3 d4 hds ⊢
 have m1:=mul_small (a:=D.lo) (b:=1000 + d) (A:=600) (B:=1200) (by omega) d2 (by omega) (by omega)
 have m2:=mul_small (a:=D.hi) (b:=1000 + d) (A:=600) (B:=1200) (by omega) d4 (by omega) (by omega)
 refine Fc.mk (callable Tryz.call65) Tryz.func65 rfl Tryz.ntmps65 rfl ?_;dsimp only [fr]
 repeat' (first | (refine uP rfl ?_;(first | ((first | refine uN rfl ?_);(first | (refine uE (uL rfl rfl (uW (te rfl) rfl (qT _ (qH _)) (lenPr hg))) rfl rfl ?_)|(refine uC (uT rfl (Args.cons rfl Args.nil)) rfl rfl (hds _ (hB.sub (fun _ h=>qT _ (qT _ h)))) ?_;rintro _ H9 ⟨rfl,hH9⟩;subst H9)|(refine uE (uL (v := .int .i64 d) rfl rfl (uO (te rfl) rfl (qT _ (qT _ (qT _ hm))) rfl)) rfl rfl ?_)|(refine uE (EvF.mul64 rfl rfl rfl (by omega) (by omega)) rfl rfl ?_)|(refine uE (EvF.quo64 rfl rfl rfl (by omega) (by omega) (by omega)) rfl rfl ?_)|(refine uE (EvF.build (cs:=cSp (payF D d)) rfl (ArgsP.cons rfl (ArgsP.cons rfl ArgsP.nil)) (te rfl) (Places.cons (te rfl) (Places.cons (te rfl) Places.nil)) Tryz.zeroValue24 rfl) rfl rfl ?_)|(refine uE (EvF.add64 rfl rfl rfl (by omega) (by omega)) rfl rfl ?_)|(refine uE (uF rfl rfl (te rfl) rfl (te rfl) (by decide)) rfl rfl ?_)|(refine uE (uL rfl rfl (uO (te rfl) rfl (qH _) rfl)) rfl rfl ?_)|(refine Xg.st (StF.boxAgg rfl rfl) rfl rfl ?_;rintro _ _ ⟨bx,rfl,rfl⟩)|(refine Xg.st (StF.alloc rfl Tryz.zeroValue24 rfl) rfl rfl ?_;rintro _ _ ⟨bx,rfl,rfl⟩)|(refine Xg.st0 (uZ (i:=0) rfl rfl rfl (te rfl) rfl rfl rfl rfl) rfl ?_;rintro _ _ ⟨rfl,rfl⟩;dsimp only [List.set])|(refine Xg.st0 (uZ (i:=1) rfl rfl rfl (te rfl) rfl rfl rfl rfl) rfl ?_;rintro _ _ ⟨rfl,rfl⟩;dsimp only [List.set])))))|(refine uD rfl ?_;refine hK _ _ ?_;clear hK K) | refine uS rfl ?_ | refine uR rfl (fun K hK=>?_) | refine X.ret rfl ?_)
 exact ret_one (v := .agg (cSp (payF D d)).toArray) (by simp) Tryz.results65 ⟨_,rfl,uW (te rfl) rfl (by repeat (first | exact qH _ | apply qT)) rfl⟩ (H' := H) (by (repeat (first | exact qR _ | apply qC));done) ⟨rfl,rfl⟩
theorem knb_bd (a b : Bool) : 0 ≤ knb a b∧knb a b ≤ 2:=by cases a <;> cases b <;> decide
/-- put aside: not plain, or damper at some weighing -/
noncomputable def asideT (B : Bl) (k d : Int) : Nat → Int
 | 0=>2 - k
 | j + 1=>max (asideT B k d j) (damperOf B (B.weighs.getD j wgz) d)
theorem asideT_bd (B : Bl) (k d : Int) (hk : 0 ≤ k∧k ≤ 2) : ∀ j,0 ≤ asideT B k d j∧asideT B k d j ≤ 2
 | 0=>by show 0 ≤ 2 - k∧2 - k ≤ 2;omega
 | j + 1=>by
  have h:=asideT_bd B k d hk j
  have h2 : 0 ≤ damperOf B (B.weighs.getD j wgz) d∧damperOf B (B.weighs.getD j wgz) d ≤ 2:=knb_bd _ _
  show 0 ≤ max (asideT B k d j) (damperOf B (B.weighs.getD j wgz) d)∧max (asideT B k d j) (damperOf B (B.weighs.getD j wgz) d)≤2
  omega
noncomputable def asideF (B : Bl) (d : Int) : Int:=asideT B (ofKind (truthsB B) 1) d B.weighs.length
set_option maxHeartbeats 4000000 in
theorem aside1_spec (B : Bl) (p : Pb) (d : Int) (bn : Nat) (ow : Option Kd) (cap : Nat) (H : List Row) (hb : baleOk B) (hB : BlOk H B p) (hne : 0 < (wts B).length)
  (hm : ⟨bn,0,[.int .i64 d],ow,cap⟩ ∈ H) :
  Fc Tryz.prog 58 ([.agg (cPr B p (gradesOf B)).toArray]++[.pointer (some ⟨bn,0,none⟩)]) H (fun v H' => v = .int .u8 (asideF B d)∧H' = H):=by
 show Fc Tryz.prog 58 [.agg (cPr B p (gradesOf B)).toArray,.pointer (some ⟨bn,0,none⟩)] H _
 have hg5:=gradesOf_len hb
 have hlp : (cPr B p (gradesOf B)).length = 16:=lenPr hg5
 have ki:=fun S=>isOf_spec B p (gradesOf B) 1 S hg5 hb.h5 (gradesOf_bd hb)
 change ∀ S,Fc Tryz.prog 59 [.agg (cPr B p (gradesOf B)).toArray,.int .i64 1] S (fun v H' => v = .int .u8 (ofKind (truthsB B) 1)∧H' = S) at ki
 have kd:=fun S x hx (hS : BlOk S B p)=>wasDamper_spec B p (gradesOf B) x d S hb.hdry hb.hw hx hg5 hS hne
 unfold asideF
 have hkb : 0 ≤ ofKind (truthsB B) 1∧ofKind (truthsB B) 1 ≤ 2:=knb_bd _ _
 obtain ⟨k,hk⟩ : ∃ k,k = ofKind (truthsB B) 1:=⟨_,rfl⟩
 rw [← hk] at ki hkb ⊢
 have hab:=asideT_bd B k d hkb
 obtain ⟨g,hge⟩ : ∃ g,g = gradesOf B:=⟨_,rfl⟩
 rw [← hge] at ki kd hlp ⊢
 have hbw:=hb.hw
 have l2:=hB.l2
 clear hk hge hg5 hb hne
 obtain ⟨a1,c1,a2,c2⟩:=p
 refine Fc.mk (callable Tryz.call58) Tryz.func58 rfl Tryz.ntmps58 rfl ?_;dsimp only [fr]
 repeat' (first | (refine uP rfl ?_;(first | ((first | refine uN rfl ?_);(first | (refine uE (uL rfl rfl (uW (te rfl) rfl (qH _) hlp)) rfl rfl ?_)|(refine uC (uT rfl (Args.cons rfl (Args.cons rfl Args.nil))) rfl rfl (ki _) ?_;rintro _ H9 ⟨rfl,hH9⟩;subst H9)|(refine uE (EvF.subU8 rfl rfl rfl (by omega) (by omega)) rfl rfl ?_)|(refine uE (uM rfl rfl) rfl rfl ?_)|(refine uE (uA rfl rfl) rfl rfl ?_)|(refine uE (uF rfl rfl (te rfl) rfl (te rfl) (by decide)) rfl rfl ?_)|(refine uE (uY rfl rfl (te rfl)) rfl rfl ?_)|(refine uE (uL rfl rfl (uO (te rfl) rfl (qH _) rfl)) rfl rfl ?_)|(refine Xg.st (StF.boxAgg rfl rfl) rfl rfl ?_;rintro _ _ ⟨bx,rfl,rfl⟩)))))|(refine uD rfl ?_;refine hK _ _ ?_;clear hK K) | refine uS rfl ?_ | refine uR rfl (fun K hK=>?_) | refine X.block rfl ?_)
 obtain ⟨b2,hb2⟩ : ∃ b,b = bx:=⟨_,rfl⟩
 rw [← hb2]
 clear hb2
 refine X.lp rfl (fun q F' H' => ∃ j : Nat,q = B.weighs.length - j∧j ≤ B.weighs.length∧⟨b2,0,cPr B ⟨a1,c1,a2,c2⟩ g,some 91,16⟩::H = H' ∧
   F' = [(1,.pointer (some ⟨bn,0,none⟩)),(2,.pointer (some ⟨b2,0,none⟩)),(4,.int .u8 (asideT B k d j)),(12,.slice a2 B.weighs.length c2),(13,.int .i64 B.weighs.length),(14,.int .i64 (j : Nat))])
  B.weighs.length [(1,.pointer (some ⟨bn,0,none⟩)),(2,.pointer (some ⟨b2,0,none⟩)),(4,.int .u8 (asideT B k d 0)),(12,.slice a2 B.weighs.length c2),(13,.int .i64 B.weighs.length),(14,.int .i64 (0 : Nat))] (⟨b2,0,cPr B ⟨a1,c1,a2,c2⟩ g,some 91,16⟩::H) (by repeat (first | exact uU _ | refine uV rfl ?_)) (by rw [← hlp];exact qR _) ⟨0,by omega,by omega,rfl,rfl⟩ ?_
 rintro _ _ _ ⟨j,rfl,hj,rfl,rfl⟩
 by_cases hlt : j < B.weighs.length
 ·have hlt' : (j : Int)<B.weighs.length:=by omega
  obtain ⟨b,off,e,rfl,he⟩:=hB.weighs.elem (i:=j) hlt
  have hst : asideT B k d (j + 1)=max (asideT B k d j) (damperOf B e d):=by
   show max (asideT B k d j) (damperOf B (B.weighs.getD j wgz) d)=_
   rw [List.getD_eq_getElem?_getD,he,Option.getD_some]
  have kde:=fun S (hS : BlOk S B ⟨a1,c1,some ⟨b,off,none⟩,c2⟩)=>kd S e (hbw e (List.mem_of_getElem? he)) hS
  obtain ⟨m,hm9⟩ : ∃ m,m = damperOf B e d:=⟨_,rfl⟩
  rw [← hm9] at hst kde
  have hB2 : ∀ r1 r2,BlOk (r1::r2::H) B ⟨a1,c1,some ⟨b,off,none⟩,c2⟩:=fun r1 r2=>hB.sub (fun _ h=>qT _ (qT _ h))
  have hw1 : ∀ r1,SlE (r1::H) (some ⟨b,off,none⟩) cDr 4 B.weighs:=fun r1=>hB.weighs.sub (fun _ h=>qT _ h)
  repeat' (first | (refine uP rfl ?_;(first | ((first | refine uN rfl ?_);(first | (refine uE (uQ (b:=true) rfl rfl rfl (congrArg some (decide_eq_true (by omega)))) rfl rfl ?_)|(refine uE (uL rfl rfl (LoadV.elA0 (hw1 _) he (te rfl) rfl (fun _ hm=>hm) rfl)) rfl rfl ?_)|(refine Xg.st (StF.alloc rfl Tryz.zeroValue41 rfl) rfl rfl ?_;rintro _ _ ⟨b6,rfl,rfl⟩)|(refine uE (uL rfl rfl (uW (te rfl) rfl (qT _ (qH _)) hlp)) rfl rfl ?_)|(refine uE (uL (v := .int .i64 d) rfl rfl (uO (te rfl) rfl (qT _ (qT _ hm)) rfl)) rfl rfl ?_)|(refine uC (uT rfl (Args.cons rfl (Args.cons rfl (Args.cons rfl Args.nil)))) rfl rfl (kde _ (hB2 _ _)) ?_;rintro _ H9 ⟨rfl,hH9⟩;subst H9)|(refine uE (EvF.maxK rfl rfl rfl) rfl rfl ?_)|(refine uE (EvF.add64 (p:=(j : Int)) (q:=1) rfl rfl rfl (by omega) (by omega)) rfl rfl ?_)|(refine uE (uM rfl rfl) rfl rfl ?_)|(refine uE (uA rfl rfl) rfl rfl ?_)|(refine uE (uJ rfl rfl rfl (te rfl) (te rfl) (by omega) (by omega)) rfl rfl ?_)|(refine uE (uL rfl rfl (uW (te rfl) rfl (qH _) rfl)) rfl rfl ?_)|(refine Xg.st0 (uZ (i:=0) rfl rfl rfl (te rfl) rfl rfl rfl rfl) rfl ?_;rintro _ _ ⟨rfl,rfl⟩;dsimp only [List.set])))))|(refine uD rfl ?_;refine hK _ _ ?_;clear hK K) | refine uS rfl ?_ | refine uR rfl (fun K hK=>?_) | refine X.block rfl ?_ | refine X.skip rfl ?_ | (refine X.ite rfl rfl (fun hc=>?_);(first | (with_reducible refine Xb.t hc ?_)) <;> clear hc))
  exact ⟨_,_,_,(by rw [hst,show (j : Int) + 1 = ((j + 1 : Nat) : Int) by omega];exact (by repeat (first | exact uU _ | refine uV rfl ?_))),(List.sublist_cons_self _ _),⟨j + 1,rfl,by omega,rfl,rfl⟩,by omega⟩
 ·obtain rfl : j = B.weighs.length:=by omega
  have hlt' : ¬ ((B.weighs.length : Nat) : Int)<B.weighs.length:=by omega
  repeat' (first | (refine uP rfl ?_;(first | ((first | refine uN rfl ?_);(first | (refine uE (uQ (b:=false) rfl rfl rfl (congrArg some (decide_eq_false (by omega)))) rfl rfl ?_)|(refine uE (uM rfl rfl) rfl rfl ?_)|(refine uE (uA rfl rfl) rfl rfl ?_)))))|(refine uD rfl ?_;refine hK _ _ ?_;clear hK K) | refine uS rfl ?_ | refine uR rfl (fun K hK=>?_)|(refine X.brk rfl ?_;repeat (first | refine blockX_hit rfl ?_ | refine blockX_miss (by decide) ?_)) | refine X.ret rfl ?_ | (refine X.ite rfl rfl (fun hc=>?_);(first | (with_reducible refine Xb.f hc ?_)) <;> clear hc))
  exact ret_one (by simp) Tryz.results58 rfl (H' := H) (by (repeat (first | exact qR _ | apply qC));done) ⟨rfl,rfl⟩
/-- the numbers that one is asked about -/
abbrev caN (n : Int) : Ca:=⟨[],[],[n],[]⟩
abbrev caD (d : Int) : Ca:=⟨[],[],[],[d]⟩
abbrev ca0 : Ca:=⟨[],[],[],[]⟩
abbrev pc0 : Pc:=⟨none,0,none,0,none,0,none,0⟩
theorem openE_full {B : Bl} {C : Ca} (h : openE B C = 0) : (baleOk B∧canB B)∧askL B C∧askK C∧askW B C∧askD C:=by
 unfold openE at h
 split at h
 ·split at h
  ·split at h
   ·split at h
    ·split at h
     ·split at h
      ·exact ⟨⟨by assumption,by assumption⟩,by assumption,by assumption,by assumption,by assumption⟩
      ·omega
     ·omega
    ·omega
   ·omega
  ·omega
 ·omega
set_option maxHeartbeats 4000000 in
theorem kdry_spec (B : Bl) (p : Pb) (H : List Row) (hB : BlOk H B p) :
  Fc Tryz.prog 36 [.agg (cBl B p).toArray] H (fun v H' => v = .tuple #[.agg (cSp (spIf (openE B ca0 = 0) (dryOf B))).toArray,.int .i64 (openE B ca0)]∧H' = H):=by
 have hB2 : ∀ r1 r2,BlOk (r1::r2::H) B p:=fun r1 r2=>hB.sub (fun _ h=>qT _ (qT _ h))
 have kt:=fun r1 r2=>toldSp_spec B p ca0 pc0 66 [] (dryOf B) (r1::r2::H) (hB2 _ _) ⟨sleNil,sleNil,sleNil,sleNil,by simp,by simp,by simp,by simp⟩ (fun h0 H' hs=>dry_spec B p (gradesOf B) H' (openE_zero h0).1.hdry (openE_zero h0).1.hw (gradesOf_len (openE_zero h0).1) ((hB2 _ _).sub hs) (openE_zero h0).2.2.2)
 obtain ⟨rr,hrr⟩ : ∃ x,spIf (openE B ca0 = 0) (dryOf B)=x:=⟨_,rfl⟩
 rw [hrr] at kt ⊢
 refine Fc.mk (callable Tryz.call36) Tryz.func36 rfl Tryz.ntmps36 rfl ?_;dsimp only [fr]
 repeat' (first | (refine uP rfl ?_;(first | ((first | refine uN rfl ?_);(first | (refine uE (EvF.build (cs:=cCa ca0 pc0) rfl ArgsP.nil (te rfl) (Places.cons (te rfl) (Places.cons (te rfl) (Places.cons (te rfl) (Places.cons (te rfl) Places.nil)))) Tryz.zeroValue88 rfl) rfl rfl ?_)|(refine uC (uT rfl (Args.cons rfl (Args.cons rfl (Args.cons rfl Args.nil)))) rfl rfl (kt _ _) ?_;rintro _ H9 ⟨rfl,hH9⟩;subst H9)|(refine uE (uA rfl rfl) rfl rfl ?_)|(refine uE (uL rfl rfl (uW (te rfl) rfl (qT _ (qH _)) rfl)) rfl rfl ?_)|(refine uE (uX rfl rfl rfl) rfl rfl ?_)|(refine Xg.st (StF.boxAgg rfl rfl) rfl rfl ?_;rintro _ _ ⟨bx,rfl,rfl⟩)|(refine Xg.st (StF.alloc rfl Tryz.zeroValue24 rfl) rfl rfl ?_;rintro _ _ ⟨bx,rfl,rfl⟩)|(refine Xg.st0 (uZ (i:=0) rfl rfl rfl (te rfl) rfl rfl rfl rfl) rfl ?_;rintro _ _ ⟨rfl,rfl⟩;dsimp only [List.set])))))|(refine uD rfl ?_;refine hK _ _ ?_;clear hK K) | refine uS rfl ?_ | refine uR rfl (fun K hK=>?_) | refine X.ret rfl ?_)
 exact ret_two (v := .agg (cSp rr).toArray) (by simp) Tryz.results36 ⟨_,rfl,uW (te rfl) rfl (qH _) rfl⟩ rfl (H' := H) (by (repeat (first | exact qR _ | apply qC));done) ⟨rfl,rfl⟩
set_option maxHeartbeats 4000000 in
theorem kWet_spec (B : Bl) (p : Pb) (n : Int) (H : List Row) (hB : BlOk H B p) :
  Fc Tryz.prog 14 [.agg (cBl B p).toArray,.int .i64 n] H (fun v H' => v = .tuple #[.agg (cSp (spIf (openE B (caN n)=0) (wetOf B (numW B.weighs n)))).toArray,.int .i64 (openE B (caN n))]∧H' = H):=by
 obtain ⟨rr,hrr⟩ : ∃ x,spIf (openE B (caN n)=0) (wetOf B (numW B.weighs n)) = x:=⟨_,rfl⟩
 have kt:=fun S (hS : BlOk S B p) bo bn (hm : (⟨bn,0,[.int .i64 n],some 3,1⟩ : Row) ∈ S) (hm2 : (⟨bo,0,[n].flatMap cI,some 3,1⟩ : Row) ∈ S)=>toldSp_spec B p (caN n) ⟨none,0,none,0,some ⟨bo,0,none⟩,1,none,0⟩ 52 [.pointer (some ⟨bn,0,none⟩)] (wetOf B (numW B.weighs n)) S hS ⟨sleNil,sleNil,SlE.ofRow (l:=[n]) hm2 (fun _ _=>rfl),sleNil,by simp,by simp,by simp,by simp⟩
  (fun h0 H' hs=>wet1_spec B p (gradesOf B) n bn _ _ H' (openE_zero h0).1.hdry (openE_zero h0).1.hw (gradesOf_len (openE_zero h0).1) (hS.sub hs) (openE_zero h0).2.2.2 (hs _ hm))
 rw [hrr] at kt ⊢
 refine Fc.mk (callable Tryz.call14) Tryz.func14 rfl Tryz.ntmps14 rfl ?_;dsimp only [fr]
 repeat' (first | (refine uP rfl ?_;(first | ((first | refine uN rfl ?_);(first | (refine Xg.st (StF.buildOne rfl el55 rfl rfl rfl (by decide) (by decide)) rfl rfl ?_;rintro _ _ ⟨bo,rfl,rfl⟩)|(refine uE (EvF.build (cs:=cCa (caN n) ⟨none,0,none,0,some ⟨bo,0,none⟩,1,none,0⟩) rfl (ArgsP.cons rfl ArgsP.nil) (te rfl) (Places.cons (te rfl) (Places.cons (te rfl) (Places.cons (te rfl) (Places.cons (te rfl) Places.nil)))) Tryz.zeroValue88 rfl) rfl rfl ?_)|(refine uE (EvF.makeFunc (fl:=[]) rfl Args.nil (Args.cons rfl Args.nil)) rfl rfl ?_)|(refine uC (uT rfl (Args.cons rfl (Args.cons rfl (Args.cons rfl Args.nil)))) rfl rfl (kt _ (hB.sub (fun _ h=>qT _ (qT _ (qT _ (qT _ h))))) _ _ (qT _ (qT _ (qH _))) (qH _)) ?_;rintro _ H9 ⟨rfl,hH9⟩;subst H9)|(refine uE (uA rfl rfl) rfl rfl ?_)|(refine uE (uL rfl rfl (uO (te rfl) rfl (qT _ (qH _)) rfl)) rfl rfl ?_)|(refine uE (uL rfl rfl (uW (te rfl) rfl (qT _ (qT _ (qH _))) rfl)) rfl rfl ?_)|(refine uE (uX rfl rfl rfl) rfl rfl ?_)|(refine Xg.st (StF.boxAgg rfl rfl) rfl rfl ?_;rintro _ _ ⟨bx,rfl,rfl⟩)|(refine Xg.st (StF.boxOne rfl rfl rfl) rfl rfl ?_;rintro _ _ ⟨bx,rfl,rfl⟩)|(refine Xg.st (StF.alloc rfl Tryz.zeroValue24 rfl) rfl rfl ?_;rintro _ _ ⟨bx,rfl,rfl⟩)|(refine Xg.st0 (uZ (i:=1) rfl rfl rfl (te rfl) rfl rfl rfl rfl) rfl ?_;rintro _ _ ⟨rfl,rfl⟩;dsimp only [List.set])))))|(refine uD rfl ?_;refine hK _ _ ?_;clear hK K) | refine uS rfl ?_ | refine uR rfl (fun K hK=>?_) | refine X.ret rfl ?_)
 exact ret_two (v := .agg (cSp rr).toArray) (by simp) Tryz.results14 ⟨_,rfl,uW (te rfl) rfl (by repeat (first | exact qH _ | apply qT)) rfl⟩ rfl (H' := H) (by (repeat (first | exact qR _ | apply qC));done) ⟨rfl,rfl⟩
set_option maxHeartbeats 4000000 in
theorem kKnown_spec (B : Bl) (p : Pb) (n d : Int) (H : List Row) (hB : BlOk H B p) :
  Fc Tryz.prog 15 [.agg (cBl B p).toArray,.int .i64 n,.int .i64 d] H (fun v H' => v = .tuple #[.int .u8 (uIf (openE B (caN n)=0) (damperOf B (numW B.weighs n) d)),.int .i64 (openE B (caN n))]∧H' = H):=by
 obtain ⟨rr,hrr⟩ : ∃ x,uIf (openE B (caN n)=0) (damperOf B (numW B.weighs n) d)=x:=⟨_,rfl⟩
 have kt:=fun S (hS : BlOk S B p) bo bn bd (hm : (⟨bn,0,[.int .i64 n],some 3,1⟩ : Row) ∈ S) (hmd : (⟨bd,0,[.int .i64 d],some 3,1⟩ : Row) ∈ S) (hm2 : (⟨bo,0,[n].flatMap cI,some 3,1⟩ : Row) ∈ S)=>toldU_spec B p (caN n) ⟨none,0,none,0,some ⟨bo,0,none⟩,1,none,0⟩ 56 [.pointer (some ⟨bn,0,none⟩),.pointer (some ⟨bd,0,none⟩)] (damperOf B (numW B.weighs n) d) S hS ⟨sleNil,sleNil,SlE.ofRow (l:=[n]) hm2 (fun _ _=>rfl),sleNil,by simp,by simp,by simp,by simp⟩
  (fun h0 H' hs=>known1_spec B p (gradesOf B) n d bn bd _ _ _ _ H' (openE_zero h0).1.hdry (openE_zero h0).1.hw (gradesOf_len (openE_zero h0).1) (hS.sub hs) (openE_zero h0).2.2.2 (hs _ hm) (hs _ hmd))
 rw [hrr] at kt ⊢
 refine Fc.mk (callable Tryz.call15) Tryz.func15 rfl Tryz.ntmps15 rfl ?_;dsimp only [fr]
 repeat' (first | (refine uP rfl ?_;(first | ((first | refine uN rfl ?_);(first | (refine Xg.st (StF.buildOne rfl el55 rfl rfl rfl (by decide) (by decide)) rfl rfl ?_;rintro _ _ ⟨bo,rfl,rfl⟩)|(refine uE (EvF.build (cs:=cCa (caN n) ⟨none,0,none,0,some ⟨bo,0,none⟩,1,none,0⟩) rfl (ArgsP.cons rfl ArgsP.nil) (te rfl) (Places.cons (te rfl) (Places.cons (te rfl) (Places.cons (te rfl) (Places.cons (te rfl) Places.nil)))) Tryz.zeroValue88 rfl) rfl rfl ?_)|(refine uE (EvF.makeFunc (fl:=[]) rfl Args.nil (Args.cons rfl (Args.cons rfl Args.nil))) rfl rfl ?_)|(refine uC (uT rfl (Args.cons rfl (Args.cons rfl (Args.cons rfl Args.nil)))) rfl rfl (kt _ (hB.sub (fun _ h=>qT _ (qT _ (qT _ (qT _ h))))) _ _ _ (qT _ (qT _ (qH _))) (qT _ (qH _)) (qH _)) ?_;rintro _ H9 ⟨rfl,hH9⟩;subst H9)|(refine uE (uA rfl rfl) rfl rfl ?_)|(refine uE (uL rfl rfl (uO (te rfl) rfl (qT _ (qH _)) rfl)) rfl rfl ?_)|(refine uE (uL rfl rfl (uW (te rfl) rfl (qT _ (qT _ (qH _))) rfl)) rfl rfl ?_)|(refine uE (uX rfl rfl rfl) rfl rfl ?_)|(refine Xg.st (StF.boxAgg rfl rfl) rfl rfl ?_;rintro _ _ ⟨bx,rfl,rfl⟩)|(refine Xg.st (StF.boxOne rfl rfl rfl) rfl rfl ?_;rintro _ _ ⟨bx,rfl,rfl⟩)))))|(refine uD rfl ?_;refine hK _ _ ?_;clear hK K) | refine uS rfl ?_ | refine uR rfl (fun K hK=>?_) | refine X.ret rfl ?_)
 exact ret_two (by simp) Tryz.results15 rfl rfl (H' := H) (by (repeat (first | exact qR _ | apply qC));done) ⟨rfl,rfl⟩
set_option maxHeartbeats 4000000 in
theorem kPays_spec (B : Bl) (p : Pb) (d : Int) (H : List Row) (hB : BlOk H B p) :
  Fc Tryz.prog 23 [.agg (cBl B p).toArray,.int .i64 d] H (fun v H' => v = .tuple #[.agg (cSp (spIf (openE B (caD d)=0) (payF (dryOf B) d))).toArray,.int .i64 (openE B (caD d))]∧H' = H):=by
 obtain ⟨rr,hrr⟩ : ∃ x,spIf (openE B (caD d)=0) (payF (dryOf B) d)=x:=⟨_,rfl⟩
 have kt:=fun S (hS : BlOk S B p) bo bn (hm : (⟨bn,0,[.int .i64 d],some 3,1⟩ : Row) ∈ S) (hm2 : (⟨bo,0,[d].flatMap cI,some 3,1⟩ : Row) ∈ S)=>toldSp_spec B p (caD d) ⟨none,0,none,0,none,0,some ⟨bo,0,none⟩,1⟩ 65 [.pointer (some ⟨bn,0,none⟩)] (payF (dryOf B) d) S hS ⟨sleNil,sleNil,sleNil,SlE.ofRow (l:=[d]) hm2 (fun _ _=>rfl),by simp,by simp,by simp,by simp⟩
  (fun h0 H' hs=>pays1_spec B p (gradesOf B) d bn _ _ H' (openE_zero h0).1.hdry (openE_zero h0).1.hw (gradesOf_len (openE_zero h0).1) (hS.sub hs) (openE_zero h0).2.2.2 (hs _ hm) ((openE_full h0).2.2.2.2 d List.mem_cons_self))
 rw [hrr] at kt ⊢
 refine Fc.mk (callable Tryz.call23) Tryz.func23 rfl Tryz.ntmps23 rfl ?_;dsimp only [fr]
 repeat' (first | (refine uP rfl ?_;(first | ((first | refine uN rfl ?_);(first | (refine Xg.st (StF.buildOne rfl el55 rfl rfl rfl (by decide) (by decide)) rfl rfl ?_;rintro _ _ ⟨bo,rfl,rfl⟩)|(refine uE (EvF.build (cs:=cCa (caD d) ⟨none,0,none,0,none,0,some ⟨bo,0,none⟩,1⟩) rfl (ArgsP.cons rfl ArgsP.nil) (te rfl) (Places.cons (te rfl) (Places.cons (te rfl) (Places.cons (te rfl) (Places.cons (te rfl) Places.nil)))) Tryz.zeroValue88 rfl) rfl rfl ?_)|(refine uE (EvF.makeFunc (fl:=[]) rfl Args.nil (Args.cons rfl Args.nil)) rfl rfl ?_)|(refine uC (uT rfl (Args.cons rfl (Args.cons rfl (Args.cons rfl Args.nil)))) rfl rfl (kt _ (hB.sub (fun _ h=>qT _ (qT _ (qT _ (qT _ h))))) _ _ (qT _ (qT _ (qH _))) (qH _)) ?_;rintro _ H9 ⟨rfl,hH9⟩;subst H9)|(refine uE (uA rfl rfl) rfl rfl ?_)|(refine uE (uL rfl rfl (uO (te rfl) rfl (qT _ (qH _)) rfl)) rfl rfl ?_)|(refine uE (uL rfl rfl (uW (te rfl) rfl (qT _ (qT _ (qH _))) rfl)) rfl rfl ?_)|(refine uE (uX rfl rfl rfl) rfl rfl ?_)|(refine Xg.st (StF.boxAgg rfl rfl) rfl rfl ?_;rintro _ _ ⟨bx,rfl,rfl⟩)|(refine Xg.st (StF.boxOne rfl rfl rfl) rfl rfl ?_;rintro _ _ ⟨bx,rfl,rfl⟩)|(refine Xg.st (StF.alloc rfl Tryz.zeroValue24 rfl) rfl rfl ?_;rintro _ _ ⟨bx,rfl,rfl⟩)|(refine Xg.st0 (uZ (i:=1) rfl rfl rfl (te rfl) rfl rfl rfl rfl) rfl ?_;rintro _ _ ⟨rfl,rfl⟩;dsimp only [List.set])))))|(refine uD rfl ?_;refine hK _ _ ?_;clear hK K) | refine uS rfl ?_ | refine uR rfl (fun K hK=>?_) | refine X.ret rfl ?_)
 exact ret_two (v := .agg (cSp rr).toArray) (by simp) Tryz.results23 ⟨_,rfl,uW (te rfl) rfl (by repeat (first | exact qH _ | apply qT)) rfl⟩ rfl (H' := H) (by (repeat (first | exact qR _ | apply qC));done) ⟨rfl,rfl⟩
set_option maxHeartbeats 4000000 in
theorem kAside_spec (B : Bl) (p : Pb) (d : Int) (H : List Row) (hB : BlOk H B p) :
  Fc Tryz.prog 16 [.agg (cBl B p).toArray,.int .i64 d] H (fun v H' => v = .tuple #[.int .u8 (uIf (openE B (caD d)=0) (asideF B d)),.int .i64 (openE B (caD d))]∧H' = H):=by
 obtain ⟨rr,hrr⟩ : ∃ x,uIf (openE B (caD d)=0) (asideF B d)=x:=⟨_,rfl⟩
 have kt:=fun S (hS : BlOk S B p) bo bn (hm : (⟨bn,0,[.int .i64 d],some 3,1⟩ : Row) ∈ S) (hm2 : (⟨bo,0,[d].flatMap cI,some 3,1⟩ : Row) ∈ S)=>toldU_spec B p (caD d) ⟨none,0,none,0,none,0,some ⟨bo,0,none⟩,1⟩ 58 [.pointer (some ⟨bn,0,none⟩)] (asideF B d) S hS ⟨sleNil,sleNil,sleNil,SlE.ofRow (l:=[d]) hm2 (fun _ _=>rfl),by simp,by simp,by simp,by simp⟩
  (fun h0 H' hs=>aside1_spec B p d bn _ _ H' (openE_zero h0).1 (hS.sub hs) (openE_zero h0).2.2.2 (hs _ hm))
 rw [hrr] at kt ⊢
 refine Fc.mk (callable Tryz.call16) Tryz.func16 rfl Tryz.ntmps16 rfl ?_;dsimp only [fr]
 repeat' (first | (refine uP rfl ?_;(first | ((first | refine uN rfl ?_);(first | (refine Xg.st (StF.buildOne rfl el55 rfl rfl rfl (by decide) (by decide)) rfl rfl ?_;rintro _ _ ⟨bo,rfl,rfl⟩)|(refine uE (EvF.build (cs:=cCa (caD d) ⟨none,0,none,0,none,0,some ⟨bo,0,none⟩,1⟩) rfl (ArgsP.cons rfl ArgsP.nil) (te rfl) (Places.cons (te rfl) (Places.cons (te rfl) (Places.cons (te rfl) (Places.cons (te rfl) Places.nil)))) Tryz.zeroValue88 rfl) rfl rfl ?_)|(refine uE (EvF.makeFunc (fl:=[]) rfl Args.nil (Args.cons rfl Args.nil)) rfl rfl ?_)|(refine uC (uT rfl (Args.cons rfl (Args.cons rfl (Args.cons rfl Args.nil)))) rfl rfl (kt _ (hB.sub (fun _ h=>qT _ (qT _ (qT _ h)))) _ _ (qT _ (qH _)) (qH _)) ?_;rintro _ H9 ⟨rfl,hH9⟩;subst H9)|(refine uE (uA rfl rfl) rfl rfl ?_)|(refine uE (uL rfl rfl (uO (te rfl) rfl (qH _) rfl)) rfl rfl ?_)|(refine uE (uL rfl rfl (uW (te rfl) rfl (qT _ (qH _)) rfl)) rfl rfl ?_)|(refine uE (uX rfl rfl rfl) rfl rfl ?_)|(refine Xg.st (StF.boxAgg rfl rfl) rfl rfl ?_;rintro _ _ ⟨bx,rfl,rfl⟩)|(refine Xg.st (StF.boxOne rfl rfl rfl) rfl rfl ?_;rintro _ _ ⟨bx,rfl,rfl⟩)))))|(refine uD rfl ?_;refine hK _ _ ?_;clear hK K) | refine uS rfl ?_ | refine uR rfl (fun K hK=>?_) | refine X.ret rfl ?_)
 exact ret_two (by simp) Tryz.results16 rfl rfl (H' := H) (by (repeat (first | exact qR _ | apply qC));done) ⟨rfl,rfl⟩
def stp (i : Int) (s : Sp) (x : Dr) : Sp:=if x.val = i then ⟨max s.lo x.lo,min s.hi x.hi⟩ else s
def gr1 (l : List Dr) (i : Int) : Sp:=l.foldl (stp i) ⟨1,9⟩
theorem spAt_set {g : List Sp} {i j : Nat} {s : Sp} (h : i < g.length) : spAt (g.set i s) j = if i = j then s else spAt g j:=by
 unfold spAt List.getD
 rw [List.getElem?_set]
 by_cases h1 : i = j
 ·subst h1;simp [h]
 ·simp [h1]
theorem fold_at (i : Nat) : ∀ (l : List Dr) (g : List Sp),g.length = 5 → i < 5 → (∀ x ∈ l,0 ≤ x.val∧x.val < 5) → spAt (l.foldl stepG g) i = l.foldl (stp i) (spAt g i)
 | [],g,_,_,_=>rfl
 | x::l,g,hg,hi,hx=>by
  have h1:=hx x List.mem_cons_self
  rw [List.foldl_cons,List.foldl_cons,fold_at i l (stepG g x) (by rw [stepG_len,hg]) hi (fun y hy=>hx y (List.mem_cons_of_mem _ hy))]
  congr 1
  unfold stepG stp
  rw [spAt_set (by omega)]
  by_cases h2 : x.val = i
  ·rw [if_pos (by omega),if_pos h2,show x.val.toNat = i by omega]
  ·rw [if_neg (by omega),if_neg h2]
theorem initG_at {n i : Nat} (hi : i < n) : spAt (initG n) i = ⟨1,9⟩:=by
 unfold spAt initG List.getD
 rw [List.getElem?_append_left (by simpa using hi),List.getElem?_replicate,if_pos hi]
 rfl
theorem gr1_eq {B : Bl} (h5 : 1 ≤ B.layers∧B.layers ≤ 5) (hd : ∀ x ∈ B.draws,0 ≤ x.val∧x.val < 5) {i : Nat} (hi : i < B.layers.toNat) : gr1 B.draws i = spAt (gradesOf B) i:=by
 unfold gr1 gradesOf
 rw [fold_at i B.draws _ (initG_len (by omega)) (by omega) hd,initG_at hi]
/-- a list of spans in memory of one's own, or nil -/
def OutS (l : List Sp) (out : Value) (Z : List Row) : Prop:=(l = []∧out = .slice none 0 0∧Z = []) ∨ ∃ b q,out = .slice (some ⟨b,0,none⟩) l.length q∧Z = [⟨b,0,l.flatMap cSp,some 24,q * 2⟩]
theorem OutS.sl {l : List Sp} {out : Value} {Z H : List Row} (h : OutS l out Z) : ∃ a c,out = .slice a l.length c∧SlE (Z++H) a cSp 2 l:=by
 rcases h with ⟨rfl,rfl,rfl⟩ | ⟨b,q,rfl,rfl⟩
 ·exact ⟨none,0,rfl,sleNil⟩
 ·exact ⟨_,_,rfl,SlE.ofRow (qH _) (fun _ _=>rfl)⟩
def gsOf (B : Bl) : List Sp:=(gradesOf B).take B.layers.toNat
set_option maxHeartbeats 4000000 in
theorem layers_spec (B : Bl) (p : Pb) (H : List Row) (h5 : 1 ≤ B.layers∧B.layers ≤ 5) (hd : ∀ x ∈ B.draws,0 ≤ x.val∧x.val < 5) (hB : BlOk H B p) :
  Fc Tryz.prog 134 [.agg (cBl B p).toArray] H (fun v H' => (hasG B.layers.toNat (gradesOf B) ∧ ∃ out Z,OutS (gsOf B) out Z∧v = .tuple #[out,.bool true]∧H' = Z++H)∨(¬ hasG B.layers.toNat (gradesOf B)∧v = .tuple #[.slice none 0 0,.bool false]∧H' = H)):=by
 obtain ⟨N,hN⟩ : ∃ N : Nat,B.layers.toNat = N:=⟨_,rfl⟩
 obtain ⟨g,hg⟩ : ∃ g,gradesOf B = g:=⟨_,rfl⟩
 have hgl : g.length = 5:=by rw [← hg];unfold gradesOf;rw [foldG_len,initG_len (by omega)]
 have hgr : ∀ i : Nat,i < N → gr1 B.draws i = spAt g i:=fun i hi=>by rw [← hg];exact gr1_eq h5 hd (by omega)
 unfold gsOf
 rw [hN,hg]
 have l1:=hB.l1
 have hBZ : ∀ (Z : List Row) r0 r,BlOk (r0::(Z++r::H)) B p:=fun Z r0 r=>hB.sub (fun _ h=>qT _ (List.mem_append_right _ (List.mem_cons_of_mem _ h)))
 obtain ⟨a1,c1,a2,c2⟩:=p
 refine Fc.mk (callable Tryz.call134) Tryz.func134 rfl Tryz.ntmps134 rfl ?_;dsimp only [fr]
 repeat' (first | (refine uP rfl ?_;(first | ((first | refine uN rfl ?_);(first | (refine uE (uM rfl rfl) rfl rfl ?_)|(refine uE (uA rfl rfl) rfl rfl ?_)|(refine uE (uQ rfl rfl rfl rfl) rfl rfl ?_)|(refine uE (uF rfl rfl (te rfl) rfl (te rfl) (by decide)) rfl rfl ?_)|(refine uE (uL rfl rfl (uO (te rfl) rfl (qH _) rfl)) rfl rfl ?_)|(refine uE (uL rfl rfl (uW (te rfl) rfl (qH _) rfl)) rfl rfl ?_)|(refine Xg.st (StF.boxAgg rfl rfl) rfl rfl ?_;rintro _ _ ⟨bx,rfl,rfl⟩)))))|(refine uD rfl ?_;refine hK _ _ ?_;clear hK K) | refine uS rfl ?_ | refine uR rfl (fun K hK=>?_) | refine X.block rfl ?_ | (refine X.brk rfl ?_;repeat (first | refine blockX_hit rfl ?_ | refine blockX_miss (by decide) ?_)) | refine X.skip rfl ?_ | refine X.ret rfl ?_ | (refine X.ite rfl rfl (fun hc=>?_);(first | (with_reducible refine Xb.case hc (fun h=>?_) (fun h=>?_))) <;> clear hc))
 rename Nat=>b1
 refine X.lp rfl (fun m F' H' => ∃ (k : Nat) (out : Value) (Z : List Row),m = N - k∧k ≤ N∧OutS (g.take k) out Z∧(∀ s ∈ g.take k, ¬ s.lo > s.hi)∧Z++⟨b1,0,cBl B ⟨a1,c1,a2,c2⟩,some 31,6⟩::H = H' ∧
   F' = [(1,.pointer (some ⟨b1,0,none⟩)),(4,out),(5,.int .i64 k)])
  N [(1,.pointer (some ⟨b1,0,none⟩)),(4,.slice none 0 0),(5,.int .i64 (0 : Nat))] (⟨b1,0,cBl B ⟨a1,c1,a2,c2⟩,some 31,6⟩::H) (by repeat (first | exact uU _ | refine uV rfl ?_)) (qR _) ⟨0,_,[],by omega,by omega,.inl ⟨rfl,rfl,rfl⟩,by simp,rfl,rfl⟩ ?_
 rintro _ _ H2 ⟨k,out,Z,rfl,hk,hO,hall,hH,rfl⟩
 subst hH
 repeat' (first | (refine uP rfl ?_;(first | ((first | refine uN rfl ?_);(first | (refine uE (uL rfl rfl (uO (te rfl) rfl (List.mem_append_right _ (qH _)) rfl)) rfl rfl ?_)|(refine uE (uL rfl rfl (uO (te rfl) rfl (qT _ (List.mem_append_right _ (qH _))) rfl)) rfl rfl ?_)|(refine uE (EvF.build (cs:=cSp ⟨1,9⟩) rfl (ArgsP.cons rfl (ArgsP.cons rfl ArgsP.nil)) (te rfl) (Places.cons (te rfl) (Places.cons (te rfl) Places.nil)) Tryz.zeroValue24 rfl) rfl rfl ?_)|(refine uE (uM rfl rfl) rfl rfl ?_)|(refine uE (uA rfl rfl) rfl rfl ?_)|(refine uE (uQ rfl rfl rfl rfl) rfl rfl ?_)|(refine uE (uF rfl rfl (te rfl) rfl (te rfl) (by decide)) rfl rfl ?_)|(refine uE (uY rfl rfl (te rfl)) rfl rfl ?_)|(refine Xg.st (StF.alloc rfl Tryz.zeroValue24 rfl) rfl rfl ?_;rintro _ _ ⟨bx,rfl,rfl⟩)|(refine Xg.st0 (uZ (i:=0) rfl rfl rfl (te rfl) rfl rfl rfl rfl) rfl ?_;rintro _ _ ⟨rfl,rfl⟩;dsimp only [List.set])))))|(refine uD rfl ?_;refine hK _ _ ?_;clear hK K) | refine uS rfl ?_ | refine uR rfl (fun K hK=>?_) | refine X.block rfl ?_ | (refine X.brk rfl ?_;repeat (first | refine blockX_hit rfl ?_ | refine blockX_miss (by decide) ?_)) | refine X.skip rfl ?_ | refine X.ret rfl ?_ | (refine X.ite rfl rfl (fun hc=>?_);(first | (with_reducible refine Xb.case hc (fun h=>?_) (fun h=>?_))) <;> clear hc))
 ·rename Nat=>bs
  refine X.lp rfl (fun m F' H' => ∃ q : Nat,m = B.draws.length - q∧q ≤ B.draws.length∧⟨bs,0,cSp (gr1 (B.draws.take q) k),some 24,2⟩::(Z++⟨b1,0,cBl B ⟨a1,c1,a2,c2⟩,some 31,6⟩::H)=H' ∧
    F' = [(1,.pointer (some ⟨b1,0,none⟩)),(4,out),(5,.int .i64 k),(6,.pointer (some ⟨bs,0,none⟩)),(17,.slice a1 B.draws.length c1),(18,.int .i64 B.draws.length),(19,.int .i64 q)])
   B.draws.length [(1,.pointer (some ⟨b1,0,none⟩)),(4,out),(5,.int .i64 k),(6,.pointer (some ⟨bs,0,none⟩)),(17,.slice a1 B.draws.length c1),(18,.int .i64 B.draws.length),(19,.int .i64 (0 : Nat))] (⟨bs,0,cSp (gr1 (B.draws.take 0) k),some 24,2⟩::(Z++⟨b1,0,cBl B ⟨a1,c1,a2,c2⟩,some 31,6⟩::H)) (by repeat (first | exact uU _ | refine uV rfl ?_)) (qR _) ⟨0,by omega,by omega,rfl,rfl⟩ ?_
  rintro _ _ H2 ⟨q,rfl,hq,hH,rfl⟩
  subst hH
  obtain ⟨s,hs⟩ : ∃ s,gr1 (B.draws.take q) k = s:=⟨_,rfl⟩
  rw [hs]
  repeat' (first | (refine uP rfl ?_;(first | ((first | refine uN rfl ?_);(first | (refine uE (uM rfl rfl) rfl rfl ?_)|(refine uE (uA rfl rfl) rfl rfl ?_)|(refine uE (uQ rfl rfl rfl rfl) rfl rfl ?_)|(refine uE (uF rfl rfl (te rfl) rfl (te rfl) (by decide)) rfl rfl ?_)|(refine uE (uL rfl rfl (uO (te rfl) rfl (qH _) rfl)) rfl rfl ?_)|(refine uE (uL rfl rfl (uW (te rfl) rfl (qH _) rfl)) rfl rfl ?_)|(refine Xg.st (StF.boxAgg rfl rfl) rfl rfl ?_;rintro _ _ ⟨bx,rfl,rfl⟩)))))|(refine uD rfl ?_;refine hK _ _ ?_;clear hK K) | refine uS rfl ?_ | refine uR rfl (fun K hK=>?_) | refine X.block rfl ?_ | (refine X.brk rfl ?_;repeat (first | refine blockX_hit rfl ?_ | refine blockX_miss (by decide) ?_)) | refine X.skip rfl ?_ | refine X.ret rfl ?_ | (refine X.ite rfl rfl (fun hc=>?_);(first | (with_reducible refine Xb.case hc (fun h=>?_) (fun h=>?_))) <;> clear hc))
  ·obtain ⟨b,off,e,rfl,he⟩:=hB.draws.elem (i:=q) (by omega)
   have hn : gr1 (B.draws.take (q + 1)) k = stp k s e:=by unfold gr1 at hs ⊢;rw [take_snoc he,List.foldl_append,hs];rfl
   unfold stp at hn
   repeat' (first | (refine uP rfl ?_;(first | ((first | refine uN rfl ?_);(first | (refine uE (uL rfl rfl (LoadV.elA0 (hBZ _ _ _).draws he (te rfl) rfl (fun _ hm=>hm) rfl)) rfl rfl ?_)|(refine uE (EvF.build (cs:=cSp ⟨max s.lo e.lo,min s.hi e.hi⟩) rfl (ArgsP.cons rfl (ArgsP.cons rfl ArgsP.nil)) (te rfl) (Places.cons (te rfl) (Places.cons (te rfl) Places.nil)) Tryz.zeroValue24 rfl) rfl rfl ?_)|(refine uE (uM rfl rfl) rfl rfl ?_)|(refine uE (uQ rfl rfl rfl rfl) rfl rfl ?_)|(refine uE (EvF.add64 rfl rfl rfl (by omega) (by omega)) rfl rfl ?_)|(refine uE (uF rfl rfl (te rfl) rfl (te rfl) (by decide)) rfl rfl ?_)|(refine uE (uJ rfl rfl rfl (te rfl) (te rfl) (by omega) (by omega)) rfl rfl ?_)|(refine uE (uL rfl rfl (uO (te rfl) rfl (qH _) rfl)) rfl rfl ?_)|(refine uE (uL rfl rfl (uO (te rfl) rfl (qT _ (qH _)) rfl)) rfl rfl ?_)|(refine uE (EvF.min64 rfl rfl rfl) rfl rfl ?_)|(refine uE (EvF.max64 rfl rfl rfl) rfl rfl ?_)|(refine Xg.st (StF.alloc rfl Tryz.zeroValue38 rfl) rfl rfl ?_;rintro _ _ ⟨bx,rfl,rfl⟩)|(refine Xg.st0 (uZ (i:=0) rfl rfl rfl (te rfl) rfl rfl rfl rfl) rfl ?_;rintro _ _ ⟨rfl,rfl⟩;dsimp only [List.set])|(refine Xg.st0 (uZ (i:=1) rfl rfl rfl (te rfl) rfl rfl rfl rfl) rfl ?_;rintro _ _ ⟨rfl,rfl⟩;dsimp only [List.set])))))|(refine uD rfl ?_;refine hK _ _ ?_;clear hK K) | refine uS rfl ?_ | refine uR rfl (fun K hK=>?_) | refine X.skip rfl ?_ | (refine X.ite rfl rfl (fun hc=>?_);(first | (with_reducible refine Xb.case hc (fun h=>?_) (fun h=>?_))) <;> clear hc))
   ·rw [if_pos (by assumption)] at hn
    rw [← hn]
    exact ⟨_,_,_,(by repeat (first | exact uU _ | refine uV rfl ?_)),qC _ (qR _),⟨q + 1,rfl,by omega,rfl,rfl⟩,by omega⟩
   ·rw [if_neg (by assumption)] at hn
    rw [← hn]
    exact ⟨_,_,_,(by repeat (first | exact uU _ | refine uV rfl ?_)),qC _ (qR _),⟨q + 1,rfl,by omega,rfl,rfl⟩,by omega⟩
  ·have hsk : spAt g k = s:=by rw [← hgr k (by omega), ← hs,List.take_of_length_le (by omega)]
   have hkg:=spAt_get (g:=g) (i:=k) (by omega)
   rw [hsk] at hkg
   exact ret_two (by simp) Tryz.results134 rfl rfl (H' := H) (qC _ ((List.sublist_cons_self _ _).trans (List.sublist_append_right _ _))) (.inr ⟨fun hh=>hh s (List.mem_of_getElem? (i:=k) (by rw [List.getElem?_take,if_pos (by omega)];exact hkg)) (by assumption),rfl,rfl⟩)
  ·have hsk : spAt g k = s:=by rw [← hgr k (by omega), ← hs,List.take_of_length_le (by omega)]
   have hkg:=spAt_get (g:=g) (i:=k) (by omega)
   rw [hsk] at hkg
   have hok : ¬ s.lo > s.hi:=by assumption
   have htk:=take_snoc hkg
   have hall' : ∀ s ∈ g.take (k + 1), ¬ s.lo > s.hi:=by
    intro x hx
    rw [htk,List.mem_append,List.mem_singleton] at hx
    rcases hx with hx | rfl
    ·exact hall x hx
    ·exact hok
   obtain ⟨l,hlE⟩ : ∃ l,g.take k = l:=⟨_,rfl⟩
   have hlk : l.length ≤ 5:=by rw [← hlE,List.length_take];omega
   rw [hlE] at hO htk
   rcases hO with ⟨rfl,rfl,rfl⟩ | ⟨b0,q0,rfl,rfl⟩
   ·repeat' (first | (refine uP rfl ?_;(first | ((first | refine uN rfl ?_);(first | (refine Xg.st (StF.buildOne rfl el22 rfl rfl rfl (by decide) (by decide)) rfl rfl ?_;rintro _ _ ⟨bo,rfl,rfl⟩)|(refine Xg.st (StF.appendNew rfl el22 rfl rfl (by decide) rfl (Rd.own (qH _)) (by decide)) rfl rfl ?_;rintro _ _ ⟨bn,kn,rfl,rfl⟩)|(refine uE (uM rfl rfl) rfl rfl ?_)|(refine uE (uA rfl rfl) rfl rfl ?_)|(refine uE (EvF.add64 rfl rfl rfl (by omega) (by omega)) rfl rfl ?_)))))|(refine uD rfl ?_;refine hK _ _ ?_;clear hK K) | refine uR rfl (fun K hK=>?_))
    refine ⟨_,_,_,(by repeat (first | exact uU _ | refine uV rfl ?_)),?_,⟨k + 1,_,[⟨bn,0,([]++[s]).flatMap cSp,some 24,kn * 2⟩],rfl,by omega,?_,hall',rfl,rfl⟩,by omega⟩
    ·exact qK _ (qC _ (qC _ (qR _)))
    ·rw [htk];exact .inr ⟨_,_,rfl,rfl⟩
   ·have hlen : (l.flatMap cSp).length = l.length * 2:=lenSp l
    repeat' (first | (refine uP rfl ?_;(first | ((first | refine uN rfl ?_);(first | (refine Xg.st (StF.buildOne rfl el22 rfl rfl rfl (by decide) (by decide)) rfl rfl ?_;rintro _ _ ⟨bo,rfl,rfl⟩)|(refine Xg.st (StF.appendOwn (i:=2) rfl el22 rfl rfl rfl hlen rfl (Rd.own (qH _)) rfl (by omega)) rfl rfl ?_;rintro _ _ ⟨bn,kn,rfl,rfl⟩;dsimp only [List.eraseIdx])|(refine uE (uM rfl rfl) rfl rfl ?_)|(refine uE (uA rfl rfl) rfl rfl ?_)|(refine uE (EvF.add64 rfl rfl rfl (by omega) (by omega)) rfl rfl ?_)))))|(refine uD rfl ?_;refine hK _ _ ?_;clear hK K) | refine uR rfl (fun K hK=>?_))
    refine ⟨_,_,_,(by repeat (first | exact uU _ | refine uV rfl ?_)),?_,⟨k + 1,_,[⟨bn,0,(l++[s]).flatMap cSp,some 24,kn * 2⟩],rfl,by omega,?_,hall',rfl,rfl⟩,by omega⟩
    ·rw [List.flatMap_append]
     exact qK _ (qC _ (qC _ (qR _)))
    ·rw [htk];exact .inr ⟨_,_,by rw [List.length_append];rfl,rfl⟩
 ·obtain rfl : k = N:=by omega
  exact ret_two (by simp) Tryz.results134 rfl rfl (H' := Z++H) (List.Sublist.append (qR _) (List.sublist_cons_self _ _)) (.inl ⟨hall,out,Z,hO,rfl,rfl⟩)
theorem true_spec (B : Bl) (p : Pb) (H : List Row) (hb : baleOk B) (hB : BlOk H B p) :
  Fc Tryz.prog 82 [.agg (cBl B p).toArray] H (fun v H' => v = .bool (decide (canB B))∧H' = H):=by
 have hB1 : ∀ r1,BlOk (r1::H) B p:=fun r1=>hB.sub (fun _ h=>qT _ h)
 have hBZ : ∀ (Z : List Row) r1,BlOk (Z++r1::H) B p:=fun Z r1=>hB.sub (fun _ h=>List.mem_append_right _ (qT _ h))
 have hl:=wl_len (okW B) B.dlo (B.dhi - B.dlo + 1).toNat
 have hd:=hb.hdry
 refine Fc.mk (callable Tryz.call82) Tryz.func82 rfl Tryz.ntmps82 rfl ?_;dsimp only [fr]
 repeat' (first | (refine uP rfl ?_;(first | ((first | refine uN rfl ?_ | (refine Xo.g rfl rfl ?_;with_reducible refine Xw.tt ?_));(first | (refine uC (uT rfl (by (repeat (first | exact Args.nil | refine Args.cons rfl ?_));done)) rfl rfl (layers_spec B p _ hb.h5 hb.hd (hB1 _)) ?_;rintro _ H9 (⟨hG,out,Z,hO,rfl,hH9⟩ | ⟨hG,rfl,hH9⟩) <;> subst H9)|(refine uE (uL rfl rfl (uW (te rfl) rfl (List.mem_append_right _ (qH _)) rfl)) rfl rfl ?_)|(refine uC (uT rfl (by (repeat (first | exact Args.nil | refine Args.cons rfl ?_));done)) rfl rfl (dries_spec B p _ hd hb.wg (hBZ _ _)) ?_;rintro _ _ ⟨Z2,hO2,rfl⟩;obtain ⟨a,c,rfl,hs2⟩:=hO2.sl (H:=[]))|(refine uE (uM rfl rfl) rfl rfl ?_)|(refine uE (uA rfl rfl) rfl rfl ?_)|(refine uE (EvF.pickT rfl rfl rfl) rfl rfl ?_)|(refine uE (EvF.pickF rfl rfl rfl) rfl rfl ?_)|(refine uE (uQ rfl rfl rfl rfl) rfl rfl ?_)|(refine uE (uY rfl rfl (te rfl)) rfl rfl ?_)|(refine uE (uL rfl rfl (uW (te rfl) rfl (qH _) rfl)) rfl rfl ?_)|(refine uE (uX rfl rfl rfl) rfl rfl ?_)|(refine Xg.st (StF.boxAgg rfl rfl) rfl rfl ?_;rintro _ _ ⟨bx,rfl,rfl⟩)))|(refine Xo.g rfl rfl ?_;(first | (with_reducible refine Xw.ft rfl rfl ?_)))))|(refine uD rfl ?_;refine hK _ _ ?_;clear hK K) | refine uS rfl ?_ | refine uR rfl (fun K hK=>?_) | refine X.ret rfl ?_)
 ·refine ret_one (by simp) Tryz.results82 rfl (H' := H) (((List.sublist_cons_self _ _).trans (List.sublist_append_right _ _)).trans (List.sublist_append_right _ _)) ⟨?_,rfl⟩
  congr 1
  exact decide_eq_decide.2 ⟨fun q=>⟨hG,by omega⟩,fun q=>by have:=q.2;omega⟩
 ·refine ret_one (by simp) Tryz.results82 rfl (H' := H) (by (repeat (first | exact qR _ | apply qC));done) ?_;simp only [and_true,true_and]
  congr 1;symm;exact decide_eq_false (fun q=>hG q.1)
theorem gsOf_len {B : Bl} (h : baleOk B) : (gsOf B).length = B.layers.toNat:=by
 unfold gsOf;rw [List.length_take,gradesOf_len h];have:=h.h5;omega
theorem spAt_gs {B : Bl} {i : Nat} (hi : i < B.layers.toNat) : spAt (gsOf B) i = spAt (gradesOf B) i:=by
 unfold spAt gsOf List.getD
 rw [List.getElem?_take,if_pos hi]
theorem gs_at {B : Bl} (hb : baleOk B) {i : Nat} (hi : i < B.layers.toNat) : (gsOf B)[i]? = some (gr1 B.draws i):=by
 rw [spAt_get (g:=gsOf B) (by rw [gsOf_len hb];exact hi),spAt_gs hi,gr1_eq hb.h5 hb.hd hi]
set_option maxRecDepth 100000
theorem oE {B : Bl} {C : Ca} (hb : baleOk B) (hc : canB B) (hl : askL B C) (hk : askK C) (hw : askW B C) (hd : askD C) : openE B C = 0:=by
 unfold openE
 rw [if_pos hb,if_pos hl,if_pos hk,if_pos hw,if_pos hd,if_pos hc]
theorem okE : baleOk (balE []):=(refBale_iff _).1 (by simp [rz,rdOk,rwOk,refBale,balE,drE,wgE])
theorem okO : baleOk (balE oddD):=(refBale_iff _).1 (by simp [rz,rdOk,rwOk,refBale,balE,drE,wgE,oddD])
theorem wtsE : wts (balE []) = [441,442,443,444,445,446,447,448,449,450,451,452]:=by
 rw [← wts_eq okE.wg okE.hdry]
 kernel_rfl
theorem wtsO : wts (balE oddD) = [441,442,443,444,445,446,447,448,449,450,451,452]:=by
 rw [← wts_eq okO.wg okO.hdry]
 kernel_rfl
theorem gsE : gsOf (balE []) = [⟨3,3⟩,⟨3,6⟩,⟨1,9⟩,⟨3,4⟩]:=by kernel_rfl
theorem gsO : gsOf (balE oddD) = [⟨5,3⟩,⟨3,6⟩,⟨1,9⟩,⟨3,4⟩]:=by kernel_rfl
theorem canE : canB (balE []):=by
 refine ⟨?_,by rw [wtsE];decide⟩
 intro s hs
 change s ∈ gsOf (balE []) at hs
 rw [gsE] at hs
 simp only [List.mem_cons,List.not_mem_nil,or_false] at hs
 rcases hs with rfl | rfl | rfl | rfl <;> decide
theorem noO : ¬ canB (balE oddD):=by
 rintro ⟨h,_⟩
 have : (⟨5,3⟩ : Sp) ∈ gsOf (balE oddD):=by rw [gsO];exact List.mem_cons_self
 exact h _ this (by decide)
theorem oE0 : openE (balE []) ca0 = 0:=oE okE canE (fun _ h=>absurd h List.not_mem_nil) (fun _ h=>absurd h List.not_mem_nil) (fun _ h=>absurd h List.not_mem_nil) (fun _ h=>absurd h List.not_mem_nil)
theorem oEL {i : Int} (h : 0 ≤ i∧i ≤ 3) : openE (balE []) ⟨[i],[],[],[]⟩ = 0:=oE okE canE (fun n hn=>by rw [List.mem_singleton.1 hn];exact h) (fun _ h=>absurd h List.not_mem_nil) (fun _ h=>absurd h List.not_mem_nil) (fun _ h=>absurd h List.not_mem_nil)
theorem oEK {k : Int} (h : 1 ≤ k∧k ≤ 4) : openE (balE []) ⟨[],[k],[],[]⟩ = 0:=oE okE canE (fun _ h=>absurd h List.not_mem_nil) (fun n hn=>by rw [List.mem_singleton.1 hn];exact h) (fun _ h=>absurd h List.not_mem_nil) (fun _ h=>absurd h List.not_mem_nil)
theorem oEW {n : Int} (h : n = 1∨n = 2) : openE (balE []) (caN n)=0:=oE okE canE (fun _ h=>absurd h List.not_mem_nil) (fun _ h=>absurd h List.not_mem_nil) (fun m hm=>by rw [List.mem_singleton.1 hm];rcases h with rfl | rfl;exact List.mem_cons_self;exact List.mem_cons_of_mem _ List.mem_cons_self) (fun _ h=>absurd h List.not_mem_nil)
theorem oED {d : Int} (h : 0 ≤ d∧d ≤ 200) : openE (balE []) (caD d)=0:=oE okE canE (fun _ h=>absurd h List.not_mem_nil) (fun _ h=>absurd h List.not_mem_nil) (fun _ h=>absurd h List.not_mem_nil) (fun n hn=>by rw [List.mem_singleton.1 hn];exact h)
theorem vKinds : ((ofKind (truthsB (balE [])) 1,ofKind (truthsB (balE [])) 2),ofKind (truthsB (balE [])) 3,ofKind (truthsB (balE [])) 4)=((1,1),1,1):=by kernel_rfl
theorem vKind1 : ofKind (truthsB (balE [])) 1 = 1:=congrArg (fun x=>x.1.1) vKinds
theorem vKind3 : ofKind (truthsB (balE [])) 3 = 1:=congrArg (fun x=>x.2.1) vKinds
theorem vCutT : cutT 4 (truthsB (balE [])) = ⟨1,3⟩:=by kernel_rfl
theorem vCut : cutB (balE []) = (⟨1,3⟩,0):=by
 unfold cutB
 rw [if_pos oE0,show (balE []).layers = 4 from rfl,vCutT,if_neg (by decide)]
theorem vAsk : askB (balE []) = (2,3):=by
 unfold askB
 kernel_rfl
theorem vDry : dryOf (balE []) = ⟨441,452⟩:=by
 unfold dryOf
 rw [wtsE]
 rfl
theorem vWet1 : wetOf (balE []) ⟨1,480,60,90⟩ = ⟨62,90⟩:=by
 unfold wetOf
 rw [vDry]
 kernel_rfl
theorem vWet2 : wetOf (balE []) ⟨2,470,40,70⟩ = ⟨40,68⟩:=by
 unfold wetOf
 rw [vDry]
 kernel_rfl
theorem vAside {d : Int} : asideF (balE []) d = max (max 1 (knb (decide ((90 : Int) > d)) (decide ((62 : Int)≤d)))) (knb (decide ((68 : Int) > d)) (decide ((40 : Int)≤d))):=by
 unfold asideF
 rw [vKind1]
 show max (max (2 - 1) (damperOf (balE []) ⟨1,480,60,90⟩ d)) (damperOf (balE []) ⟨2,470,40,70⟩ d)=_
 unfold damperOf
 rw [vWet1,vWet2]
 rfl
theorem exD_nil (B : Bl) : outD B [] = B:=by
 unfold outD excDr
 rw [List.filter_eq_self.2 (fun e _=>by simp)]
theorem exW_nil (B : Bl) : outW B [] = B:=by
 unfold outW excWg
 rw [List.filter_eq_self.2 (fun e _=>by simp)]
theorem vDecT : decL (truthsB (balE [])) 4 = [1,2,3]:=by kernel_rfl
theorem vDecide : decideB (balE []) = [1,2,3]:=by
 unfold decideB lIf
 rw [if_pos oE0]
 exact vDecT
theorem vFewD : fewD (balE oddD)=some [⟨1,0,3,3⟩]:=by
 have h0 : okD (balE oddD) [] = false:=by
  unfold okD
  rw [exD_nil]
  exact decide_eq_false (fun h=>by
   have : (⟨5,3⟩ : Sp) ∈ gsOf (balE oddD):=by rw [gsO];exact List.mem_cons_self
   exact h _ this (by decide))
 have e1 : outD (balE oddD) [⟨1,0,3,3⟩] = ⟨1,4,400,500,[⟨2,3,3,4⟩,⟨3,1,3,6⟩,⟨4,0,5,6⟩],wgE⟩:=by
  unfold outD excDr
  simp [balE,drE,oddD]
 have h1 : okD (balE oddD) [⟨1,0,3,3⟩] = true:=by
  unfold okD
  rw [e1]
  refine decide_eq_true (fun s hs=>?_)
  have e : (gradesOf ⟨1,4,400,500,[⟨2,3,3,4⟩,⟨3,1,3,6⟩,⟨4,0,5,6⟩],wgE⟩).take (4 : Int).toNat = [⟨5,6⟩,⟨3,6⟩,⟨1,9⟩,⟨3,4⟩]:=by kernel_rfl
  change s ∈ (gradesOf ⟨1,4,400,500,[⟨2,3,3,4⟩,⟨3,1,3,6⟩,⟨4,0,5,6⟩],wgE⟩).take (4 : Int).toNat at hs
  rw [e] at hs
  simp only [List.mem_cons,List.not_mem_nil,or_false] at hs
  rcases hs with rfl | rfl | rfl | rfl <;> decide
 unfold fewD
 show few (okD (balE oddD)) [⟨1,0,3,3⟩,⟨2,3,3,4⟩,⟨3,1,3,6⟩,⟨4,0,5,6⟩] 4 0 = _
 simp [few,lon,h0,h1]
theorem vFewW : fewW (balE oddD)=some []:=by
 have h0 : okWt (balE oddD) [] = true:=by
  unfold okWt
  rw [exW_nil,wtsO]
  exact decide_eq_true (by decide)
 unfold fewW
 show few (okWt (balE oddD)) [⟨1,480,60,90⟩,⟨2,470,40,70⟩] 3 0 = _
 simp [few,lon,h0]
theorem vWrong : wrongF (balE oddD)=([1],[],0):=by
 unfold wrongF
 rw [if_pos okO,if_pos (by rw [vFewD,vFewW];exact ⟨rfl,rfl⟩),vFewD,vFewW]
 rfl
set_option maxRecDepth 10000
theorem X.gen {P : Program} {n : Nat} {c : Code} {F : FS} {H : List Row} {Q : QX} (k : ∀ G,G = H → X P n c F G Q) : X P n c F H Q:=k H rfl
theorem spIf_pos {p : Prop} [Decidable p] (h : p) (s : Sp) : spIf p s = s:=if_pos h
theorem uIf_pos {p : Prop} (h : p) (s : Int) : uIf p s = s:=if_pos h
theorem eqE (e : Sp) (w : World) : (Op.equalIn 10000 24 (.agg (cSp e).toArray) (.agg (cSp e).toArray)).run Tryz.prog w = .ok true w:=by
 rw [eqSp 9998,decide_eq_true rfl]
theorem intsT (l : List Int) (a a' : Option Addr) (c c' : Nat) (H : List Row) (hl : SlE H a cI 1 l) (hw : SlE H a' cI 1 l) (hb : l.length ≤ 1000) : Fc Tryz.prog 28 [.slice a l.length c,.slice a' l.length c'] H (fun v H' => v = .bool true∧H' = H):=by
 have:=ints_spec l l a a' c c' H hl hw hb
 rwa [decide_eq_true rfl] at this
theorem aLay (bn kn bw : Nat) (S : List Row) (h : BlOk S (balE []) ⟨some ⟨bn,0,none⟩,kn,some ⟨bw,0,none⟩,2⟩) : Fc Tryz.prog 12 [.agg (cBl (balE []) ⟨some ⟨bn,0,none⟩,kn,some ⟨bw,0,none⟩,2⟩).toArray,.int .i64 1] S (fun v H' => v = .tuple #[.agg (cSp ⟨3,6⟩).toArray,.int .i64 0]∧H' = S):=by
 have:=klayer_spec (balE []) ⟨some ⟨bn,0,none⟩,kn,some ⟨bw,0,none⟩,2⟩ 1 S h
 rw [spIf_pos (oEL (by decide)),oEL (by decide),show spAt (gradesOf (balE [])) (1 : Int).toNat = ⟨3,6⟩ from by kernel_rfl] at this
 exact this
theorem aBst (bn kn bw : Nat) (S : List Row) (h : BlOk S (balE []) ⟨some ⟨bn,0,none⟩,kn,some ⟨bw,0,none⟩,2⟩) : Fc Tryz.prog 33 [.agg (cBl (balE []) ⟨some ⟨bn,0,none⟩,kn,some ⟨bw,0,none⟩,2⟩).toArray] S (fun v H' => v = .tuple #[.agg (cSp ⟨1,3⟩).toArray,.int .i64 0]∧H' = S):=by
 have:=kbest_spec (balE []) ⟨some ⟨bn,0,none⟩,kn,some ⟨bw,0,none⟩,2⟩ S h
 rw [spIf_pos oE0,oE0,show bestF ((gradesOf (balE [])).take (balE []).layers.toNat) (spAt (gradesOf (balE [])) 0) = ⟨1,3⟩ from by kernel_rfl] at this
 exact this
theorem aWor (bn kn bw : Nat) (S : List Row) (h : BlOk S (balE []) ⟨some ⟨bn,0,none⟩,kn,some ⟨bw,0,none⟩,2⟩) : Fc Tryz.prog 34 [.agg (cBl (balE []) ⟨some ⟨bn,0,none⟩,kn,some ⟨bw,0,none⟩,2⟩).toArray] S (fun v H' => v = .tuple #[.agg (cSp ⟨3,9⟩).toArray,.int .i64 0]∧H' = S):=by
 have:=kworst_spec (balE []) ⟨some ⟨bn,0,none⟩,kn,some ⟨bw,0,none⟩,2⟩ S h
 rw [spIf_pos oE0,oE0,show worstF ((gradesOf (balE [])).take (balE []).layers.toNat) (spAt (gradesOf (balE [])) 0) = ⟨3,9⟩ from by kernel_rfl] at this
 exact this
theorem aKin (bn kn bw : Nat) (S : List Row) (h : BlOk S (balE []) ⟨some ⟨bn,0,none⟩,kn,some ⟨bw,0,none⟩,2⟩) : Fc Tryz.prog 18 [.agg (cBl (balE []) ⟨some ⟨bn,0,none⟩,kn,some ⟨bw,0,none⟩,2⟩).toArray,.int .i64 3] S (fun v H' => v = .tuple #[.int .u8 1,.int .i64 0]∧H' = S):=by
 have:=kKind_spec (balE []) ⟨some ⟨bn,0,none⟩,kn,some ⟨bw,0,none⟩,2⟩ 3 S h
 rw [uIf_pos (oEK (by decide)),oEK (by decide),vKind3] at this
 exact this
theorem aCut (bn kn bw : Nat) (S : List Row) (h : BlOk S (balE []) ⟨some ⟨bn,0,none⟩,kn,some ⟨bw,0,none⟩,2⟩) : Fc Tryz.prog 22 [.agg (cBl (balE []) ⟨some ⟨bn,0,none⟩,kn,some ⟨bw,0,none⟩,2⟩).toArray] S (fun v H' => v = .tuple #[.agg (cSp ⟨1,3⟩).toArray,.int .i64 0]∧H' = S):=by
 have:=kCut_spec (balE []) ⟨some ⟨bn,0,none⟩,kn,some ⟨bw,0,none⟩,2⟩ S h
 rw [vCut] at this
 exact this
theorem aAsk (bn kn bw : Nat) (S : List Row) (h : BlOk S (balE []) ⟨some ⟨bn,0,none⟩,kn,some ⟨bw,0,none⟩,2⟩) : Fc Tryz.prog 46 [.agg (cBl (balE []) ⟨some ⟨bn,0,none⟩,kn,some ⟨bw,0,none⟩,2⟩).toArray] S (fun v H' => v = .tuple #[.int .i64 2,.int .i64 3,.int .i64 0]∧H' = S):=by
 have:=kAsk_spec (balE []) ⟨some ⟨bn,0,none⟩,kn,some ⟨bw,0,none⟩,2⟩ S h
 rw [uIf_pos oE0,uIf_pos oE0,oE0,vAsk] at this
 exact this
theorem aDec (bn kn bw : Nat) (S : List Row) (h : BlOk S (balE []) ⟨some ⟨bn,0,none⟩,kn,some ⟨bw,0,none⟩,2⟩) : Fc Tryz.prog 41 [.agg (cBl (balE []) ⟨some ⟨bn,0,none⟩,kn,some ⟨bw,0,none⟩,2⟩).toArray] S (fun v H' => ∃ b q,v = .tuple #[.slice (some ⟨b,0,none⟩) 3 q,.int .i64 0]∧H' = ⟨b,0,[1,2,3].flatMap cI,some 3,q * 1⟩::S):=by
 refine (kDecide_spec (balE []) ⟨some ⟨bn,0,none⟩,kn,some ⟨bw,0,none⟩,2⟩ S h).mono fun v H' q=>?_
 rw [vDecide,oE0] at q
 obtain ⟨out,Z,h1,rfl,rfl⟩:=q
 rcases h1 with ⟨h1,_,_⟩ | ⟨b,q,rfl,rfl⟩
 ·cases h1
 ·exact ⟨b,q,rfl,rfl⟩
theorem aDry (bn kn bw : Nat) (S : List Row) (h : BlOk S (balE []) ⟨some ⟨bn,0,none⟩,kn,some ⟨bw,0,none⟩,2⟩) : Fc Tryz.prog 36 [.agg (cBl (balE []) ⟨some ⟨bn,0,none⟩,kn,some ⟨bw,0,none⟩,2⟩).toArray] S (fun v H' => v = .tuple #[.agg (cSp ⟨441,452⟩).toArray,.int .i64 0]∧H' = S):=by
 have:=kdry_spec (balE []) ⟨some ⟨bn,0,none⟩,kn,some ⟨bw,0,none⟩,2⟩ S h
 rw [spIf_pos oE0,oE0,vDry] at this
 exact this
theorem aWet (bn kn bw : Nat) (S : List Row) (h : BlOk S (balE []) ⟨some ⟨bn,0,none⟩,kn,some ⟨bw,0,none⟩,2⟩) : Fc Tryz.prog 14 [.agg (cBl (balE []) ⟨some ⟨bn,0,none⟩,kn,some ⟨bw,0,none⟩,2⟩).toArray,.int .i64 1] S (fun v H' => v = .tuple #[.agg (cSp ⟨62,90⟩).toArray,.int .i64 0]∧H' = S):=by
 have:=kWet_spec (balE []) ⟨some ⟨bn,0,none⟩,kn,some ⟨bw,0,none⟩,2⟩ 1 S h
 rw [spIf_pos (oEW (.inl rfl)),oEW (.inl rfl),show numW (balE []).weighs 1 = ⟨1,480,60,90⟩ from by kernel_rfl,vWet1] at this
 exact this
theorem aKno (bn kn bw : Nat) (S : List Row) (h : BlOk S (balE []) ⟨some ⟨bn,0,none⟩,kn,some ⟨bw,0,none⟩,2⟩) : Fc Tryz.prog 15 [.agg (cBl (balE []) ⟨some ⟨bn,0,none⟩,kn,some ⟨bw,0,none⟩,2⟩).toArray,.int .i64 1,.int .i64 61] S (fun v H' => v = .tuple #[.int .u8 2,.int .i64 0]∧H' = S):=by
 have:=kKnown_spec (balE []) ⟨some ⟨bn,0,none⟩,kn,some ⟨bw,0,none⟩,2⟩ 1 61 S h
 rw [uIf_pos (oEW (.inl rfl)),oEW (.inl rfl),show numW (balE []).weighs 1 = ⟨1,480,60,90⟩ from by kernel_rfl,show damperOf (balE []) ⟨1,480,60,90⟩ 61 = 2 from by unfold damperOf;rw [vWet1];rfl] at this
 exact this
theorem aPay (bn kn bw : Nat) (S : List Row) (h : BlOk S (balE []) ⟨some ⟨bn,0,none⟩,kn,some ⟨bw,0,none⟩,2⟩) : Fc Tryz.prog 23 [.agg (cBl (balE []) ⟨some ⟨bn,0,none⟩,kn,some ⟨bw,0,none⟩,2⟩).toArray,.int .i64 85] S (fun v H' => v = .tuple #[.agg (cSp ⟨478,490⟩).toArray,.int .i64 0]∧H' = S):=by
 have:=kPays_spec (balE []) ⟨some ⟨bn,0,none⟩,kn,some ⟨bw,0,none⟩,2⟩ 85 S h
 rw [spIf_pos (oED (by decide)),oED (by decide),vDry,show payF ⟨441,452⟩ 85 = ⟨478,490⟩ from by kernel_rfl] at this
 exact this
theorem aAsi (bn kn bw : Nat) (S : List Row) (h : BlOk S (balE []) ⟨some ⟨bn,0,none⟩,kn,some ⟨bw,0,none⟩,2⟩) : Fc Tryz.prog 16 [.agg (cBl (balE []) ⟨some ⟨bn,0,none⟩,kn,some ⟨bw,0,none⟩,2⟩).toArray,.int .i64 90] S (fun v H' => v = .tuple #[.int .u8 1,.int .i64 0]∧H' = S):=by
 have:=kAside_spec (balE []) ⟨some ⟨bn,0,none⟩,kn,some ⟨bw,0,none⟩,2⟩ 90 S h
 rw [uIf_pos (oED (by decide)),oED (by decide),vAside,show max (max 1 (knb (decide ((90 : Int) > 90)) (decide ((62 : Int)≤90)))) (knb (decide ((68 : Int) > 90)) (decide ((40 : Int)≤90))) = 1 from by decide] at this
 exact this
theorem aCan (bn kn bw : Nat) (S : List Row) (h : BlOk S (balE oddD) ⟨some ⟨bn,0,none⟩,kn,some ⟨bw,0,none⟩,2⟩) : Fc Tryz.prog 39 [.agg (cBl (balE oddD) ⟨some ⟨bn,0,none⟩,kn,some ⟨bw,0,none⟩,2⟩).toArray] S (fun v H' => v = .tuple #[.bool false,.int .i64 0]∧H' = S):=by
 have:=kcan_spec (balE oddD) ⟨some ⟨bn,0,none⟩,kn,some ⟨bw,0,none⟩,2⟩ S h
 rw [decide_eq_false (fun q=>noO q.2),if_pos okO] at this
 exact this
theorem aWrg (bn kn bw : Nat) (S : List Row) (h : BlOk S (balE oddD) ⟨some ⟨bn,0,none⟩,kn,some ⟨bw,0,none⟩,2⟩) : Fc Tryz.prog 27 [.agg (cBl (balE oddD) ⟨some ⟨bn,0,none⟩,kn,some ⟨bw,0,none⟩,2⟩).toArray] S (fun v H' => ∃ a1 c1 a2 c2 Z,v = .tuple #[.slice a1 1 c1,.slice a2 0 c2,.int .i64 0]∧SlE (Z++S) a1 cI 1 [1]∧SlE (Z++S) a2 cI 1 []∧H' = Z++S):=by
 have:=kwrong_spec (balE oddD) ⟨bn,0,none⟩ kn ⟨bw,0,none⟩ 2 S h
 rw [vWrong] at this
 exact this
theorem lit3 : fillL (fun i=>some (i * 1,1)) ((Array.range (3 * 1)).map (fun x=>(Value.int .i64 0).cells[x % (Value.int .i64 0).cells.size]!)).toList [(0,.int .i64 1),(1,.int .i64 2),(2,.int .i64 3)] = some [.int .i64 1,.int .i64 2,.int .i64 3]:=by kernel_rfl
def tsKal : List TOp:=[⟨some 57,[],[],[]⟩,⟨some 58,[0],[0],[]⟩,⟨some 59,[0,1],[1],[]⟩,⟨some 60,[0,1,2],[],[]⟩,⟨some 61,[0,1,2],[],[]⟩,⟨some 62,[0,1,2,3,4],[3,4],[]⟩,⟨some 63,[0,1,2,3,4,5],[2,5],[]⟩,⟨some 64,[0,1,2,3,4,5,6],[6],[]⟩,⟨some 65,[0,1,2,3,4,5,6,7],[],[]⟩,⟨some 66,[0,1,2,3,4,5,6,7,8],[8],[]⟩,⟨some 67,[0,1,2,3,4,5,6,7,8,9],[7,9],[]⟩,⟨some 68,[0,1,2,3,4,5,6,7,8,9,10],[10],[]⟩,⟨some 69,[0,1,2,3,4,5,6,7,8,9,10,11],[],[]⟩,⟨some 70,[0,1,2,3,4,5,6,7,8,9,10,11],[],[]⟩,⟨some 71,[0,1,2,3,4,5,6,7,8,9,10,11,12,13],[12,13],[]⟩,⟨some 72,[0,1,2,3,4,5,6,7,8,9,10,11,12,13,14],[11,14],[]⟩,⟨some 73,[0,1,2,3,4,5,6,7,8,9,10,11,12,13,14,15],[15],[]⟩,⟨some 74,[0,1,2,3,4,5,6,7,8,9,10,11,12,13,14,15,16],[],[]⟩,⟨some 75,[0,1,2,3,4,5,6,7,8,9,10,11,12,13,14,15,16,17],[17],[]⟩,⟨some 76,[0,1,2,3,4,5,6,7,8,9,10,11,12,13,14,15,16,17,18],[16,18],[]⟩,⟨some 77,[0,1,2,3,4,5,6,7,8,9,10,11,12,13,14,15,16,17,18,19],[19],[]⟩,⟨some 78,[0,1,2,3,4,5,6,7,8,9,10,11,12,13,14,15,16,17,18,19,20],[],[]⟩,⟨some 79,[0,1,2,3,4,5,6,7,8,9,10,11,12,13,14,15,16,17,18,19,20],[],[]⟩,⟨some 80,[0,1,2,3,4,5,6,7,8,9,10,11,12,13,14,15,16,17,18,19,20,21,22],[21,22],[]⟩,⟨some 81,[0,1,2,3,4,5,6,7,8,9,10,11,12,13,14,15,16,17,18,19,20,21,22,23],[20,23],[]⟩,⟨some 82,[0,1,2,3,4,5,6,7,8,9,10,11,12,13,14,15,16,17,18,19,20,21,22,23,24],[24],[]⟩,⟨some 83,[0,1,2,3,4,5,6,7,8,9,10,11,12,13,14,15,16,17,18,19,20,21,22,23,24,25],[],[]⟩,⟨some 84,[0,1,2,3,4,5,6,7,8,9,10,11,12,13,14,15,16,17,18,19,20,21,22,23,24,25,26],[26],[]⟩,⟨some 85,[0,1,2,3,4,5,6,7,8,9,10,11,12,13,14,15,16,17,18,19,20,21,22,23,24,25,26,27],[25,27],[]⟩,⟨some 86,[0,1,2,3,4,5,6,7,8,9,10,11,12,13,14,15,16,17,18,19,20,21,22,23,24,25,26,27,28],[28],[]⟩,⟨some 87,[0,1,2,3,4,5,6,7,8,9,10,11,12,13,14,15,16,17,18,19,20,21,22,23,24,25,26,27,28,29],[],[]⟩,⟨some 88,[0,1,2,3,4,5,6,7,8,9,10,11,12,13,14,15,16,17,18,19,20,21,22,23,24,25,26,27,28,29,30],[30],[]⟩,⟨some 89,[0,1,2,3,4,5,6,7,8,9,10,11,12,13,14,15,16,17,18,19,20,21,22,23,24,25,26,27,28,29,30,31],[29,31],[]⟩,⟨some 90,[0,1,2,3,4,5,6,7,8,9,10,11,12,13,14,15,16,17,18,19,20,21,22,23,24,25,26,27,28,29,30,31,32],[32],[]⟩,⟨some 91,[0,1,2,3,4,5,6,7,8,9,10,11,12,13,14,15,16,17,18,19,20,21,22,23,24,25,26,27,28,29,30,31,32,33],[],[]⟩,⟨some 92,[0,1,2,3,4,5,6,7,8,9,10,11,12,13,14,15,16,17,18,19,20,21,22,23,24,25,26,27,28,29,30,31,32,33,34],[34],[]⟩,⟨some 93,[0,1,2,3,4,5,6,7,8,9,10,11,12,13,14,15,16,17,18,19,20,21,22,23,24,25,26,27,28,29,30,31,32,33,34,35],[33,35],[]⟩,⟨some 94,[0,1,2,3,4,5,6,7,8,9,10,11,12,13,14,15,16,17,18,19,20,21,22,23,24,25,26,27,28,29,30,31,32,33,34,35,36],[36],[]⟩,⟨some 95,[0,1,2,3,4,5,6,7,8,9,10,11,12,13,14,15,16,17,18,19,20,21,22,23,24,25,26,27,28,29,30,31,32,33,34,35,36,37],[],[]⟩,⟨some 96,[0,1,2,3,4,5,6,7,8,9,10,11,12,13,14,15,16,17,18,19,20,21,22,23,24,25,26,27,28,29,30,31,32,33,34,35,36,37],[],[]⟩,⟨some 97,[0,1,2,3,4,5,6,7,8,9,10,11,12,13,14,15,16,17,18,19,20,21,22,23,24,25,26,27,28,29,30,31,32,33,34,35,36,37,38,39],[38,39],[]⟩,⟨some 98,[0,1,2,3,4,5,6,7,8,9,10,11,12,13,14,15,16,17,18,19,20,21,22,23,24,25,26,27,28,29,30,31,32,33,34,35,36,37,38,39,40],[37,40],[]⟩,⟨some 99,[0,1,2,3,4,5,6,7,8,9,10,11,12,13,14,15,16,17,18,19,20,21,22,23,24,25,26,27,28,29,30,31,32,33,34,35,36,37,38,39,40,41],[41],[]⟩,⟨some 100,[0,1,2,3,4,5,6,7,8,9,10,11,12,13,14,15,16,17,18,19,20,21,22,23,24,25,26,27,28,29,30,31,32,33,34,35,36,37,38,39,40,41,42],[],[]⟩,⟨some 101,[0,1,2,3,4,5,6,7,8,9,10,11,12,13,14,15,16,17,18,19,20,21,22,23,24,25,26,27,28,29,30,31,32,33,34,35,36,37,38,39,40,41,42,43],[43],[]⟩,⟨some 102,[0,1,2,3,4,5,6,7,8,9,10,11,12,13,14,15,16,17,18,19,20,21,22,23,24,25,26,27,28,29,30,31,32,33,34,35,36,37,38,39,40,41,42,43,44],[42,44],[]⟩,⟨some 103,[0,1,2,3,4,5,6,7,8,9,10,11,12,13,14,15,16,17,18,19,20,21,22,23,24,25,26,27,28,29,30,31,32,33,34,35,36,37,38,39,40,41,42,43,44,45],[45],[]⟩,⟨some 104,[0,1,2,3,4,5,6,7,8,9,10,11,12,13,14,15,16,17,18,19,20,21,22,23,24,25,26,27,28,29,30,31,32,33,34,35,36,37,38,39,40,41,42,43,44,45,46],[],[]⟩,⟨some 105,[0,1,2,3,4,5,6,7,8,9,10,11,12,13,14,15,16,17,18,19,20,21,22,23,24,25,26,27,28,29,30,31,32,33,34,35,36,37,38,39,40,41,42,43,44,45,46,47],[47],[]⟩,⟨some 106,[0,1,2,3,4,5,6,7,8,9,10,11,12,13,14,15,16,17,18,19,20,21,22,23,24,25,26,27,28,29,30,31,32,33,34,35,36,37,38,39,40,41,42,43,44,45,46,47,48],[46,48],[]⟩,⟨some 107,[0,1,2,3,4,5,6,7,8,9,10,11,12,13,14,15,16,17,18,19,20,21,22,23,24,25,26,27,28,29,30,31,32,33,34,35,36,37,38,39,40,41,42,43,44,45,46,47,48,49],[49],[]⟩,⟨some 108,[0,1,2,3,4,5,6,7,8,9,10,11,12,13,14,15,16,17,18,19,20,21,22,23,24,25,26,27,28,29,30,31,32,33,34,35,36,37,38,39,40,41,42,43,44,45,46,47,48,49,50],[],[]⟩,⟨some 109,[0,1,2,3,4,5,6,7,8,9,10,11,12,13,14,15,16,17,18,19,20,21,22,23,24,25,26,27,28,29,30,31,32,33,34,35,36,37,38,39,40,41,42,43,44,45,46,47,48,49,50,51],[51],[]⟩,⟨some 110,[0,1,2,3,4,5,6,7,8,9,10,11,12,13,14,15,16,17,18,19,20,21,22,23,24,25,26,27,28,29,30,31,32,33,34,35,36,37,38,39,40,41,42,43,44,45,46,47,48,49,50,51,52],[50,52],[]⟩,⟨some 111,[0,1,2,3,4,5,6,7,8,9,10,11,12,13,14,15,16,17,18,19,20,21,22,23,24,25,26,27,28,29,30,31,32,33,34,35,36,37,38,39,40,41,42,43,44,45,46,47,48,49,50,51,52,53],[53],[]⟩,⟨some 112,[0,1,2,3,4,5,6,7,8,9,10,11,12,13,14,15,16,17,18,19,20,21,22,23,24,25,26,27,28,29,30,31,32,33,34,35,36,37,38,39,40,41,42,43,44,45,46,47,48,49,50,51,52,53,54],[],[]⟩,⟨some 113,[0,1,2,3,4,5,6,7,8,9,10,11,12,13,14,15,16,17,18,19,20,21,22,23,24,25,26,27,28,29,30,31,32,33,34,35,36,37,38,39,40,41,42,43,44,45,46,47,48,49,50,51,52,53,54,55],[55],[]⟩,⟨some 114,[0,1,2,3,4,5,6,7,8,9,10,11,12,13,14,15,16,17,18,19,20,21,22,23,24,25,26,27,28,29,30,31,32,33,34,35,36,37,38,39,40,41,42,43,44,45,46,47,48,49,50,51,52,53,54,55,56],[54,56],[]⟩,⟨some 115,[0,1,2,3,4,5,6,7,8,9,10,11,12,13,14,15,16,17,18,19,20,21,22,23,24,25,26,27,28,29,30,31,32,33,34,35,36,37,38,39,40,41,42,43,44,45,46,47,48,49,50,51,52,53,54,55,56,57],[57],[]⟩,⟨some 116,[0,1,2,3,4,5,6,7,8,9,10,11,12,13,14,15,16,17,18,19,20,21,22,23,24,25,26,27,28,29,30,31,32,33,34,35,36,37,38,39,40,41,42,43,44,45,46,47,48,49,50,51,52,53,54,55,56,57,58],[],[]⟩,⟨some 117,[0,1,2,3,4,5,6,7,8,9,10,11,12,13,14,15,16,17,18,19,20,21,22,23,24,25,26,27,28,29,30,31,32,33,34,35,36,37,38,39,40,41,42,43,44,45,46,47,48,49,50,51,52,53,54,55,56,57,58],[],[]⟩,⟨some 118,[0,1,2,3,4,5,6,7,8,9,10,11,12,13,14,15,16,17,18,19,20,21,22,23,24,25,26,27,28,29,30,31,32,33,34,35,36,37,38,39,40,41,42,43,44,45,46,47,48,49,50,51,52,53,54,55,56,57,58,59,60],[59,60],[60]⟩,⟨some 119,[0,1,2,3,4,5,6,7,8,9,10,11,12,13,14,15,16,17,18,19,20,21,22,23,24,25,26,27,28,29,30,31,32,33,34,35,36,37,38,39,40,41,42,43,44,45,46,47,48,49,50,51,52,53,54,55,56,57,58,59,60,61],[61],[]⟩,⟨some 120,[0,1,2,3,4,5,6,7,8,9,10,11,12,13,14,15,16,17,18,19,20,21,22,23,24,25,26,27,28,29,30,31,32,33,34,35,36,37,38,39,40,41,42,43,44,45,46,47,48,49,50,51,52,53,54,55,56,57,58,59,60,61,62],[58,62],[]⟩]
def valKal (b1 b3 b5 b9 b14 q14 : Nat) (k : Nat) (env : Env) : Value :=
 match k with
 | 0 => .int .i64 0
 | 1 => .bool false
 | 2 => .bool false
 | 3=>gt (false) (.agg (cSp ⟨3,6⟩).toArray)
 | 4=>gt (false) (.agg (cSp ⟨3,6⟩).toArray)
 | 5=>gt (false) (.bool false)
 | 6 => .bool false
 | 7 => .bool false
 | 8=>gt (false) (.int .i64 0)
 | 9=>gt (false) (.bool false)
 | 10 => .bool false
 | 11 => .bool false
 | 12=>gt (false) (.agg (cSp ⟨1,3⟩).toArray)
 | 13=>gt (false) (.agg (cSp ⟨1,3⟩).toArray)
 | 14=>gt (false) (.bool false)
 | 15 => .bool false
 | 16 => .bool false
 | 17=>gt (false) (.int .i64 0)
 | 18=>gt (false) (.bool false)
 | 19 => .bool false
 | 20 => .bool false
 | 21=>gt (false) (.agg (cSp ⟨3,9⟩).toArray)
 | 22=>gt (false) (.agg (cSp ⟨3,9⟩).toArray)
 | 23=>gt (false) (.bool false)
 | 24 => .bool false
 | 25 => .bool false
 | 26=>gt (false) (.int .i64 0)
 | 27=>gt (false) (.bool false)
 | 28 => .bool false
 | 29 => .bool false
 | 30=>gt (false) (.int .u8 1)
 | 31=>gt (false) (.bool false)
 | 32 => .bool false
 | 33 => .bool false
 | 34=>gt (false) (.int .i64 0)
 | 35=>gt (false) (.bool false)
 | 36 => .bool false
 | 37 => .bool false
 | 38=>gt (false) (.agg (cSp ⟨1,3⟩).toArray)
 | 39=>gt (false) (.agg (cSp ⟨1,3⟩).toArray)
 | 40=>gt (false) (.bool false)
 | 41 => .bool false
 | 42 => .bool false
 | 43=>gt (false) (.int .i64 0)
 | 44=>gt (false) (.bool false)
 | 45 => .bool false
 | 46 => .bool false
 | 47=>gt (false) (.int .i64 2)
 | 48=>gt (false) (.bool false)
 | 49 => .bool false
 | 50 => .bool false
 | 51=>gt (false) (.int .i64 3)
 | 52=>gt (false) (.bool false)
 | 53 => .bool false
 | 54 => .bool false
 | 55=>gt (false) (.int .i64 0)
 | 56=>gt (false) (.bool false)
 | 57 => .bool false
 | 58 => .bool false
 | 59=>gt (false) (.slice (some ⟨b14,0,none⟩) 3 q14)
 | 60=>gt (false) (.slice (some ⟨(env 60).1,0,none⟩) 3 3)
 | 61=>gt (false) (.bool true)
 | 62=>gt (false) (.bool false)
 | 63 => .bool false
 | _=>undef
def rowsKal (b1 b3 b5 b9 b14 q14 : Nat) (k : Nat) (env : Env) : List Row :=
 match k with
 | 60=>gr (false) [⟨(env 60).1,0,[.int .i64 1,.int .i64 2,.int .i64 3],some 3,3 * 1⟩]
 | _=>[]
theorem locKal (b1 b3 b5 b9 b14 q14 : Nat) : ∀ k env i q9,i ≠ k → (tAt tsKal k).sup.contains i = false → valKal b1 b3 b5 b9 b14 q14 k (upd env i q9)=valKal b1 b3 b5 b9 b14 q14 k env∧rowsKal b1 b3 b5 b9 b14 q14 k (upd env i q9)=rowsKal b1 b3 b5 b9 b14 q14 k env:=by
 intro k env i q hk hs
 have hu : ∀ j,j ≠ i → upd env i q j = env j:=fun j hj=>by unfold upd;rw [if_neg hj]
 match k,hk,hs with
 | 0,_,_=>exact ⟨rfl,rfl⟩
 | 1,_,_=>exact ⟨rfl,rfl⟩
 | 2,_,_=>exact ⟨rfl,rfl⟩
 | 3,_,_=>exact ⟨rfl,rfl⟩
 | 4,_,_=>exact ⟨rfl,rfl⟩
 | 5,_,_=>exact ⟨rfl,rfl⟩
 | 6,_,_=>exact ⟨rfl,rfl⟩
 | 7,_,_=>exact ⟨rfl,rfl⟩
 | 8,_,_=>exact ⟨rfl,rfl⟩
 | 9,_,_=>exact ⟨rfl,rfl⟩
 | 10,_,_=>exact ⟨rfl,rfl⟩
 | 11,_,_=>exact ⟨rfl,rfl⟩
 | 12,_,_=>exact ⟨rfl,rfl⟩
 | 13,_,_=>exact ⟨rfl,rfl⟩
 | 14,_,_=>exact ⟨rfl,rfl⟩
 | 15,_,_=>exact ⟨rfl,rfl⟩
 | 16,_,_=>exact ⟨rfl,rfl⟩
 | 17,_,_=>exact ⟨rfl,rfl⟩
 | 18,_,_=>exact ⟨rfl,rfl⟩
 | 19,_,_=>exact ⟨rfl,rfl⟩
 | 20,_,_=>exact ⟨rfl,rfl⟩
 | 21,_,_=>exact ⟨rfl,rfl⟩
 | 22,_,_=>exact ⟨rfl,rfl⟩
 | 23,_,_=>exact ⟨rfl,rfl⟩
 | 24,_,_=>exact ⟨rfl,rfl⟩
 | 25,_,_=>exact ⟨rfl,rfl⟩
 | 26,_,_=>exact ⟨rfl,rfl⟩
 | 27,_,_=>exact ⟨rfl,rfl⟩
 | 28,_,_=>exact ⟨rfl,rfl⟩
 | 29,_,_=>exact ⟨rfl,rfl⟩
 | 30,_,_=>exact ⟨rfl,rfl⟩
 | 31,_,_=>exact ⟨rfl,rfl⟩
 | 32,_,_=>exact ⟨rfl,rfl⟩
 | 33,_,_=>exact ⟨rfl,rfl⟩
 | 34,_,_=>exact ⟨rfl,rfl⟩
 | 35,_,_=>exact ⟨rfl,rfl⟩
 | 36,_,_=>exact ⟨rfl,rfl⟩
 | 37,_,_=>exact ⟨rfl,rfl⟩
 | 38,_,_=>exact ⟨rfl,rfl⟩
 | 39,_,_=>exact ⟨rfl,rfl⟩
 | 40,_,_=>exact ⟨rfl,rfl⟩
 | 41,_,_=>exact ⟨rfl,rfl⟩
 | 42,_,_=>exact ⟨rfl,rfl⟩
 | 43,_,_=>exact ⟨rfl,rfl⟩
 | 44,_,_=>exact ⟨rfl,rfl⟩
 | 45,_,_=>exact ⟨rfl,rfl⟩
 | 46,_,_=>exact ⟨rfl,rfl⟩
 | 47,_,_=>exact ⟨rfl,rfl⟩
 | 48,_,_=>exact ⟨rfl,rfl⟩
 | 49,_,_=>exact ⟨rfl,rfl⟩
 | 50,_,_=>exact ⟨rfl,rfl⟩
 | 51,_,_=>exact ⟨rfl,rfl⟩
 | 52,_,_=>exact ⟨rfl,rfl⟩
 | 53,_,_=>exact ⟨rfl,rfl⟩
 | 54,_,_=>exact ⟨rfl,rfl⟩
 | 55,_,_=>exact ⟨rfl,rfl⟩
 | 56,_,_=>exact ⟨rfl,rfl⟩
 | 57,_,_=>exact ⟨rfl,rfl⟩
 | 58,_,_=>exact ⟨rfl,rfl⟩
 | 59,_,_=>exact ⟨rfl,rfl⟩
 | 60,hk,hs=>exact ⟨by simp only [valKal,hu 60 (fun e=>hk e.symm)],by simp only [rowsKal,hu 60 (fun e=>hk e.symm)]⟩
 | 61,_,_=>exact ⟨rfl,rfl⟩
 | 62,_,_=>exact ⟨rfl,rfl⟩
 | 63,_,_=>exact ⟨rfl,rfl⟩
 | _ + 64,_,_=>exact ⟨rfl,rfl⟩
def tsKbl : List TOp:=[⟨some 157,[],[],[]⟩,⟨some 158,[0],[0],[]⟩,⟨some 159,[0,1],[1],[]⟩,⟨some 160,[0,1,2],[],[]⟩,⟨some 161,[0,1,2],[],[]⟩,⟨some 162,[0,1,2,3,4],[3,4],[]⟩,⟨some 163,[0,1,2,3,4,5],[2,5],[]⟩,⟨some 164,[0,1,2,3,4,5,6],[6],[]⟩,⟨some 165,[0,1,2,3,4,5,6,7],[],[]⟩,⟨some 166,[0,1,2,3,4,5,6,7,8],[8],[]⟩,⟨some 167,[0,1,2,3,4,5,6,7,8,9],[7,9],[]⟩,⟨some 168,[0,1,2,3,4,5,6,7,8,9,10],[10],[]⟩,⟨some 169,[0,1,2,3,4,5,6,7,8,9,10,11],[],[]⟩,⟨some 170,[0,1,2,3,4,5,6,7,8,9,10,11],[],[]⟩,⟨some 171,[0,1,2,3,4,5,6,7,8,9,10,11,12,13],[12,13],[]⟩,⟨some 172,[0,1,2,3,4,5,6,7,8,9,10,11,12,13,14],[11,14],[]⟩,⟨some 173,[0,1,2,3,4,5,6,7,8,9,10,11,12,13,14,15],[15],[]⟩,⟨some 174,[0,1,2,3,4,5,6,7,8,9,10,11,12,13,14,15,16],[],[]⟩,⟨some 175,[0,1,2,3,4,5,6,7,8,9,10,11,12,13,14,15,16,17],[17],[]⟩,⟨some 176,[0,1,2,3,4,5,6,7,8,9,10,11,12,13,14,15,16,17,18],[16,18],[]⟩,⟨some 177,[0,1,2,3,4,5,6,7,8,9,10,11,12,13,14,15,16,17,18,19],[19],[]⟩,⟨some 178,[0,1,2,3,4,5,6,7,8,9,10,11,12,13,14,15,16,17,18,19,20],[],[]⟩,⟨some 179,[0,1,2,3,4,5,6,7,8,9,10,11,12,13,14,15,16,17,18,19,20,21],[21],[]⟩,⟨some 180,[0,1,2,3,4,5,6,7,8,9,10,11,12,13,14,15,16,17,18,19,20,21,22],[20,22],[]⟩,⟨some 181,[0,1,2,3,4,5,6,7,8,9,10,11,12,13,14,15,16,17,18,19,20,21,22,23],[23],[]⟩,⟨some 182,[0,1,2,3,4,5,6,7,8,9,10,11,12,13,14,15,16,17,18,19,20,21,22,23,24],[],[]⟩,⟨some 183,[0,1,2,3,4,5,6,7,8,9,10,11,12,13,14,15,16,17,18,19,20,21,22,23,24,25],[25],[]⟩,⟨some 184,[0,1,2,3,4,5,6,7,8,9,10,11,12,13,14,15,16,17,18,19,20,21,22,23,24,25,26],[24,26],[]⟩,⟨some 185,[0,1,2,3,4,5,6,7,8,9,10,11,12,13,14,15,16,17,18,19,20,21,22,23,24,25,26,27],[27],[]⟩,⟨some 186,[0,1,2,3,4,5,6,7,8,9,10,11,12,13,14,15,16,17,18,19,20,21,22,23,24,25,26,27,28],[],[]⟩,⟨some 187,[0,1,2,3,4,5,6,7,8,9,10,11,12,13,14,15,16,17,18,19,20,21,22,23,24,25,26,27,28],[],[]⟩,⟨some 188,[0,1,2,3,4,5,6,7,8,9,10,11,12,13,14,15,16,17,18,19,20,21,22,23,24,25,26,27,28,29,30],[29,30],[]⟩,⟨some 189,[0,1,2,3,4,5,6,7,8,9,10,11,12,13,14,15,16,17,18,19,20,21,22,23,24,25,26,27,28,29,30,31],[28,31],[]⟩,⟨some 190,[0,1,2,3,4,5,6,7,8,9,10,11,12,13,14,15,16,17,18,19,20,21,22,23,24,25,26,27,28,29,30,31,32],[32],[]⟩,⟨some 191,[0,1,2,3,4,5,6,7,8,9,10,11,12,13,14,15,16,17,18,19,20,21,22,23,24,25,26,27,28,29,30,31,32,33],[],[]⟩,⟨some 192,[0,1,2,3,4,5,6,7,8,9,10,11,12,13,14,15,16,17,18,19,20,21,22,23,24,25,26,27,28,29,30,31,32,33,34],[34],[]⟩,⟨some 193,[0,1,2,3,4,5,6,7,8,9,10,11,12,13,14,15,16,17,18,19,20,21,22,23,24,25,26,27,28,29,30,31,32,33,34,35],[33,35],[]⟩,⟨some 194,[0,1,2,3,4,5,6,7,8,9,10,11,12,13,14,15,16,17,18,19,20,21,22,23,24,25,26,27,28,29,30,31,32,33,34,35,36],[36],[]⟩,⟨some 195,[0,1,2,3,4,5,6,7,8,9,10,11,12,13,14,15,16,17,18,19,20,21,22,23,24,25,26,27,28,29,30,31,32,33,34,35,36,37],[],[]⟩,⟨some 196,[0,1,2,3,4,5,6,7,8,9,10,11,12,13,14,15,16,17,18,19,20,21,22,23,24,25,26,27,28,29,30,31,32,33,34,35,36,37,38],[38],[]⟩,⟨some 197,[0,1,2,3,4,5,6,7,8,9,10,11,12,13,14,15,16,17,18,19,20,21,22,23,24,25,26,27,28,29,30,31,32,33,34,35,36,37,38,39],[37,39],[]⟩,⟨some 198,[0,1,2,3,4,5,6,7,8,9,10,11,12,13,14,15,16,17,18,19,20,21,22,23,24,25,26,27,28,29,30,31,32,33,34,35,36,37,38,39,40],[40],[]⟩,⟨some 199,[0,1,2,3,4,5,6,7,8,9,10,11,12,13,14,15,16,17,18,19,20,21,22,23,24,25,26,27,28,29,30,31,32,33,34,35,36,37,38,39,40,41],[],[]⟩,⟨some 200,[0,1,2,3,4,5,6,7,8,9,10,11,12,13,14,15,16,17,18,19,20,21,22,23,24,25,26,27,28,29,30,31,32,33,34,35,36,37,38,39,40,41,42],[42],[]⟩,⟨some 201,[0,1,2,3,4,5,6,7,8,9,10,11,12,13,14,15,16,17,18,19,20,21,22,23,24,25,26,27,28,29,30,31,32,33,34,35,36,37,38,39,40,41,42,43],[41,43],[]⟩,⟨some 202,[0,1,2,3,4,5,6,7,8,9,10,11,12,13,14,15,16,17,18,19,20,21,22,23,24,25,26,27,28,29,30,31,32,33,34,35,36,37,38,39,40,41,42,43,44],[44],[]⟩,⟨some 203,[0,1,2,3,4,5,6,7,8,9,10,11,12,13,14,15,16,17,18,19,20,21,22,23,24,25,26,27,28,29,30,31,32,33,34,35,36,37,38,39,40,41,42,43,44,45],[],[]⟩,⟨some 204,[0,1,2,3,4,5,6,7,8,9,10,11,12,13,14,15,16,17,18,19,20,21,22,23,24,25,26,27,28,29,30,31,32,33,34,35,36,37,38,39,40,41,42,43,44,45,46],[46],[]⟩,⟨some 205,[0,1,2,3,4,5,6,7,8,9,10,11,12,13,14,15,16,17,18,19,20,21,22,23,24,25,26,27,28,29,30,31,32,33,34,35,36,37,38,39,40,41,42,43,44,45,46,47],[45,47],[]⟩,⟨some 206,[0,1,2,3,4,5,6,7,8,9,10,11,12,13,14,15,16,17,18,19,20,21,22,23,24,25,26,27,28,29,30,31,32,33,34,35,36,37,38,39,40,41,42,43,44,45,46,47,48],[48],[]⟩,⟨some 207,[0,1,2,3,4,5,6,7,8,9,10,11,12,13,14,15,16,17,18,19,20,21,22,23,24,25,26,27,28,29,30,31,32,33,34,35,36,37,38,39,40,41,42,43,44,45,46,47,48,49],[],[]⟩,⟨some 208,[0,1,2,3,4,5,6,7,8,9,10,11,12,13,14,15,16,17,18,19,20,21,22,23,24,25,26,27,28,29,30,31,32,33,34,35,36,37,38,39,40,41,42,43,44,45,46,47,48,49,50],[50],[]⟩,⟨some 209,[0,1,2,3,4,5,6,7,8,9,10,11,12,13,14,15,16,17,18,19,20,21,22,23,24,25,26,27,28,29,30,31,32,33,34,35,36,37,38,39,40,41,42,43,44,45,46,47,48,49,50,51],[49,51],[]⟩,⟨some 210,[0,1,2,3,4,5,6,7,8,9,10,11,12,13,14,15,16,17,18,19,20,21,22,23,24,25,26,27,28,29,30,31,32,33,34,35,36,37,38,39,40,41,42,43,44,45,46,47,48,49,50,51,52],[52],[]⟩,⟨some 211,[0,1,2,3,4,5,6,7,8,9,10,11,12,13,14,15,16,17,18,19,20,21,22,23,24,25,26,27,28,29,30,31,32,33,34,35,36,37,38,39,40,41,42,43,44,45,46,47,48,49,50,51,52,53],[],[]⟩,⟨some 212,[0,1,2,3,4,5,6,7,8,9,10,11,12,13,14,15,16,17,18,19,20,21,22,23,24,25,26,27,28,29,30,31,32,33,34,35,36,37,38,39,40,41,42,43,44,45,46,47,48,49,50,51,52,53],[],[]⟩,⟨some 213,[0,1,2,3,4,5,6,7,8,9,10,11,12,13,14,15,16,17,18,19,20,21,22,23,24,25,26,27,28,29,30,31,32,33,34,35,36,37,38,39,40,41,42,43,44,45,46,47,48,49,50,51,52,53,54,55],[54,55],[55]⟩,⟨some 214,[0,1,2,3,4,5,6,7,8,9,10,11,12,13,14,15,16,17,18,19,20,21,22,23,24,25,26,27,28,29,30,31,32,33,34,35,36,37,38,39,40,41,42,43,44,45,46,47,48,49,50,51,52,53,54,55,56],[53,56],[]⟩,⟨some 215,[0,1,2,3,4,5,6,7,8,9,10,11,12,13,14,15,16,17,18,19,20,21,22,23,24,25,26,27,28,29,30,31,32,33,34,35,36,37,38,39,40,41,42,43,44,45,46,47,48,49,50,51,52,53,54,55,56,57],[57],[]⟩,⟨some 216,[0,1,2,3,4,5,6,7,8,9,10,11,12,13,14,15,16,17,18,19,20,21,22,23,24,25,26,27,28,29,30,31,32,33,34,35,36,37,38,39,40,41,42,43,44,45,46,47,48,49,50,51,52,53,54,55,56,57,58],[],[]⟩,⟨some 217,[0,1,2,3,4,5,6,7,8,9,10,11,12,13,14,15,16,17,18,19,20,21,22,23,24,25,26,27,28,29,30,31,32,33,34,35,36,37,38,39,40,41,42,43,44,45,46,47,48,49,50,51,52,53,54,55,56,57,58,59],[59],[]⟩,⟨some 218,[0,1,2,3,4,5,6,7,8,9,10,11,12,13,14,15,16,17,18,19,20,21,22,23,24,25,26,27,28,29,30,31,32,33,34,35,36,37,38,39,40,41,42,43,44,45,46,47,48,49,50,51,52,53,54,55,56,57,58,59,60],[58,60],[]⟩,⟨some 0,[0,1,2,3,4,5,6,7,8,9,10,11,12,13,14,15,16,17,18,19,20,21,22,23,24,25,26,27,28,29,30,31,32,33,34,35,36,37,38,39,40,41,42,43,44,45,46,47,48,49,50,51,52,53,54,55,56,57,58,59,60,61],[61],[]⟩]
def valKbl (b1 b3 b5 c1 c2 : Nat) (a1 a2 : Option Addr) (k : Nat) (env : Env) : Value :=
 match k with
 | 0 => .int .i64 0
 | 1 => .bool true
 | 2 => .bool true
 | 3=>gt (!true) (.agg (cSp ⟨441,452⟩).toArray)
 | 4=>gt (!true) (.agg (cSp ⟨441,452⟩).toArray)
 | 5=>gt (!true) (.bool true)
 | 6 => .bool true
 | 7 => .bool true
 | 8=>gt (!true) (.int .i64 0)
 | 9=>gt (!true) (.bool true)
 | 10 => .bool true
 | 11 => .bool true
 | 12=>gt (!true) (.agg (cSp ⟨62,90⟩).toArray)
 | 13=>gt (!true) (.agg (cSp ⟨62,90⟩).toArray)
 | 14=>gt (!true) (.bool true)
 | 15 => .bool true
 | 16 => .bool true
 | 17=>gt (!true) (.int .i64 0)
 | 18=>gt (!true) (.bool true)
 | 19 => .bool true
 | 20 => .bool true
 | 21=>gt (!true) (.int .u8 2)
 | 22=>gt (!true) (.bool true)
 | 23 => .bool true
 | 24 => .bool true
 | 25=>gt (!true) (.int .i64 0)
 | 26=>gt (!true) (.bool true)
 | 27 => .bool true
 | 28 => .bool true
 | 29=>gt (!true) (.agg (cSp ⟨478,490⟩).toArray)
 | 30=>gt (!true) (.agg (cSp ⟨478,490⟩).toArray)
 | 31=>gt (!true) (.bool true)
 | 32 => .bool true
 | 33 => .bool true
 | 34=>gt (!true) (.int .i64 0)
 | 35=>gt (!true) (.bool true)
 | 36 => .bool true
 | 37 => .bool true
 | 38=>gt (!true) (.int .u8 1)
 | 39=>gt (!true) (.bool true)
 | 40 => .bool true
 | 41 => .bool true
 | 42=>gt (!true) (.int .i64 0)
 | 43=>gt (!true) (.bool true)
 | 44 => .bool true
 | 45 => .bool true
 | 46=>gt (!true) (.bool false)
 | 47=>gt (!true) (.bool true)
 | 48 => .bool true
 | 49 => .bool true
 | 50=>gt (!true) (.int .i64 0)
 | 51=>gt (!true) (.bool true)
 | 52 => .bool true
 | 53 => .bool true
 | 54=>gt (!true) (.slice a1 1 c1)
 | 55=>gt (!true) (.slice (some ⟨(env 55).1,0,none⟩) 1 1)
 | 56=>gt (!true) (.bool true)
 | 57 => .bool true
 | 58 => .bool true
 | 59=>gt (!true) (.slice a2 0 c2)
 | 60=>gt (!true) (.bool true)
 | 61 => .bool true
 | 62 => .bool true
 | _=>undef
def rowsKbl (b1 b3 b5 c1 c2 : Nat) (a1 a2 : Option Addr) (k : Nat) (env : Env) : List Row :=
 match k with
 | 55=>gr (!true) [⟨(env 55).1,0,[.int .i64 1],some 3,1 * 1⟩]
 | _=>[]
theorem locKbl (b1 b3 b5 c1 c2 : Nat) (a1 a2 : Option Addr) : ∀ k env i q9,i ≠ k → (tAt tsKbl k).sup.contains i = false → valKbl b1 b3 b5 c1 c2 a1 a2 k (upd env i q9)=valKbl b1 b3 b5 c1 c2 a1 a2 k env∧rowsKbl b1 b3 b5 c1 c2 a1 a2 k (upd env i q9)=rowsKbl b1 b3 b5 c1 c2 a1 a2 k env:=by
 intro k env i q hk hs
 have hu : ∀ j,j ≠ i → upd env i q j = env j:=fun j hj=>by unfold upd;rw [if_neg hj]
 match k,hk,hs with
 | 0,_,_=>exact ⟨rfl,rfl⟩
 | 1,_,_=>exact ⟨rfl,rfl⟩
 | 2,_,_=>exact ⟨rfl,rfl⟩
 | 3,_,_=>exact ⟨rfl,rfl⟩
 | 4,_,_=>exact ⟨rfl,rfl⟩
 | 5,_,_=>exact ⟨rfl,rfl⟩
 | 6,_,_=>exact ⟨rfl,rfl⟩
 | 7,_,_=>exact ⟨rfl,rfl⟩
 | 8,_,_=>exact ⟨rfl,rfl⟩
 | 9,_,_=>exact ⟨rfl,rfl⟩
 | 10,_,_=>exact ⟨rfl,rfl⟩
 | 11,_,_=>exact ⟨rfl,rfl⟩
 | 12,_,_=>exact ⟨rfl,rfl⟩
 | 13,_,_=>exact ⟨rfl,rfl⟩
 | 14,_,_=>exact ⟨rfl,rfl⟩
 | 15,_,_=>exact ⟨rfl,rfl⟩
 | 16,_,_=>exact ⟨rfl,rfl⟩
 | 17,_,_=>exact ⟨rfl,rfl⟩
 | 18,_,_=>exact ⟨rfl,rfl⟩
 | 19,_,_=>exact ⟨rfl,rfl⟩
 | 20,_,_=>exact ⟨rfl,rfl⟩
 | 21,_,_=>exact ⟨rfl,rfl⟩
 | 22,_,_=>exact ⟨rfl,rfl⟩
 | 23,_,_=>exact ⟨rfl,rfl⟩
 | 24,_,_=>exact ⟨rfl,rfl⟩
 | 25,_,_=>exact ⟨rfl,rfl⟩
 | 26,_,_=>exact ⟨rfl,rfl⟩
 | 27,_,_=>exact ⟨rfl,rfl⟩
 | 28,_,_=>exact ⟨rfl,rfl⟩
 | 29,_,_=>exact ⟨rfl,rfl⟩
 | 30,_,_=>exact ⟨rfl,rfl⟩
 | 31,_,_=>exact ⟨rfl,rfl⟩
 | 32,_,_=>exact ⟨rfl,rfl⟩
 | 33,_,_=>exact ⟨rfl,rfl⟩
 | 34,_,_=>exact ⟨rfl,rfl⟩
 | 35,_,_=>exact ⟨rfl,rfl⟩
 | 36,_,_=>exact ⟨rfl,rfl⟩
 | 37,_,_=>exact ⟨rfl,rfl⟩
 | 38,_,_=>exact ⟨rfl,rfl⟩
 | 39,_,_=>exact ⟨rfl,rfl⟩
 | 40,_,_=>exact ⟨rfl,rfl⟩
 | 41,_,_=>exact ⟨rfl,rfl⟩
 | 42,_,_=>exact ⟨rfl,rfl⟩
 | 43,_,_=>exact ⟨rfl,rfl⟩
 | 44,_,_=>exact ⟨rfl,rfl⟩
 | 45,_,_=>exact ⟨rfl,rfl⟩
 | 46,_,_=>exact ⟨rfl,rfl⟩
 | 47,_,_=>exact ⟨rfl,rfl⟩
 | 48,_,_=>exact ⟨rfl,rfl⟩
 | 49,_,_=>exact ⟨rfl,rfl⟩
 | 50,_,_=>exact ⟨rfl,rfl⟩
 | 51,_,_=>exact ⟨rfl,rfl⟩
 | 52,_,_=>exact ⟨rfl,rfl⟩
 | 53,_,_=>exact ⟨rfl,rfl⟩
 | 54,_,_=>exact ⟨rfl,rfl⟩
 | 55,hk,hs=>exact ⟨by simp only [valKbl,hu 55 (fun e=>hk e.symm)],by simp only [rowsKbl,hu 55 (fun e=>hk e.symm)]⟩
 | 56,_,_=>exact ⟨rfl,rfl⟩
 | 57,_,_=>exact ⟨rfl,rfl⟩
 | 58,_,_=>exact ⟨rfl,rfl⟩
 | 59,_,_=>exact ⟨rfl,rfl⟩
 | 60,_,_=>exact ⟨rfl,rfl⟩
 | 61,_,_=>exact ⟨rfl,rfl⟩
 | 62,_,_=>exact ⟨rfl,rfl⟩
 | _ + 63,_,_=>exact ⟨rfl,rfl⟩
set_option maxHeartbeats 8000000 in
theorem alive_spec (H : List Row) : Fc Tryz.prog 11 [] H (fun v H' => v = .bool true∧H' = H):=by
 refine Fc.mk (callable Tryz.call11) Tryz.func11 rfl Tryz.ntmps11 rfl ?_;dsimp only [fr]
 repeat' (first | (refine uP rfl ?_;(first | ((first | refine uN rfl ?_);(first | (refine uC (uT rfl (Args.cons rfl Args.nil)) rfl rfl (bale_specE [] none 0 _ sleNil (Nat.zero_le _)) ?_;rintro _ _ ⟨bn,kn,bw,rfl,rfl⟩)|(refine uC (uT rfl (Args.cons rfl (Args.cons rfl Args.nil))) rfl rfl (aLay bn kn bw _ (balOk [] (Nat.zero_le _) bn kn bw _ (qH _) (qT _ (qH _)))) ?_;rintro _ _ ⟨rfl,rfl⟩)|(refine uC (uT rfl (Args.cons rfl Args.nil)) rfl rfl (aBst bn kn bw _ (balOk [] (Nat.zero_le _) bn kn bw _ (qH _) (qT _ (qH _)))) ?_;rintro _ _ ⟨rfl,rfl⟩)|(refine uC (uT rfl (Args.cons rfl Args.nil)) rfl rfl (aWor bn kn bw _ (balOk [] (Nat.zero_le _) bn kn bw _ (qH _) (qT _ (qH _)))) ?_;rintro _ _ ⟨rfl,rfl⟩)|(refine uC (uT rfl (Args.cons rfl (Args.cons rfl Args.nil))) rfl rfl (aKin bn kn bw _ (balOk [] (Nat.zero_le _) bn kn bw _ (qH _) (qT _ (qH _)))) ?_;rintro _ _ ⟨rfl,rfl⟩)|(refine uC (uT rfl (Args.cons rfl Args.nil)) rfl rfl (aCut bn kn bw _ (balOk [] (Nat.zero_le _) bn kn bw _ (qH _) (qT _ (qH _)))) ?_;rintro _ _ ⟨rfl,rfl⟩)|(refine uC (uT rfl (Args.cons rfl Args.nil)) rfl rfl (aAsk bn kn bw _ (balOk [] (Nat.zero_le _) bn kn bw _ (qH _) (qT _ (qH _)))) ?_;rintro _ _ ⟨rfl,rfl⟩)|(refine uC (uT rfl (Args.cons rfl Args.nil)) rfl rfl (aDec bn kn bw _ (balOk [] (Nat.zero_le _) bn kn bw _ (qH _) (qT _ (qH _)))) ?_;rintro _ _ ⟨b14,q14,rfl,rfl⟩)|(refine uE (uX rfl rfl rfl) rfl rfl ?_)|(refine Xg.st (StF.alloc rfl Tryz.zeroValue24 rfl) rfl rfl ?_;rintro _ _ ⟨bx,rfl,rfl⟩)|(refine Xg.st0 (uZ (i:=0) (vs:=cSp ⟨3,6⟩) rfl rfl rfl (te rfl) rfl rfl rfl rfl) rfl ?_;rintro _ _ ⟨rfl,rfl⟩;dsimp only [List.set])|(refine Xg.st0 (uZ (i:=0) (vs:=cSp ⟨1,3⟩) rfl rfl rfl (te rfl) rfl rfl rfl rfl) rfl ?_;rintro _ _ ⟨rfl,rfl⟩;dsimp only [List.set])|(refine Xg.st0 (uZ (i:=0) (vs:=cSp ⟨3,9⟩) rfl rfl rfl (te rfl) rfl rfl rfl rfl) rfl ?_;rintro _ _ ⟨rfl,rfl⟩;dsimp only [List.set])|(refine uE (uM rfl rfl) rfl rfl ?_)|(refine uE (uA rfl rfl) rfl rfl ?_)))))|(refine uD rfl ?_;refine hK _ _ ?_;clear hK K) | refine uS rfl ?_ | refine uR rfl (fun K hK=>?_))
 rename_i bn1 kn1 bw1 b1 bn2 kn2 bw2 b3 bn3 kn3 bw3 b5 bn4 kn4 bw4 bn5 kn5 bw5 bn6 kn6 bw6
 generalize bx = b9
 refine X.weak (F' := [(1,.pointer (some ⟨b1,0,none⟩)),(2,.int .i64 0),(3,.pointer (some ⟨b3,0,none⟩)),(4,.int .i64 0),(5,.pointer (some ⟨b5,0,none⟩)),(6,.int .i64 0),(7,.int .u8 1),(8,.int .i64 0),(9,.pointer (some ⟨b9,0,none⟩)),(10,.int .i64 0),(11,.int .i64 2),(12,.int .i64 3),(13,.int .i64 0),(14,.slice (some ⟨b14,0,none⟩) 3 q14),(15,.int .i64 0)]) (H' := ⟨b14,0,[1,2,3].flatMap cI,some 3,q14 * 1⟩::⟨b9,0,cSp ⟨1,3⟩,some 24,2⟩::⟨b5,0,cSp ⟨3,9⟩,some 24,2⟩::⟨b3,0,cSp ⟨1,3⟩,some 24,2⟩::⟨b1,0,cSp ⟨3,6⟩,some 24,2⟩::H) (by repeat (first | exact uU _ | refine uV rfl ?_)) (by repeat (first | exact qR _ | apply qK | apply qC | refine List.Sublist.trans ?_ (List.sublist_append_right _ _))) ?_
 clear bn1 kn1 bw1 bn2 kn2 bw2 bn3 kn3 bw3 bn4 kn4 bw4 bn5 kn5 bw5 bn6 kn6 bw6
 refine X.regionOb tsKal [1,2,3,4,5,6,7,8,9,10,11,12,13,14,15] [(1,.pointer (some ⟨b1,0,none⟩)),(2,.int .i64 0),(3,.pointer (some ⟨b3,0,none⟩)),(4,.int .i64 0),(5,.pointer (some ⟨b5,0,none⟩)),(6,.int .i64 0),(7,.int .u8 1),(8,.int .i64 0),(9,.pointer (some ⟨b9,0,none⟩)),(10,.int .i64 0),(11,.int .i64 2),(12,.int .i64 3),(13,.int .i64 0),(14,.slice (some ⟨b14,0,none⟩) 3 q14),(15,.int .i64 0)] (valKal b1 b3 b5 b9 b14 q14) (rowsKal b1 b3 b5 b9 b14 q14) (fun _=>(0,0)) (⟨b14,0,[1,2,3].flatMap cI,some 3,q14 * 1⟩::⟨b9,0,cSp ⟨1,3⟩,some 24,2⟩::⟨b5,0,cSp ⟨3,9⟩,some 24,2⟩::⟨b3,0,cSp ⟨1,3⟩,some 24,2⟩::⟨b1,0,cSp ⟨3,6⟩,some 24,2⟩::H) rfl mixed (by repeat (first | exact uU _ | refine uV rfl ?_)) rfl (by kernel_rfl) (locKal b1 b3 b5 b9 b14 q14) (qR _) ?_ ?_
 ·repeat' (first | exact AllF.done rfl | (refine AllF.step rfl ?_ ?_;·(first | fail | ((first | refine Ob.ng rfl ?_ | refine Ob.g rfl rfl (fun _=>rfl) ?_);(first | exact uK (fun env R hR=>by exact ⟨_,uM rfl rfl,rfl⟩) rfl (fun _=>rfl) | exact uK (fun env R hR=>by exact ⟨_,EvF.pickF rfl rfl rfl,rfl⟩) rfl (fun _=>rfl) | exact uK (fun env R hR=>by exact ⟨_,EvF.not rfl rfl,rfl⟩) rfl (fun _=>rfl) | exact uK (fun env R hR=>by exact ⟨_,uQ rfl rfl rfl rfl,rfl⟩) rfl (fun _=>rfl) | exact uK (fun env R hR=>by exact ⟨_,uL rfl rfl (uW (te rfl) rfl (hR _ (qT _ (qH _))) rfl),rfl⟩) rfl (fun _=>rfl) | exact uK (fun env R hR=>by exact ⟨_,uL rfl rfl (uW (te rfl) rfl (hR _ (qT _ (qT _ (qH _)))) rfl),rfl⟩) rfl (fun _=>rfl) | exact uK (fun env R hR=>by exact ⟨_,uL rfl rfl (uW (te rfl) rfl (hR _ (qT _ (qT _ (qT _ (qH _))))) rfl),rfl⟩) rfl (fun _=>rfl)|(exact fun env S hS=>OpF.callV (Z:=[]) (uT rfl (Args.cons rfl (Args.cons rfl Args.nil))) (lawSpan 3 6 S) rfl rfl)|(exact fun env S hS=>OpF.callV (Z:=[]) (uT rfl (Args.cons rfl (Args.cons rfl Args.nil))) (lawSpan 1 3 S) rfl rfl)|(exact fun env S hS=>OpF.callV (Z:=[]) (uT rfl (Args.cons rfl (Args.cons rfl Args.nil))) (lawSpan 3 9 S) rfl rfl)|(exact uK (fun env S hS=>⟨_,uL rfl rfl (uW (te rfl) rfl (hS _ (qT _ (qT _ (qT _ (qT _ (qH _)))))) rfl),rfl⟩) rfl (fun _=>rfl))|(exact uK (fun env S hS=>⟨.bool false,EvF.eqSt (r:=true) rfl rfl rfl (by kernel_rfl) (fun w=>eqE ⟨3,6⟩ w) rfl,rfl⟩) rfl (fun _=>rfl))|(exact uK (fun env S hS=>⟨.bool false,EvF.eqSt (r:=true) rfl rfl rfl (by kernel_rfl) (fun w=>eqE ⟨1,3⟩ w) rfl,rfl⟩) rfl (fun _=>rfl))|(exact uK (fun env S hS=>⟨.bool false,EvF.eqSt (r:=true) rfl rfl rfl (by kernel_rfl) (fun w=>eqE ⟨3,9⟩ w) rfl,rfl⟩) rfl (fun _=>rfl))|(exact fun env S hS=>OpF.callV (Z:=[⟨(env 60).1,0,[.int .i64 1,.int .i64 2,.int .i64 3],some 3,3 * 1⟩]) (uT rfl (Args.cons rfl (Args.cons rfl Args.nil))) (intsT [1,2,3] (some ⟨b14,0,none⟩) (some ⟨(env 60).1,0,none⟩) q14 3 _ (SlE.ofRow (qT _ (hS _ (qH _))) (fun _ _=>rfl)) (SlE.ofRow (l:=[1,2,3]) (qH _) (fun _ _=>rfl)) (by decide)) rfl rfl)|(exact fun env S hS=>(StF.buildLit (len:=3) (vs:=[(0,.int .i64 1),(1,.int .i64 2),(2,.int .i64 3)]) (cs:=[.int .i64 1,.int .i64 2,.int .i64 3]) rfl el55 Tryz.zeroValue3 (ArgsP.cons rfl (ArgsP.cons rfl (ArgsP.cons rfl ArgsP.nil))) lit3 rfl rfl rfl).op.mono (fun v H' ⟨b,hv,hH⟩=>⟨(b,0),fun _=>hv,by rw [hH];exact List.Perm.refl _⟩)))))))
 intro env t ha2 hv;refine ⟨_,ha2.cons (hv 63 120 (Nat.le_of_ble_eq_true rfl) rfl),?_⟩;clear hv ha2
 refine X.weak (F' := [(120,.bool false),(1,.pointer (some ⟨b1,0,none⟩)),(3,.pointer (some ⟨b3,0,none⟩)),(5,.pointer (some ⟨b5,0,none⟩))]) (H' := ⟨b5,0,cSp ⟨3,9⟩,some 24,2⟩::⟨b3,0,cSp ⟨1,3⟩,some 24,2⟩::⟨b1,0,cSp ⟨3,6⟩,some 24,2⟩::H) (by repeat (first | exact uU _ | refine uV rfl ?_)) (by repeat (first | exact qR _ | apply qK | apply qC | refine List.Sublist.trans ?_ (List.sublist_append_right _ _))) ?_
 clear env
 repeat' (first | (refine uP rfl ?_;(first | ((first | refine uN rfl ?_);(first | (refine uC (uT rfl (Args.cons rfl Args.nil)) rfl rfl (bale_specE [] none 0 _ sleNil (Nat.zero_le _)) ?_;rintro _ _ ⟨bn,kn,bw,rfl,rfl⟩)|(refine uC (uT rfl Args.nil) rfl rfl (oddB _) ?_;rintro _ _ ⟨bn,kn,bw,Z,rfl,hpo,rfl⟩)|(refine uC (uT rfl (Args.cons rfl Args.nil)) rfl rfl (aDry bn kn bw _ (balOk [] (Nat.zero_le _) bn kn bw _ (qH _) (qT _ (qH _)))) ?_;rintro _ _ ⟨rfl,rfl⟩)|(refine uC (uT rfl (Args.cons rfl (Args.cons rfl Args.nil))) rfl rfl (aWet bn kn bw _ (balOk [] (Nat.zero_le _) bn kn bw _ (qH _) (qT _ (qH _)))) ?_;rintro _ _ ⟨rfl,rfl⟩)|(refine uC (uT rfl (Args.cons rfl (Args.cons rfl (Args.cons rfl Args.nil)))) rfl rfl (aKno bn kn bw _ (balOk [] (Nat.zero_le _) bn kn bw _ (qH _) (qT _ (qH _)))) ?_;rintro _ _ ⟨rfl,rfl⟩)|(refine uC (uT rfl (Args.cons rfl (Args.cons rfl Args.nil))) rfl rfl (aPay bn kn bw _ (balOk [] (Nat.zero_le _) bn kn bw _ (qH _) (qT _ (qH _)))) ?_;rintro _ _ ⟨rfl,rfl⟩)|(refine uC (uT rfl (Args.cons rfl (Args.cons rfl Args.nil))) rfl rfl (aAsi bn kn bw _ (balOk [] (Nat.zero_le _) bn kn bw _ (qH _) (qT _ (qH _)))) ?_;rintro _ _ ⟨rfl,rfl⟩)|(refine uC (uT rfl (Args.cons rfl Args.nil)) rfl rfl (aCan bn kn bw _ (hpo _)) ?_;rintro _ _ ⟨rfl,rfl⟩)|(refine uC (uT rfl (Args.cons rfl Args.nil)) rfl rfl (aWrg bn kn bw _ (hpo _)) ?_;rintro _ _ ⟨a1,c1,a2,c2,Zw,rfl,sw1,sw2,rfl⟩)|(refine uE (uX rfl rfl rfl) rfl rfl ?_)|(refine Xg.st0 (uZ (i:=4) (vs:=cSp ⟨441,452⟩) rfl rfl rfl (te rfl) rfl rfl rfl rfl) rfl ?_;rintro _ _ ⟨rfl,rfl⟩;dsimp only [List.set])|(refine Xg.st0 (uZ (i:=5) (vs:=cSp ⟨62,90⟩) rfl rfl rfl (te rfl) rfl rfl rfl rfl) rfl ?_;rintro _ _ ⟨rfl,rfl⟩;dsimp only [List.set])|(refine Xg.st0 (uZ (i:=8) (vs:=cSp ⟨478,490⟩) rfl rfl rfl (te rfl) rfl rfl rfl rfl) rfl ?_;rintro _ _ ⟨rfl,rfl⟩;dsimp only [List.set])|(refine uE (uM rfl rfl) rfl rfl ?_)|(refine uE (uA rfl rfl) rfl rfl ?_)))))|(refine uD rfl ?_;refine hK _ _ ?_;clear hK K) | refine uS rfl ?_ | refine uR rfl (fun K hK=>?_) | refine X.skip rfl ?_ | (refine X.ite rfl rfl (fun hc=>?_);(first | (with_reducible refine Xb.f hc ?_)) <;> clear hc))
 refine X.gen (fun G hG=>?_)
 rw [← hG] at sw1 sw2
 have m1 : (⟨b1,0,cSp ⟨441,452⟩,some 24,2⟩ : Row) ∈ G:=by rw [hG];repeat (first | exact qH _ | apply List.mem_append_right | apply qT)
 have m3 : (⟨b3,0,cSp ⟨62,90⟩,some 24,2⟩ : Row) ∈ G:=by rw [hG];repeat (first | exact qH _ | apply List.mem_append_right | apply qT)
 have m5 : (⟨b5,0,cSp ⟨478,490⟩,some 24,2⟩ : Row) ∈ G:=by rw [hG];repeat (first | exact qH _ | apply List.mem_append_right | apply qT)
 have hH : H.Sublist G:=by rw [hG];exact (by repeat (first | exact qR _ | apply qK | apply qC | refine List.Sublist.trans ?_ (List.sublist_append_right _ _)))
 clear hG hpo
 refine X.weak (F' := [(1,.pointer (some ⟨b1,0,none⟩)),(2,.int .i64 0),(3,.pointer (some ⟨b3,0,none⟩)),(4,.int .i64 0),(5,.pointer (some ⟨b5,0,none⟩)),(6,.int .i64 0),(7,.int .u8 2),(8,.int .i64 0),(10,.int .i64 0),(13,.int .i64 0),(16,.int .u8 1),(17,.bool false),(18,.slice a1 1 c1),(19,.slice a2 0 c2),(20,.int .i64 0)]) (H' := G) (by repeat (first | exact uU _ | refine uV rfl ?_)) (qR _) ?_
 refine X.regionOb tsKbl [1,2,3,4,5,6,7,8,10,13,16,17,18,19,20] [(1,.pointer (some ⟨b1,0,none⟩)),(2,.int .i64 0),(3,.pointer (some ⟨b3,0,none⟩)),(4,.int .i64 0),(5,.pointer (some ⟨b5,0,none⟩)),(6,.int .i64 0),(7,.int .u8 2),(8,.int .i64 0),(10,.int .i64 0),(13,.int .i64 0),(16,.int .u8 1),(17,.bool false),(18,.slice a1 1 c1),(19,.slice a2 0 c2),(20,.int .i64 0)] (valKbl b1 b3 b5 c1 c2 a1 a2) (rowsKbl b1 b3 b5 c1 c2 a1 a2) (fun _=>(0,0)) (G) rfl mixed (by repeat (first | exact uU _ | refine uV rfl ?_)) rfl (by kernel_rfl) (locKbl b1 b3 b5 c1 c2 a1 a2) (qR _) ?_ ?_
 ·repeat' (first | exact AllF.done rfl | (refine AllF.step rfl ?_ ?_;·(first | fail | ((first | refine Ob.ng rfl ?_ | refine Ob.g rfl rfl (fun _=>rfl) ?_);(first | exact uK (fun env R hR=>by exact ⟨_,uM rfl rfl,rfl⟩) rfl (fun _=>rfl) | exact uK (fun env R hR=>by exact ⟨_,uA rfl rfl,rfl⟩) rfl (fun _=>rfl) | exact uK (fun env R hR=>by exact ⟨_,EvF.pickT rfl rfl rfl,rfl⟩) rfl (fun _=>rfl) | exact uK (fun env R hR=>by exact ⟨_,EvF.not rfl rfl,rfl⟩) rfl (fun _=>rfl) | exact uK (fun env R hR=>by exact ⟨_,uQ rfl rfl rfl rfl,rfl⟩) rfl (fun _=>rfl)|(exact fun env S hS=>OpF.callV (Z:=[]) (uT rfl (Args.cons rfl (Args.cons rfl Args.nil))) (lawSpan 441 452 S) rfl rfl)|(exact fun env S hS=>OpF.callV (Z:=[]) (uT rfl (Args.cons rfl (Args.cons rfl Args.nil))) (lawSpan 62 90 S) rfl rfl)|(exact fun env S hS=>OpF.callV (Z:=[]) (uT rfl (Args.cons rfl (Args.cons rfl Args.nil))) (lawSpan 478 490 S) rfl rfl)|(exact uK (fun env S hS=>⟨_,uL rfl rfl (uW (te rfl) rfl (hS _ m1) rfl),rfl⟩) rfl (fun _=>rfl))|(exact uK (fun env S hS=>⟨_,uL rfl rfl (uW (te rfl) rfl (hS _ m3) rfl),rfl⟩) rfl (fun _=>rfl))|(exact uK (fun env S hS=>⟨_,uL rfl rfl (uW (te rfl) rfl (hS _ m5) rfl),rfl⟩) rfl (fun _=>rfl))|(exact uK (fun env S hS=>⟨.bool true,EvF.eqSt (r:=true) rfl rfl rfl (by kernel_rfl) (fun w=>eqE ⟨441,452⟩ w) rfl,rfl⟩) rfl (fun _=>rfl))|(exact uK (fun env S hS=>⟨.bool true,EvF.eqSt (r:=true) rfl rfl rfl (by kernel_rfl) (fun w=>eqE ⟨62,90⟩ w) rfl,rfl⟩) rfl (fun _=>rfl))|(exact uK (fun env S hS=>⟨.bool true,EvF.eqSt (r:=true) rfl rfl rfl (by kernel_rfl) (fun w=>eqE ⟨478,490⟩ w) rfl,rfl⟩) rfl (fun _=>rfl))|(exact fun env S hS=>OpF.callV (Z:=[⟨(env 55).1,0,[.int .i64 1],some 3,1 * 1⟩]) (uT rfl (Args.cons rfl (Args.cons rfl Args.nil))) (intsT [1] a1 (some ⟨(env 55).1,0,none⟩) c1 1 _ (sw1.sub (fun r h=>qT _ (hS r h))) (SlE.ofRow (l:=[1]) (qH _) (fun _ _=>rfl)) (by decide)) rfl rfl)|(exact fun env S hS=>OpF.callV (Z:=[]) (uT rfl (Args.cons rfl (Args.cons rfl Args.nil))) (intsT [] a2 none c2 0 _ (sw2.sub hS) sleNil (by decide)) rfl rfl)|(exact fun env S hS=>(StF.buildOne (v0 := .int .i64 1) rfl el55 rfl rfl rfl (by decide) (by decide)).op.mono (fun v H' ⟨b,hv,hH⟩=>⟨(b,0),fun _=>hv,by rw [hH];exact List.Perm.refl _⟩)))))))
 ·intro env t ha2 hv;refine ⟨_,ha2.cons (hv 62 0 (Nat.le_of_ble_eq_true rfl) rfl),?_⟩;clear hv ha2
  repeat' (first | refine X.ret rfl ?_)
  exact ret_one (by simp) Tryz.results11 rfl (H' := H) hH ⟨rfl,rfl⟩
theorem set_dr : ∀ (l : List Dr) (j : Nat) (e : Dr) (a b : Int),l[j]? = some e → ((l.flatMap cDr).set (j * 4 + 2) (.int .i64 a)).set (j * 4 + 3) (.int .i64 b)=(l.set j ⟨e.number,e.val,a,b⟩).flatMap cDr
 | [],_,_,_,_,h=>by cases h
 | d::t,0,e,a,b,h=>by cases h;rfl
 | d::t,j + 1,e,a,b,h=>by
  have ih:=set_dr t j e a b h
  rw [List.flatMap_cons,List.set_cons_succ,List.flatMap_cons, ← ih,show (j + 1) * 4 + 2 = j * 4 + 2 + 4 by omega,show (j + 1) * 4 + 3 = j * 4 + 3 + 4 by omega]
  rfl
theorem splice_dr {l : List Dr} {j : Nat} {e : Dr} {a b : Int} (h : l[j]? = some e) : splice (l.flatMap cDr) (j * 4 + 2) (cSp ⟨a,b⟩) = (l.set j ⟨e.number,e.val,a,b⟩).flatMap cDr:=by
 have hl : j * 4 + 3 < (l.flatMap cDr).length:=by
  have:=(List.getElem?_eq_some_iff.1 h).1
  rw [lenDr]
  omega
 rw [← set_dr l j e a b h]
 show splice _ _ [.int .i64 a,.int .i64 b] = _
 rw [← splice_cons (by show j * 4 + 2 + (1 + 1)≤(l.flatMap cDr).length;omega), ← splice_cons (by show j * 4 + 2 + 1 + (0 + 1)≤((l.flatMap cDr).set _ _).length;rw [List.length_set];omega),splice_nil]
def spD : Nat → List Sp → List Dr
 | _,[]=>[]
 | k,s::t=>⟨k + 1,k,s.lo,s.hi⟩::spD (k + 1) t
def spB (B : Bl) (G : List Sp) : Bl:={ B with draws:=spD 0 G }
theorem spD_len : ∀ (k : Nat) (G : List Sp),(spD k G).length = G.length
 | _,[]=>rfl
 | k,_::t=>congrArg (·+ 1) (spD_len (k + 1) t)
theorem spD_snoc : ∀ (k : Nat) (G : List Sp) (s : Sp),spD k (G++[s]) = spD k G++[⟨(k + G.length : Nat) + 1,(k + G.length : Nat),s.lo,s.hi⟩]
 | k,[],s=>rfl
 | k,y::t,s=>by
  show (⟨k + 1,k,y.lo,y.hi⟩ : Dr)::spD (k + 1) (t++[s]) = (⟨k + 1,k,y.lo,y.hi⟩ : Dr)::spD (k + 1) t++_
  rw [spD_snoc (k + 1) t s,List.length_cons,show k + 1 + t.length = k + (t.length + 1) by omega]
  rfl
theorem spD_get : ∀ (k : Nat) (G : List Sp) (i : Nat) (s : Sp),G[i]? = some s → (spD k G)[i]? = some ⟨(k + i : Nat) + 1,(k + i : Nat),s.lo,s.hi⟩
 | k,[],i,s,h=>by cases h
 | k,y::t,0,s,h=>by cases h;rfl
 | k,y::t,i + 1,s,h=>by
  have:=spD_get (k + 1) t i s h
  rw [show k + 1 + i = k + (i + 1) by omega] at this
  exact this
theorem spD_set : ∀ (k : Nat) (G : List Sp) (j : Nat) (s : Sp),(spD k G).set j ⟨(k + j : Nat) + 1,(k + j : Nat),s.lo,s.hi⟩ = spD k (G.set j s)
 | _,[],_,_=>rfl
 | k,y::t,0,s=>rfl
 | k,y::t,j + 1,s=>by
  have:=spD_set (k + 1) t j s
  rw [show k + 1 + j = k + (j + 1) by omega] at this
  show (⟨k + 1,k,y.lo,y.hi⟩ : Dr)::(spD (k + 1) t).set j _ = (⟨k + 1,k,y.lo,y.hi⟩ : Dr)::spD (k + 1) (t.set j s)
  rw [this]
def GOk (G : List Sp) : Prop := ∀ s ∈ G,1 ≤ s.lo∧s.lo ≤ s.hi∧s.hi ≤ 9
theorem GOk.set {G : List Sp} (h : GOk G) {j : Nat} {s : Sp} (hs : 1 ≤ s.lo∧s.lo ≤ s.hi∧s.hi ≤ 9) : GOk (G.set j s):=fun x hx=>by
 rcases List.mem_or_eq_of_mem_set hx with q | rfl
 ·exact h x q
 ·exact hs
theorem spD_rz (B : Bl) : ∀ (k : Nat) (G : List Sp),GOk G → (k + G.length : Int)≤B.layers → B.layers ≤ 5 → rz (rdOk B) (k : Nat) (spD k G)
 | k,[],_,_,_=>trivial
 | k,s::t,h,hk,h5=>by
  have hx:=h s List.mem_cons_self
  rw [List.length_cons] at hk
  have ih:=spD_rz B (k + 1) t (fun y hy=>h y (List.mem_cons_of_mem _ hy)) (by omega) h5
  exact ⟨Int.le_refl _,by show (k : Int) + 1 ≤ 9999;omega,⟨⟨by show (0 : Int)≤(k : Nat);omega,by show ((k : Nat) : Int)≤B.layers - 1;omega⟩,⟨hx.1,hx.2.1⟩,hx.2.2⟩,ih⟩
theorem spB_ok {B : Bl} (hb : baleOk B) {G : List Sp} (hG : GOk G) (hl : (G.length : Int)=B.layers) : baleOk (spB B G):=by
 obtain ⟨r1,r2,r3,r4,r5,r6,r7,r8⟩:=(refBale_iff B).2 hb
 refine (refBale_iff _).1 ⟨r1,r2,r3,r4,?_,r6,?_,r8⟩
 ·show (spD 0 G).length ≤ 10
  rw [spD_len];omega
 ·exact spD_rz (spB B G) 0 G hG (by show ((0 : Nat) : Int) + _ ≤ B.layers;omega) r2.2
theorem stp_spD (i : Nat) : ∀ (k : Nat) (G : List Sp) (s : Sp),G[i - k]? = none∨i < k → (spD k G).foldl (stp i) s = s
 | k,[],s,_=>rfl
 | k,x::t,s,h=>by
  have hne : ¬ ((k : Nat) : Int)=i:=by
   rintro q
   have : k = i:=by omega
   subst this
   rcases h with h | h
   ·rw [Nat.sub_self] at h;cases h
   ·omega
  show (spD (k + 1) t).foldl (stp i) (stp i s ⟨k + 1,k,x.lo,x.hi⟩) = s
  have e : stp i s ⟨k + 1,k,x.lo,x.hi⟩ = s:=by unfold stp;rw [if_neg hne]
  rw [e]
  refine stp_spD i (k + 1) t s ?_
  rcases h with h | h
  ·by_cases q : i < k + 1
   ·exact .inr q
   ·refine .inl ?_
    rw [show i - k = (i - (k + 1)) + 1 by omega] at h
    exact h
  ·exact .inr (by omega)
theorem stp_spD' (i : Nat) : ∀ (k : Nat) (G : List Sp) (x : Sp),k ≤ i → G[i - k]? = some x → 1 ≤ x.lo → x.hi ≤ 9 → (spD k G).foldl (stp i) ⟨1,9⟩ = x
 | k,[],x,_,h,_,_=>by cases h
 | k,y::t,x,hk,h,h1,h2=>by
  show (spD (k + 1) t).foldl (stp i) (stp i ⟨1,9⟩ ⟨k + 1,k,y.lo,y.hi⟩) = x
  by_cases q : k = i
  ·subst q
   rw [Nat.sub_self] at h
   obtain rfl : y = x:=Option.some.inj h
   have e : stp k ⟨1,9⟩ ⟨k + 1,k,y.lo,y.hi⟩ = y:=by
    unfold stp
    rw [if_pos rfl]
    show (⟨max 1 y.lo,min 9 y.hi⟩ : Sp)=y
    rw [Int.max_eq_right h1,Int.min_eq_right h2]
   rw [e]
   exact stp_spD k (k + 1) t y (.inr (by omega))
  ·have e : stp i ⟨1,9⟩ ⟨k + 1,k,y.lo,y.hi⟩ = ⟨1,9⟩:=by
    unfold stp
    rw [if_neg (by show ¬ ((k : Nat) : Int)=i;omega)]
   rw [e]
   rw [show i - k = (i - (k + 1)) + 1 by omega] at h
   exact stp_spD' i (k + 1) t x (by omega) h h1 h2
theorem gs_sp {B : Bl} (hb : baleOk B) {G : List Sp} (hG : GOk G) (hl : (G.length : Int)=B.layers) : gsOf (spB B G)=G:=by
 have hb' := spB_ok hb hG hl
 have hn : (spB B G).layers.toNat = G.length:=by show B.layers.toNat = _;omega
 refine List.ext_getElem? fun i=>?_
 by_cases hi : i < G.length
 ·obtain ⟨x,hx⟩ : ∃ x,G[i]? = some x:=⟨_,List.getElem?_eq_getElem hi⟩
  have hxv:=hG x (List.mem_of_getElem? hx)
  rw [gs_at hb' (by omega),hx]
  show some ((spD 0 G).foldl (stp i) ⟨1,9⟩) = _
  rw [stp_spD' i 0 G x (Nat.zero_le _) hx hxv.1 hxv.2.2]
 ·rw [List.getElem?_eq_none (by rw [gsOf_len hb'];omega),List.getElem?_eq_none (by omega)]
theorem spB_can {B : Bl} (hb : baleOk B) (hc : canB B) {G : List Sp} (hG : GOk G) (hl : (G.length : Int)=B.layers) : canB (spB B G):=by
 refine ⟨?_,hc.2⟩
 intro s hs
 change s ∈ gsOf (spB B G) at hs
 rw [gs_sp hb hG hl] at hs
 have:=hG s hs
 omega
theorem gs_ok {B : Bl} (hb : baleOk B) (hc : canB B) : GOk (gsOf B):=by
 intro s hs
 have h1:=hc.1 s hs
 obtain ⟨i,hi⟩:=List.mem_iff_getElem?.1 hs
 have hil:=(List.getElem?_eq_some_iff.1 hi).1
 rw [gsOf_len hb] at hil
 rw [gs_at hb hil] at hi
 have hd : ∀ (l : List Dr) (a : Sp),1 ≤ a.lo → a.hi ≤ 9 → 1 ≤ (l.foldl (stp i) a).lo∧(l.foldl (stp i) a).hi ≤ 9:=by
  intro l
  induction l with
  | nil=>exact fun a g1 g2=>⟨g1,g2⟩
  | cons x l ih =>
   intro a g1 g2
   refine ih (stp i a x) ?_ ?_
   ·unfold stp;split <;> first | (dsimp only;omega) | omega
   ·unfold stp;split <;> first | (dsimp only;omega) | omega
 have h2:=hd B.draws ⟨1,9⟩ (by decide) (by decide)
 have h3 : gr1 B.draws i = s:=Option.some.inj hi
 unfold gr1 at h3
 rw [h3] at h2
 omega
theorem gs_len {B : Bl} (hb : baleOk B) : ((gsOf B).length : Int)=B.layers:=by
 have:=hb.h5
 rw [gsOf_len hb]
 omega
/-- how many kinds a bale can be of -/
theorem nK_pos {G : List Sp} (h : GOk G) : 1 ≤ nKinds G:=by
 have hne:=exts_some G (fun s hs=>(h s hs).2.1)
 obtain ⟨t,ht⟩:=List.exists_mem_of_ne_nil _ hne
 have hk : hasK G (kindF t)=true:=List.any_eq_true.2 ⟨t,ht,by simp⟩
 unfold nKinds
 refine List.length_pos_iff_exists_mem.2 ⟨kindF t,List.mem_filter.2 ⟨?_,hk⟩⟩
 unfold kindsL
 rcases kindF_four t with q | q | q | q <;> rw [q] <;> simp
theorem ofKind_has {G : List Sp} (hne : exts G ≠ []) (k : Int) : ofKind (exts G) k ≠ 0 ↔ hasK G k = true:=by
 unfold ofKind hasK
 cases h1 : (exts G).any (fun t=>decide (kindF t = k)) <;> cases h2 : (exts G).any (fun t => !decide (kindF t = k))
 ·-- no truth at all
  constructor
  ·intro _
   exfalso
   cases he : exts G with
   | nil=>exact hne he
   | cons t r =>
    rw [he,List.any_cons] at h1 h2
    cases hd : decide (kindF t = k) <;> rw [hd] at h1 h2 <;> simp at h1 h2
  ·intro h;cases h
 ·exact ⟨fun h=>absurd rfl h,fun h=>by cases h⟩
 ·exact ⟨fun _=>rfl,fun _=>by decide⟩
 ·exact ⟨fun _=>rfl,fun _=>by decide⟩
/-- the layer that is asked for -/
theorem askT_facts (g : List Sp) (n : Nat) : ∀ j,∃ a : Nat,(askT g n (j + 1)).1 = a∧a ≤ j∧(askT g n (j + 1)).2 = leavB g n a∧(∀ i,i ≤ j → leavB g n a ≤ leavB g n i) ∧ ∀ i,i < a → leavB g n a < leavB g n i
 | 0=>by
  refine ⟨0,?_,Nat.le_refl _,?_,fun i hi=>?_,fun i hi=>absurd hi (Nat.not_lt_zero _)⟩
  ·show (if (0 : Nat)=0∨_ then (((0 : Nat) : Int),leavB g n 0) else _).1 = _
   rw [if_pos (.inl rfl)]
  ·show (if (0 : Nat)=0∨_ then (((0 : Nat) : Int),leavB g n 0) else _).2 = _
   rw [if_pos (.inl rfl)]
  ·obtain rfl : i = 0:=by omega
   exact Int.le_refl _
 | j + 1=>by
  obtain ⟨a,h1,h2,h3,h4,h5⟩:=askT_facts g n j
  have hst : askT g n (j + 1 + 1)=if j + 1 = 0∨leavB g n (j + 1)<(askT g n (j + 1)).2 then (((j + 1 : Nat) : Int),leavB g n (j + 1)) else askT g n (j + 1):=rfl
  by_cases hq : leavB g n (j + 1)<leavB g n a
  ·rw [h3,if_pos (.inr hq)] at hst
   rw [hst]
   refine ⟨j + 1,rfl,Nat.le_refl _,rfl,fun i hi=>?_,fun i hi=>?_⟩
   ·by_cases e : i = j + 1
    ·rw [e];exact Int.le_refl _
    ·have:=h4 i (by omega);omega
   ·have:=h4 i (by omega);omega
  ·rw [h3,if_neg (by rintro (e | e) <;> omega)] at hst
   rw [hst]
   refine ⟨a,h1,by omega,h3,fun i hi=>?_,h5⟩
   by_cases e : i = j + 1
   ·rw [e];omega
   ·exact h4 i (by omega)
structure Rdy (B : Bl) : Prop where
 ok : baleOk B
 can : canB B
theorem Rdy.l {B : Bl} (h : Rdy B) : B.draws.length ≤ 10∧B.weighs.length ≤ 8:=⟨h.ok.2.2.2.1.1,h.ok.2.2.2.2.1⟩
theorem Rdy.bl {B : Bl} (h : Rdy B) {p : Pb} {H : List Row} (hd : SlE H p.a1 cDr 4 B.draws) (hw : SlE H p.a2 cDr 4 B.weighs) : BlOk H B p:=⟨hd,hw,by have:=h.l.1;omega,by have:=h.l.2;omega⟩
theorem ready_yes (B : Bl) (p : Pb) (H : List Row) (hB : BlOk H B p) (h : Rdy B) : Fc Tryz.prog 30 [.agg (cBl B p).toArray] H (fun v H' => v = .bool true∧H' = H):=by
 have k1:=greatB_spec B p
 have k2:=fun S hS=>bale_spec B p S hS
 have k3:=fun S hS=>true_spec B p S h.ok hS
 have hl:=h.l
 rw [decide_eq_false (by omega)] at k1
 simp only [decide_eq_true h.ok,decide_eq_true h.can] at k2 k3
 refine Fc.mk (callable Tryz.call30) Tryz.func30 rfl Tryz.ntmps30 rfl ?_;dsimp only [fr]
 repeat' (first | (refine uP rfl ?_;(first | ((first | refine uN rfl ?_ | (refine Xo.g rfl rfl ?_;with_reducible refine Xw.tt ?_));(first | (refine uE (uL rfl rfl (uW (te rfl) rfl (qH _) rfl)) rfl rfl ?_)|(refine uC (uT rfl (Args.cons rfl Args.nil)) rfl rfl (k1 _) ?_;rintro _ _ ⟨rfl,rfl⟩)|(refine uC (uT rfl (Args.cons rfl Args.nil)) rfl rfl (k2 _ (hB.sub (fun _ q=>qT _ q))) ?_;rintro _ _ ⟨rfl,rfl⟩)|(refine uC (uT rfl (Args.cons rfl Args.nil)) rfl rfl (k3 _ (hB.sub (fun _ q=>qT _ q))) ?_;rintro _ _ ⟨rfl,rfl⟩)|(refine uE (notF rfl rfl) rfl rfl ?_)|(refine uE (uM rfl rfl) rfl rfl ?_)|(refine uE (uA rfl rfl) rfl rfl ?_)|(refine uE (EvF.pickT rfl rfl rfl) rfl rfl ?_)|(refine Xg.st (StF.boxAgg rfl rfl) rfl rfl ?_;rintro _ _ ⟨bx,rfl,rfl⟩)))))|(refine uD rfl ?_;refine hK _ _ ?_;clear hK K) | refine uS rfl ?_ | refine uR rfl (fun K hK=>?_) | refine X.ret rfl ?_)
 all_goals try (exfalso;contradiction)
 exact ret_one (by simp) Tryz.results30 rfl (H' := H) (by (repeat (first | exact qR _ | apply qC));done) ⟨rfl,rfl⟩
theorem ready_no (B : Bl) (p : Pb) (H : List Row) (hd : SlE H p.a1 cDr 4 B.draws) (hw : SlE H p.a2 cDr 4 B.weighs) (h : ¬ Rdy B) : Fc Tryz.prog 30 [.agg (cBl B p).toArray] H (fun v H' => v = .bool false∧H' = H):=by
 have k1:=greatB_spec B p
 by_cases hg : B.draws.length > 20∨B.weighs.length > 16
 ·rw [decide_eq_true hg] at k1
  refine Fc.mk (callable Tryz.call30) Tryz.func30 rfl Tryz.ntmps30 rfl ?_;dsimp only [fr]
  repeat' (first | (refine uP rfl ?_;(first | ((first | refine uN rfl ?_);(first | (refine uE (uL rfl rfl (uW (te rfl) rfl (qH _) rfl)) rfl rfl ?_)|(refine uC (uT rfl (Args.cons rfl Args.nil)) rfl rfl (k1 _) ?_;rintro _ _ ⟨rfl,rfl⟩)|(refine uE (notT rfl rfl) rfl rfl ?_)|(refine uE (uM rfl rfl) rfl rfl ?_)|(refine uE (uA rfl rfl) rfl rfl ?_)|(refine uE (EvF.pickF rfl rfl rfl) rfl rfl ?_)|(refine Xg.st (StF.boxAgg rfl rfl) rfl rfl ?_;rintro _ _ ⟨bx,rfl,rfl⟩)))|(refine Xo.g rfl rfl ?_;(first | (with_reducible refine Xw.ft rfl rfl ?_)))))|(refine uD rfl ?_;refine hK _ _ ?_;clear hK K) | refine uS rfl ?_ | refine uR rfl (fun K hK=>?_) | refine X.ret rfl ?_)
  all_goals try (exfalso;contradiction)
  exact ret_one (by simp) Tryz.results30 rfl (H' := H) (by (repeat (first | exact qR _ | apply qC));done) ⟨rfl,rfl⟩
 ·rw [decide_eq_false hg] at k1
  have hB : BlOk H B p:=⟨hd,hw,by omega,by omega⟩
  have k2:=fun S hS=>bale_spec B p S hS
  by_cases hb : baleOk B
  ·have k3:=fun S hS=>true_spec B p S hb hS
   have hc : ¬ canB B:=fun q=>h ⟨hb,q⟩
   simp only [decide_eq_true hb,decide_eq_false hc] at k2 k3
   refine Fc.mk (callable Tryz.call30) Tryz.func30 rfl Tryz.ntmps30 rfl ?_;dsimp only [fr]
   repeat' (first | (refine uP rfl ?_;(first | ((first | refine uN rfl ?_ | (refine Xo.g rfl rfl ?_;with_reducible refine Xw.tt ?_));(first | (refine uE (uL rfl rfl (uW (te rfl) rfl (qH _) rfl)) rfl rfl ?_)|(refine uC (uT rfl (Args.cons rfl Args.nil)) rfl rfl (k1 _) ?_;rintro _ _ ⟨rfl,rfl⟩)|(refine uC (uT rfl (Args.cons rfl Args.nil)) rfl rfl (k2 _ (hB.sub (fun _ q=>qT _ q))) ?_;rintro _ _ ⟨rfl,rfl⟩)|(refine uC (uT rfl (Args.cons rfl Args.nil)) rfl rfl (k3 _ (hB.sub (fun _ q=>qT _ q))) ?_;rintro _ _ ⟨rfl,rfl⟩)|(refine uE (notF rfl rfl) rfl rfl ?_)|(refine uE (uM rfl rfl) rfl rfl ?_)|(refine uE (uA rfl rfl) rfl rfl ?_)|(refine uE (EvF.pickT rfl rfl rfl) rfl rfl ?_)|(refine Xg.st (StF.boxAgg rfl rfl) rfl rfl ?_;rintro _ _ ⟨bx,rfl,rfl⟩)))))|(refine uD rfl ?_;refine hK _ _ ?_;clear hK K) | refine uS rfl ?_ | refine uR rfl (fun K hK=>?_) | refine X.ret rfl ?_)
   all_goals try (exfalso;contradiction)
   exact ret_one (by simp) Tryz.results30 rfl (H' := H) (by (repeat (first | exact qR _ | apply qC));done) ⟨rfl,rfl⟩
  ·simp only [decide_eq_false hb] at k2
   refine Fc.mk (callable Tryz.call30) Tryz.func30 rfl Tryz.ntmps30 rfl ?_;dsimp only [fr]
   repeat' (first | (refine uP rfl ?_;(first | ((first | refine uN rfl ?_ | (refine Xo.g rfl rfl ?_;with_reducible refine Xw.tt ?_));(first | (refine uE (uL rfl rfl (uW (te rfl) rfl (qH _) rfl)) rfl rfl ?_)|(refine uC (uT rfl (Args.cons rfl Args.nil)) rfl rfl (k1 _) ?_;rintro _ _ ⟨rfl,rfl⟩)|(refine uC (uT rfl (Args.cons rfl Args.nil)) rfl rfl (k2 _ (hB.sub (fun _ q=>qT _ q))) ?_;rintro _ _ ⟨rfl,rfl⟩)|(refine uE (notF rfl rfl) rfl rfl ?_)|(refine uE (uM rfl rfl) rfl rfl ?_)|(refine uE (uA rfl rfl) rfl rfl ?_)|(refine uE (EvF.pickT rfl rfl rfl) rfl rfl ?_)|(refine uE (EvF.pickF rfl rfl rfl) rfl rfl ?_)|(refine Xg.st (StF.boxAgg rfl rfl) rfl rfl ?_;rintro _ _ ⟨bx,rfl,rfl⟩)))|(refine Xo.g rfl rfl ?_;(first | (with_reducible refine Xw.ft rfl rfl ?_)))))|(refine uD rfl ?_;refine hK _ _ ?_;clear hK K) | refine uS rfl ?_ | refine uR rfl (fun K hK=>?_) | refine X.ret rfl ?_)
   all_goals try (exfalso;contradiction)
   exact ret_one (by simp) Tryz.results30 rfl (H' := H) (by (repeat (first | exact qR _ | apply qC));done) ⟨rfl,rfl⟩
theorem openE_rdy {B : Bl} (h : Rdy B) (k : List Int) (hk : ∀ n ∈ k,1 ≤ n∧n ≤ 4) : openE B ⟨[],k,[],[]⟩ = 0 :=
 oE h.ok h.can (fun _ h=>absurd h List.not_mem_nil) hk (fun _ h=>absurd h List.not_mem_nil) (fun _ h=>absurd h List.not_mem_nil)
theorem rdy_ne {B : Bl} (h : Rdy B) : exts (gsOf B) ≠ []:=exts_some _ (fun s hs=>(gs_ok h.ok h.can s hs).2.1)
def cntL (G : List Sp) (k : Nat) : Nat:=((kindsL.take k).filter (hasK G)).length
theorem cntL_step (G : List Sp) (k : Nat) (h : k < 4) : cntL G (k + 1)=cntL G k + if hasK G ((k : Int) + 1)=true then 1 else 0:=by
 have hk : kindsL[k]? = some ((k : Int) + 1):=by
  match k,h with
  | 0,_=>rfl
  | 1,_=>rfl
  | 2,_=>rfl
  | 3,_=>rfl
 unfold cntL
 rw [take_snoc hk,List.filter_append,List.length_append]
 congr 1
 cases hq : hasK G ((k : Int) + 1)
 ·rw [List.filter_cons_of_neg (by rw [hq];decide)];rfl
 ·rw [List.filter_cons_of_pos hq];rfl
set_option maxHeartbeats 4000000 in
theorem lawKinds (B : Bl) (p : Pb) (H : List Row) (hB : BlOk H B p) (h : Rdy B) : Fc Tryz.prog 42 [.agg (cBl B p).toArray] H (fun v H' => v = .int .i64 (nKinds (gsOf B))∧H' = H):=by
 have kk:=fun S (k : Int) hS=>kKind_spec B p k S hS
 have hne:=rdy_ne h
 have hB1 : ∀ r,BlOk (r::H) B p:=fun r=>hB.sub (fun _ q=>qT _ q)
 refine Fc.mk (callable Tryz.call42) Tryz.func42 rfl Tryz.ntmps42 rfl ?_;dsimp only [fr]
 repeat' (first | (refine uP rfl ?_;(first | ((first | refine uN rfl ?_);(first | (refine uE (uA rfl rfl) rfl rfl ?_)|(refine Xg.st (StF.boxAgg rfl rfl) rfl rfl ?_;rintro _ _ ⟨bx,rfl,rfl⟩)))))|(refine uD rfl ?_;refine hK _ _ ?_;clear hK K) | refine uS rfl ?_ | refine uR rfl (fun K hK=>?_) | refine X.block rfl ?_)
 generalize bx = b1
 refine X.lp rfl (fun q F' H' => ∃ k : Nat,q = 4 - k∧k ≤ 4∧⟨b1,0,cBl B p,some 31,6⟩::H = H'∧F' = [(1,.pointer (some ⟨b1,0,none⟩)),(3,.int .i64 (cntL (gsOf B) k)),(4,.int .i64 ((k : Nat) + 1))])
  4 [(1,.pointer (some ⟨b1,0,none⟩)),(3,.int .i64 (cntL (gsOf B) 0)),(4,.int .i64 ((0 : Nat) + 1))] _ (by repeat (first | exact uU _ | refine uV rfl ?_)) (qR _) ⟨0,by omega,by omega,rfl,rfl⟩ ?_
 rintro _ _ _ ⟨k,rfl,hk,rfl,rfl⟩
 by_cases hlt : k < 4
 ·have hlt' : (k : Int) + 1 ≤ 4:=by omega
  have kj:=kk (⟨b1,0,cBl B p,some 31,6⟩::H) ((k : Int) + 1) (hB1 _)
  rw [openE_rdy h [(k : Int) + 1] (fun n hn=>by rw [List.mem_singleton.1 hn];omega),uIf_pos rfl] at kj
  have hst:=cntL_step (gsOf B) k hlt
  have hh:=ofKind_has hne ((k : Int) + 1)
  change ofKind (truthsB B) ((k : Int) + 1) ≠ 0 ↔ _ at hh
  obtain ⟨w,hw⟩ : ∃ w,w = ofKind (truthsB B) ((k : Int) + 1):=⟨_,rfl⟩
  obtain ⟨c,hc⟩ : ∃ c,c = cntL (gsOf B) k:=⟨_,rfl⟩
  have hc4 : c ≤ 4:=by
   rw [hc]
   unfold cntL
   exact Nat.le_trans (List.length_filter_le _ _) (by rw [List.length_take];show min k 4 ≤ 4;omega)
  rw [← hw] at kj hh
  rw [← hc] at hst ⊢
  by_cases hq : w = 0
  ·have hz : ¬ hasK (gsOf B) ((k : Int) + 1)=true:=fun q=>hh.2 q hq
   rw [if_neg hz] at hst
   repeat' (first | (refine uP rfl ?_;(first | ((first | refine uN rfl ?_);(first | (refine uE (uQ (b:=true) rfl rfl rfl (congrArg some (decide_eq_true hlt'))) rfl rfl ?_)|(refine uE (uL rfl rfl (uW (te rfl) rfl (qH _) rfl)) rfl rfl ?_)|(refine uC (uT rfl (Args.cons rfl (Args.cons rfl Args.nil))) rfl rfl (kj) ?_;rintro _ _ ⟨rfl,rfl⟩)|(refine uE (uX rfl rfl rfl) rfl rfl ?_)|(refine uE (uQ (b:=false) rfl rfl rfl (congrArg some (nd_f (Eq.refl (0 : Int))))) rfl rfl ?_)|(refine uE (uQ (b:=false) rfl rfl rfl (congrArg some (nd_f hq))) rfl rfl ?_)|(refine uE (EvF.add64 (p:=(k : Int) + 1) (q:=1) rfl rfl rfl (by omega) (by omega)) rfl rfl ?_)|(refine uE (uM rfl rfl) rfl rfl ?_)|(refine uE (uA rfl rfl) rfl rfl ?_)))))|(refine uD rfl ?_;refine hK _ _ ?_;clear hK K) | refine uS rfl ?_ | refine uR rfl (fun K hK=>?_) | refine X.block rfl ?_ | refine X.skip rfl ?_ | (refine X.ite rfl rfl (fun hc=>?_);(first | (with_reducible refine Xb.t hc ?_)|(with_reducible refine Xb.f hc ?_)) <;> clear hc))
   all_goals try (exfalso;contradiction)
   exact ⟨_,_,_,(by rw [hst,show (((k + 1 : Nat) : Int)) = (k : Int) + 1 by omega];exact (by repeat (first | exact uU _ | refine uV rfl ?_))),qR _,⟨k + 1,rfl,by omega,rfl,rfl⟩,by omega⟩
  ·rw [if_pos (hh.1 hq)] at hst
   repeat' (first | (refine uP rfl ?_;(first | ((first | refine uN rfl ?_);(first | (refine uE (uQ (b:=true) rfl rfl rfl (congrArg some (decide_eq_true hlt'))) rfl rfl ?_)|(refine uE (uL rfl rfl (uW (te rfl) rfl (qH _) rfl)) rfl rfl ?_)|(refine uC (uT rfl (Args.cons rfl (Args.cons rfl Args.nil))) rfl rfl (kj) ?_;rintro _ _ ⟨rfl,rfl⟩)|(refine uE (uX rfl rfl rfl) rfl rfl ?_)|(refine uE (uQ (b:=false) rfl rfl rfl (congrArg some (nd_f (Eq.refl (0 : Int))))) rfl rfl ?_)|(refine uE (uQ (b:=true) rfl rfl rfl (congrArg some (nd_t hq))) rfl rfl ?_)|(refine uE (EvF.add64 (p:=(c : Int)) (q:=1) rfl rfl rfl (by omega) (by omega)) rfl rfl ?_)|(refine uE (EvF.add64 (p:=(k : Int) + 1) (q:=1) rfl rfl rfl (by omega) (by omega)) rfl rfl ?_)|(refine uE (uM rfl rfl) rfl rfl ?_)|(refine uE (uA rfl rfl) rfl rfl ?_)))))|(refine uD rfl ?_;refine hK _ _ ?_;clear hK K) | refine uS rfl ?_ | refine uR rfl (fun K hK=>?_) | refine X.block rfl ?_ | refine X.skip rfl ?_ | (refine X.ite rfl rfl (fun hc=>?_);(first | (with_reducible refine Xb.t hc ?_)|(with_reducible refine Xb.f hc ?_)) <;> clear hc))
   all_goals try (exfalso;contradiction)
   exact ⟨_,_,_,(by rw [hst,show (((k + 1 : Nat) : Int)) = (k : Int) + 1 by omega,show (((c + 1 : Nat) : Int)) = (c : Int) + 1 by omega];exact (by repeat (first | exact uU _ | refine uV rfl ?_))),qR _,⟨k + 1,rfl,by omega,rfl,rfl⟩,by omega⟩
 ·obtain rfl : k = 4:=by omega
  have hlt' : ¬ ((4 : Nat) : Int) + 1 ≤ 4:=by omega
  have e : cntL (gsOf B) 4 = nKinds (gsOf B):=rfl
  rw [e]
  repeat' (first | (refine uP rfl ?_;(first | ((first | refine uN rfl ?_);(first | (refine uE (uQ (b:=false) rfl rfl rfl (congrArg some (decide_eq_false hlt'))) rfl rfl ?_)|(refine uE (uM rfl rfl) rfl rfl ?_)|(refine uE (uA rfl rfl) rfl rfl ?_)))))|(refine uD rfl ?_;refine hK _ _ ?_;clear hK K) | refine uS rfl ?_ | refine uR rfl (fun K hK=>?_)|(refine X.brk rfl ?_;repeat (first | refine blockX_hit rfl ?_ | refine blockX_miss (by decide) ?_)) | refine X.ret rfl ?_ | (refine X.ite rfl rfl (fun hc=>?_);(first | (with_reducible refine Xb.f hc ?_)) <;> clear hc))
  exact ret_one (by simp) Tryz.results42 rfl (H' := H) (by (repeat (first | exact qR _ | apply qC));done) ⟨rfl,rfl⟩
theorem u8_und : (Tryz.prog.underlying 5).isSome = true:=by kernel_rfl
end Go.Proofs.YtbpcbdbclijomaaGreat
