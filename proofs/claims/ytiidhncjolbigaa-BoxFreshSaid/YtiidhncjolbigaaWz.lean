/- BoxFresh: for every room and a month by a number the law returns true (some box is the freshest, who surely is less yellow than all others is fresh alone, nobody is who surely is yellower than another one; the examples are as told), and each argument reads afterwards as before. No condition. -/
import Derived.Test.YtiidhncjolbigaaW08
import Derived.OpenShut
import Derived.ProofKit
import Derived.Test.YtiidhncjolbigaaRows
import Derived.WalkKit
import Derived.ChangeOld
import Derived.ShutString
section
set_option linter.unusedVariables false
set_option linter.unusedSimpArgs false
namespace Go.Proofs.Ytiidhncjolbigaa
open Go Go.Fw
set_option maxRecDepth 10000
theorem fre_out {R : Rm} (h : Rdy R) {m : Int} (hm : 0 ≤ m∧m ≤ R.months - 1) {x : Bx} (hx : x ∈ R.boxes) (hmd : x.made > m) : x.id ∉ freL R m:=fun q=>by
 obtain ⟨b,hb,hbi⟩:=rdy_there hm (mem_fre.1 q).1
 have:=bx_one h.ok hb.1 hx hbi
 subst this
 have:=hb.2.1
 omega
theorem told0 {s : Sp} (h : toldF s 0 = 0) : s.hi < 0:=by
 unfold toldF at h
 by_cases c : 0 ≤ s.lo
 ·rw [if_pos c] at h;omega
 ·rw [if_neg c] at h
  by_cases d : 0 ≤ s.hi
  ·rw [if_pos d] at h;omega
  ·omega
set_option maxHeartbeats 16000000 in
theorem boxFresh_spec (R : Rm) (p : Pl) (mo : Int) (h1 : 0 ≤ mo∧mo ≤ 255) (H : List Row) (hR : RmOk H R p) :
  Fc Try.prog 10 [.agg (cRm R p).toArray,.int .u8 mo] H (fun v _=>v = .bool true):=by
 by_cases hrd : Rdy R
 ·have hm0:=mod_bd hrd.ok h1.1
  have hlb4:=hrd.ok.ok.b4
  have hlb : R.boxes.length ≤ 1000000:=by omega
  have hmm : 1 ≤ R.months∧R.months ≤ 12:=⟨hrd.ok.ok.m1,hrd.ok.ok.m12⟩
  have kfre:=fun S hS=>kFresh_spec R p (mo % R.months) S hS hlb
  refine Fc.mk (callable Try.call10) Try.func10 rfl Try.ntmps10 rfl ?_;dsimp only [fr]
  repeat' (first | (refine uP rfl ?_;(first | ((first | refine uN rfl ?_ | (refine Xo.g rfl rfl ?_;with_reducible refine Xw.ff ?_));(first | (refine uC (uT rfl Args.nil) rfl rfl (alive_spec _) ?_;rintro _ _ ⟨rfl,rfl⟩)|(refine uE (uL rfl rfl (uW (te rfl) rfl (qH _) rfl)) rfl rfl ?_)|(refine uC (uT rfl (Args.cons rfl Args.nil)) rfl rfl (ready_yes R p _ (hR.sub (fun _ h=>by repeat (first | exact h | apply qT))) hrd) ?_;rintro _ _ ⟨rfl,rfl⟩)|(refine uE (EvF.conv rfl rfl byte_und int_undI (by omega) (by omega)) rfl rfl ?_)|(refine uE (EvF.rem64 rfl rfl rfl (by omega) (by omega)) rfl rfl ?_)|(refine uE (uM rfl rfl) rfl rfl ?_)|(refine uE (uA rfl rfl) rfl rfl ?_)|(refine uE (EvF.pickT rfl rfl rfl) rfl rfl ?_)|(refine uE (EvF.pickF rfl rfl rfl) rfl rfl ?_)|(refine uE (EvF.not rfl rfl) rfl rfl ?_)|(refine uE (uF rfl rfl (te rfl) rfl (te rfl) (by decide)) rfl rfl ?_)|(refine uE (uL rfl rfl (uO (te rfl) rfl (qH _) rfl)) rfl rfl ?_)|(refine Xg.st (StF.boxAgg rfl rfl) rfl rfl ?_;rintro _ _ ⟨bx,rfl,rfl⟩)))|(refine Xo.g rfl rfl ?_;(first | (with_reducible refine Xw.tf rfl rfl ?_)|(with_reducible refine Xw.caseB (fun h=>?_) (fun h=>?_) <;> simp only [h,decide_true,decide_false,Bool.not_true,Bool.not_false,and_self,and_true,true_and,and_false,false_and])))))|(refine uD rfl ?_;refine hK _ _ ?_;clear hK K) | refine uS rfl ?_ | refine uR rfl (fun K hK=>?_) | refine X.skip rfl ?_ | refine X.ret rfl ?_ | (refine X.ite rfl rfl (fun hc=>?_);(first | (with_reducible refine Xb.t hc ?_)|(with_reducible refine Xb.caseB hc (fun h=>?_) (fun h=>?_))) <;> clear hc))
  all_goals try (exfalso;contradiction)
  generalize bx = b2
  obtain ⟨m,hmq⟩ : ∃ m,m = mo % R.months:=⟨_,rfl⟩
  rw [← hmq] at hm0 kfre ⊢
  clear hmq
  rw [fre_eq hrd hm0] at kfre
  have kfre2 : ∀ S,RmOk S R p → Fc Try.prog 34 [.agg (cRm R p).toArray,.int .i64 m] S (LstR (freL R m) 0 S):=kfre
  clear kfre
  repeat' (first | (refine uP rfl ?_;(first | ((first | refine uN rfl ?_);(first | (refine uE (uX rfl rfl rfl) rfl rfl ?_)|(refine uC (uT rfl (Args.cons rfl (Args.cons rfl Args.nil))) rfl rfl (kfre2 _ (hR.sub (fun _ h=>by repeat (first | exact h | apply qT)))) ?_;rintro _ _ ⟨a,c,Z,rfl,hl0,rfl⟩)|(refine uE (uQ (b:=false) rfl rfl rfl (congrArg some (nd_f (Eq.refl (0 : Int))))) rfl rfl ?_)|(refine uE (uL rfl rfl (uO (te rfl) rfl (List.mem_append_right _ (qH _)) rfl)) rfl rfl ?_)|(refine uE (EvF.lenSlice rfl rfl (te rfl)) rfl rfl ?_)|(refine uE (uM rfl rfl) rfl rfl ?_)|(refine uE (uA rfl rfl) rfl rfl ?_)|(refine uE (uF rfl rfl (te rfl) rfl (te rfl) (by decide)) rfl rfl ?_)))))|(refine uD rfl ?_;refine hK _ _ ?_;clear hK K) | refine uS rfl ?_ | refine uR rfl (fun K hK=>?_) | refine X.block rfl ?_ | refine X.skip rfl ?_ | (refine X.ite rfl rfl (fun hc=>?_);(first | (with_reducible refine Xb.f hc ?_)) <;> clear hc))
  all_goals try (exfalso;contradiction)
  obtain ⟨G,hG⟩ : ∃ G : List Row,G = Z++⟨b2,0,cRm R p,some 26,5⟩::H:=⟨_,rfl⟩
  have hb2 : (⟨b2,0,cRm R p,some 26,5⟩ : Row) ∈ G:=by rw [hG];exact List.mem_append_right _ (qH _)
  have hGR : RmOk G R p:=hR.sub (fun r h=>by rw [hG];exact List.mem_append_right _ (qT _ h))
  have hl : SlE G a cI 1 (freL R m):=by rw [hG];exact hl0
  clear hl0 hR kfre2
  have hsub:=fre_sub R m
  have hthl : (thI R m).length ≤ 4:=Nat.le_trans (thL_len m R.boxes) hlb4
  have hfl:=hsub.length_le
  have khas:=fun (x : Int) S (hS : SlE S a cI 1 (freL R m))=>lawHas (freL R m) a c x S hS (by omega)
  refine X.lp rfl (fun r F' H' => ∃ k : Nat,r = R.boxes.length - k∧k ≤ R.boxes.length∧G = H'∧F' = [(2,.pointer (some ⟨b2,0,none⟩)),(5,.bool true),(6,.int .i64 m),(7,.slice a (freL R m).length c),(9,.int .i64 ((thL m (R.boxes.take k)).length : Nat)),(43,.slice p.a2 R.boxes.length p.c2),(44,.int .i64 R.boxes.length),(45,.int .i64 (k : Nat))])
   R.boxes.length [(2,.pointer (some ⟨b2,0,none⟩)),(5,.bool true),(6,.int .i64 m),(7,.slice a (freL R m).length c),(9,.int .i64 ((thL m (R.boxes.take 0)).length : Nat)),(43,.slice p.a2 R.boxes.length p.c2),(44,.int .i64 R.boxes.length),(45,.int .i64 (0 : Nat))] G (by repeat (first | exact uU _ | refine uV rfl ?_)) (by rw [hG];exact qR _) ⟨0,rfl,Nat.zero_le _,rfl,rfl⟩ ?_
  rintro _ _ _ ⟨k,rfl,hk,rfl,rfl⟩
  have hzl:=thL_len m (R.boxes.take k)
  have hlT:=List.length_take (i:=k) (l:=R.boxes)
  by_cases hkl : k < R.boxes.length
  ·have hkl' : (k : Int)<(R.boxes.length : Int):=by omega
   obtain ⟨bb,off,x,hq2,hx⟩:=hGR.boxes.elem (i:=k) hkl
   have hxm:=List.mem_of_getElem? hx
   have hsn:=thL_snoc (m:=m) hx
   have hbs:=hGR.boxes
   rw [hq2] at hbs ⊢
   by_cases hmd : x.made > m
   ·have hxn:=fre_out hrd hm0 hxm hmd
    have kh:=fun S hS=>khas x.id S hS
    rw [decide_eq_false hxn] at kh
    rw [if_neg (by omega),List.append_nil] at hsn
    repeat' (first | (refine uP rfl ?_;(first | ((first | refine uN rfl ?_);(first | (refine uE (uQ (b:=true) rfl rfl rfl (congrArg some (decide_eq_true hkl'))) rfl rfl ?_)|(refine uE (uQ (b:=true) rfl rfl rfl (congrArg some (decide_eq_true hmd))) rfl rfl ?_)|(refine uE (uL rfl rfl (LoadV.elA0 hbs hx (te rfl) rfl (fun _ hm=>hm) rfl)) rfl rfl ?_)|(refine Xg.st (StF.alloc rfl Try.zeroValue81 rfl) rfl rfl ?_;rintro _ _ ⟨bx,rfl,rfl⟩)|(refine Xg.st0 (StF.storeAll (i:=0) (vs:=cBx x) rfl rfl rfl (te rfl) rfl rfl rfl rfl) rfl ?_;rintro _ _ ⟨rfl,rfl⟩;dsimp only [List.set])|(refine uE (uL rfl rfl (uO (te rfl) rfl (qH _) rfl)) rfl rfl ?_)|(refine uC (uT rfl (Args.cons rfl (Args.cons rfl Args.nil))) rfl rfl (kh _ (hl.sub (fun _ h=>by repeat (first | exact h | apply qT)))) ?_;rintro _ _ ⟨rfl,rfl⟩)|(refine uE (EvF.add64 (p:=(k : Int)) (q:=1) rfl rfl rfl (by omega) (by omega)) rfl rfl ?_)|(refine uE (uM rfl rfl) rfl rfl ?_)|(refine uE (uF rfl rfl (te rfl) rfl (te rfl) (by decide)) rfl rfl ?_)|(refine uE (EvF.indexSlice rfl rfl rfl (te rfl) (te rfl) (by omega) (by omega)) rfl rfl ?_)))))|(refine uD rfl ?_;refine hK _ _ ?_;clear hK K) | refine uS rfl ?_ | refine uR rfl (fun K hK=>?_) | refine X.block rfl ?_ | (refine X.brk rfl ?_;repeat (first | refine blockX_hit rfl ?_ | refine blockX_miss (by decide) ?_)) | refine X.skip rfl ?_ | (refine X.ite rfl rfl (fun hc=>?_);(first | (with_reducible refine Xb.t hc ?_)|(with_reducible refine Xb.f hc ?_)) <;> clear hc))
    all_goals try (exfalso;contradiction)
    refine ⟨_,_,G,?_,(by repeat (first | exact qR _ | apply qK | apply qC)),⟨k + 1,rfl,by omega,rfl,rfl⟩,by omega⟩
    rw [hsn]
    exact (by repeat (first | exact uU _ | refine uV rfl ?_))
   ·have hmd' : x.made ≤ m:=by omega
    rw [if_pos hmd'] at hsn
    have hxt : x.id ∈ thI R m:=thI_of hxm hmd'
    have hsl : (thL m (R.boxes.take (k + 1))).length = (thL m (R.boxes.take k)).length + 1:=by rw [hsn,List.length_append];rfl
    repeat' (first | (refine uP rfl ?_;(first | ((first | refine uN rfl ?_);(first | (refine uE (uQ (b:=true) rfl rfl rfl (congrArg some (decide_eq_true hkl'))) rfl rfl ?_)|(refine uE (uQ (b:=false) rfl rfl rfl (congrArg some (decide_eq_false hmd))) rfl rfl ?_)|(refine uE (uL rfl rfl (LoadV.elA0 hbs hx (te rfl) rfl (fun _ hm=>hm) rfl)) rfl rfl ?_)|(refine Xg.st (StF.alloc rfl Try.zeroValue81 rfl) rfl rfl ?_;rintro _ _ ⟨bx,rfl,rfl⟩)|(refine Xg.st0 (StF.storeAll (i:=0) (vs:=cBx x) rfl rfl rfl (te rfl) rfl rfl rfl rfl) rfl ?_;rintro _ _ ⟨rfl,rfl⟩;dsimp only [List.set])|(refine uE (uL rfl rfl (uO (te rfl) rfl (qH _) rfl)) rfl rfl ?_)|(refine uE (uL rfl rfl (uO (te rfl) rfl (qT _ hb2) rfl)) rfl rfl ?_)|(refine uE (EvF.lenSlice rfl rfl (te rfl)) rfl rfl ?_)|(refine uE (EvF.add64 (p:=((thL m (R.boxes.take k)).length : Int)) (q:=1) rfl rfl rfl (by omega) (by omega)) rfl rfl ?_)|(refine uE (uM rfl rfl) rfl rfl ?_)|(refine uE (uA rfl rfl) rfl rfl ?_)|(refine uE (uF rfl rfl (te rfl) rfl (te rfl) (by decide)) rfl rfl ?_)|(refine uE (EvF.indexSlice rfl rfl rfl (te rfl) (te rfl) (by omega) (by omega)) rfl rfl ?_)))))|(refine uD rfl ?_;refine hK _ _ ?_;clear hK K) | refine uS rfl ?_ | refine uR rfl (fun K hK=>?_) | refine X.block rfl ?_ | refine X.skip rfl ?_ | (refine X.ite rfl rfl (fun hc=>?_);(first | (with_reducible refine Xb.t hc ?_)|(with_reducible refine Xb.f hc ?_)) <;> clear hc))
    all_goals try (exfalso;contradiction)
    generalize bx = b11
    have hbs2 : SlE (⟨b11,0,cBx x,some 81,2⟩::G) (some ⟨bb,off,none⟩) cBx 2 R.boxes:=hbs.sub (fun r h=>qT _ h)
    refine X.lp rfl (fun r F' H' => ∃ (j : Nat) (le mo : Bool),r = R.boxes.length - j∧j ≤ R.boxes.length∧(le = true → ∀ y ∈ R.boxes.take j,y.made ≤ m → y.id ≠ x.id → (rng R R.mats ⟨x.id,m⟩ ⟨y.id,m⟩).hi < 0)∧(mo = true → x.id ∉ freL R m)∧⟨b11,0,cBx x,some 81,2⟩::G = H'∧F' = [(2,.pointer (some ⟨b2,0,none⟩)),(5,.bool true),(6,.int .i64 m),(7,.slice a (freL R m).length c),(9,.int .i64 ((thL m (R.boxes.take (k + 1))).length : Nat)),(11,.pointer (some ⟨b11,0,none⟩)),(12,.bool le),(13,.bool mo),(43,.slice (some ⟨bb,off,none⟩) R.boxes.length p.c2),(44,.int .i64 R.boxes.length),(45,.int .i64 (k : Nat)),(60,.slice (some ⟨bb,off,none⟩) R.boxes.length p.c2),(61,.int .i64 R.boxes.length),(62,.int .i64 (j : Nat))])
     R.boxes.length [(2,.pointer (some ⟨b2,0,none⟩)),(5,.bool true),(6,.int .i64 m),(7,.slice a (freL R m).length c),(9,.int .i64 ((thL m (R.boxes.take (k + 1))).length : Nat)),(11,.pointer (some ⟨b11,0,none⟩)),(12,.bool true),(13,.bool false),(43,.slice (some ⟨bb,off,none⟩) R.boxes.length p.c2),(44,.int .i64 R.boxes.length),(45,.int .i64 (k : Nat)),(60,.slice (some ⟨bb,off,none⟩) R.boxes.length p.c2),(61,.int .i64 R.boxes.length),(62,.int .i64 (0 : Nat))] (⟨b11,0,cBx x,some 81,2⟩::G) ?_ (by repeat (first | exact qR _ | apply qK | apply qC)) ⟨0,true,false,rfl,Nat.zero_le _,(fun _ y h=>absurd h List.not_mem_nil),(fun h=>by cases h),rfl,rfl⟩ ?_
    ·rw [hsl,hq2]
     exact (by repeat (first | exact uU _ | refine uV rfl ?_))
    rintro _ _ _ ⟨j,le,mo,rfl,hj,hle,hmo,rfl,rfl⟩
    by_cases hjl : j < R.boxes.length
    ·have hjl' : (j : Int)<(R.boxes.length : Int):=by omega
     obtain ⟨y,hy⟩ : ∃ y,R.boxes[j]? = some y:=⟨_,List.getElem?_eq_getElem hjl⟩
     have hym:=List.mem_of_getElem? hy
     have htk : ∀ u ∈ R.boxes.take (j + 1),u ∈ R.boxes.take j∨u = y:=fun u hu=>by
      rw [take_snoc hy] at hu
      rcases List.mem_append.1 hu with q | q
      ·exact .inl q
      ·exact .inr (List.mem_singleton.1 q)
     by_cases hyx : y.id = x.id
     ·repeat' (first | (refine uP rfl ?_;(first | ((first | refine uN rfl ?_);(first | (refine uE (uQ (b:=true) rfl rfl rfl (congrArg some (decide_eq_true hjl'))) rfl rfl ?_)|(refine uE (uQ (b:=true) rfl rfl rfl (congrArg some (decide_eq_true hyx))) rfl rfl ?_)|(refine uE (uL rfl rfl (LoadV.elA0 hbs2 hy (te rfl) rfl (fun _ hm=>hm) rfl)) rfl rfl ?_)|(refine Xg.st (StF.alloc rfl Try.zeroValue81 rfl) rfl rfl ?_;rintro _ _ ⟨bx,rfl,rfl⟩)|(refine Xg.st0 (StF.storeAll (i:=0) (vs:=cBx y) rfl rfl rfl (te rfl) rfl rfl rfl rfl) rfl ?_;rintro _ _ ⟨rfl,rfl⟩;dsimp only [List.set])|(refine uE (uL rfl rfl (uO (te rfl) rfl (qH _) rfl)) rfl rfl ?_)|(refine uE (uL rfl rfl (uO (te rfl) rfl (qT _ (qH _)) rfl)) rfl rfl ?_)|(refine uE (EvF.add64 (p:=(j : Int)) (q:=1) rfl rfl rfl (by omega) (by omega)) rfl rfl ?_)|(refine uE (uM rfl rfl) rfl rfl ?_)|(refine uE (EvF.pickT rfl rfl rfl) rfl rfl ?_)|(refine uE (uF rfl rfl (te rfl) rfl (te rfl) (by decide)) rfl rfl ?_)|(refine uE (EvF.indexSlice rfl rfl rfl (te rfl) (te rfl) (by omega) (by omega)) rfl rfl ?_)))|(refine Xo.g rfl rfl ?_;(first | (with_reducible refine Xw.tf rfl rfl ?_)))))|(refine uD rfl ?_;refine hK _ _ ?_;clear hK K) | refine uS rfl ?_ | refine uR rfl (fun K hK=>?_) | refine X.block rfl ?_ | (refine X.brk rfl ?_;repeat (first | refine blockX_hit rfl ?_ | refine blockX_miss (by decide) ?_)) | refine X.skip rfl ?_ | (refine X.ite rfl rfl (fun hc=>?_);(first | (with_reducible refine Xb.t hc ?_)) <;> clear hc))
      all_goals try (exfalso;contradiction)
      refine ⟨_,_,⟨b11,0,cBx x,some 81,2⟩::G,(by repeat (first | exact uU _ | refine uV rfl ?_)),(by repeat (first | exact qR _ | apply qK | apply qC)),⟨j + 1,le,mo,rfl,by omega,fun h u hu hum hux=>?_,hmo,rfl,rfl⟩,by omega⟩
      rcases htk u hu with q | q
      ·exact hle h u q hum hux
      ·exact absurd (q ▸ hyx) hux
     ·by_cases hym2 : y.made > m
      ·repeat' (first | (refine uP rfl ?_;(first | ((first | refine uN rfl ?_ | (refine Xo.g rfl rfl ?_;with_reducible refine Xw.ff ?_));(first | (refine uE (uQ (b:=true) rfl rfl rfl (congrArg some (decide_eq_true hjl'))) rfl rfl ?_)|(refine uE (uQ (b:=false) rfl rfl rfl (congrArg some (decide_eq_false hyx))) rfl rfl ?_)|(refine uE (uQ (b:=true) rfl rfl rfl (congrArg some (decide_eq_true hym2))) rfl rfl ?_)|(refine uE (uL rfl rfl (LoadV.elA0 hbs2 hy (te rfl) rfl (fun _ hm=>hm) rfl)) rfl rfl ?_)|(refine Xg.st (StF.alloc rfl Try.zeroValue81 rfl) rfl rfl ?_;rintro _ _ ⟨bx,rfl,rfl⟩)|(refine Xg.st0 (StF.storeAll (i:=0) (vs:=cBx y) rfl rfl rfl (te rfl) rfl rfl rfl rfl) rfl ?_;rintro _ _ ⟨rfl,rfl⟩;dsimp only [List.set])|(refine uE (uL rfl rfl (uO (te rfl) rfl (qH _) rfl)) rfl rfl ?_)|(refine uE (uL rfl rfl (uO (te rfl) rfl (qT _ (qH _)) rfl)) rfl rfl ?_)|(refine uE (EvF.add64 (p:=(j : Int)) (q:=1) rfl rfl rfl (by omega) (by omega)) rfl rfl ?_)|(refine uE (uM rfl rfl) rfl rfl ?_)|(refine uE (EvF.pickF rfl rfl rfl) rfl rfl ?_)|(refine uE (uF rfl rfl (te rfl) rfl (te rfl) (by decide)) rfl rfl ?_)|(refine uE (EvF.indexSlice rfl rfl rfl (te rfl) (te rfl) (by omega) (by omega)) rfl rfl ?_)))))|(refine uD rfl ?_;refine hK _ _ ?_;clear hK K) | refine uS rfl ?_ | refine uR rfl (fun K hK=>?_) | refine X.block rfl ?_ | (refine X.brk rfl ?_;repeat (first | refine blockX_hit rfl ?_ | refine blockX_miss (by decide) ?_)) | refine X.skip rfl ?_ | (refine X.ite rfl rfl (fun hc=>?_);(first | (with_reducible refine Xb.t hc ?_)) <;> clear hc))
       all_goals try (exfalso;contradiction)
       refine ⟨_,_,⟨b11,0,cBx x,some 81,2⟩::G,(by repeat (first | exact uU _ | refine uV rfl ?_)),(by repeat (first | exact qR _ | apply qK | apply qC)),⟨j + 1,le,mo,rfl,by omega,fun h u hu hum hux=>?_,hmo,rfl,rfl⟩,by omega⟩
       rcases htk u hu with q | q
       ·exact hle h u q hum hux
       ·rw [q] at hum;omega
      ·have hyt : y.id ∈ thI R m:=thI_of hym (by omega)
       have ko1:=fun S hS=>kOrder_spec R p y.id x.id m S hS hlb
       have ko2:=fun S hS=>kOrder_spec R p x.id y.id m S hS hlb
       rw [rdy_dif hrd hm0 hyt hxt hyx] at ko1
       rw [rdy_dif hrd hm0 hxt hyt (fun q=>hyx q.symm)] at ko2
       obtain ⟨t1,ht1⟩ : ∃ t,t = toldF (rng R R.mats ⟨y.id,m⟩ ⟨x.id,m⟩) 0:=⟨_,rfl⟩
       obtain ⟨t2,ht2⟩ : ∃ t,t = toldF (rng R R.mats ⟨x.id,m⟩ ⟨y.id,m⟩) 0:=⟨_,rfl⟩
       rw [show knP (rng R R.mats ⟨y.id,m⟩ ⟨x.id,m⟩,0) 0 = (t1,0) by rw [ht1];rfl] at ko1
       rw [show knP (rng R R.mats ⟨x.id,m⟩ ⟨y.id,m⟩,0) 0 = (t2,0) by rw [ht2];rfl] at ko2
       have g1 : t1 = 0 → x.id ∉ freL R m:=fun q=>fre_not hrd hm0 hxt hyt (told0 (by rw [← ht1,q]))
       have g2 : t2 = 0 → (rng R R.mats ⟨x.id,m⟩ ⟨y.id,m⟩).hi < 0:=fun q=>told0 (by rw [← ht2,q])
       clear ht1 ht2
       cases le <;> cases mo
       ·repeat' (first | (refine uP rfl ?_;(first | ((first | refine uN rfl ?_ | (refine Xo.g rfl rfl ?_;with_reducible refine Xw.ff ?_));(first | (refine uE (uQ (b:=true) rfl rfl rfl (congrArg some (decide_eq_true hjl'))) rfl rfl ?_)|(refine uE (uQ (b:=false) rfl rfl rfl (congrArg some (decide_eq_false hyx))) rfl rfl ?_)|(refine uE (uQ (b:=false) rfl rfl rfl (congrArg some (decide_eq_false hym2))) rfl rfl ?_)|(refine uE (uL rfl rfl (LoadV.elA0 hbs2 hy (te rfl) rfl (fun _ hm=>hm) rfl)) rfl rfl ?_)|(refine Xg.st (StF.alloc rfl Try.zeroValue81 rfl) rfl rfl ?_;rintro _ _ ⟨bx,rfl,rfl⟩)|(refine Xg.st0 (StF.storeAll (i:=0) (vs:=cBx y) rfl rfl rfl (te rfl) rfl rfl rfl rfl) rfl ?_;rintro _ _ ⟨rfl,rfl⟩;dsimp only [List.set])|(refine uE (uL rfl rfl (uO (te rfl) rfl (qH _) rfl)) rfl rfl ?_)|(refine uE (uL rfl rfl (uO (te rfl) rfl (qT _ (qH _)) rfl)) rfl rfl ?_)|(refine uE (uL rfl rfl (uW (T:=26) (cs:=cRm R p) (te rfl) rfl (qT _ (qT _ hb2)) rfl)) rfl rfl ?_)|(refine uC (uT rfl (Args.cons rfl (Args.cons rfl (Args.cons rfl (Args.cons rfl Args.nil))))) rfl rfl (ko1 _ (hGR.sub (fun _ h=>by repeat (first | exact h | apply qT)))) ?_;rintro _ _ ⟨rfl,rfl⟩)|(refine uC (uT rfl (Args.cons rfl (Args.cons rfl (Args.cons rfl (Args.cons rfl Args.nil))))) rfl rfl (ko2 _ (hGR.sub (fun _ h=>by repeat (first | exact h | apply qT)))) ?_;rintro _ _ ⟨rfl,rfl⟩)|(refine uE (uQ (b:=false) rfl rfl rfl (congrArg some (nd_f (Eq.refl (0 : Int))))) rfl rfl ?_)|(refine uE (EvF.add64 (p:=(j : Int)) (q:=1) rfl rfl rfl (by omega) (by omega)) rfl rfl ?_)|(refine uE (uM rfl rfl) rfl rfl ?_)|(refine uE (uA rfl rfl) rfl rfl ?_)|(refine uE (EvF.pickF rfl rfl rfl) rfl rfl ?_)|(refine uE (uQ rfl rfl rfl rfl) rfl rfl ?_)|(refine uE (uF rfl rfl (te rfl) rfl (te rfl) (by decide)) rfl rfl ?_)|(refine uE (EvF.indexSlice rfl rfl rfl (te rfl) (te rfl) (by omega) (by omega)) rfl rfl ?_)|(refine uE (uX rfl rfl rfl) rfl rfl ?_)))|(refine Xo.g rfl rfl ?_;(first | (with_reducible refine Xw.ft rfl rfl ?_)))))|(refine uD rfl ?_;refine hK _ _ ?_;clear hK K) | refine uS rfl ?_ | refine uR rfl (fun K hK=>?_) | refine X.block rfl ?_ | refine X.skip rfl ?_ | (refine X.ite rfl rfl (fun hc=>?_);(first | (with_reducible refine Xb.t hc ?_)|(with_reducible refine Xb.f hc ?_)) <;> clear hc))
        all_goals try (exfalso;contradiction)
        refine ⟨_,_,⟨b11,0,cBx x,some 81,2⟩::G,(by repeat (first | exact uU _ | refine uV rfl ?_)),(by repeat (first | exact qR _ | apply qK | apply qC)),⟨j + 1,false,decide (t1 = 0),rfl,by omega,?_,?_,rfl,rfl⟩,by omega⟩
        ·intro h;cases h
        ·exact fun h=>g1 (of_decide_eq_true h)
       ·repeat' (first | (refine uP rfl ?_;(first | ((first | refine uN rfl ?_ | (refine Xo.g rfl rfl ?_;with_reducible refine Xw.ff ?_));(first | (refine uE (uQ (b:=true) rfl rfl rfl (congrArg some (decide_eq_true hjl'))) rfl rfl ?_)|(refine uE (uQ (b:=false) rfl rfl rfl (congrArg some (decide_eq_false hyx))) rfl rfl ?_)|(refine uE (uQ (b:=false) rfl rfl rfl (congrArg some (decide_eq_false hym2))) rfl rfl ?_)|(refine uE (uL rfl rfl (LoadV.elA0 hbs2 hy (te rfl) rfl (fun _ hm=>hm) rfl)) rfl rfl ?_)|(refine Xg.st (StF.alloc rfl Try.zeroValue81 rfl) rfl rfl ?_;rintro _ _ ⟨bx,rfl,rfl⟩)|(refine Xg.st0 (StF.storeAll (i:=0) (vs:=cBx y) rfl rfl rfl (te rfl) rfl rfl rfl rfl) rfl ?_;rintro _ _ ⟨rfl,rfl⟩;dsimp only [List.set])|(refine uE (uL rfl rfl (uO (te rfl) rfl (qH _) rfl)) rfl rfl ?_)|(refine uE (uL rfl rfl (uO (te rfl) rfl (qT _ (qH _)) rfl)) rfl rfl ?_)|(refine uE (uL rfl rfl (uW (T:=26) (cs:=cRm R p) (te rfl) rfl (qT _ (qT _ hb2)) rfl)) rfl rfl ?_)|(refine uC (uT rfl (Args.cons rfl (Args.cons rfl (Args.cons rfl (Args.cons rfl Args.nil))))) rfl rfl (ko1 _ (hGR.sub (fun _ h=>by repeat (first | exact h | apply qT)))) ?_;rintro _ _ ⟨rfl,rfl⟩)|(refine uC (uT rfl (Args.cons rfl (Args.cons rfl (Args.cons rfl (Args.cons rfl Args.nil))))) rfl rfl (ko2 _ (hGR.sub (fun _ h=>by repeat (first | exact h | apply qT)))) ?_;rintro _ _ ⟨rfl,rfl⟩)|(refine uE (uQ (b:=false) rfl rfl rfl (congrArg some (nd_f (Eq.refl (0 : Int))))) rfl rfl ?_)|(refine uE (EvF.add64 (p:=(j : Int)) (q:=1) rfl rfl rfl (by omega) (by omega)) rfl rfl ?_)|(refine uE (uM rfl rfl) rfl rfl ?_)|(refine uE (uA rfl rfl) rfl rfl ?_)|(refine uE (EvF.pickT rfl rfl rfl) rfl rfl ?_)|(refine uE (EvF.pickF rfl rfl rfl) rfl rfl ?_)|(refine uE (uF rfl rfl (te rfl) rfl (te rfl) (by decide)) rfl rfl ?_)|(refine uE (EvF.indexSlice rfl rfl rfl (te rfl) (te rfl) (by omega) (by omega)) rfl rfl ?_)|(refine uE (uX rfl rfl rfl) rfl rfl ?_)))|(refine Xo.g rfl rfl ?_;(first | (with_reducible refine Xw.tf rfl rfl ?_)|(with_reducible refine Xw.ft rfl rfl ?_)))))|(refine uD rfl ?_;refine hK _ _ ?_;clear hK K) | refine uS rfl ?_ | refine uR rfl (fun K hK=>?_) | refine X.block rfl ?_ | refine X.skip rfl ?_ | (refine X.ite rfl rfl (fun hc=>?_);(first | (with_reducible refine Xb.t hc ?_)|(with_reducible refine Xb.f hc ?_)) <;> clear hc))
        all_goals try (exfalso;contradiction)
        refine ⟨_,_,⟨b11,0,cBx x,some 81,2⟩::G,(by repeat (first | exact uU _ | refine uV rfl ?_)),(by repeat (first | exact qR _ | apply qK | apply qC)),⟨j + 1,false,true,rfl,by omega,?_,?_,rfl,rfl⟩,by omega⟩
        ·intro h;cases h
        ·exact hmo
       ·repeat' (first | (refine uP rfl ?_;(first | ((first | refine uN rfl ?_ | (refine Xo.g rfl rfl ?_;with_reducible refine Xw.tt ?_)|(refine Xo.g rfl rfl ?_;with_reducible refine Xw.ff ?_));(first | (refine uE (uQ (b:=true) rfl rfl rfl (congrArg some (decide_eq_true hjl'))) rfl rfl ?_)|(refine uE (uQ (b:=false) rfl rfl rfl (congrArg some (decide_eq_false hyx))) rfl rfl ?_)|(refine uE (uQ (b:=false) rfl rfl rfl (congrArg some (decide_eq_false hym2))) rfl rfl ?_)|(refine uE (uL rfl rfl (LoadV.elA0 hbs2 hy (te rfl) rfl (fun _ hm=>hm) rfl)) rfl rfl ?_)|(refine Xg.st (StF.alloc rfl Try.zeroValue81 rfl) rfl rfl ?_;rintro _ _ ⟨bx,rfl,rfl⟩)|(refine Xg.st0 (StF.storeAll (i:=0) (vs:=cBx y) rfl rfl rfl (te rfl) rfl rfl rfl rfl) rfl ?_;rintro _ _ ⟨rfl,rfl⟩;dsimp only [List.set])|(refine uE (uL rfl rfl (uO (te rfl) rfl (qH _) rfl)) rfl rfl ?_)|(refine uE (uL rfl rfl (uO (te rfl) rfl (qT _ (qH _)) rfl)) rfl rfl ?_)|(refine uE (uL rfl rfl (uW (T:=26) (cs:=cRm R p) (te rfl) rfl (qT _ (qT _ hb2)) rfl)) rfl rfl ?_)|(refine uC (uT rfl (Args.cons rfl (Args.cons rfl (Args.cons rfl (Args.cons rfl Args.nil))))) rfl rfl (ko1 _ (hGR.sub (fun _ h=>by repeat (first | exact h | apply qT)))) ?_;rintro _ _ ⟨rfl,rfl⟩)|(refine uC (uT rfl (Args.cons rfl (Args.cons rfl (Args.cons rfl (Args.cons rfl Args.nil))))) rfl rfl (ko2 _ (hGR.sub (fun _ h=>by repeat (first | exact h | apply qT)))) ?_;rintro _ _ ⟨rfl,rfl⟩)|(refine uE (uQ (b:=false) rfl rfl rfl (congrArg some (nd_f (Eq.refl (0 : Int))))) rfl rfl ?_)|(refine uE (EvF.add64 (p:=(j : Int)) (q:=1) rfl rfl rfl (by omega) (by omega)) rfl rfl ?_)|(refine uE (uM rfl rfl) rfl rfl ?_)|(refine uE (uA rfl rfl) rfl rfl ?_)|(refine uE (EvF.pickT rfl rfl rfl) rfl rfl ?_)|(refine uE (EvF.pickF rfl rfl rfl) rfl rfl ?_)|(refine uE (uQ rfl rfl rfl rfl) rfl rfl ?_)|(refine uE (uF rfl rfl (te rfl) rfl (te rfl) (by decide)) rfl rfl ?_)|(refine uE (EvF.indexSlice rfl rfl rfl (te rfl) (te rfl) (by omega) (by omega)) rfl rfl ?_)|(refine uE (uX rfl rfl rfl) rfl rfl ?_)))))|(refine uD rfl ?_;refine hK _ _ ?_;clear hK K) | refine uS rfl ?_ | refine uR rfl (fun K hK=>?_) | refine X.block rfl ?_ | refine X.skip rfl ?_ | (refine X.ite rfl rfl (fun hc=>?_);(first | (with_reducible refine Xb.t hc ?_)|(with_reducible refine Xb.f hc ?_)) <;> clear hc))
        all_goals try (exfalso;contradiction)
        refine ⟨_,_,⟨b11,0,cBx x,some 81,2⟩::G,(by repeat (first | exact uU _ | refine uV rfl ?_)),(by repeat (first | exact qR _ | apply qK | apply qC)),⟨j + 1,decide (t2 = 0),decide (t1 = 0),rfl,by omega,?_,?_,rfl,rfl⟩,by omega⟩
        ·intro h u hu hum hux
         rcases htk u hu with q | q
         ·exact hle rfl u q hum hux
         ·rw [q];exact g2 (of_decide_eq_true h)
        ·exact fun h=>g1 (of_decide_eq_true h)
       ·repeat' (first | (refine uP rfl ?_;(first | ((first | refine uN rfl ?_ | (refine Xo.g rfl rfl ?_;with_reducible refine Xw.tt ?_)|(refine Xo.g rfl rfl ?_;with_reducible refine Xw.ff ?_));(first | (refine uE (uQ (b:=true) rfl rfl rfl (congrArg some (decide_eq_true hjl'))) rfl rfl ?_)|(refine uE (uQ (b:=false) rfl rfl rfl (congrArg some (decide_eq_false hyx))) rfl rfl ?_)|(refine uE (uQ (b:=false) rfl rfl rfl (congrArg some (decide_eq_false hym2))) rfl rfl ?_)|(refine uE (uL rfl rfl (LoadV.elA0 hbs2 hy (te rfl) rfl (fun _ hm=>hm) rfl)) rfl rfl ?_)|(refine Xg.st (StF.alloc rfl Try.zeroValue81 rfl) rfl rfl ?_;rintro _ _ ⟨bx,rfl,rfl⟩)|(refine Xg.st0 (StF.storeAll (i:=0) (vs:=cBx y) rfl rfl rfl (te rfl) rfl rfl rfl rfl) rfl ?_;rintro _ _ ⟨rfl,rfl⟩;dsimp only [List.set])|(refine uE (uL rfl rfl (uO (te rfl) rfl (qH _) rfl)) rfl rfl ?_)|(refine uE (uL rfl rfl (uO (te rfl) rfl (qT _ (qH _)) rfl)) rfl rfl ?_)|(refine uE (uL rfl rfl (uW (T:=26) (cs:=cRm R p) (te rfl) rfl (qT _ (qT _ hb2)) rfl)) rfl rfl ?_)|(refine uC (uT rfl (Args.cons rfl (Args.cons rfl (Args.cons rfl (Args.cons rfl Args.nil))))) rfl rfl (ko1 _ (hGR.sub (fun _ h=>by repeat (first | exact h | apply qT)))) ?_;rintro _ _ ⟨rfl,rfl⟩)|(refine uC (uT rfl (Args.cons rfl (Args.cons rfl (Args.cons rfl (Args.cons rfl Args.nil))))) rfl rfl (ko2 _ (hGR.sub (fun _ h=>by repeat (first | exact h | apply qT)))) ?_;rintro _ _ ⟨rfl,rfl⟩)|(refine uE (uQ (b:=false) rfl rfl rfl (congrArg some (nd_f (Eq.refl (0 : Int))))) rfl rfl ?_)|(refine uE (EvF.add64 (p:=(j : Int)) (q:=1) rfl rfl rfl (by omega) (by omega)) rfl rfl ?_)|(refine uE (uM rfl rfl) rfl rfl ?_)|(refine uE (uA rfl rfl) rfl rfl ?_)|(refine uE (EvF.pickT rfl rfl rfl) rfl rfl ?_)|(refine uE (EvF.pickF rfl rfl rfl) rfl rfl ?_)|(refine uE (uQ rfl rfl rfl rfl) rfl rfl ?_)|(refine uE (uF rfl rfl (te rfl) rfl (te rfl) (by decide)) rfl rfl ?_)|(refine uE (EvF.indexSlice rfl rfl rfl (te rfl) (te rfl) (by omega) (by omega)) rfl rfl ?_)|(refine uE (uX rfl rfl rfl) rfl rfl ?_)))|(refine Xo.g rfl rfl ?_;(first | (with_reducible refine Xw.tf rfl rfl ?_)))))|(refine uD rfl ?_;refine hK _ _ ?_;clear hK K) | refine uS rfl ?_ | refine uR rfl (fun K hK=>?_) | refine X.block rfl ?_ | refine X.skip rfl ?_ | (refine X.ite rfl rfl (fun hc=>?_);(first | (with_reducible refine Xb.t hc ?_)|(with_reducible refine Xb.f hc ?_)) <;> clear hc))
        all_goals try (exfalso;contradiction)
        refine ⟨_,_,⟨b11,0,cBx x,some 81,2⟩::G,(by repeat (first | exact uU _ | refine uV rfl ?_)),(by repeat (first | exact qR _ | apply qK | apply qC)),⟨j + 1,decide (t2 = 0),true,rfl,by omega,?_,?_,rfl,rfl⟩,by omega⟩
        ·intro h u hu hum hux
         rcases htk u hu with q | q
         ·exact hle rfl u q hum hux
         ·rw [q];exact g2 (of_decide_eq_true h)
        ·exact hmo
    ·have hjl' : ¬ (j : Int)<(R.boxes.length : Int):=by omega
     have hje : R.boxes.take j = R.boxes:=List.take_of_length_le (by omega)
     rw [hje] at hle
     have kh:=fun S hS=>khas x.id S hS
     have gl : le = true → freL R m = [x.id]:=fun h=>fre_alone hrd hm0 hxt (fun b hb hbx=>by
      obtain ⟨u,hu,hui⟩:=rdy_there hm0 hb
      rw [← hui]
      exact hle h u hu.1 hu.2.1 (by rw [hui];exact hbx))
     have ksm:=fun (bq : Nat) S (hS : SlE S a cI 1 (freL R m)) (hq : SlE S (some ⟨bq,0,none⟩) cI 1 [x.id])=>sameInts_spec (freL R m) [x.id] a (some ⟨bq,0,none⟩) c 1 S hS hq (by omega)
     clear hle
     cases le <;> cases mo
     ·repeat' (first | (refine uP rfl ?_;(first | ((first | refine uN rfl ?_ | (refine Xo.g rfl rfl ?_;with_reducible refine Xw.ff ?_));(first | (refine uE (uQ (b:=false) rfl rfl rfl (congrArg some (decide_eq_false hjl'))) rfl rfl ?_)|(refine uE (EvF.add64 (p:=(k : Int)) (q:=1) rfl rfl rfl (by omega) (by omega)) rfl rfl ?_)|(refine uE (uM rfl rfl) rfl rfl ?_)|(refine uE (EvF.pickF rfl rfl rfl) rfl rfl ?_)))|(refine Xo.g rfl rfl ?_;(first | (with_reducible refine Xw.ft rfl rfl ?_)))))|(refine uD rfl ?_;refine hK _ _ ?_;clear hK K) | refine uS rfl ?_ | refine uR rfl (fun K hK=>?_)|(refine X.brk rfl ?_;repeat (first | refine blockX_hit rfl ?_ | refine blockX_miss (by decide) ?_)) | refine X.skip rfl ?_ | (refine X.ite rfl rfl (fun hc=>?_);(first | (with_reducible refine Xb.f hc ?_)) <;> clear hc))
      all_goals try (exfalso;contradiction)
      refine ⟨_,_,G,?_,(by repeat (first | exact qR _ | apply qC)),⟨k + 1,rfl,by omega,rfl,rfl⟩,by omega⟩
      exact (by repeat (first | exact uU _ | refine uV rfl ?_))
     ·rw [decide_eq_false (hmo rfl)] at kh
      repeat' (first | (refine uP rfl ?_;(first | ((first | refine uN rfl ?_ | (refine Xo.g rfl rfl ?_;with_reducible refine Xw.tt ?_)|(refine Xo.g rfl rfl ?_;with_reducible refine Xw.ff ?_));(first | (refine uE (uQ (b:=false) rfl rfl rfl (congrArg some (decide_eq_false hjl'))) rfl rfl ?_)|(refine uE (uL rfl rfl (uO (te rfl) rfl (qH _) rfl)) rfl rfl ?_)|(refine uC (uT rfl (Args.cons rfl (Args.cons rfl Args.nil))) rfl rfl (kh _ (hl.sub (fun _ h=>by repeat (first | exact h | apply qT)))) ?_;rintro _ _ ⟨rfl,rfl⟩)|(refine uE (EvF.add64 (p:=(k : Int)) (q:=1) rfl rfl rfl (by omega) (by omega)) rfl rfl ?_)|(refine uE (uM rfl rfl) rfl rfl ?_)|(refine uE (EvF.pickT rfl rfl rfl) rfl rfl ?_)|(refine uE (EvF.pickF rfl rfl rfl) rfl rfl ?_)|(refine uE (uF rfl rfl (te rfl) rfl (te rfl) (by decide)) rfl rfl ?_)))|(refine Xo.g rfl rfl ?_;(first | (with_reducible refine Xw.ft rfl rfl ?_)))))|(refine uD rfl ?_;refine hK _ _ ?_;clear hK K) | refine uS rfl ?_ | refine uR rfl (fun K hK=>?_)|(refine X.brk rfl ?_;repeat (first | refine blockX_hit rfl ?_ | refine blockX_miss (by decide) ?_)) | refine X.skip rfl ?_ | (refine X.ite rfl rfl (fun hc=>?_);(first | (with_reducible refine Xb.f hc ?_)) <;> clear hc))
      all_goals try (exfalso;contradiction)
      refine ⟨_,_,G,?_,(by repeat (first | exact qR _ | apply qC)),⟨k + 1,rfl,by omega,rfl,rfl⟩,by omega⟩
      exact (by repeat (first | exact uU _ | refine uV rfl ?_))
     ·have gl2:=gl rfl
      rw [decide_eq_true gl2] at ksm
      repeat' (first | (refine uP rfl ?_;(first | ((first | refine uN rfl ?_ | (refine Xo.g rfl rfl ?_;with_reducible refine Xw.tt ?_)|(refine Xo.g rfl rfl ?_;with_reducible refine Xw.ff ?_));(first | (refine uE (uQ (b:=false) rfl rfl rfl (congrArg some (decide_eq_false hjl'))) rfl rfl ?_)|(refine uE (uL rfl rfl (uO (te rfl) rfl (qH _) rfl)) rfl rfl ?_)|(refine Xg.st (StF.buildOne (cs:=[.int .i64 x.id]) rfl el55 rfl rfl rfl (by decide) (by decide)) rfl rfl ?_;rintro _ _ ⟨bq,rfl,rfl⟩)|(refine uC (uT rfl (Args.cons rfl (Args.cons rfl Args.nil))) rfl rfl (ksm bq _ (hl.sub (fun _ h=>by repeat (first | exact h | apply qT))) (SlE.ofRow (l:=[x.id]) (qH _) (fun _ _=>rfl))) ?_;rintro _ _ ⟨rfl,rfl⟩)|(refine uE (EvF.add64 (p:=(k : Int)) (q:=1) rfl rfl rfl (by omega) (by omega)) rfl rfl ?_)|(refine uE (uM rfl rfl) rfl rfl ?_)|(refine uE (uA rfl rfl) rfl rfl ?_)|(refine uE (EvF.pickT rfl rfl rfl) rfl rfl ?_)|(refine uE (EvF.pickF rfl rfl rfl) rfl rfl ?_)|(refine uE (EvF.not rfl rfl) rfl rfl ?_)|(refine uE (uF rfl rfl (te rfl) rfl (te rfl) (by decide)) rfl rfl ?_)))|(refine Xo.g rfl rfl ?_;(first | (with_reducible refine Xw.tf rfl rfl ?_)|(with_reducible refine Xw.ft rfl rfl ?_)|(with_reducible refine Xw.caseB (fun h=>?_) (fun h=>?_) <;> simp only [h,decide_true,decide_false,Bool.not_true,Bool.not_false,and_self,and_true,true_and,and_false,false_and])))|(refine Xo.sk rfl rfl rfl rfl ?_)))|(refine uD rfl ?_;refine hK _ _ ?_;clear hK K) | refine uS rfl ?_ | refine uR rfl (fun K hK=>?_)|(refine X.brk rfl ?_;repeat (first | refine blockX_hit rfl ?_ | refine blockX_miss (by decide) ?_)) | refine X.skip rfl ?_ | refine X.ret rfl ?_ | (refine X.ite rfl rfl (fun hc=>?_);(first | (with_reducible refine Xb.t hc ?_)|(with_reducible refine Xb.f hc ?_)) <;> clear hc))
      all_goals try (exfalso;contradiction)
      refine ⟨_,_,G,?_,(by repeat (first | exact qR _ | apply qC)),⟨k + 1,rfl,by omega,rfl,rfl⟩,by omega⟩
      exact (by repeat (first | exact uU _ | refine uV rfl ?_))
     ·have gl2:=gl rfl
      rw [decide_eq_true gl2] at ksm
      rw [decide_eq_false (hmo rfl)] at kh
      repeat' (first | (refine uP rfl ?_;(first | ((first | refine uN rfl ?_ | (refine Xo.g rfl rfl ?_;with_reducible refine Xw.tt ?_)|(refine Xo.g rfl rfl ?_;with_reducible refine Xw.ff ?_));(first | (refine uE (uQ (b:=false) rfl rfl rfl (congrArg some (decide_eq_false hjl'))) rfl rfl ?_)|(refine uE (uL rfl rfl (uO (te rfl) rfl (qH _) rfl)) rfl rfl ?_)|(refine uE (uL rfl rfl (uO (te rfl) rfl (qT _ (qH _)) rfl)) rfl rfl ?_)|(refine Xg.st (StF.buildOne (cs:=[.int .i64 x.id]) rfl el55 rfl rfl rfl (by decide) (by decide)) rfl rfl ?_;rintro _ _ ⟨bq,rfl,rfl⟩)|(refine uC (uT rfl (Args.cons rfl (Args.cons rfl Args.nil))) rfl rfl (ksm bq _ (hl.sub (fun _ h=>by repeat (first | exact h | apply qT))) (SlE.ofRow (l:=[x.id]) (qH _) (fun _ _=>rfl))) ?_;rintro _ _ ⟨rfl,rfl⟩)|(refine uC (uT rfl (Args.cons rfl (Args.cons rfl Args.nil))) rfl rfl (kh _ (hl.sub (fun _ h=>by repeat (first | exact h | apply qT)))) ?_;rintro _ _ ⟨rfl,rfl⟩)|(refine uE (EvF.add64 (p:=(k : Int)) (q:=1) rfl rfl rfl (by omega) (by omega)) rfl rfl ?_)|(refine uE (uM rfl rfl) rfl rfl ?_)|(refine uE (uA rfl rfl) rfl rfl ?_)|(refine uE (EvF.pickT rfl rfl rfl) rfl rfl ?_)|(refine uE (EvF.pickF rfl rfl rfl) rfl rfl ?_)|(refine uE (EvF.not rfl rfl) rfl rfl ?_)|(refine uE (uF rfl rfl (te rfl) rfl (te rfl) (by decide)) rfl rfl ?_)))|(refine Xo.g rfl rfl ?_;(first | (with_reducible refine Xw.tf rfl rfl ?_)|(with_reducible refine Xw.caseB (fun h=>?_) (fun h=>?_) <;> simp only [h,decide_true,decide_false,Bool.not_true,Bool.not_false,and_self,and_true,true_and,and_false,false_and])))|(refine Xo.sk rfl rfl rfl rfl ?_)))|(refine uD rfl ?_;refine hK _ _ ?_;clear hK K) | refine uS rfl ?_ | refine uR rfl (fun K hK=>?_)|(refine X.brk rfl ?_;repeat (first | refine blockX_hit rfl ?_ | refine blockX_miss (by decide) ?_)) | refine X.skip rfl ?_ | refine X.ret rfl ?_ | (refine X.ite rfl rfl (fun hc=>?_);(first | (with_reducible refine Xb.t hc ?_)|(with_reducible refine Xb.f hc ?_)) <;> clear hc))
      all_goals try (exfalso;contradiction)
      refine ⟨_,_,G,?_,(by repeat (first | exact qR _ | apply qC)),⟨k + 1,rfl,by omega,rfl,rfl⟩,by omega⟩
      exact (by repeat (first | exact uU _ | refine uV rfl ?_))
  ·obtain rfl : k = R.boxes.length:=by omega
   have hkl' : ¬ (R.boxes.length : Int)<(R.boxes.length : Int):=by omega
   rw [List.take_length]
   have hthI : thL m R.boxes = thI R m:=rfl
   rw [hthI]
   have hle : ((freL R m).length : Int)≤((thI R m).length : Int):=by omega
   by_cases hn : thI R m = []
   ·have z1 : ¬ ((freL R m).length : Int) > 0:=by rw [hn] at hfl;simp only [List.length_nil] at hfl;omega
    have z2 : ¬ ((thI R m).length : Int) > 0:=by rw [hn];decide
    repeat' (first | (refine uP rfl ?_;(first | ((first | refine uN rfl ?_ | (refine Xo.g rfl rfl ?_;with_reducible refine Xw.tt ?_));(first | (refine uE (uQ (b:=false) rfl rfl rfl (congrArg some (decide_eq_false hkl'))) rfl rfl ?_)|(refine uE (EvF.lenSlice rfl rfl (te rfl)) rfl rfl ?_)|(refine uE (uQ (b:=false) rfl rfl rfl (congrArg some (decide_eq_false z1))) rfl rfl ?_)|(refine uE (uQ (b:=false) rfl rfl rfl (congrArg some (decide_eq_false z2))) rfl rfl ?_)|(refine uE (uQ (b:=true) rfl rfl rfl (congrArg some (decide_eq_true hle))) rfl rfl ?_)|(refine uE (EvF.cmpB (b:=true) rfl rfl rfl Try.underlying4 rfl) rfl rfl ?_)|(refine uE (uM rfl rfl) rfl rfl ?_)|(refine uE (uA rfl rfl) rfl rfl ?_)|(refine uE (EvF.pickT rfl rfl rfl) rfl rfl ?_)))))|(refine uD rfl ?_;refine hK _ _ ?_;clear hK K) | refine uS rfl ?_ | refine uR rfl (fun K hK=>?_)|(refine X.brk rfl ?_;repeat (first | refine blockX_hit rfl ?_ | refine blockX_miss (by decide) ?_)) | refine X.ret rfl ?_ | (refine X.ite rfl rfl (fun hc=>?_);(first | (with_reducible refine Xb.f hc ?_)) <;> clear hc))
    all_goals try (exfalso;contradiction)
    exact ret_one (by simp) Try.results10 rfl (H' := _) (qR _) rfl
   ·have z1 : ((freL R m).length : Int) > 0:=by have:=List.length_pos_iff.2 (fre_some hrd hm0 hn);omega
    have z2 : ((thI R m).length : Int) > 0:=by omega
    repeat' (first | (refine uP rfl ?_;(first | ((first | refine uN rfl ?_ | (refine Xo.g rfl rfl ?_;with_reducible refine Xw.tt ?_));(first | (refine uE (uQ (b:=false) rfl rfl rfl (congrArg some (decide_eq_false hkl'))) rfl rfl ?_)|(refine uE (EvF.lenSlice rfl rfl (te rfl)) rfl rfl ?_)|(refine uE (uQ (b:=true) rfl rfl rfl (congrArg some (decide_eq_true z1))) rfl rfl ?_)|(refine uE (uQ (b:=true) rfl rfl rfl (congrArg some (decide_eq_true z2))) rfl rfl ?_)|(refine uE (uQ (b:=true) rfl rfl rfl (congrArg some (decide_eq_true hle))) rfl rfl ?_)|(refine uE (EvF.cmpB (b:=true) rfl rfl rfl Try.underlying4 rfl) rfl rfl ?_)|(refine uE (uM rfl rfl) rfl rfl ?_)|(refine uE (uA rfl rfl) rfl rfl ?_)|(refine uE (EvF.pickT rfl rfl rfl) rfl rfl ?_)))))|(refine uD rfl ?_;refine hK _ _ ?_;clear hK K) | refine uS rfl ?_ | refine uR rfl (fun K hK=>?_)|(refine X.brk rfl ?_;repeat (first | refine blockX_hit rfl ?_ | refine blockX_miss (by decide) ?_)) | refine X.ret rfl ?_ | (refine X.ite rfl rfl (fun hc=>?_);(first | (with_reducible refine Xb.f hc ?_)) <;> clear hc))
    all_goals try (exfalso;contradiction)
    exact ret_one (by simp) Try.results10 rfl (H' := _) (qR _) rfl
 ·refine Fc.mk (callable Try.call10) Try.func10 rfl Try.ntmps10 rfl ?_;dsimp only [fr]
  repeat' (first | (refine uP rfl ?_;(first | ((first | refine uN rfl ?_ | (refine Xo.g rfl rfl ?_;with_reducible refine Xw.ff ?_));(first | (refine uC (uT rfl Args.nil) rfl rfl (alive_spec _) ?_;rintro _ _ ⟨rfl,rfl⟩)|(refine uE (uL rfl rfl (uW (te rfl) rfl (qH _) rfl)) rfl rfl ?_)|(refine uC (uT rfl (Args.cons rfl Args.nil)) rfl rfl (ready_no R p _ (hR.sub (fun _ h=>by repeat (first | exact h | apply qT))) hrd) ?_;rintro _ _ ⟨rfl,rfl⟩)|(refine uE (uM rfl rfl) rfl rfl ?_)|(refine uE (uA rfl rfl) rfl rfl ?_)|(refine uE (EvF.pickT rfl rfl rfl) rfl rfl ?_)|(refine uE (EvF.pickF rfl rfl rfl) rfl rfl ?_)|(refine uE (EvF.not rfl rfl) rfl rfl ?_)|(refine Xg.st (StF.boxAgg rfl rfl) rfl rfl ?_;rintro _ _ ⟨bx,rfl,rfl⟩)))|(refine Xo.g rfl rfl ?_;(first | (with_reducible refine Xw.tf rfl rfl ?_)|(with_reducible refine Xw.caseB (fun h=>?_) (fun h=>?_) <;> simp only [h,decide_true,decide_false,Bool.not_true,Bool.not_false,and_self,and_true,true_and,and_false,false_and])))))|(refine uD rfl ?_;refine hK _ _ ?_;clear hK K) | refine uS rfl ?_ | refine uR rfl (fun K hK=>?_) | refine X.skip rfl ?_ | refine X.ret rfl ?_ | (refine X.ite rfl rfl (fun hc=>?_);(first | (with_reducible refine Xb.t hc ?_)|(with_reducible refine Xb.caseB hc (fun h=>?_) (fun h=>?_))) <;> clear hc))
  all_goals try (exfalso;contradiction)
  exact ret_one (by simp) Try.results10 rfl (H' := _) (qR _) rfl
end Go.Proofs.Ytiidhncjolbigaa
end
section
set_option linter.unusedVariables false
namespace Go.Proofs.Ytiidhncjolbigaa
open Go Go.Fw Go.ChangeShapes Go.WideShapes
set_option maxRecDepth 10000
instance : Inhabited Sp:=⟨⟨0,0⟩⟩
instance : Inhabited Bx:=⟨⟨0,0⟩⟩
instance : Inhabited Mt:=⟨⟨0,0,0,0,0,0⟩⟩
def w64 (n : Int) : Prop:=(Lit.int .i64 n).wf = true
section
variable {H : Type} {enc : TypeId × Value → H} {w : World} {base : Nat} {spare : Nat → Bool} {held : Bool} {fuel : Nat} {cs : List Value} {x : DataW H × List MemPlace}
theorem open_i (h : DataW.trod enc Try.prog w base spare held fuel 3 cs = some x) : ∃ q : Int,cs = cI q∧w64 q:=trod_i (te rfl) h
theorem open_sp (h : DataW.trod enc Try.prog w base spare held fuel 35 cs = some x) : ∃ q : Sp,cs = cSp q∧(w64 q.lo∧w64 q.hi):=by
 obtain ⟨hl,hf⟩:=trod_st (te rfl) h
 obtain ⟨n0,y0,h0⟩:=hf 0 0 3 _ rfl (te rfl)
 obtain ⟨n1,y1,h1⟩:=hf 1 1 3 _ rfl (te rfl)
 match cs,hl with
 | [a,b],_ =>
  obtain ⟨lo,e0,w0⟩:=open_i h0
  obtain ⟨hi,e1,w1⟩:=open_i h1
  simp [cI] at e0 e1
  subst e0 e1
  exact ⟨⟨lo,hi⟩,rfl,w0,w1⟩
theorem open_bx (h : DataW.trod enc Try.prog w base spare held fuel 81 cs = some x) : ∃ q : Bx,cs = cBx q∧(w64 q.id∧w64 q.made):=by
 obtain ⟨hl,hf⟩:=trod_st (te rfl) h
 obtain ⟨n0,y0,h0⟩:=hf 0 0 3 _ rfl (te rfl)
 obtain ⟨n1,y1,h1⟩:=hf 1 1 3 _ rfl (te rfl)
 match cs,hl with
 | [a,b],_ =>
  obtain ⟨lo,e0,w0⟩:=open_i h0
  obtain ⟨hi,e1,w1⟩:=open_i h1
  simp [cI] at e0 e1
  subst e0 e1
  exact ⟨⟨lo,hi⟩,rfl,w0,w1⟩
theorem open_mt (h : DataW.trod enc Try.prog w base spare held fuel 111 cs = some x) : ∃ q : Mt,cs = cMt q∧(w64 q.number∧w64 q.month∧w64 q.a∧w64 q.b∧w64 q.lo∧w64 q.hi):=by
 obtain ⟨hl,hf⟩:=trod_st (te rfl) h
 obtain ⟨n0,y0,h0⟩:=hf 0 0 3 _ rfl (te rfl)
 obtain ⟨n1,y1,h1⟩:=hf 1 1 3 _ rfl (te rfl)
 obtain ⟨n2,y2,h2⟩:=hf 2 2 3 _ rfl (te rfl)
 obtain ⟨n3,y3,h3⟩:=hf 3 3 3 _ rfl (te rfl)
 obtain ⟨n4,y4,h4⟩:=hf 4 4 35 _ rfl (te rfl)
 match cs,hl with
 | [a,b,c,d,e,f],_ =>
  obtain ⟨q0,e0,w0⟩:=open_i h0
  obtain ⟨q1,e1,w1⟩:=open_i h1
  obtain ⟨q2,e2,w2⟩:=open_i h2
  obtain ⟨q3,e3,w3⟩:=open_i h3
  obtain ⟨q4,e4,w4⟩:=open_sp h4
  simp [cI,cSp] at e0 e1 e2 e3 e4
  obtain ⟨e4,e5⟩:=e4
  subst e0 e1 e2 e3 e4 e5
  exact ⟨⟨q0,q1,q2,q3,q4.lo,q4.hi⟩,rfl,w0,w1,w2,w3,w4.1,w4.2⟩
end
structure InRm (w : World) (R : Rm) (p : Pl) : Prop where
 ages : InSl w p.a1 cSp 2 R.ages
 boxes : InSl w p.a2 cBx 2 R.boxes
 mats : InSl w p.a3 cMt 6 R.mats
 mo : w64 R.months
 st : w64 R.step
 k1 : R.ages.length ≤ p.c1
 k2 : R.boxes.length ≤ p.c2
 k3 : R.mats.length ≤ p.c3
def rowsRm (R : Rm) (p : Pl) : List Row:=rowsOf p.a1 cSp R.ages++(rowsOf p.a2 cBx R.boxes++rowsOf p.a3 cMt R.mats)
theorem InRm.rm {w : World} {R : Rm} {p : Pl} {H : List Row} (h : InRm w R p) (hs : ∀ r ∈ rowsRm R p,r ∈ H) : RmOk H R p where
 ages:=h.ages.sl fun r hr=>hs r (List.mem_append_left _ hr)
 boxes:=h.boxes.sl fun r hr=>hs r (List.mem_append_right _ (List.mem_append_left _ hr))
 mats:=h.mats.sl fun r hr=>hs r (List.mem_append_right _ (List.mem_append_right _ hr))
 l1:=by have:=h.ages.2.1;unfold maxLen at this;omega
 l2:=by have:=h.boxes.2.1;unfold maxLen at this;omega
 l3:=by have:=h.mats.2.1;unfold maxLen at this;omega
theorem InRm.ok {w : World} {R : Rm} {p : Pl} {B : Nat} (h : InRm w R p) : ∀ r ∈ rowsRm R p,r.own = none∧r.ok B w:=by
 intro r hr
 rcases List.mem_append.1 hr with hr | hr
 ·exact h.ages.ok r hr
 ·rcases List.mem_append.1 hr with hr | hr
  ·exact h.boxes.ok r hr
  ·exact h.mats.ok r hr
section
variable {H : Type} {enc : TypeId × Value → H} {w : World} {base : Nat} {spare : Nat → Bool} {held : Bool} {v : Value} {d : DataW H} {p : List MemPlace} {r : Reach} {b0 : Nat}
theorem open_room (hv : Value.okWide Try.prog w r b0 26 v) (h : DataW.Trod enc Try.prog w base spare held 26 v d p) : ∃ R pl,v = .agg (cRm R pl).toArray∧InRm w R pl:=by
 obtain ⟨fa,hu,_⟩:=ti_struct (te (T:=26) rfl)
 obtain ⟨⟨cs⟩,rfl,_⟩:=okWide_struct hu hv
 obtain ⟨fuel,hf⟩:=h
 obtain ⟨hl,hf⟩:=trod_st (te rfl) hf
 obtain ⟨n0,y0,h0⟩:=hf 0 0 3 _ rfl (te rfl)
 obtain ⟨n1,y1,h1⟩:=hf 1 1 3 _ rfl (te rfl)
 obtain ⟨n2,y2,h2⟩:=hf 2 2 22 _ rfl (te rfl)
 obtain ⟨n3,y3,h3⟩:=hf 3 3 23 _ rfl (te rfl)
 obtain ⟨n4,y4,h4⟩:=hf 4 4 24 _ rfl (te rfl)
 match cs,hl with
 | [a,b,c,d,e],_ =>
  obtain ⟨q0,e0,w0⟩:=open_i h0
  obtain ⟨q1,e1,w1⟩:=open_i h1
  simp [cI,Value.cells] at e0 e1
  obtain ⟨l2,a2,c2,e2,i2,_,k2⟩:=open_sl (te rfl) (te rfl) rfl (by decide) (fun _ _ _=>open_sp) (fun _=>rfl) h2
  obtain ⟨l3,a3,c3,e3,i3,_,k3⟩:=open_sl (te rfl) (te rfl) rfl (by decide) (fun _ _ _=>open_bx) (fun _=>rfl) h3
  obtain ⟨l4,a4,c4,e4,i4,_,k4⟩:=open_sl (te rfl) (te rfl) rfl (by decide) (fun _ _ _=>open_mt) (fun _=>rfl) h4
  subst e0 e1 e2 e3 e4
  exact ⟨⟨q0,q1,l2,l3,l4⟩,⟨a2,c2,a3,c3,a4,c4⟩,rfl,i2,i3,i4,w0,w1,k2,k3,k4⟩
end
end Go.Proofs.Ytiidhncjolbigaa
end
section
set_option linter.unusedVariables false
namespace Go.Proofs.Ytiidhncjolbigaa
open Go Go.Fw Go.ChangeShapes Go.WideShapes Go.ChangeAt Go.RowKit
set_option linter.unusedVariables false
set_option maxRecDepth 100000
theorem ownK : ownKnob Try.prog.godebug = none:=by kernel_rfl
theorem laidO : laidOutB Try.prog = true:=by kernel_rfl
theorem open_in {w : World} {r : Reach} {b0 : Nat} {v : Value} (hv : Value.okWide Try.prog w r b0 3 v) : ∃ q : Int,v = .int .i64 q:=okWide_int Try.underlying3 hv
theorem boxTells_run (R : Rm) (p : Pl) (a b m : Int) (w : World) (hR : InRm w R p) :
  Calls Try.prog 3 #[.agg (cRm R p).toArray,.int .i64 a,.int .i64 b,.int .i64 m] w fun e w' => e = .returned (.bool true)∧Below w.heap.size w w' :=
 Fc.calls (H:=rowsRm R p) (boxTells_spec R p a b m _ (hR.rm (fun _ h=>h))) (fun r hr=>hR.ok r hr)
theorem lifted (os : Os) (started : os.Started) (H : Type) (enc : TypeId × Value → H) :
  ReturnsInHanded {} Try.checked os 3 .any (Rows.boxTellsSpec.pre6 enc Try.prog Try.f3 Rows.boxTellsRow.domain false) (Rows.boxTellsSpec.post enc Try.prog Try.f3 false true false false):=by
 refine returnsInHanded_of_change (C:=Try.checked) ownK started (by kernel_rfl) Try.func3
  (ChangeSpec.witness6 (enc:=enc) (C:=Try.checked) false ⟨#[], #[.agg (cRm ⟨0,0,[],[],[]⟩ ⟨none,0,none,0,none,0⟩).toArray,.int .i64 0,.int .i64 0,.int .i64 0],[]⟩ 8 (by kernel_rfl) (by kernel_rfl) (by kernel_rfl) (by kernel_rfl)) ?_
 intro W base args ds gs before hval0 hW hcnd _
 have hval : ∀ (j : Nat) t v,Try.f3.params[j]? = some t → args[j]? = some v → Value.okWide Try.prog W .any base t v:=hval0
 have hW' := hW
 obtain ⟨p,q,hA0,hV,rfl,hfz,hnd⟩:=hW
 have hA : DataW.TrodAll enc Try.prog W 0 (fun _=>true) true Try.f3.params.toList args.toList ds p:=hA0
 rw [Try.params3] at hA hval
 obtain ⟨v0,vs0,d0,ds0,p0,q0,hargs,rfl,rfl,h0,r0⟩:=trodAll_cons hA
 obtain ⟨v1,vs1,d1,ds1,p1,q1,rfl,rfl,rfl,h1,r1⟩:=trodAll_cons r0
 obtain ⟨v2,vs2,d2,ds2,p2,q2,rfl,rfl,rfl,h2,r2⟩:=trodAll_cons r1
 obtain ⟨v3,vs3,d3,ds3,p3,q3,rfl,rfl,rfl,h3,r3⟩:=trodAll_cons r2
 obtain ⟨rfl,rfl,rfl⟩:=trodAll_nil r3
 obtain rfl : args = #[v0,v1,v2,v3]:=by cases args;simp_all
 obtain ⟨rfl,rfl⟩:=trodVars_none hV
 have lt : ∀ {t v d ps},DataW.Trod enc Try.prog W 0 (fun _=>true) true t v d ps → ∀ x ∈ ps,x.block < W.heap.size:=fun h=>by obtain ⟨m,hm⟩:=h;exact DataW.trod_lt m _ _ _ hm
 obtain ⟨R,pl,rfl,hR⟩:=open_room (hval 0 _ v0 rfl rfl) h0
 obtain ⟨a,rfl⟩:=open_in (hval 1 _ v1 rfl rfl)
 obtain ⟨b,rfl⟩:=open_in (hval 2 _ v2 rfl rfl)
 obtain ⟨m,rfl⟩:=open_in (hval 3 _ v3 rfl rfl)
 clear hA0 hval0
 refine (boxTells_run R pl a b m W hR).mono fun e W' ⟨he,bel⟩=>?_
 subst he
 exact ⟨_,rfl,_,_,_,[],_,[],hW',trodAll_mk1 (shut_bool Try.underlying4 _),(trodAll_cons_mk (Below.trod laidO (by kernel_rfl) (of_decide_eq_true (by kernel_rfl)) h0 bel (lt h0)) (trodAll_cons_mk (Below.trod laidO (by kernel_rfl) (of_decide_eq_true (by kernel_rfl)) h1 bel (lt h1)) (trodAll_cons_mk (Below.trod laidO (by kernel_rfl) (of_decide_eq_true (by kernel_rfl)) h2 bel (lt h2)) (trodAll_cons_mk (Below.trod laidO (by kernel_rfl) (of_decide_eq_true (by kernel_rfl)) h3 bel (lt h3)) trodAll_mk0)))),rfl,bel.frame _,fun h=>by cases h⟩
theorem over : Rows.boxTellsRow.holds Try.pinned (OpenSpec.ofChange Rows.boxTellsSpec) :=
 OpenClaim.holds_of_wide 3 Try.f3 rfl rfl rfl rfl rfl rfl rfl ⟨rfl,rfl,rfl,rfl,rfl⟩ rfl rfl rfl rfl rfl (by kernel_rfl) Try.func3 (by kernel_rfl)
  (of_decide_eq_true (by kernel_rfl)) (by unfold Func.isWrapper;first | (rw [if_pos (by decide +kernel)];kernel_rfl)|(rw [if_neg (by decide +kernel)];exact ⟨rfl,rfl⟩))
  (fun os started H enc _=>lifted os started H enc)
end Go.Proofs.Ytiidhncjolbigaa
end
section
set_option linter.unusedVariables false
namespace Go.Proofs.Ytiidhncjolbigaa
open Go Go.Fw Go.ChangeShapes Go.WideShapes Go.ChangeAt Go.RowKit
set_option linter.unusedVariables false
set_option maxRecDepth 10000
def u8 (n : Int) : Prop:=0 ≤ n∧n ≤ 255
section
variable {H : Type} {enc : TypeId × Value → H} {w : World} {base : Nat} {spare : Nat → Bool} {held : Bool} {v : Value} {d : DataW H} {p : List MemPlace} {r : Reach} {b0 : Nat}
theorem u8_wf {n : Int} (h : (Lit.int .u8 n).wf = true) : u8 n:=by
 simp [Lit.wf,IntKind.min,IntKind.max,IntKind.signed,IntKind.bits] at h
 exact ⟨by omega,by omega⟩
theorem open_u8 (hv : Value.okWide Try.prog w r b0 5 v) (h : DataW.Trod enc Try.prog w base spare held 5 v d p) : ∃ n,v = .int .u8 n∧u8 n:=by
 obtain ⟨n,h1,_,_,h2⟩:=Go.ChangeShapes.open_int Try.underlying5 hv h
 exact ⟨n,h1,u8_wf h2⟩
end
end Go.Proofs.Ytiidhncjolbigaa
end
section
set_option linter.unusedVariables false
namespace Go.Proofs.Ytiidhncjolbigaa
open Go Go.Fw Go.ChangeShapes Go.WideShapes Go.ChangeAt Go.RowKit
set_option linter.unusedVariables false
set_option maxRecDepth 100000
theorem boxFresh_run (R : Rm) (pR : Pl) (mo : Int) (w : World) (hmo : u8 mo) (hR : InRm w R pR) :
  Calls Try.prog 10 #[.agg (cRm R pR).toArray,.int .u8 mo] w fun e w' => e = .returned (.bool true)∧Below w.heap.size w w' :=
 Fc.calls (H:=rowsRm R pR) (boxFresh_spec R pR mo hmo _ (hR.rm (fun _ h=>h))) (fun r hr=>by
  exact hR.ok r hr
 )
theorem boxFresh_lifted (os : Os) (started : os.Started) (H : Type) (enc : TypeId × Value → H) :
  ReturnsInHanded {} Try.checked os 10 .any (Rows.boxFreshSpec.pre6 enc Try.prog Try.f10 Rows.boxFreshRow.domain false) (Rows.boxFreshSpec.post enc Try.prog Try.f10 false true false false):=by
 refine returnsInHanded_of_change (C:=Try.checked) ownK started (by kernel_rfl) Try.func10
  (ChangeSpec.witness6 (enc:=enc) (C:=Try.checked) false ⟨#[], #[.agg (cRm ⟨0,0,[],[],[]⟩ ⟨none,0,none,0,none,0⟩).toArray,.int .u8 0],[]⟩ 8 (by kernel_rfl) (by kernel_rfl) (by kernel_rfl) (by kernel_rfl)) ?_
 intro W base args ds gs before hval0 hW hcnd _
 have hval : ∀ (j : Nat) t v,Try.f10.params[j]? = some t → args[j]? = some v → Value.okWide Try.prog W .any base t v:=hval0
 have hW' := hW
 obtain ⟨p,q,hA0,hV,rfl,hfz,hnd⟩:=hW
 have hA : DataW.TrodAll enc Try.prog W 0 (fun _=>true) true Try.f10.params.toList args.toList ds p:=hA0
 rw [Try.params10] at hA hval
 obtain ⟨v0,vs0,d0,ds0,p0,q0,hargs,rfl,rfl,h0,r0⟩:=trodAll_cons hA
 obtain ⟨v1,vs1,d1,ds1,p1,q1,rfl,rfl,rfl,h1,r1⟩:=trodAll_cons r0
 obtain ⟨rfl,rfl,rfl⟩:=trodAll_nil r1
 obtain rfl : args = #[v0,v1]:=by cases args;simp_all
 obtain ⟨rfl,rfl⟩:=trodVars_none hV
 have lt : ∀ {t v d ps},DataW.Trod enc Try.prog W 0 (fun _=>true) true t v d ps → ∀ x ∈ ps,x.block < W.heap.size:=fun h=>by obtain ⟨m,hm⟩:=h;exact DataW.trod_lt m _ _ _ hm
 obtain ⟨R,pR,rfl,hR⟩:=open_room (hval 0 _ v0 rfl rfl) h0
 obtain ⟨mo,rfl,hmo⟩:=open_u8 (hval 1 _ v1 rfl rfl) h1
 clear hA0 hval0
 refine (boxFresh_run R pR mo W hmo hR).mono fun e W' ⟨he,bel⟩=>?_
 subst he
 exact ⟨_,rfl,_,_,_,[],_,[],hW',trodAll_mk1 (shut_bool Try.underlying4 _),(trodAll_cons_mk (Below.trod laidO (by kernel_rfl) (of_decide_eq_true (by kernel_rfl)) h0 bel (lt h0)) (trodAll_cons_mk (Below.trod laidO (by kernel_rfl) (of_decide_eq_true (by kernel_rfl)) h1 bel (lt h1)) trodAll_mk0)),rfl,bel.frame _,fun h=>by cases h⟩
theorem boxFresh_over : Rows.boxFreshRow.holds Try.pinned (OpenSpec.ofChange Rows.boxFreshSpec) :=
 OpenClaim.holds_of_wide 10 Try.f10 rfl rfl rfl rfl rfl rfl rfl ⟨rfl,rfl,rfl,rfl,rfl⟩ rfl rfl rfl rfl rfl (by kernel_rfl) Try.func10 (by kernel_rfl)
  (of_decide_eq_true (by kernel_rfl)) (by unfold Func.isWrapper;first | (rw [if_pos (by decide +kernel)];kernel_rfl)|(rw [if_neg (by decide +kernel)];exact ⟨rfl,rfl⟩))
  (fun os started H enc _=>boxFresh_lifted os started H enc)
theorem boxFresh_proved : Rows.BoxFreshSaid:=boxFresh_over
#print axioms boxFresh_proved
end Go.Proofs.Ytiidhncjolbigaa
end
