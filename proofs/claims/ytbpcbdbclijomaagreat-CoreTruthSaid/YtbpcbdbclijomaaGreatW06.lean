/- Own work: contracts of functions, from rows of what is known of the memory; contracts of functions, from rows of what is known of the memory; contracts of functions, from rows of what is known of the memory; contracts of functions, from rows of what is known of the memory; contracts of functions, from rows of what is known of the memory; contracts of functions, from rows of what is known of the memory; contracts of functions, from rows of what is known of the memory; contracts of functions, from rows of what is known of the memory; contracts of functions, from rows of what is known of the memory; contracts of functions, from rows of what is known of the memory; contracts of functions, from rows of what is known of the memory; contracts of functions, from rows of what is known of the memory -/
import Derived.Test.YtbpcbdbclijomaaGreatW05
set_option linter.unusedVariables false
set_option linter.unusedSimpArgs false
namespace Go.Proofs.YtbpcbdbclijomaaGreat
open Go Go.Fw
set_option maxRecDepth 10000
theorem mul_small {a b A B : Int} (ha : 0 ≤ a) (hA : a ≤ A) (hb : 0 ≤ b) (hB : b ≤ B) : 0 ≤ a * b∧a * b ≤ A * B:=by
 refine ⟨Int.mul_nonneg ha hb,?_⟩
 exact Int.mul_le_mul hA hB hb (by omega)
def weightP (d r : Int) : Int:=d * (1000 + r) / 1000
theorem weight_spec (d r : Int) (H : List Row) (hd : 0 ≤ d∧d ≤ 100000) (hr : 0 ≤ r∧r ≤ 100000) : Fc Tryz.prog 37 [.int .i64 d,.int .i64 r] H (fun v H' => v = .int .i64 (weightP d r)∧H' = H):=by
 have hm:=mul_small hd.1 hd.2 (show 0 ≤ 1000 + r by omega) (show 1000 + r ≤ 101000 by omega)
 refine Fc.mk (callable Tryz.call37) Tryz.func37 rfl Tryz.ntmps37 rfl ?_;dsimp only [fr]
 repeat' (first | (refine uP rfl ?_;(first | ((first | refine uN rfl ?_);(first | (refine uE (EvF.mul64 rfl rfl rfl (by omega) (by omega)) rfl rfl ?_)|(refine uE (EvF.quo64 rfl rfl rfl (by omega) (by omega) (by omega)) rfl rfl ?_)|(refine uE (uM rfl rfl) rfl rfl ?_)|(refine uE (uA rfl rfl) rfl rfl ?_)|(refine uE (EvF.add64 rfl rfl rfl (by omega) (by omega)) rfl rfl ?_)))))|(refine uD rfl ?_;refine hK _ _ ?_;clear hK K) | refine uS rfl ?_ | refine uR rfl (fun K hK=>?_) | refine X.ret rfl ?_)
 refine ret_one (by simp) Tryz.results37 rfl (H' := H) (by (repeat (first | exact qR _ | apply qC));done) ?_;simp only [and_true,true_and]
 rfl
def couldP (x : Dr) (d : Int) : Prop:=weightP d x.lo ≤ x.val∧weightP d x.hi ≥ x.val
instance (x : Dr) (d : Int) : Decidable (couldP x d):=by unfold couldP;infer_instance
def wgOk (x : Wg) : Prop:=(0 ≤ x.val∧x.val ≤ 1200)∧0 ≤ x.lo∧x.lo ≤ x.hi∧x.hi ≤ 200
theorem could_spec (x : Wg) (d : Int) (H : List Row) (hd : 1 ≤ d∧d ≤ 600) (hx : wgOk x) : Fc Tryz.prog 160 [.int .i64 d,.agg (cDr x).toArray] H (fun v H' => v = .bool (decide (couldP x d))∧H' = H):=by
 obtain ⟨h1,h2,h3,h4⟩:=hx
 refine Fc.mk (callable Tryz.call160) Tryz.func160 rfl Tryz.ntmps160 rfl ?_;dsimp only [fr]
 repeat' (first | (refine uP rfl ?_;(first | ((first | refine uN rfl ?_);(first | (refine uE (uA rfl rfl) rfl rfl ?_)|(refine Xg.st (StF.boxAgg rfl rfl) rfl rfl ?_;rintro _ _ ⟨bx,rfl,rfl⟩)))))|(refine uD rfl ?_;refine hK _ _ ?_;clear hK K)|(refine XQ.op rfl ?_;(first | ((first | refine Yo.ng rfl ?_ | (refine Yo.g rfl rfl ?_;with_reducible refine Yw.tt ?_));(first | (refine Yg.call (uT rfl (Args.cons rfl (Args.cons rfl Args.nil))) rfl rfl (weight_spec d x.lo _ (by omega) (by omega)) ?_)|(refine Yg.call (uT rfl (Args.cons rfl (Args.cons rfl Args.nil))) rfl rfl (weight_spec d x.hi _ (by omega) (by omega)) ?_)|(refine Yg.ev (uM rfl rfl) rfl rfl ?_)|(refine Yg.ev (uA rfl rfl) rfl rfl ?_)|(refine Yg.ev (EvF.pickT rfl rfl rfl) rfl rfl ?_)|(refine Yg.ev (EvF.pickF rfl rfl rfl) rfl rfl ?_)|(refine Yg.ev (uQ rfl rfl rfl rfl) rfl rfl ?_)|(refine Yg.ev (uF rfl rfl (te rfl) rfl (te rfl) (by decide)) rfl rfl ?_)|(refine Yg.ev (uL rfl rfl (uO (te rfl) rfl (qH _) rfl)) rfl rfl ?_)))|(refine Yo.g rfl rfl ?_;(first | (with_reducible refine Yw.ft rfl rfl ?_)|(with_reducible refine Yw.case (fun h=>?_) (fun h=>?_) <;> simp only [h,decide_true,decide_false,Bool.not_true,Bool.not_false,and_self,and_true,true_and,and_false,false_and])))))|(refine XQ.done rfl ?_;refine hK _ ?_;clear hK K) | refine uS rfl ?_ | refine uR rfl (fun K hK=>?_) | refine X.regionD rfl mixed (by kernel_rfl) (fun K hK=>?_) | refine X.ret rfl ?_)
 all_goals (refine ret_one (by simp) Tryz.results160 rfl (H' := H) (by (repeat (first | exact qR _ | apply qC));done) ?_;simp only [and_true,true_and])
 all_goals (congr 1)
 all_goals first
  | (symm;exact decide_eq_false (fun q=>absurd q.1 (by assumption)))
  | exact decide_eq_decide.2 ⟨fun q=>⟨by assumption,q⟩,fun q=>q.2⟩
theorem ceil_le {q d m : Int} (hd : 0 < d) : (1000 * q + d - 1) / d ≤ m ↔ 1000 * q ≤ m * d:=by
 have h:=Int.ediv_lt_iff_lt_mul (a:=1000 * q + d - 1) (b:=m + 1) hd
 rw [Int.add_mul,Int.one_mul] at h
 constructor
 ·intro h1
  have:=h.1 (by omega)
  omega
 ·intro h1
  have:=h.2 (by omega)
  omega
theorem could_iff {x : Wg} {d : Int} (hx : wgOk x) (hd : 1 ≤ d∧d ≤ 600) : ¬ (dampOf x d).lo > (dampOf x d).hi ↔ couldP x d:=by
 obtain ⟨h1,h2,h3,h4⟩:=hx
 have e1 : ∀ r q : Int,leastD q d ≤ r ↔ 1000 * q ≤ (r + 1000) * d:=by
  intro r q
  have:=ceil_le (q:=q) (m:=r + 1000) (show 0 < d by omega)
  unfold leastD
  rw [← this];omega
 have e2 : ∀ r : Int,weightP d r ≤ x.val ↔ ¬ leastD (x.val + 1) d ≤ r:=by
  intro r
  rw [e1]
  unfold weightP
  rw [Int.mul_comm d,Int.add_comm 1000 r]
  omega
 have e3 : ∀ r : Int,weightP d r ≥ x.val ↔ leastD x.val d ≤ r:=by
  intro r
  rw [e1]
  unfold weightP
  rw [Int.mul_comm d,Int.add_comm 1000 r]
  omega
 have e4 : ¬ leastD (x.val + 1) d ≤ leastD x.val d:=by
  rw [e1]
  have h5 : (1000 * x.val + d - 1) / d * d ≤ 1000 * x.val + d - 1:=Int.ediv_mul_le _ (by omega)
  have h6 : leastD x.val d + 1000 = (1000 * x.val + d - 1) / d:=by unfold leastD;omega
  rw [h6]
  omega
 unfold couldP
 rw [e2,e3]
 simp only [dampOf]
 omega
def allC (l : List Dr) (d : Int) : Bool:=l.all (fun x=>decide (couldP x d))
def okR (B : Bl) (d : Int) : Bool:=allC B.weighs d
theorem ok_eq {B : Bl} {d : Int} (hw : ∀ x ∈ B.weighs,wgOk x) (hd : 1 ≤ d∧d ≤ 600) : okR B d = okW B d:=by
 rw [Bool.eq_iff_iff]
 unfold okR allC okW
 rw [List.all_eq_true,decide_eq_true_iff]
 unfold canW
 exact ⟨fun q x hx=>(could_iff (hw x hx) hd).2 (of_decide_eq_true (q x hx)),fun q x hx=>decide_eq_true ((could_iff (hw x hx) hd).1 (q x hx))⟩
theorem wts_eq {B : Bl} (hw : ∀ x ∈ B.weighs,wgOk x) (hd : 1 ≤ B.dlo∧B.dlo ≤ B.dhi∧B.dhi ≤ 600) : wl (okR B) B.dlo (B.dhi - B.dlo + 1).toNat = wts B:=by
 unfold wts
 exact wl_congr _ (fun i hi=>ok_eq hw ⟨by omega,by omega⟩)
theorem baleOk.wg {B : Bl} (h : baleOk B) : ∀ x ∈ B.weighs,wgOk x:=by
 intro x hx
 have h1:=(h.2.2.2.2.2.2 x hx)
 have h2:=h1.1 x.val (List.mem_singleton.2 rfl)
 have h3:=h1.2
 unfold partOk at h3
 simp only at h2 h3
 unfold wgOk
 omega
set_option maxHeartbeats 4000000 in
theorem dries_spec (B : Bl) (p : Pb) (H : List Row) (hd : 1 ≤ B.dlo∧B.dlo ≤ B.dhi∧B.dhi ≤ 600) (hw : ∀ x ∈ B.weighs,wgOk x) (hB : BlOk H B p) :
  Fc Tryz.prog 135 [.agg (cBl B p).toArray] H (fun v H' => ∃ Z,OutI (wts B) v Z∧H' = Z++H):=by
 rw [← wts_eq hw hd]
 obtain ⟨N,hN⟩ : ∃ N : Nat,(B.dhi - B.dlo + 1).toNat = N:=⟨_,rfl⟩
 rw [hN]
 have hNN : B.dlo + N = B.dhi + 1:=by omega
 have l2:=hB.l2
 have hBZ : ∀ (Z : List Row) r,BlOk (Z++r::H) B p:=fun Z r=>hB.sub (fun _ h=>List.mem_append_right _ (List.mem_cons_of_mem _ h))
 obtain ⟨a1,c1,a2,c2⟩:=p
 refine Fc.mk (callable Tryz.call135) Tryz.func135 rfl Tryz.ntmps135 rfl ?_;dsimp only [fr]
 repeat' (first | (refine uP rfl ?_;(first | ((first | refine uN rfl ?_);(first | (refine uE (uM rfl rfl) rfl rfl ?_)|(refine uE (uA rfl rfl) rfl rfl ?_)|(refine uE (uQ rfl rfl rfl rfl) rfl rfl ?_)|(refine uE (EvF.add64 rfl rfl rfl (by omega) (by omega)) rfl rfl ?_)|(refine uE (uF rfl rfl (te rfl) rfl (te rfl) (by decide)) rfl rfl ?_)|(refine uE (uL rfl rfl (uO (te rfl) rfl (qH _) rfl)) rfl rfl ?_)|(refine Xg.st (StF.boxAgg rfl rfl) rfl rfl ?_;rintro _ _ ⟨bx,rfl,rfl⟩)))))|(refine uD rfl ?_;refine hK _ _ ?_;clear hK K) | refine uS rfl ?_ | refine uR rfl (fun K hK=>?_) | refine X.block rfl ?_ | (refine X.brk rfl ?_;repeat (first | refine blockX_hit rfl ?_ | refine blockX_miss (by decide) ?_)) | refine X.skip rfl ?_ | (refine X.ite rfl rfl (fun hc=>?_);(first | (with_reducible refine Xb.case hc (fun h=>?_) (fun h=>?_))|(with_reducible refine Xb.caseB hc (fun h=>?_) (fun h=>?_))) <;> clear hc))
 rename Nat=>b1
 refine X.lp rfl (fun m F' H' => ∃ (k : Nat) (d : Int) (out : Value) (Z : List Row),m = N - k∧k ≤ N∧d = B.dlo + k∧OutI (wl (okR B) B.dlo k) out Z∧Z++⟨b1,0,cBl B ⟨a1,c1,a2,c2⟩,some 31,6⟩::H = H' ∧
   F' = [(1,.pointer (some ⟨b1,0,none⟩)),(3,out),(4,.int .i64 d)])
  N [(1,.pointer (some ⟨b1,0,none⟩)),(3,.slice none 0 0),(4,.int .i64 B.dlo)] (⟨b1,0,cBl B ⟨a1,c1,a2,c2⟩,some 31,6⟩::H) (by repeat (first | exact uU _ | refine uV rfl ?_)) (qR _) ⟨0,_,_,[],by omega,by omega,by omega,.inl ⟨rfl,rfl,rfl⟩,rfl,rfl⟩ ?_
 rintro _ _ H2 ⟨k,d,out,Z,rfl,hk,hdk,hO,hH,rfl⟩
 subst hH
 repeat' (first | (refine uP rfl ?_;(first | ((first | refine uN rfl ?_);(first | (refine uE (uL rfl rfl (uO (te rfl) rfl (List.mem_append_right _ (qH _)) rfl)) rfl rfl ?_)|(refine uE (uM rfl rfl) rfl rfl ?_)|(refine uE (uA rfl rfl) rfl rfl ?_)|(refine uE (uQ rfl rfl rfl rfl) rfl rfl ?_)|(refine uE (uF rfl rfl (te rfl) rfl (te rfl) (by decide)) rfl rfl ?_)|(refine uE (uY rfl rfl (te rfl)) rfl rfl ?_)))))|(refine uD rfl ?_;refine hK _ _ ?_;clear hK K) | refine uS rfl ?_ | refine uR rfl (fun K hK=>?_) | refine X.block rfl ?_ | (refine X.brk rfl ?_;repeat (first | refine blockX_hit rfl ?_ | refine blockX_miss (by decide) ?_)) | refine X.skip rfl ?_ | refine X.ret rfl ?_ | (refine X.ite rfl rfl (fun hc=>?_);(first | (with_reducible refine Xb.case hc (fun h=>?_) (fun h=>?_))) <;> clear hc))
 ·refine X.lp rfl (fun m F' H' => ∃ (q : Nat) (is : Bool),m = B.weighs.length - q∧q ≤ B.weighs.length∧is = allC (B.weighs.take q) d∧Z++⟨b1,0,cBl B ⟨a1,c1,a2,c2⟩,some 31,6⟩::H = H' ∧
    F' = [(1,.pointer (some ⟨b1,0,none⟩)),(3,out),(4,.int .i64 d),(5,.bool is),(19,.slice a2 B.weighs.length c2),(20,.int .i64 B.weighs.length),(21,.int .i64 q)])
   B.weighs.length [(1,.pointer (some ⟨b1,0,none⟩)),(3,out),(4,.int .i64 d),(5,.bool true),(19,.slice a2 B.weighs.length c2),(20,.int .i64 B.weighs.length),(21,.int .i64 (0 : Nat))] _ (by repeat (first | exact uU _ | refine uV rfl ?_)) (qR _) ⟨0,true,by omega,by omega,rfl,rfl,rfl⟩ ?_
  rintro _ _ H2 ⟨q,is,rfl,hq,hn,hH,rfl⟩
  subst hH
  repeat' (first | (refine uP rfl ?_;(first | ((first | refine uN rfl ?_);(first | (refine uE (uM rfl rfl) rfl rfl ?_)|(refine uE (uA rfl rfl) rfl rfl ?_)|(refine uE (uQ rfl rfl rfl rfl) rfl rfl ?_)|(refine uE (EvF.add64 rfl rfl rfl (by omega) (by omega)) rfl rfl ?_)|(refine uE (uF rfl rfl (te rfl) rfl (te rfl) (by decide)) rfl rfl ?_)|(refine uE (uL rfl rfl (uO (te rfl) rfl (qH _) rfl)) rfl rfl ?_)|(refine Xg.st (StF.boxAgg rfl rfl) rfl rfl ?_;rintro _ _ ⟨bx,rfl,rfl⟩)))))|(refine uD rfl ?_;refine hK _ _ ?_;clear hK K) | refine uS rfl ?_ | refine uR rfl (fun K hK=>?_) | refine X.block rfl ?_ | (refine X.brk rfl ?_;repeat (first | refine blockX_hit rfl ?_ | refine blockX_miss (by decide) ?_)) | refine X.skip rfl ?_ | (refine X.ite rfl rfl (fun hc=>?_);(first | (with_reducible refine Xb.case hc (fun h=>?_) (fun h=>?_))|(with_reducible refine Xb.caseB hc (fun h=>?_) (fun h=>?_))) <;> clear hc))
  ·obtain ⟨b,off,e,rfl,he⟩:=hB.weighs.elem (i:=q) (by omega)
   have hwe:=hw e (List.mem_of_getElem? he)
   have hn' : allC (B.weighs.take (q + 1)) d = (is && decide (couldP e d)):=by
    rw [take_snoc he,hn]
    unfold allC
    rw [List.all_append]
    simp
   clear hn
   repeat' (first | (refine uP rfl ?_;(first | ((first | refine uN rfl ?_ | (refine Xo.g rfl rfl ?_;with_reducible refine Xw.tt ?_));(first | (refine uE (uL rfl rfl (LoadV.elA0 (hBZ _ _).weighs he (te rfl) rfl (fun _ hm=>hm) rfl)) rfl rfl ?_)|(refine uC (uT rfl (Args.cons rfl (Args.cons rfl Args.nil))) rfl rfl (could_spec e d _ (by omega) hwe) ?_;rintro _ H9 ⟨rfl,hH9⟩;subst H9)|(refine uE (uM rfl rfl) rfl rfl ?_)|(refine uE (uA rfl rfl) rfl rfl ?_)|(refine uE (EvF.pickT rfl rfl rfl) rfl rfl ?_)|(refine uE (EvF.pickF rfl rfl rfl) rfl rfl ?_)|(refine uE (EvF.add64 rfl rfl rfl (by omega) (by omega)) rfl rfl ?_)|(refine uE (uJ rfl rfl rfl (te rfl) (te rfl) (by omega) (by omega)) rfl rfl ?_)|(refine uE (uL rfl rfl (uW (te rfl) rfl (qH _) rfl)) rfl rfl ?_)|(refine Xg.st (StF.alloc rfl Tryz.zeroValue38 rfl) rfl rfl ?_;rintro _ _ ⟨bx,rfl,rfl⟩)|(refine Xg.st0 (uZ (i:=0) rfl rfl rfl (te rfl) rfl rfl rfl rfl) rfl ?_;rintro _ _ ⟨rfl,rfl⟩;dsimp only [List.set])))|(refine Xo.g rfl rfl ?_;(first | (with_reducible refine Xw.ft rfl rfl ?_)|(with_reducible refine Xw.caseB (fun h=>?_) (fun h=>?_) <;> simp only [h,decide_true,decide_false,Bool.not_true,Bool.not_false,and_self,and_true,true_and,and_false,false_and])))))|(refine uD rfl ?_;refine hK _ _ ?_;clear hK K) | refine uR rfl (fun K hK=>?_))
   ·refine ⟨_,_,_,(by repeat (first | exact uU _ | refine uV rfl ?_)),(by (repeat (first | exact qR _ | apply qC));done),⟨q + 1,_,rfl,by omega,by rw [hn'];simp_all,rfl,rfl⟩,by omega⟩
   ·refine ⟨_,_,_,(by repeat (first | exact uU _ | refine uV rfl ?_)),(by (repeat (first | exact qR _ | apply qC));done),⟨q + 1,_,rfl,by omega,by rw [hn'];simp_all,rfl,rfl⟩,by omega⟩
  ·have hyes : okR B d = is:=by rw [hn,List.take_of_length_le (by omega)];rfl
   have hi : is = true:=by assumption
   rw [hi] at hyes
   have hwl : wl (okR B) B.dlo (k + 1)=wl (okR B) B.dlo k++[d]:=by
    rw [hdk] at hyes
    simp only [wl,hyes,if_true,hdk]
   have hk1:=wl_len (okR B) B.dlo k
   obtain ⟨l,hlE⟩ : ∃ l,wl (okR B) B.dlo k = l:=⟨_,rfl⟩
   rw [hlE] at hO hwl hk1
   clear hn
   rcases hO with ⟨rfl,rfl,rfl⟩ | ⟨b0,q0,rfl,rfl⟩
   ·repeat' (first | (refine uP rfl ?_;(first | ((first | refine uN rfl ?_);(first | (refine Xg.st (StF.buildOne rfl el55 rfl rfl rfl (by decide) (by decide)) rfl rfl ?_;rintro _ _ ⟨bs,rfl,rfl⟩)|(refine Xg.st (StF.appendNew rfl el55 rfl rfl (by decide) rfl (Rd.own (qH _)) (by decide)) rfl rfl ?_;rintro _ _ ⟨bn,kn,rfl,rfl⟩)|(refine uE (uM rfl rfl) rfl rfl ?_)|(refine uE (uA rfl rfl) rfl rfl ?_)|(refine uE (EvF.add64 rfl rfl rfl (by omega) (by omega)) rfl rfl ?_)))))|(refine uD rfl ?_;refine hK _ _ ?_;clear hK K) | refine uR rfl (fun K hK=>?_))
    refine ⟨_,_,_,(by repeat (first | exact uU _ | refine uV rfl ?_)),?_,⟨k + 1,_,_,[⟨bn,0,([]++[d]).flatMap cI,some 3,kn * 1⟩],rfl,by omega,?_,?_,rfl,rfl⟩,by omega⟩
    ·exact qK _ (qC _ (qR _))
    ·omega
    ·rw [hwl];exact .inr ⟨_,_,rfl,rfl⟩
   ·have hlen : (l.flatMap cI).length = l.length * 1:=lenI l
    repeat' (first | (refine uP rfl ?_;(first | ((first | refine uN rfl ?_);(first | (refine Xg.st (StF.buildOne rfl el55 rfl rfl rfl (by decide) (by decide)) rfl rfl ?_;rintro _ _ ⟨bs,rfl,rfl⟩)|(refine Xg.st (StF.appendOwn (i:=1) rfl el55 rfl rfl rfl hlen rfl (Rd.own (qH _)) rfl (by omega)) rfl rfl ?_;rintro _ _ ⟨bn,kn,rfl,rfl⟩;dsimp only [List.eraseIdx])|(refine uE (uM rfl rfl) rfl rfl ?_)|(refine uE (uA rfl rfl) rfl rfl ?_)|(refine uE (EvF.add64 rfl rfl rfl (by omega) (by omega)) rfl rfl ?_)))))|(refine uD rfl ?_;refine hK _ _ ?_;clear hK K) | refine uR rfl (fun K hK=>?_))
    refine ⟨_,_,_,(by repeat (first | exact uU _ | refine uV rfl ?_)),?_,⟨k + 1,_,_,[⟨bn,0,(l++[d]).flatMap cI,some 3,kn * 1⟩],rfl,by omega,?_,?_,rfl,rfl⟩,by omega⟩
    ·rw [List.flatMap_append]
     exact qK _ (qC _ (qR _))
    ·omega
    ·rw [hwl];exact .inr ⟨_,_,by rw [List.length_append];rfl,rfl⟩
  ·have hno : okR B d = is:=by rw [hn,List.take_of_length_le (by omega)];rfl
   have hi : is = false:=by assumption
   rw [hi] at hno
   refine ⟨_,_,_,(by repeat (first | exact uU _ | refine uV rfl ?_)),(by (repeat (first | exact qR _ | apply qC));done),⟨k + 1,_,_,Z,rfl,by omega,?_,?_,rfl,rfl⟩,by omega⟩
   ·omega
   ·rw [hdk] at hno
    simp only [wl,hno,Bool.false_eq_true,if_false,List.append_nil]
    exact hO
 ·obtain rfl : k = N:=by omega
  exact ret_one (by simp) Tryz.results135 rfl (H' := Z++H) (List.Sublist.append (qR _) (List.sublist_cons_self _ _)) ⟨Z,hO,rfl⟩
def payF (s : Sp) (d : Int) : Sp:=⟨s.lo * (1000 + d) / 1000,s.hi * (1000 + d) / 1000⟩
set_option maxHeartbeats 4000000 in
theorem pays1_spec (B : Bl) (p : Pb) (g : List Sp) (d : Int) (bn : Nat) (ow : Option Kd) (cap : Nat) (H : List Row) (hd : 1 ≤ B.dlo∧B.dlo ≤ B.dhi∧B.dhi ≤ 600) (hw : ∀ x ∈ B.weighs,0 ≤ x.val∧x.val ≤ 10000) (hg : g.length = 5) (hB : BlOk H B p) (hne : 0 < (wts B).length)
  (hm : ⟨bn,0,[.int .i64 d],ow,cap⟩ ∈ H) (hdv : 0 ≤ d∧d ≤ 200) :
  Fc Tryz.prog 65 ([.agg (cPr B p g).toArray]++[.pointer (some ⟨bn,0,none⟩)]) H (fun v H' => v = .agg (cSp (payF (dryOf B) d)).toArray∧H' = H):=by
 show Fc Tryz.prog 65 [.agg (cPr B p g).toArray,.pointer (some ⟨bn,0,none⟩)] H _
 obtain ⟨⟨d1,d2⟩,d3,d4⟩:=dryOf_in hd hne
 have hds:=fun S (hS : BlOk S B p)=>dry_spec B p g S hd hw hg hS hne
 obtain ⟨D,hD⟩ : ∃ D,D = dryOf B:=⟨_,rfl⟩
 rw [← hD] at d1 d2 d3 d4 hds ⊢
 have m1:=mul_small (a:=D.lo) (b:=1000 + d) (A:=600) (B:=1200) (by omega) d2 (by omega) (by omega)
 have m2:=mul_small (a:=D.hi) (b:=1000 + d) (A:=600) (B:=1200) (by omega) d4 (by omega) (by omega)
 refine Fc.mk (callable Tryz.call65) Tryz.func65 rfl Tryz.ntmps65 rfl ?_;dsimp only [fr]
 repeat' (first | (refine uP rfl ?_;(first | ((first | refine uN rfl ?_);(first | (refine uE (uL rfl rfl (uW (te rfl) rfl (qT _ (qH _)) (lenPr hg))) rfl rfl ?_)|(refine uC (uT rfl (Args.cons rfl Args.nil)) rfl rfl (hds _ (hB.sub (fun _ h=>qT _ (qT _ h)))) ?_;rintro _ H9 ⟨rfl,hH9⟩;subst H9)|(refine uE (uL (v := .int .i64 d) rfl rfl (uO (te rfl) rfl (qT _ (qT _ (qT _ hm))) rfl)) rfl rfl ?_)|(refine uE (EvF.mul64 rfl rfl rfl (by omega) (by omega)) rfl rfl ?_)|(refine uE (EvF.quo64 rfl rfl rfl (by omega) (by omega) (by omega)) rfl rfl ?_)|(refine uE (EvF.build (cs:=cSp (payF D d)) rfl (ArgsP.cons rfl (ArgsP.cons rfl ArgsP.nil)) (te rfl) (Places.cons (te rfl) (Places.cons (te rfl) Places.nil)) Tryz.zeroValue24 rfl) rfl rfl ?_)|(refine uE (EvF.add64 rfl rfl rfl (by omega) (by omega)) rfl rfl ?_)|(refine uE (uF rfl rfl (te rfl) rfl (te rfl) (by decide)) rfl rfl ?_)|(refine uE (uL rfl rfl (uO (te rfl) rfl (qH _) rfl)) rfl rfl ?_)|(refine Xg.st (StF.boxAgg rfl rfl) rfl rfl ?_;rintro _ _ ⟨bx,rfl,rfl⟩)|(refine Xg.st (StF.alloc rfl Tryz.zeroValue24 rfl) rfl rfl ?_;rintro _ _ ⟨bx,rfl,rfl⟩)|(refine Xg.st0 (uZ (i:=0) rfl rfl rfl (te rfl) rfl rfl rfl rfl) rfl ?_;rintro _ _ ⟨rfl,rfl⟩;dsimp only [List.set])|(refine Xg.st0 (uZ (i:=1) rfl rfl rfl (te rfl) rfl rfl rfl rfl) rfl ?_;rintro _ _ ⟨rfl,rfl⟩;dsimp only [List.set])))))|(refine uD rfl ?_;refine hK _ _ ?_;clear hK K) | refine uS rfl ?_ | refine uR rfl (fun K hK=>?_) | refine X.ret rfl ?_)
 exact ret_one (v := .agg (cSp (payF D d)).toArray) (by simp) Tryz.results65 ⟨_,rfl,uW (te rfl) rfl (by repeat (first | exact qH _ | apply qT)) rfl⟩ (H' := H) (by (repeat (first | exact qR _ | apply qC));done) ⟨rfl,rfl⟩
theorem knb_bd (a b : Bool) : 0 ≤ knb a b∧knb a b ≤ 2:=by cases a <;> cases b <;> decide
/-- put aside: not plain, or damper at some weighing -/
noncomputable def asideT (B : Bl) (k d : Int) : Nat → Int
 | 0=>2 - k
 | j + 1=>max (asideT B k d j) (damperOf B (B.weighs.getD j wgz) d)
theorem asideT_bd (B : Bl) (k d : Int) (hk : 0 ≤ k∧k ≤ 2) : ∀ j,0 ≤ asideT B k d j∧asideT B k d j ≤ 2
 | 0=>by show 0 ≤ 2 - k∧2 - k ≤ 2;omega
 | j + 1=>by
  have h:=asideT_bd B k d hk j
  have h2 : 0 ≤ damperOf B (B.weighs.getD j wgz) d∧damperOf B (B.weighs.getD j wgz) d ≤ 2:=knb_bd _ _
  show 0 ≤ max (asideT B k d j) (damperOf B (B.weighs.getD j wgz) d)∧max (asideT B k d j) (damperOf B (B.weighs.getD j wgz) d)≤2
  omega
noncomputable def asideF (B : Bl) (d : Int) : Int:=asideT B (ofKind (truthsB B) 1) d B.weighs.length
set_option maxHeartbeats 4000000 in
theorem aside1_spec (B : Bl) (p : Pb) (d : Int) (bn : Nat) (ow : Option Kd) (cap : Nat) (H : List Row) (hb : baleOk B) (hB : BlOk H B p) (hne : 0 < (wts B).length)
  (hm : ⟨bn,0,[.int .i64 d],ow,cap⟩ ∈ H) :
  Fc Tryz.prog 58 ([.agg (cPr B p (gradesOf B)).toArray]++[.pointer (some ⟨bn,0,none⟩)]) H (fun v H' => v = .int .u8 (asideF B d)∧H' = H):=by
 show Fc Tryz.prog 58 [.agg (cPr B p (gradesOf B)).toArray,.pointer (some ⟨bn,0,none⟩)] H _
 have hg5:=gradesOf_len hb
 have hlp : (cPr B p (gradesOf B)).length = 16:=lenPr hg5
 have ki:=fun S=>isOf_spec B p (gradesOf B) 1 S hg5 hb.h5 (gradesOf_bd hb)
 change ∀ S,Fc Tryz.prog 59 [.agg (cPr B p (gradesOf B)).toArray,.int .i64 1] S (fun v H' => v = .int .u8 (ofKind (truthsB B) 1)∧H' = S) at ki
 have kd:=fun S x hx (hS : BlOk S B p)=>wasDamper_spec B p (gradesOf B) x d S hb.hdry hb.hw hx hg5 hS hne
 unfold asideF
 have hkb : 0 ≤ ofKind (truthsB B) 1∧ofKind (truthsB B) 1 ≤ 2:=knb_bd _ _
 obtain ⟨k,hk⟩ : ∃ k,k = ofKind (truthsB B) 1:=⟨_,rfl⟩
 rw [← hk] at ki hkb ⊢
 have hab:=asideT_bd B k d hkb
 obtain ⟨g,hge⟩ : ∃ g,g = gradesOf B:=⟨_,rfl⟩
 rw [← hge] at ki kd hlp ⊢
 have hbw:=hb.hw
 have l2:=hB.l2
 clear hk hge hg5 hb hne
 obtain ⟨a1,c1,a2,c2⟩:=p
 refine Fc.mk (callable Tryz.call58) Tryz.func58 rfl Tryz.ntmps58 rfl ?_;dsimp only [fr]
 repeat' (first | (refine uP rfl ?_;(first | ((first | refine uN rfl ?_);(first | (refine uE (uL rfl rfl (uW (te rfl) rfl (qH _) hlp)) rfl rfl ?_)|(refine uC (uT rfl (Args.cons rfl (Args.cons rfl Args.nil))) rfl rfl (ki _) ?_;rintro _ H9 ⟨rfl,hH9⟩;subst H9)|(refine uE (EvF.subU8 rfl rfl rfl (by omega) (by omega)) rfl rfl ?_)|(refine uE (uM rfl rfl) rfl rfl ?_)|(refine uE (uA rfl rfl) rfl rfl ?_)|(refine uE (uF rfl rfl (te rfl) rfl (te rfl) (by decide)) rfl rfl ?_)|(refine uE (uY rfl rfl (te rfl)) rfl rfl ?_)|(refine uE (uL rfl rfl (uO (te rfl) rfl (qH _) rfl)) rfl rfl ?_)|(refine Xg.st (StF.boxAgg rfl rfl) rfl rfl ?_;rintro _ _ ⟨bx,rfl,rfl⟩)))))|(refine uD rfl ?_;refine hK _ _ ?_;clear hK K) | refine uS rfl ?_ | refine uR rfl (fun K hK=>?_) | refine X.block rfl ?_)
 obtain ⟨b2,hb2⟩ : ∃ b,b = bx:=⟨_,rfl⟩
 rw [← hb2]
 clear hb2
 refine X.lp rfl (fun q F' H' => ∃ j : Nat,q = B.weighs.length - j∧j ≤ B.weighs.length∧⟨b2,0,cPr B ⟨a1,c1,a2,c2⟩ g,some 91,16⟩::H = H' ∧
   F' = [(1,.pointer (some ⟨bn,0,none⟩)),(2,.pointer (some ⟨b2,0,none⟩)),(4,.int .u8 (asideT B k d j)),(12,.slice a2 B.weighs.length c2),(13,.int .i64 B.weighs.length),(14,.int .i64 (j : Nat))])
  B.weighs.length [(1,.pointer (some ⟨bn,0,none⟩)),(2,.pointer (some ⟨b2,0,none⟩)),(4,.int .u8 (asideT B k d 0)),(12,.slice a2 B.weighs.length c2),(13,.int .i64 B.weighs.length),(14,.int .i64 (0 : Nat))] (⟨b2,0,cPr B ⟨a1,c1,a2,c2⟩ g,some 91,16⟩::H) (by repeat (first | exact uU _ | refine uV rfl ?_)) (by rw [← hlp];exact qR _) ⟨0,by omega,by omega,rfl,rfl⟩ ?_
 rintro _ _ _ ⟨j,rfl,hj,rfl,rfl⟩
 by_cases hlt : j < B.weighs.length
 ·have hlt' : (j : Int)<B.weighs.length:=by omega
  obtain ⟨b,off,e,rfl,he⟩:=hB.weighs.elem (i:=j) hlt
  have hst : asideT B k d (j + 1)=max (asideT B k d j) (damperOf B e d):=by
   show max (asideT B k d j) (damperOf B (B.weighs.getD j wgz) d)=_
   rw [List.getD_eq_getElem?_getD,he,Option.getD_some]
  have kde:=fun S (hS : BlOk S B ⟨a1,c1,some ⟨b,off,none⟩,c2⟩)=>kd S e (hbw e (List.mem_of_getElem? he)) hS
  obtain ⟨m,hm9⟩ : ∃ m,m = damperOf B e d:=⟨_,rfl⟩
  rw [← hm9] at hst kde
  have hB2 : ∀ r1 r2,BlOk (r1::r2::H) B ⟨a1,c1,some ⟨b,off,none⟩,c2⟩:=fun r1 r2=>hB.sub (fun _ h=>qT _ (qT _ h))
  have hw1 : ∀ r1,SlE (r1::H) (some ⟨b,off,none⟩) cDr 4 B.weighs:=fun r1=>hB.weighs.sub (fun _ h=>qT _ h)
  repeat' (first | (refine uP rfl ?_;(first | ((first | refine uN rfl ?_);(first | (refine uE (uQ (b:=true) rfl rfl rfl (congrArg some (decide_eq_true (by omega)))) rfl rfl ?_)|(refine uE (uL rfl rfl (LoadV.elA0 (hw1 _) he (te rfl) rfl (fun _ hm=>hm) rfl)) rfl rfl ?_)|(refine Xg.st (StF.alloc rfl Tryz.zeroValue41 rfl) rfl rfl ?_;rintro _ _ ⟨b6,rfl,rfl⟩)|(refine uE (uL rfl rfl (uW (te rfl) rfl (qT _ (qH _)) hlp)) rfl rfl ?_)|(refine uE (uL (v := .int .i64 d) rfl rfl (uO (te rfl) rfl (qT _ (qT _ hm)) rfl)) rfl rfl ?_)|(refine uC (uT rfl (Args.cons rfl (Args.cons rfl (Args.cons rfl Args.nil)))) rfl rfl (kde _ (hB2 _ _)) ?_;rintro _ H9 ⟨rfl,hH9⟩;subst H9)|(refine uE (EvF.maxK rfl rfl rfl) rfl rfl ?_)|(refine uE (EvF.add64 (p:=(j : Int)) (q:=1) rfl rfl rfl (by omega) (by omega)) rfl rfl ?_)|(refine uE (uM rfl rfl) rfl rfl ?_)|(refine uE (uA rfl rfl) rfl rfl ?_)|(refine uE (uJ rfl rfl rfl (te rfl) (te rfl) (by omega) (by omega)) rfl rfl ?_)|(refine uE (uL rfl rfl (uW (te rfl) rfl (qH _) rfl)) rfl rfl ?_)|(refine Xg.st0 (uZ (i:=0) rfl rfl rfl (te rfl) rfl rfl rfl rfl) rfl ?_;rintro _ _ ⟨rfl,rfl⟩;dsimp only [List.set])))))|(refine uD rfl ?_;refine hK _ _ ?_;clear hK K) | refine uS rfl ?_ | refine uR rfl (fun K hK=>?_) | refine X.block rfl ?_ | refine X.skip rfl ?_ | (refine X.ite rfl rfl (fun hc=>?_);(first | (with_reducible refine Xb.t hc ?_)) <;> clear hc))
  exact ⟨_,_,_,(by rw [hst,show (j : Int) + 1 = ((j + 1 : Nat) : Int) by omega];exact (by repeat (first | exact uU _ | refine uV rfl ?_))),(List.sublist_cons_self _ _),⟨j + 1,rfl,by omega,rfl,rfl⟩,by omega⟩
 ·obtain rfl : j = B.weighs.length:=by omega
  have hlt' : ¬ ((B.weighs.length : Nat) : Int)<B.weighs.length:=by omega
  repeat' (first | (refine uP rfl ?_;(first | ((first | refine uN rfl ?_);(first | (refine uE (uQ (b:=false) rfl rfl rfl (congrArg some (decide_eq_false (by omega)))) rfl rfl ?_)|(refine uE (uM rfl rfl) rfl rfl ?_)|(refine uE (uA rfl rfl) rfl rfl ?_)))))|(refine uD rfl ?_;refine hK _ _ ?_;clear hK K) | refine uS rfl ?_ | refine uR rfl (fun K hK=>?_)|(refine X.brk rfl ?_;repeat (first | refine blockX_hit rfl ?_ | refine blockX_miss (by decide) ?_)) | refine X.ret rfl ?_ | (refine X.ite rfl rfl (fun hc=>?_);(first | (with_reducible refine Xb.f hc ?_)) <;> clear hc))
  exact ret_one (by simp) Tryz.results58 rfl (H' := H) (by (repeat (first | exact qR _ | apply qC));done) ⟨rfl,rfl⟩
/-- the numbers that one is asked about -/
abbrev caN (n : Int) : Ca:=⟨[],[],[n],[]⟩
abbrev caD (d : Int) : Ca:=⟨[],[],[],[d]⟩
abbrev ca0 : Ca:=⟨[],[],[],[]⟩
abbrev pc0 : Pc:=⟨none,0,none,0,none,0,none,0⟩
theorem openE_full {B : Bl} {C : Ca} (h : openE B C = 0) : (baleOk B∧canB B)∧askL B C∧askK C∧askW B C∧askD C:=by
 unfold openE at h
 split at h
 ·split at h
  ·split at h
   ·split at h
    ·split at h
     ·split at h
      ·exact ⟨⟨by assumption,by assumption⟩,by assumption,by assumption,by assumption,by assumption⟩
      ·omega
     ·omega
    ·omega
   ·omega
  ·omega
 ·omega
set_option maxHeartbeats 4000000 in
theorem kdry_spec (B : Bl) (p : Pb) (H : List Row) (hB : BlOk H B p) :
  Fc Tryz.prog 36 [.agg (cBl B p).toArray] H (fun v H' => v = .tuple #[.agg (cSp (spIf (openE B ca0 = 0) (dryOf B))).toArray,.int .i64 (openE B ca0)]∧H' = H):=by
 have hB2 : ∀ r1 r2,BlOk (r1::r2::H) B p:=fun r1 r2=>hB.sub (fun _ h=>qT _ (qT _ h))
 have kt:=fun r1 r2=>toldSp_spec B p ca0 pc0 66 [] (dryOf B) (r1::r2::H) (hB2 _ _) ⟨sleNil,sleNil,sleNil,sleNil,by simp,by simp,by simp,by simp⟩ (fun h0 H' hs=>dry_spec B p (gradesOf B) H' (openE_zero h0).1.hdry (openE_zero h0).1.hw (gradesOf_len (openE_zero h0).1) ((hB2 _ _).sub hs) (openE_zero h0).2.2.2)
 obtain ⟨rr,hrr⟩ : ∃ x,spIf (openE B ca0 = 0) (dryOf B)=x:=⟨_,rfl⟩
 rw [hrr] at kt ⊢
 refine Fc.mk (callable Tryz.call36) Tryz.func36 rfl Tryz.ntmps36 rfl ?_;dsimp only [fr]
 repeat' (first | (refine uP rfl ?_;(first | ((first | refine uN rfl ?_);(first | (refine uE (EvF.build (cs:=cCa ca0 pc0) rfl ArgsP.nil (te rfl) (Places.cons (te rfl) (Places.cons (te rfl) (Places.cons (te rfl) (Places.cons (te rfl) Places.nil)))) Tryz.zeroValue88 rfl) rfl rfl ?_)|(refine uC (uT rfl (Args.cons rfl (Args.cons rfl (Args.cons rfl Args.nil)))) rfl rfl (kt _ _) ?_;rintro _ H9 ⟨rfl,hH9⟩;subst H9)|(refine uE (uA rfl rfl) rfl rfl ?_)|(refine uE (uL rfl rfl (uW (te rfl) rfl (qT _ (qH _)) rfl)) rfl rfl ?_)|(refine uE (uX rfl rfl rfl) rfl rfl ?_)|(refine Xg.st (StF.boxAgg rfl rfl) rfl rfl ?_;rintro _ _ ⟨bx,rfl,rfl⟩)|(refine Xg.st (StF.alloc rfl Tryz.zeroValue24 rfl) rfl rfl ?_;rintro _ _ ⟨bx,rfl,rfl⟩)|(refine Xg.st0 (uZ (i:=0) rfl rfl rfl (te rfl) rfl rfl rfl rfl) rfl ?_;rintro _ _ ⟨rfl,rfl⟩;dsimp only [List.set])))))|(refine uD rfl ?_;refine hK _ _ ?_;clear hK K) | refine uS rfl ?_ | refine uR rfl (fun K hK=>?_) | refine X.ret rfl ?_)
 exact ret_two (v := .agg (cSp rr).toArray) (by simp) Tryz.results36 ⟨_,rfl,uW (te rfl) rfl (qH _) rfl⟩ rfl (H' := H) (by (repeat (first | exact qR _ | apply qC));done) ⟨rfl,rfl⟩
set_option maxHeartbeats 4000000 in
theorem kWet_spec (B : Bl) (p : Pb) (n : Int) (H : List Row) (hB : BlOk H B p) :
  Fc Tryz.prog 14 [.agg (cBl B p).toArray,.int .i64 n] H (fun v H' => v = .tuple #[.agg (cSp (spIf (openE B (caN n)=0) (wetOf B (numW B.weighs n)))).toArray,.int .i64 (openE B (caN n))]∧H' = H):=by
 obtain ⟨rr,hrr⟩ : ∃ x,spIf (openE B (caN n)=0) (wetOf B (numW B.weighs n)) = x:=⟨_,rfl⟩
 have kt:=fun S (hS : BlOk S B p) bo bn (hm : (⟨bn,0,[.int .i64 n],some 3,1⟩ : Row) ∈ S) (hm2 : (⟨bo,0,[n].flatMap cI,some 3,1⟩ : Row) ∈ S)=>toldSp_spec B p (caN n) ⟨none,0,none,0,some ⟨bo,0,none⟩,1,none,0⟩ 52 [.pointer (some ⟨bn,0,none⟩)] (wetOf B (numW B.weighs n)) S hS ⟨sleNil,sleNil,SlE.ofRow (l:=[n]) hm2 (fun _ _=>rfl),sleNil,by simp,by simp,by simp,by simp⟩
  (fun h0 H' hs=>wet1_spec B p (gradesOf B) n bn _ _ H' (openE_zero h0).1.hdry (openE_zero h0).1.hw (gradesOf_len (openE_zero h0).1) (hS.sub hs) (openE_zero h0).2.2.2 (hs _ hm))
 rw [hrr] at kt ⊢
 refine Fc.mk (callable Tryz.call14) Tryz.func14 rfl Tryz.ntmps14 rfl ?_;dsimp only [fr]
 repeat' (first | (refine uP rfl ?_;(first | ((first | refine uN rfl ?_);(first | (refine Xg.st (StF.buildOne rfl el55 rfl rfl rfl (by decide) (by decide)) rfl rfl ?_;rintro _ _ ⟨bo,rfl,rfl⟩)|(refine uE (EvF.build (cs:=cCa (caN n) ⟨none,0,none,0,some ⟨bo,0,none⟩,1,none,0⟩) rfl (ArgsP.cons rfl ArgsP.nil) (te rfl) (Places.cons (te rfl) (Places.cons (te rfl) (Places.cons (te rfl) (Places.cons (te rfl) Places.nil)))) Tryz.zeroValue88 rfl) rfl rfl ?_)|(refine uE (EvF.makeFunc (fl:=[]) rfl Args.nil (Args.cons rfl Args.nil)) rfl rfl ?_)|(refine uC (uT rfl (Args.cons rfl (Args.cons rfl (Args.cons rfl Args.nil)))) rfl rfl (kt _ (hB.sub (fun _ h=>qT _ (qT _ (qT _ (qT _ h))))) _ _ (qT _ (qT _ (qH _))) (qH _)) ?_;rintro _ H9 ⟨rfl,hH9⟩;subst H9)|(refine uE (uA rfl rfl) rfl rfl ?_)|(refine uE (uL rfl rfl (uO (te rfl) rfl (qT _ (qH _)) rfl)) rfl rfl ?_)|(refine uE (uL rfl rfl (uW (te rfl) rfl (qT _ (qT _ (qH _))) rfl)) rfl rfl ?_)|(refine uE (uX rfl rfl rfl) rfl rfl ?_)|(refine Xg.st (StF.boxAgg rfl rfl) rfl rfl ?_;rintro _ _ ⟨bx,rfl,rfl⟩)|(refine Xg.st (StF.boxOne rfl rfl rfl) rfl rfl ?_;rintro _ _ ⟨bx,rfl,rfl⟩)|(refine Xg.st (StF.alloc rfl Tryz.zeroValue24 rfl) rfl rfl ?_;rintro _ _ ⟨bx,rfl,rfl⟩)|(refine Xg.st0 (uZ (i:=1) rfl rfl rfl (te rfl) rfl rfl rfl rfl) rfl ?_;rintro _ _ ⟨rfl,rfl⟩;dsimp only [List.set])))))|(refine uD rfl ?_;refine hK _ _ ?_;clear hK K) | refine uS rfl ?_ | refine uR rfl (fun K hK=>?_) | refine X.ret rfl ?_)
 exact ret_two (v := .agg (cSp rr).toArray) (by simp) Tryz.results14 ⟨_,rfl,uW (te rfl) rfl (by repeat (first | exact qH _ | apply qT)) rfl⟩ rfl (H' := H) (by (repeat (first | exact qR _ | apply qC));done) ⟨rfl,rfl⟩
set_option maxHeartbeats 4000000 in
theorem kKnown_spec (B : Bl) (p : Pb) (n d : Int) (H : List Row) (hB : BlOk H B p) :
  Fc Tryz.prog 15 [.agg (cBl B p).toArray,.int .i64 n,.int .i64 d] H (fun v H' => v = .tuple #[.int .u8 (uIf (openE B (caN n)=0) (damperOf B (numW B.weighs n) d)),.int .i64 (openE B (caN n))]∧H' = H):=by
 obtain ⟨rr,hrr⟩ : ∃ x,uIf (openE B (caN n)=0) (damperOf B (numW B.weighs n) d)=x:=⟨_,rfl⟩
 have kt:=fun S (hS : BlOk S B p) bo bn bd (hm : (⟨bn,0,[.int .i64 n],some 3,1⟩ : Row) ∈ S) (hmd : (⟨bd,0,[.int .i64 d],some 3,1⟩ : Row) ∈ S) (hm2 : (⟨bo,0,[n].flatMap cI,some 3,1⟩ : Row) ∈ S)=>toldU_spec B p (caN n) ⟨none,0,none,0,some ⟨bo,0,none⟩,1,none,0⟩ 56 [.pointer (some ⟨bn,0,none⟩),.pointer (some ⟨bd,0,none⟩)] (damperOf B (numW B.weighs n) d) S hS ⟨sleNil,sleNil,SlE.ofRow (l:=[n]) hm2 (fun _ _=>rfl),sleNil,by simp,by simp,by simp,by simp⟩
  (fun h0 H' hs=>known1_spec B p (gradesOf B) n d bn bd _ _ _ _ H' (openE_zero h0).1.hdry (openE_zero h0).1.hw (gradesOf_len (openE_zero h0).1) (hS.sub hs) (openE_zero h0).2.2.2 (hs _ hm) (hs _ hmd))
 rw [hrr] at kt ⊢
 refine Fc.mk (callable Tryz.call15) Tryz.func15 rfl Tryz.ntmps15 rfl ?_;dsimp only [fr]
 repeat' (first | (refine uP rfl ?_;(first | ((first | refine uN rfl ?_);(first | (refine Xg.st (StF.buildOne rfl el55 rfl rfl rfl (by decide) (by decide)) rfl rfl ?_;rintro _ _ ⟨bo,rfl,rfl⟩)|(refine uE (EvF.build (cs:=cCa (caN n) ⟨none,0,none,0,some ⟨bo,0,none⟩,1,none,0⟩) rfl (ArgsP.cons rfl ArgsP.nil) (te rfl) (Places.cons (te rfl) (Places.cons (te rfl) (Places.cons (te rfl) (Places.cons (te rfl) Places.nil)))) Tryz.zeroValue88 rfl) rfl rfl ?_)|(refine uE (EvF.makeFunc (fl:=[]) rfl Args.nil (Args.cons rfl (Args.cons rfl Args.nil))) rfl rfl ?_)|(refine uC (uT rfl (Args.cons rfl (Args.cons rfl (Args.cons rfl Args.nil)))) rfl rfl (kt _ (hB.sub (fun _ h=>qT _ (qT _ (qT _ (qT _ h))))) _ _ _ (qT _ (qT _ (qH _))) (qT _ (qH _)) (qH _)) ?_;rintro _ H9 ⟨rfl,hH9⟩;subst H9)|(refine uE (uA rfl rfl) rfl rfl ?_)|(refine uE (uL rfl rfl (uO (te rfl) rfl (qT _ (qH _)) rfl)) rfl rfl ?_)|(refine uE (uL rfl rfl (uW (te rfl) rfl (qT _ (qT _ (qH _))) rfl)) rfl rfl ?_)|(refine uE (uX rfl rfl rfl) rfl rfl ?_)|(refine Xg.st (StF.boxAgg rfl rfl) rfl rfl ?_;rintro _ _ ⟨bx,rfl,rfl⟩)|(refine Xg.st (StF.boxOne rfl rfl rfl) rfl rfl ?_;rintro _ _ ⟨bx,rfl,rfl⟩)))))|(refine uD rfl ?_;refine hK _ _ ?_;clear hK K) | refine uS rfl ?_ | refine uR rfl (fun K hK=>?_) | refine X.ret rfl ?_)
 exact ret_two (by simp) Tryz.results15 rfl rfl (H' := H) (by (repeat (first | exact qR _ | apply qC));done) ⟨rfl,rfl⟩
set_option maxHeartbeats 4000000 in
theorem kPays_spec (B : Bl) (p : Pb) (d : Int) (H : List Row) (hB : BlOk H B p) :
  Fc Tryz.prog 23 [.agg (cBl B p).toArray,.int .i64 d] H (fun v H' => v = .tuple #[.agg (cSp (spIf (openE B (caD d)=0) (payF (dryOf B) d))).toArray,.int .i64 (openE B (caD d))]∧H' = H):=by
 obtain ⟨rr,hrr⟩ : ∃ x,spIf (openE B (caD d)=0) (payF (dryOf B) d)=x:=⟨_,rfl⟩
 have kt:=fun S (hS : BlOk S B p) bo bn (hm : (⟨bn,0,[.int .i64 d],some 3,1⟩ : Row) ∈ S) (hm2 : (⟨bo,0,[d].flatMap cI,some 3,1⟩ : Row) ∈ S)=>toldSp_spec B p (caD d) ⟨none,0,none,0,none,0,some ⟨bo,0,none⟩,1⟩ 65 [.pointer (some ⟨bn,0,none⟩)] (payF (dryOf B) d) S hS ⟨sleNil,sleNil,sleNil,SlE.ofRow (l:=[d]) hm2 (fun _ _=>rfl),by simp,by simp,by simp,by simp⟩
  (fun h0 H' hs=>pays1_spec B p (gradesOf B) d bn _ _ H' (openE_zero h0).1.hdry (openE_zero h0).1.hw (gradesOf_len (openE_zero h0).1) (hS.sub hs) (openE_zero h0).2.2.2 (hs _ hm) ((openE_full h0).2.2.2.2 d List.mem_cons_self))
 rw [hrr] at kt ⊢
 refine Fc.mk (callable Tryz.call23) Tryz.func23 rfl Tryz.ntmps23 rfl ?_;dsimp only [fr]
 repeat' (first | (refine uP rfl ?_;(first | ((first | refine uN rfl ?_);(first | (refine Xg.st (StF.buildOne rfl el55 rfl rfl rfl (by decide) (by decide)) rfl rfl ?_;rintro _ _ ⟨bo,rfl,rfl⟩)|(refine uE (EvF.build (cs:=cCa (caD d) ⟨none,0,none,0,none,0,some ⟨bo,0,none⟩,1⟩) rfl (ArgsP.cons rfl ArgsP.nil) (te rfl) (Places.cons (te rfl) (Places.cons (te rfl) (Places.cons (te rfl) (Places.cons (te rfl) Places.nil)))) Tryz.zeroValue88 rfl) rfl rfl ?_)|(refine uE (EvF.makeFunc (fl:=[]) rfl Args.nil (Args.cons rfl Args.nil)) rfl rfl ?_)|(refine uC (uT rfl (Args.cons rfl (Args.cons rfl (Args.cons rfl Args.nil)))) rfl rfl (kt _ (hB.sub (fun _ h=>qT _ (qT _ (qT _ (qT _ h))))) _ _ (qT _ (qT _ (qH _))) (qH _)) ?_;rintro _ H9 ⟨rfl,hH9⟩;subst H9)|(refine uE (uA rfl rfl) rfl rfl ?_)|(refine uE (uL rfl rfl (uO (te rfl) rfl (qT _ (qH _)) rfl)) rfl rfl ?_)|(refine uE (uL rfl rfl (uW (te rfl) rfl (qT _ (qT _ (qH _))) rfl)) rfl rfl ?_)|(refine uE (uX rfl rfl rfl) rfl rfl ?_)|(refine Xg.st (StF.boxAgg rfl rfl) rfl rfl ?_;rintro _ _ ⟨bx,rfl,rfl⟩)|(refine Xg.st (StF.boxOne rfl rfl rfl) rfl rfl ?_;rintro _ _ ⟨bx,rfl,rfl⟩)|(refine Xg.st (StF.alloc rfl Tryz.zeroValue24 rfl) rfl rfl ?_;rintro _ _ ⟨bx,rfl,rfl⟩)|(refine Xg.st0 (uZ (i:=1) rfl rfl rfl (te rfl) rfl rfl rfl rfl) rfl ?_;rintro _ _ ⟨rfl,rfl⟩;dsimp only [List.set])))))|(refine uD rfl ?_;refine hK _ _ ?_;clear hK K) | refine uS rfl ?_ | refine uR rfl (fun K hK=>?_) | refine X.ret rfl ?_)
 exact ret_two (v := .agg (cSp rr).toArray) (by simp) Tryz.results23 ⟨_,rfl,uW (te rfl) rfl (by repeat (first | exact qH _ | apply qT)) rfl⟩ rfl (H' := H) (by (repeat (first | exact qR _ | apply qC));done) ⟨rfl,rfl⟩
set_option maxHeartbeats 4000000 in
theorem kAside_spec (B : Bl) (p : Pb) (d : Int) (H : List Row) (hB : BlOk H B p) :
  Fc Tryz.prog 16 [.agg (cBl B p).toArray,.int .i64 d] H (fun v H' => v = .tuple #[.int .u8 (uIf (openE B (caD d)=0) (asideF B d)),.int .i64 (openE B (caD d))]∧H' = H):=by
 obtain ⟨rr,hrr⟩ : ∃ x,uIf (openE B (caD d)=0) (asideF B d)=x:=⟨_,rfl⟩
 have kt:=fun S (hS : BlOk S B p) bo bn (hm : (⟨bn,0,[.int .i64 d],some 3,1⟩ : Row) ∈ S) (hm2 : (⟨bo,0,[d].flatMap cI,some 3,1⟩ : Row) ∈ S)=>toldU_spec B p (caD d) ⟨none,0,none,0,none,0,some ⟨bo,0,none⟩,1⟩ 58 [.pointer (some ⟨bn,0,none⟩)] (asideF B d) S hS ⟨sleNil,sleNil,sleNil,SlE.ofRow (l:=[d]) hm2 (fun _ _=>rfl),by simp,by simp,by simp,by simp⟩
  (fun h0 H' hs=>aside1_spec B p d bn _ _ H' (openE_zero h0).1 (hS.sub hs) (openE_zero h0).2.2.2 (hs _ hm))
 rw [hrr] at kt ⊢
 refine Fc.mk (callable Tryz.call16) Tryz.func16 rfl Tryz.ntmps16 rfl ?_;dsimp only [fr]
 repeat' (first | (refine uP rfl ?_;(first | ((first | refine uN rfl ?_);(first | (refine Xg.st (StF.buildOne rfl el55 rfl rfl rfl (by decide) (by decide)) rfl rfl ?_;rintro _ _ ⟨bo,rfl,rfl⟩)|(refine uE (EvF.build (cs:=cCa (caD d) ⟨none,0,none,0,none,0,some ⟨bo,0,none⟩,1⟩) rfl (ArgsP.cons rfl ArgsP.nil) (te rfl) (Places.cons (te rfl) (Places.cons (te rfl) (Places.cons (te rfl) (Places.cons (te rfl) Places.nil)))) Tryz.zeroValue88 rfl) rfl rfl ?_)|(refine uE (EvF.makeFunc (fl:=[]) rfl Args.nil (Args.cons rfl Args.nil)) rfl rfl ?_)|(refine uC (uT rfl (Args.cons rfl (Args.cons rfl (Args.cons rfl Args.nil)))) rfl rfl (kt _ (hB.sub (fun _ h=>qT _ (qT _ (qT _ h)))) _ _ (qT _ (qH _)) (qH _)) ?_;rintro _ H9 ⟨rfl,hH9⟩;subst H9)|(refine uE (uA rfl rfl) rfl rfl ?_)|(refine uE (uL rfl rfl (uO (te rfl) rfl (qH _) rfl)) rfl rfl ?_)|(refine uE (uL rfl rfl (uW (te rfl) rfl (qT _ (qH _)) rfl)) rfl rfl ?_)|(refine uE (uX rfl rfl rfl) rfl rfl ?_)|(refine Xg.st (StF.boxAgg rfl rfl) rfl rfl ?_;rintro _ _ ⟨bx,rfl,rfl⟩)|(refine Xg.st (StF.boxOne rfl rfl rfl) rfl rfl ?_;rintro _ _ ⟨bx,rfl,rfl⟩)))))|(refine uD rfl ?_;refine hK _ _ ?_;clear hK K) | refine uS rfl ?_ | refine uR rfl (fun K hK=>?_) | refine X.ret rfl ?_)
 exact ret_two (by simp) Tryz.results16 rfl rfl (H' := H) (by (repeat (first | exact qR _ | apply qC));done) ⟨rfl,rfl⟩
def stp (i : Int) (s : Sp) (x : Dr) : Sp:=if x.val = i then ⟨max s.lo x.lo,min s.hi x.hi⟩ else s
def gr1 (l : List Dr) (i : Int) : Sp:=l.foldl (stp i) ⟨1,9⟩
theorem spAt_set {g : List Sp} {i j : Nat} {s : Sp} (h : i < g.length) : spAt (g.set i s) j = if i = j then s else spAt g j:=by
 unfold spAt List.getD
 rw [List.getElem?_set]
 by_cases h1 : i = j
 ·subst h1;simp [h]
 ·simp [h1]
theorem fold_at (i : Nat) : ∀ (l : List Dr) (g : List Sp),g.length = 5 → i < 5 → (∀ x ∈ l,0 ≤ x.val∧x.val < 5) → spAt (l.foldl stepG g) i = l.foldl (stp i) (spAt g i)
 | [],g,_,_,_=>rfl
 | x::l,g,hg,hi,hx=>by
  have h1:=hx x List.mem_cons_self
  rw [List.foldl_cons,List.foldl_cons,fold_at i l (stepG g x) (by rw [stepG_len,hg]) hi (fun y hy=>hx y (List.mem_cons_of_mem _ hy))]
  congr 1
  unfold stepG stp
  rw [spAt_set (by omega)]
  by_cases h2 : x.val = i
  ·rw [if_pos (by omega),if_pos h2,show x.val.toNat = i by omega]
  ·rw [if_neg (by omega),if_neg h2]
theorem initG_at {n i : Nat} (hi : i < n) : spAt (initG n) i = ⟨1,9⟩:=by
 unfold spAt initG List.getD
 rw [List.getElem?_append_left (by simpa using hi),List.getElem?_replicate,if_pos hi]
 rfl
theorem gr1_eq {B : Bl} (h5 : 1 ≤ B.layers∧B.layers ≤ 5) (hd : ∀ x ∈ B.draws,0 ≤ x.val∧x.val < 5) {i : Nat} (hi : i < B.layers.toNat) : gr1 B.draws i = spAt (gradesOf B) i:=by
 unfold gr1 gradesOf
 rw [fold_at i B.draws _ (initG_len (by omega)) (by omega) hd,initG_at hi]
/-- a list of spans in memory of one's own, or nil -/
def OutS (l : List Sp) (out : Value) (Z : List Row) : Prop:=(l = []∧out = .slice none 0 0∧Z = []) ∨ ∃ b q,out = .slice (some ⟨b,0,none⟩) l.length q∧Z = [⟨b,0,l.flatMap cSp,some 24,q * 2⟩]
theorem OutS.sl {l : List Sp} {out : Value} {Z H : List Row} (h : OutS l out Z) : ∃ a c,out = .slice a l.length c∧SlE (Z++H) a cSp 2 l:=by
 rcases h with ⟨rfl,rfl,rfl⟩ | ⟨b,q,rfl,rfl⟩
 ·exact ⟨none,0,rfl,sleNil⟩
 ·exact ⟨_,_,rfl,SlE.ofRow (qH _) (fun _ _=>rfl)⟩
def gsOf (B : Bl) : List Sp:=(gradesOf B).take B.layers.toNat
set_option maxHeartbeats 4000000 in
theorem layers_spec (B : Bl) (p : Pb) (H : List Row) (h5 : 1 ≤ B.layers∧B.layers ≤ 5) (hd : ∀ x ∈ B.draws,0 ≤ x.val∧x.val < 5) (hB : BlOk H B p) :
  Fc Tryz.prog 134 [.agg (cBl B p).toArray] H (fun v H' => (hasG B.layers.toNat (gradesOf B) ∧ ∃ out Z,OutS (gsOf B) out Z∧v = .tuple #[out,.bool true]∧H' = Z++H)∨(¬ hasG B.layers.toNat (gradesOf B)∧v = .tuple #[.slice none 0 0,.bool false]∧H' = H)):=by
 obtain ⟨N,hN⟩ : ∃ N : Nat,B.layers.toNat = N:=⟨_,rfl⟩
 obtain ⟨g,hg⟩ : ∃ g,gradesOf B = g:=⟨_,rfl⟩
 have hgl : g.length = 5:=by rw [← hg];unfold gradesOf;rw [foldG_len,initG_len (by omega)]
 have hgr : ∀ i : Nat,i < N → gr1 B.draws i = spAt g i:=fun i hi=>by rw [← hg];exact gr1_eq h5 hd (by omega)
 unfold gsOf
 rw [hN,hg]
 have l1:=hB.l1
 have hBZ : ∀ (Z : List Row) r0 r,BlOk (r0::(Z++r::H)) B p:=fun Z r0 r=>hB.sub (fun _ h=>qT _ (List.mem_append_right _ (List.mem_cons_of_mem _ h)))
 obtain ⟨a1,c1,a2,c2⟩:=p
 refine Fc.mk (callable Tryz.call134) Tryz.func134 rfl Tryz.ntmps134 rfl ?_;dsimp only [fr]
 repeat' (first | (refine uP rfl ?_;(first | ((first | refine uN rfl ?_);(first | (refine uE (uM rfl rfl) rfl rfl ?_)|(refine uE (uA rfl rfl) rfl rfl ?_)|(refine uE (uQ rfl rfl rfl rfl) rfl rfl ?_)|(refine uE (uF rfl rfl (te rfl) rfl (te rfl) (by decide)) rfl rfl ?_)|(refine uE (uL rfl rfl (uO (te rfl) rfl (qH _) rfl)) rfl rfl ?_)|(refine uE (uL rfl rfl (uW (te rfl) rfl (qH _) rfl)) rfl rfl ?_)|(refine Xg.st (StF.boxAgg rfl rfl) rfl rfl ?_;rintro _ _ ⟨bx,rfl,rfl⟩)))))|(refine uD rfl ?_;refine hK _ _ ?_;clear hK K) | refine uS rfl ?_ | refine uR rfl (fun K hK=>?_) | refine X.block rfl ?_ | (refine X.brk rfl ?_;repeat (first | refine blockX_hit rfl ?_ | refine blockX_miss (by decide) ?_)) | refine X.skip rfl ?_ | refine X.ret rfl ?_ | (refine X.ite rfl rfl (fun hc=>?_);(first | (with_reducible refine Xb.case hc (fun h=>?_) (fun h=>?_))) <;> clear hc))
 rename Nat=>b1
 refine X.lp rfl (fun m F' H' => ∃ (k : Nat) (out : Value) (Z : List Row),m = N - k∧k ≤ N∧OutS (g.take k) out Z∧(∀ s ∈ g.take k, ¬ s.lo > s.hi)∧Z++⟨b1,0,cBl B ⟨a1,c1,a2,c2⟩,some 31,6⟩::H = H' ∧
   F' = [(1,.pointer (some ⟨b1,0,none⟩)),(4,out),(5,.int .i64 k)])
  N [(1,.pointer (some ⟨b1,0,none⟩)),(4,.slice none 0 0),(5,.int .i64 (0 : Nat))] (⟨b1,0,cBl B ⟨a1,c1,a2,c2⟩,some 31,6⟩::H) (by repeat (first | exact uU _ | refine uV rfl ?_)) (qR _) ⟨0,_,[],by omega,by omega,.inl ⟨rfl,rfl,rfl⟩,by simp,rfl,rfl⟩ ?_
 rintro _ _ H2 ⟨k,out,Z,rfl,hk,hO,hall,hH,rfl⟩
 subst hH
 repeat' (first | (refine uP rfl ?_;(first | ((first | refine uN rfl ?_);(first | (refine uE (uL rfl rfl (uO (te rfl) rfl (List.mem_append_right _ (qH _)) rfl)) rfl rfl ?_)|(refine uE (uL rfl rfl (uO (te rfl) rfl (qT _ (List.mem_append_right _ (qH _))) rfl)) rfl rfl ?_)|(refine uE (EvF.build (cs:=cSp ⟨1,9⟩) rfl (ArgsP.cons rfl (ArgsP.cons rfl ArgsP.nil)) (te rfl) (Places.cons (te rfl) (Places.cons (te rfl) Places.nil)) Tryz.zeroValue24 rfl) rfl rfl ?_)|(refine uE (uM rfl rfl) rfl rfl ?_)|(refine uE (uA rfl rfl) rfl rfl ?_)|(refine uE (uQ rfl rfl rfl rfl) rfl rfl ?_)|(refine uE (uF rfl rfl (te rfl) rfl (te rfl) (by decide)) rfl rfl ?_)|(refine uE (uY rfl rfl (te rfl)) rfl rfl ?_)|(refine Xg.st (StF.alloc rfl Tryz.zeroValue24 rfl) rfl rfl ?_;rintro _ _ ⟨bx,rfl,rfl⟩)|(refine Xg.st0 (uZ (i:=0) rfl rfl rfl (te rfl) rfl rfl rfl rfl) rfl ?_;rintro _ _ ⟨rfl,rfl⟩;dsimp only [List.set])))))|(refine uD rfl ?_;refine hK _ _ ?_;clear hK K) | refine uS rfl ?_ | refine uR rfl (fun K hK=>?_) | refine X.block rfl ?_ | (refine X.brk rfl ?_;repeat (first | refine blockX_hit rfl ?_ | refine blockX_miss (by decide) ?_)) | refine X.skip rfl ?_ | refine X.ret rfl ?_ | (refine X.ite rfl rfl (fun hc=>?_);(first | (with_reducible refine Xb.case hc (fun h=>?_) (fun h=>?_))) <;> clear hc))
 ·rename Nat=>bs
  refine X.lp rfl (fun m F' H' => ∃ q : Nat,m = B.draws.length - q∧q ≤ B.draws.length∧⟨bs,0,cSp (gr1 (B.draws.take q) k),some 24,2⟩::(Z++⟨b1,0,cBl B ⟨a1,c1,a2,c2⟩,some 31,6⟩::H)=H' ∧
    F' = [(1,.pointer (some ⟨b1,0,none⟩)),(4,out),(5,.int .i64 k),(6,.pointer (some ⟨bs,0,none⟩)),(17,.slice a1 B.draws.length c1),(18,.int .i64 B.draws.length),(19,.int .i64 q)])
   B.draws.length [(1,.pointer (some ⟨b1,0,none⟩)),(4,out),(5,.int .i64 k),(6,.pointer (some ⟨bs,0,none⟩)),(17,.slice a1 B.draws.length c1),(18,.int .i64 B.draws.length),(19,.int .i64 (0 : Nat))] (⟨bs,0,cSp (gr1 (B.draws.take 0) k),some 24,2⟩::(Z++⟨b1,0,cBl B ⟨a1,c1,a2,c2⟩,some 31,6⟩::H)) (by repeat (first | exact uU _ | refine uV rfl ?_)) (qR _) ⟨0,by omega,by omega,rfl,rfl⟩ ?_
  rintro _ _ H2 ⟨q,rfl,hq,hH,rfl⟩
  subst hH
  obtain ⟨s,hs⟩ : ∃ s,gr1 (B.draws.take q) k = s:=⟨_,rfl⟩
  rw [hs]
  repeat' (first | (refine uP rfl ?_;(first | ((first | refine uN rfl ?_);(first | (refine uE (uM rfl rfl) rfl rfl ?_)|(refine uE (uA rfl rfl) rfl rfl ?_)|(refine uE (uQ rfl rfl rfl rfl) rfl rfl ?_)|(refine uE (uF rfl rfl (te rfl) rfl (te rfl) (by decide)) rfl rfl ?_)|(refine uE (uL rfl rfl (uO (te rfl) rfl (qH _) rfl)) rfl rfl ?_)|(refine uE (uL rfl rfl (uW (te rfl) rfl (qH _) rfl)) rfl rfl ?_)|(refine Xg.st (StF.boxAgg rfl rfl) rfl rfl ?_;rintro _ _ ⟨bx,rfl,rfl⟩)))))|(refine uD rfl ?_;refine hK _ _ ?_;clear hK K) | refine uS rfl ?_ | refine uR rfl (fun K hK=>?_) | refine X.block rfl ?_ | (refine X.brk rfl ?_;repeat (first | refine blockX_hit rfl ?_ | refine blockX_miss (by decide) ?_)) | refine X.skip rfl ?_ | refine X.ret rfl ?_ | (refine X.ite rfl rfl (fun hc=>?_);(first | (with_reducible refine Xb.case hc (fun h=>?_) (fun h=>?_))) <;> clear hc))
  ·obtain ⟨b,off,e,rfl,he⟩:=hB.draws.elem (i:=q) (by omega)
   have hn : gr1 (B.draws.take (q + 1)) k = stp k s e:=by unfold gr1 at hs ⊢;rw [take_snoc he,List.foldl_append,hs];rfl
   unfold stp at hn
   repeat' (first | (refine uP rfl ?_;(first | ((first | refine uN rfl ?_);(first | (refine uE (uL rfl rfl (LoadV.elA0 (hBZ _ _ _).draws he (te rfl) rfl (fun _ hm=>hm) rfl)) rfl rfl ?_)|(refine uE (EvF.build (cs:=cSp ⟨max s.lo e.lo,min s.hi e.hi⟩) rfl (ArgsP.cons rfl (ArgsP.cons rfl ArgsP.nil)) (te rfl) (Places.cons (te rfl) (Places.cons (te rfl) Places.nil)) Tryz.zeroValue24 rfl) rfl rfl ?_)|(refine uE (uM rfl rfl) rfl rfl ?_)|(refine uE (uQ rfl rfl rfl rfl) rfl rfl ?_)|(refine uE (EvF.add64 rfl rfl rfl (by omega) (by omega)) rfl rfl ?_)|(refine uE (uF rfl rfl (te rfl) rfl (te rfl) (by decide)) rfl rfl ?_)|(refine uE (uJ rfl rfl rfl (te rfl) (te rfl) (by omega) (by omega)) rfl rfl ?_)|(refine uE (uL rfl rfl (uO (te rfl) rfl (qH _) rfl)) rfl rfl ?_)|(refine uE (uL rfl rfl (uO (te rfl) rfl (qT _ (qH _)) rfl)) rfl rfl ?_)|(refine uE (EvF.min64 rfl rfl rfl) rfl rfl ?_)|(refine uE (EvF.max64 rfl rfl rfl) rfl rfl ?_)|(refine Xg.st (StF.alloc rfl Tryz.zeroValue38 rfl) rfl rfl ?_;rintro _ _ ⟨bx,rfl,rfl⟩)|(refine Xg.st0 (uZ (i:=0) rfl rfl rfl (te rfl) rfl rfl rfl rfl) rfl ?_;rintro _ _ ⟨rfl,rfl⟩;dsimp only [List.set])|(refine Xg.st0 (uZ (i:=1) rfl rfl rfl (te rfl) rfl rfl rfl rfl) rfl ?_;rintro _ _ ⟨rfl,rfl⟩;dsimp only [List.set])))))|(refine uD rfl ?_;refine hK _ _ ?_;clear hK K) | refine uS rfl ?_ | refine uR rfl (fun K hK=>?_) | refine X.skip rfl ?_ | (refine X.ite rfl rfl (fun hc=>?_);(first | (with_reducible refine Xb.case hc (fun h=>?_) (fun h=>?_))) <;> clear hc))
   ·rw [if_pos (by assumption)] at hn
    rw [← hn]
    exact ⟨_,_,_,(by repeat (first | exact uU _ | refine uV rfl ?_)),qC _ (qR _),⟨q + 1,rfl,by omega,rfl,rfl⟩,by omega⟩
   ·rw [if_neg (by assumption)] at hn
    rw [← hn]
    exact ⟨_,_,_,(by repeat (first | exact uU _ | refine uV rfl ?_)),qC _ (qR _),⟨q + 1,rfl,by omega,rfl,rfl⟩,by omega⟩
  ·have hsk : spAt g k = s:=by rw [← hgr k (by omega), ← hs,List.take_of_length_le (by omega)]
   have hkg:=spAt_get (g:=g) (i:=k) (by omega)
   rw [hsk] at hkg
   exact ret_two (by simp) Tryz.results134 rfl rfl (H' := H) (qC _ ((List.sublist_cons_self _ _).trans (List.sublist_append_right _ _))) (.inr ⟨fun hh=>hh s (List.mem_of_getElem? (i:=k) (by rw [List.getElem?_take,if_pos (by omega)];exact hkg)) (by assumption),rfl,rfl⟩)
  ·have hsk : spAt g k = s:=by rw [← hgr k (by omega), ← hs,List.take_of_length_le (by omega)]
   have hkg:=spAt_get (g:=g) (i:=k) (by omega)
   rw [hsk] at hkg
   have hok : ¬ s.lo > s.hi:=by assumption
   have htk:=take_snoc hkg
   have hall' : ∀ s ∈ g.take (k + 1), ¬ s.lo > s.hi:=by
    intro x hx
    rw [htk,List.mem_append,List.mem_singleton] at hx
    rcases hx with hx | rfl
    ·exact hall x hx
    ·exact hok
   obtain ⟨l,hlE⟩ : ∃ l,g.take k = l:=⟨_,rfl⟩
   have hlk : l.length ≤ 5:=by rw [← hlE,List.length_take];omega
   rw [hlE] at hO htk
   rcases hO with ⟨rfl,rfl,rfl⟩ | ⟨b0,q0,rfl,rfl⟩
   ·repeat' (first | (refine uP rfl ?_;(first | ((first | refine uN rfl ?_);(first | (refine Xg.st (StF.buildOne rfl el22 rfl rfl rfl (by decide) (by decide)) rfl rfl ?_;rintro _ _ ⟨bo,rfl,rfl⟩)|(refine Xg.st (StF.appendNew rfl el22 rfl rfl (by decide) rfl (Rd.own (qH _)) (by decide)) rfl rfl ?_;rintro _ _ ⟨bn,kn,rfl,rfl⟩)|(refine uE (uM rfl rfl) rfl rfl ?_)|(refine uE (uA rfl rfl) rfl rfl ?_)|(refine uE (EvF.add64 rfl rfl rfl (by omega) (by omega)) rfl rfl ?_)))))|(refine uD rfl ?_;refine hK _ _ ?_;clear hK K) | refine uR rfl (fun K hK=>?_))
    refine ⟨_,_,_,(by repeat (first | exact uU _ | refine uV rfl ?_)),?_,⟨k + 1,_,[⟨bn,0,([]++[s]).flatMap cSp,some 24,kn * 2⟩],rfl,by omega,?_,hall',rfl,rfl⟩,by omega⟩
    ·exact qK _ (qC _ (qC _ (qR _)))
    ·rw [htk];exact .inr ⟨_,_,rfl,rfl⟩
   ·have hlen : (l.flatMap cSp).length = l.length * 2:=lenSp l
    repeat' (first | (refine uP rfl ?_;(first | ((first | refine uN rfl ?_);(first | (refine Xg.st (StF.buildOne rfl el22 rfl rfl rfl (by decide) (by decide)) rfl rfl ?_;rintro _ _ ⟨bo,rfl,rfl⟩)|(refine Xg.st (StF.appendOwn (i:=2) rfl el22 rfl rfl rfl hlen rfl (Rd.own (qH _)) rfl (by omega)) rfl rfl ?_;rintro _ _ ⟨bn,kn,rfl,rfl⟩;dsimp only [List.eraseIdx])|(refine uE (uM rfl rfl) rfl rfl ?_)|(refine uE (uA rfl rfl) rfl rfl ?_)|(refine uE (EvF.add64 rfl rfl rfl (by omega) (by omega)) rfl rfl ?_)))))|(refine uD rfl ?_;refine hK _ _ ?_;clear hK K) | refine uR rfl (fun K hK=>?_))
    refine ⟨_,_,_,(by repeat (first | exact uU _ | refine uV rfl ?_)),?_,⟨k + 1,_,[⟨bn,0,(l++[s]).flatMap cSp,some 24,kn * 2⟩],rfl,by omega,?_,hall',rfl,rfl⟩,by omega⟩
    ·rw [List.flatMap_append]
     exact qK _ (qC _ (qC _ (qR _)))
    ·rw [htk];exact .inr ⟨_,_,by rw [List.length_append];rfl,rfl⟩
 ·obtain rfl : k = N:=by omega
  exact ret_two (by simp) Tryz.results134 rfl rfl (H' := Z++H) (List.Sublist.append (qR _) (List.sublist_cons_self _ _)) (.inl ⟨hall,out,Z,hO,rfl,rfl⟩)
theorem true_spec (B : Bl) (p : Pb) (H : List Row) (hb : baleOk B) (hB : BlOk H B p) :
  Fc Tryz.prog 82 [.agg (cBl B p).toArray] H (fun v H' => v = .bool (decide (canB B))∧H' = H):=by
 have hB1 : ∀ r1,BlOk (r1::H) B p:=fun r1=>hB.sub (fun _ h=>qT _ h)
 have hBZ : ∀ (Z : List Row) r1,BlOk (Z++r1::H) B p:=fun Z r1=>hB.sub (fun _ h=>List.mem_append_right _ (qT _ h))
 have hl:=wl_len (okW B) B.dlo (B.dhi - B.dlo + 1).toNat
 have hd:=hb.hdry
 refine Fc.mk (callable Tryz.call82) Tryz.func82 rfl Tryz.ntmps82 rfl ?_;dsimp only [fr]
 repeat' (first | (refine uP rfl ?_;(first | ((first | refine uN rfl ?_ | (refine Xo.g rfl rfl ?_;with_reducible refine Xw.tt ?_));(first | (refine uC (uT rfl (by (repeat (first | exact Args.nil | refine Args.cons rfl ?_));done)) rfl rfl (layers_spec B p _ hb.h5 hb.hd (hB1 _)) ?_;rintro _ H9 (⟨hG,out,Z,hO,rfl,hH9⟩ | ⟨hG,rfl,hH9⟩) <;> subst H9)|(refine uE (uL rfl rfl (uW (te rfl) rfl (List.mem_append_right _ (qH _)) rfl)) rfl rfl ?_)|(refine uC (uT rfl (by (repeat (first | exact Args.nil | refine Args.cons rfl ?_));done)) rfl rfl (dries_spec B p _ hd hb.wg (hBZ _ _)) ?_;rintro _ _ ⟨Z2,hO2,rfl⟩;obtain ⟨a,c,rfl,hs2⟩:=hO2.sl (H:=[]))|(refine uE (uM rfl rfl) rfl rfl ?_)|(refine uE (uA rfl rfl) rfl rfl ?_)|(refine uE (EvF.pickT rfl rfl rfl) rfl rfl ?_)|(refine uE (EvF.pickF rfl rfl rfl) rfl rfl ?_)|(refine uE (uQ rfl rfl rfl rfl) rfl rfl ?_)|(refine uE (uY rfl rfl (te rfl)) rfl rfl ?_)|(refine uE (uL rfl rfl (uW (te rfl) rfl (qH _) rfl)) rfl rfl ?_)|(refine uE (uX rfl rfl rfl) rfl rfl ?_)|(refine Xg.st (StF.boxAgg rfl rfl) rfl rfl ?_;rintro _ _ ⟨bx,rfl,rfl⟩)))|(refine Xo.g rfl rfl ?_;(first | (with_reducible refine Xw.ft rfl rfl ?_)))))|(refine uD rfl ?_;refine hK _ _ ?_;clear hK K) | refine uS rfl ?_ | refine uR rfl (fun K hK=>?_) | refine X.ret rfl ?_)
 ·refine ret_one (by simp) Tryz.results82 rfl (H' := H) (((List.sublist_cons_self _ _).trans (List.sublist_append_right _ _)).trans (List.sublist_append_right _ _)) ⟨?_,rfl⟩
  congr 1
  exact decide_eq_decide.2 ⟨fun q=>⟨hG,by omega⟩,fun q=>by have:=q.2;omega⟩
 ·refine ret_one (by simp) Tryz.results82 rfl (H' := H) (by (repeat (first | exact qR _ | apply qC));done) ?_;simp only [and_true,true_and]
  congr 1;symm;exact decide_eq_false (fun q=>hG q.1)
theorem gsOf_len {B : Bl} (h : baleOk B) : (gsOf B).length = B.layers.toNat:=by
 unfold gsOf;rw [List.length_take,gradesOf_len h];have:=h.h5;omega
theorem spAt_gs {B : Bl} {i : Nat} (hi : i < B.layers.toNat) : spAt (gsOf B) i = spAt (gradesOf B) i:=by
 unfold spAt gsOf List.getD
 rw [List.getElem?_take,if_pos hi]
theorem cuts_some {l : List Int} : (cutsF l).lo ≤ (cutsF l).hi ↔ ∃ k : Nat,1 ≤ k∧k < l.length∧alikeB (l.take k)=true∧alikeB (l.drop k)=true:=by
 constructor
 ·intro h
  obtain ⟨h1,h2⟩:=cuts_bd h
  obtain ⟨q1,q2⟩:=(cuts_iff (l:=l) (k:=(cutsF l).lo) h1 (by omega)).2 ⟨Int.le_refl _,h⟩
  exact ⟨(cutsF l).lo.toNat,by omega,by omega,q1,q2⟩
 ·rintro ⟨k,h1,h2,h3,h4⟩
  have:=(cuts_iff (l:=l) (k:=(k : Int)) (by omega) (by omega)).1 ⟨h3,h4⟩
  omega
theorem kind_one {l : List Int} : kindF l = 1 ↔ alikeB l = true:=by
 unfold kindF
 constructor
 ·intro h
  split at h
  ·assumption
  ·split at h
   ·cases h
   ·split at h <;> cases h
 ·intro h
  rw [if_pos h]
theorem kind_two {l : List Int} : kindF l = 2 ↔ alikeB l = false∧(cutsF l).lo ≤ (cutsF l).hi:=by
 unfold kindF
 constructor
 ·intro h
  split at h
  ·cases h
  ·split at h
   ·exact ⟨by simpa using (by assumption : ¬ alikeB l = true),by assumption⟩
   ·split at h <;> cases h
 ·rintro ⟨h1,h2⟩
  rw [if_neg (by rw [h1];decide),if_pos h2]
theorem gs_at {B : Bl} (hb : baleOk B) {i : Nat} (hi : i < B.layers.toNat) : (gsOf B)[i]? = some (gr1 B.draws i):=by
 rw [spAt_get (g:=gsOf B) (by rw [gsOf_len hb];exact hi),spAt_gs hi,gr1_eq hb.h5 hb.hd hi]
set_option maxRecDepth 100000
theorem oE {B : Bl} {C : Ca} (hb : baleOk B) (hc : canB B) (hl : askL B C) (hk : askK C) (hw : askW B C) (hd : askD C) : openE B C = 0:=by
 unfold openE
 rw [if_pos hb,if_pos hl,if_pos hk,if_pos hw,if_pos hd,if_pos hc]
theorem okE : baleOk (balE []):=(refBale_iff _).1 (by simp [rz,rdOk,rwOk,refBale,balE,drE,wgE])
theorem okO : baleOk (balE oddD):=(refBale_iff _).1 (by simp [rz,rdOk,rwOk,refBale,balE,drE,wgE,oddD])
theorem wtsE : wts (balE []) = [441,442,443,444,445,446,447,448,449,450,451,452]:=by
 rw [← wts_eq okE.wg okE.hdry]
 kernel_rfl
theorem wtsO : wts (balE oddD) = [441,442,443,444,445,446,447,448,449,450,451,452]:=by
 rw [← wts_eq okO.wg okO.hdry]
 kernel_rfl
theorem gsE : gsOf (balE []) = [⟨3,3⟩,⟨3,6⟩,⟨1,9⟩,⟨3,4⟩]:=by kernel_rfl
theorem gsO : gsOf (balE oddD) = [⟨5,3⟩,⟨3,6⟩,⟨1,9⟩,⟨3,4⟩]:=by kernel_rfl
theorem canE : canB (balE []):=by
 refine ⟨?_,by rw [wtsE];decide⟩
 intro s hs
 change s ∈ gsOf (balE []) at hs
 rw [gsE] at hs
 simp only [List.mem_cons,List.not_mem_nil,or_false] at hs
 rcases hs with rfl | rfl | rfl | rfl <;> decide
theorem noO : ¬ canB (balE oddD):=by
 rintro ⟨h,_⟩
 have : (⟨5,3⟩ : Sp) ∈ gsOf (balE oddD):=by rw [gsO];exact List.mem_cons_self
 exact h _ this (by decide)
theorem oE0 : openE (balE []) ca0 = 0:=oE okE canE (fun _ h=>absurd h List.not_mem_nil) (fun _ h=>absurd h List.not_mem_nil) (fun _ h=>absurd h List.not_mem_nil) (fun _ h=>absurd h List.not_mem_nil)
theorem oEL {i : Int} (h : 0 ≤ i∧i ≤ 3) : openE (balE []) ⟨[i],[],[],[]⟩ = 0:=oE okE canE (fun n hn=>by rw [List.mem_singleton.1 hn];exact h) (fun _ h=>absurd h List.not_mem_nil) (fun _ h=>absurd h List.not_mem_nil) (fun _ h=>absurd h List.not_mem_nil)
theorem oEK {k : Int} (h : 1 ≤ k∧k ≤ 4) : openE (balE []) ⟨[],[k],[],[]⟩ = 0:=oE okE canE (fun _ h=>absurd h List.not_mem_nil) (fun n hn=>by rw [List.mem_singleton.1 hn];exact h) (fun _ h=>absurd h List.not_mem_nil) (fun _ h=>absurd h List.not_mem_nil)
theorem oEW {n : Int} (h : n = 1∨n = 2) : openE (balE []) (caN n)=0:=oE okE canE (fun _ h=>absurd h List.not_mem_nil) (fun _ h=>absurd h List.not_mem_nil) (fun m hm=>by rw [List.mem_singleton.1 hm];rcases h with rfl | rfl;exact List.mem_cons_self;exact List.mem_cons_of_mem _ List.mem_cons_self) (fun _ h=>absurd h List.not_mem_nil)
theorem oED {d : Int} (h : 0 ≤ d∧d ≤ 200) : openE (balE []) (caD d)=0:=oE okE canE (fun _ h=>absurd h List.not_mem_nil) (fun _ h=>absurd h List.not_mem_nil) (fun _ h=>absurd h List.not_mem_nil) (fun n hn=>by rw [List.mem_singleton.1 hn];exact h)
theorem vKinds : ((ofKind (truthsB (balE [])) 1,ofKind (truthsB (balE [])) 2),ofKind (truthsB (balE [])) 3,ofKind (truthsB (balE [])) 4)=((1,1),1,1):=by kernel_rfl
theorem vKind1 : ofKind (truthsB (balE [])) 1 = 1:=congrArg (fun x=>x.1.1) vKinds
theorem vKind3 : ofKind (truthsB (balE [])) 3 = 1:=congrArg (fun x=>x.2.1) vKinds
theorem vCutT : cutT 4 (truthsB (balE [])) = ⟨1,3⟩:=by kernel_rfl
theorem vCut : cutB (balE []) = (⟨1,3⟩,0):=by
 unfold cutB
 rw [if_pos oE0,show (balE []).layers = 4 from rfl,vCutT,if_neg (by decide)]
theorem vAsk : askB (balE []) = (2,3):=by
 unfold askB
 kernel_rfl
theorem vDry : dryOf (balE []) = ⟨441,452⟩:=by
 unfold dryOf
 rw [wtsE]
 rfl
theorem vWet1 : wetOf (balE []) ⟨1,480,60,90⟩ = ⟨62,90⟩:=by
 unfold wetOf
 rw [vDry]
 kernel_rfl
theorem vWet2 : wetOf (balE []) ⟨2,470,40,70⟩ = ⟨40,68⟩:=by
 unfold wetOf
 rw [vDry]
 kernel_rfl
theorem vAside {d : Int} : asideF (balE []) d = max (max 1 (knb (decide ((90 : Int) > d)) (decide ((62 : Int)≤d)))) (knb (decide ((68 : Int) > d)) (decide ((40 : Int)≤d))):=by
 unfold asideF
 rw [vKind1]
 show max (max (2 - 1) (damperOf (balE []) ⟨1,480,60,90⟩ d)) (damperOf (balE []) ⟨2,470,40,70⟩ d)=_
 unfold damperOf
 rw [vWet1,vWet2]
 rfl
theorem exD_nil (B : Bl) : outD B [] = B:=by
 unfold outD excDr
 rw [List.filter_eq_self.2 (fun e _=>by simp)]
theorem exW_nil (B : Bl) : outW B [] = B:=by
 unfold outW excWg
 rw [List.filter_eq_self.2 (fun e _=>by simp)]
theorem vDecT : decL (truthsB (balE [])) 4 = [1,2,3]:=by kernel_rfl
theorem vDecide : decideB (balE []) = [1,2,3]:=by
 unfold decideB lIf
 rw [if_pos oE0]
 exact vDecT
theorem vFewD : fewD (balE oddD)=some [⟨1,0,3,3⟩]:=by
 have h0 : okD (balE oddD) [] = false:=by
  unfold okD
  rw [exD_nil]
  exact decide_eq_false (fun h=>by
   have : (⟨5,3⟩ : Sp) ∈ gsOf (balE oddD):=by rw [gsO];exact List.mem_cons_self
   exact h _ this (by decide))
 have e1 : outD (balE oddD) [⟨1,0,3,3⟩] = ⟨1,4,400,500,[⟨2,3,3,4⟩,⟨3,1,3,6⟩,⟨4,0,5,6⟩],wgE⟩:=by
  unfold outD excDr
  simp [balE,drE,oddD]
 have h1 : okD (balE oddD) [⟨1,0,3,3⟩] = true:=by
  unfold okD
  rw [e1]
  refine decide_eq_true (fun s hs=>?_)
  have e : (gradesOf ⟨1,4,400,500,[⟨2,3,3,4⟩,⟨3,1,3,6⟩,⟨4,0,5,6⟩],wgE⟩).take (4 : Int).toNat = [⟨5,6⟩,⟨3,6⟩,⟨1,9⟩,⟨3,4⟩]:=by kernel_rfl
  change s ∈ (gradesOf ⟨1,4,400,500,[⟨2,3,3,4⟩,⟨3,1,3,6⟩,⟨4,0,5,6⟩],wgE⟩).take (4 : Int).toNat at hs
  rw [e] at hs
  simp only [List.mem_cons,List.not_mem_nil,or_false] at hs
  rcases hs with rfl | rfl | rfl | rfl <;> decide
 unfold fewD
 show few (okD (balE oddD)) [⟨1,0,3,3⟩,⟨2,3,3,4⟩,⟨3,1,3,6⟩,⟨4,0,5,6⟩] 4 0 = _
 simp [few,lon,h0,h1]
theorem vFewW : fewW (balE oddD)=some []:=by
 have h0 : okWt (balE oddD) [] = true:=by
  unfold okWt
  rw [exW_nil,wtsO]
  exact decide_eq_true (by decide)
 unfold fewW
 show few (okWt (balE oddD)) [⟨1,480,60,90⟩,⟨2,470,40,70⟩] 3 0 = _
 simp [few,lon,h0]
theorem vWrong : wrongF (balE oddD)=([1],[],0):=by
 unfold wrongF
 rw [if_pos okO,if_pos (by rw [vFewD,vFewW];exact ⟨rfl,rfl⟩),vFewD,vFewW]
 rfl
set_option maxRecDepth 10000
theorem X.gen {P : Program} {n : Nat} {c : Code} {F : FS} {H : List Row} {Q : QX} (k : ∀ G,G = H → X P n c F G Q) : X P n c F H Q:=k H rfl
theorem spIf_pos {p : Prop} [Decidable p] (h : p) (s : Sp) : spIf p s = s:=if_pos h
theorem uIf_pos {p : Prop} (h : p) (s : Int) : uIf p s = s:=if_pos h
theorem eqE (e : Sp) (w : World) : (Op.equalIn 10000 24 (.agg (cSp e).toArray) (.agg (cSp e).toArray)).run Tryz.prog w = .ok true w:=by
 rw [eqSp 9998,decide_eq_true rfl]
theorem intsT (l : List Int) (a a' : Option Addr) (c c' : Nat) (H : List Row) (hl : SlE H a cI 1 l) (hw : SlE H a' cI 1 l) (hb : l.length ≤ 1000) : Fc Tryz.prog 28 [.slice a l.length c,.slice a' l.length c'] H (fun v H' => v = .bool true∧H' = H):=by
 have:=ints_spec l l a a' c c' H hl hw hb
 rwa [decide_eq_true rfl] at this
theorem aLay (bn kn bw : Nat) (S : List Row) (h : BlOk S (balE []) ⟨some ⟨bn,0,none⟩,kn,some ⟨bw,0,none⟩,2⟩) : Fc Tryz.prog 12 [.agg (cBl (balE []) ⟨some ⟨bn,0,none⟩,kn,some ⟨bw,0,none⟩,2⟩).toArray,.int .i64 1] S (fun v H' => v = .tuple #[.agg (cSp ⟨3,6⟩).toArray,.int .i64 0]∧H' = S):=by
 have:=klayer_spec (balE []) ⟨some ⟨bn,0,none⟩,kn,some ⟨bw,0,none⟩,2⟩ 1 S h
 rw [spIf_pos (oEL (by decide)),oEL (by decide),show spAt (gradesOf (balE [])) (1 : Int).toNat = ⟨3,6⟩ from by kernel_rfl] at this
 exact this
theorem aBst (bn kn bw : Nat) (S : List Row) (h : BlOk S (balE []) ⟨some ⟨bn,0,none⟩,kn,some ⟨bw,0,none⟩,2⟩) : Fc Tryz.prog 33 [.agg (cBl (balE []) ⟨some ⟨bn,0,none⟩,kn,some ⟨bw,0,none⟩,2⟩).toArray] S (fun v H' => v = .tuple #[.agg (cSp ⟨1,3⟩).toArray,.int .i64 0]∧H' = S):=by
 have:=kbest_spec (balE []) ⟨some ⟨bn,0,none⟩,kn,some ⟨bw,0,none⟩,2⟩ S h
 rw [spIf_pos oE0,oE0,show bestF ((gradesOf (balE [])).take (balE []).layers.toNat) (spAt (gradesOf (balE [])) 0) = ⟨1,3⟩ from by kernel_rfl] at this
 exact this
theorem aWor (bn kn bw : Nat) (S : List Row) (h : BlOk S (balE []) ⟨some ⟨bn,0,none⟩,kn,some ⟨bw,0,none⟩,2⟩) : Fc Tryz.prog 34 [.agg (cBl (balE []) ⟨some ⟨bn,0,none⟩,kn,some ⟨bw,0,none⟩,2⟩).toArray] S (fun v H' => v = .tuple #[.agg (cSp ⟨3,9⟩).toArray,.int .i64 0]∧H' = S):=by
 have:=kworst_spec (balE []) ⟨some ⟨bn,0,none⟩,kn,some ⟨bw,0,none⟩,2⟩ S h
 rw [spIf_pos oE0,oE0,show worstF ((gradesOf (balE [])).take (balE []).layers.toNat) (spAt (gradesOf (balE [])) 0) = ⟨3,9⟩ from by kernel_rfl] at this
 exact this
theorem aKin (bn kn bw : Nat) (S : List Row) (h : BlOk S (balE []) ⟨some ⟨bn,0,none⟩,kn,some ⟨bw,0,none⟩,2⟩) : Fc Tryz.prog 18 [.agg (cBl (balE []) ⟨some ⟨bn,0,none⟩,kn,some ⟨bw,0,none⟩,2⟩).toArray,.int .i64 3] S (fun v H' => v = .tuple #[.int .u8 1,.int .i64 0]∧H' = S):=by
 have:=kKind_spec (balE []) ⟨some ⟨bn,0,none⟩,kn,some ⟨bw,0,none⟩,2⟩ 3 S h
 rw [uIf_pos (oEK (by decide)),oEK (by decide),vKind3] at this
 exact this
theorem aCut (bn kn bw : Nat) (S : List Row) (h : BlOk S (balE []) ⟨some ⟨bn,0,none⟩,kn,some ⟨bw,0,none⟩,2⟩) : Fc Tryz.prog 22 [.agg (cBl (balE []) ⟨some ⟨bn,0,none⟩,kn,some ⟨bw,0,none⟩,2⟩).toArray] S (fun v H' => v = .tuple #[.agg (cSp ⟨1,3⟩).toArray,.int .i64 0]∧H' = S):=by
 have:=kCut_spec (balE []) ⟨some ⟨bn,0,none⟩,kn,some ⟨bw,0,none⟩,2⟩ S h
 rw [vCut] at this
 exact this
theorem aAsk (bn kn bw : Nat) (S : List Row) (h : BlOk S (balE []) ⟨some ⟨bn,0,none⟩,kn,some ⟨bw,0,none⟩,2⟩) : Fc Tryz.prog 46 [.agg (cBl (balE []) ⟨some ⟨bn,0,none⟩,kn,some ⟨bw,0,none⟩,2⟩).toArray] S (fun v H' => v = .tuple #[.int .i64 2,.int .i64 3,.int .i64 0]∧H' = S):=by
 have:=kAsk_spec (balE []) ⟨some ⟨bn,0,none⟩,kn,some ⟨bw,0,none⟩,2⟩ S h
 rw [uIf_pos oE0,uIf_pos oE0,oE0,vAsk] at this
 exact this
theorem aDec (bn kn bw : Nat) (S : List Row) (h : BlOk S (balE []) ⟨some ⟨bn,0,none⟩,kn,some ⟨bw,0,none⟩,2⟩) : Fc Tryz.prog 41 [.agg (cBl (balE []) ⟨some ⟨bn,0,none⟩,kn,some ⟨bw,0,none⟩,2⟩).toArray] S (fun v H' => ∃ b q,v = .tuple #[.slice (some ⟨b,0,none⟩) 3 q,.int .i64 0]∧H' = ⟨b,0,[1,2,3].flatMap cI,some 3,q * 1⟩::S):=by
 refine (kDecide_spec (balE []) ⟨some ⟨bn,0,none⟩,kn,some ⟨bw,0,none⟩,2⟩ S h).mono fun v H' q=>?_
 rw [vDecide,oE0] at q
 obtain ⟨out,Z,h1,rfl,rfl⟩:=q
 rcases h1 with ⟨h1,_,_⟩ | ⟨b,q,rfl,rfl⟩
 ·cases h1
 ·exact ⟨b,q,rfl,rfl⟩
theorem aDry (bn kn bw : Nat) (S : List Row) (h : BlOk S (balE []) ⟨some ⟨bn,0,none⟩,kn,some ⟨bw,0,none⟩,2⟩) : Fc Tryz.prog 36 [.agg (cBl (balE []) ⟨some ⟨bn,0,none⟩,kn,some ⟨bw,0,none⟩,2⟩).toArray] S (fun v H' => v = .tuple #[.agg (cSp ⟨441,452⟩).toArray,.int .i64 0]∧H' = S):=by
 have:=kdry_spec (balE []) ⟨some ⟨bn,0,none⟩,kn,some ⟨bw,0,none⟩,2⟩ S h
 rw [spIf_pos oE0,oE0,vDry] at this
 exact this
theorem aWet (bn kn bw : Nat) (S : List Row) (h : BlOk S (balE []) ⟨some ⟨bn,0,none⟩,kn,some ⟨bw,0,none⟩,2⟩) : Fc Tryz.prog 14 [.agg (cBl (balE []) ⟨some ⟨bn,0,none⟩,kn,some ⟨bw,0,none⟩,2⟩).toArray,.int .i64 1] S (fun v H' => v = .tuple #[.agg (cSp ⟨62,90⟩).toArray,.int .i64 0]∧H' = S):=by
 have:=kWet_spec (balE []) ⟨some ⟨bn,0,none⟩,kn,some ⟨bw,0,none⟩,2⟩ 1 S h
 rw [spIf_pos (oEW (.inl rfl)),oEW (.inl rfl),show numW (balE []).weighs 1 = ⟨1,480,60,90⟩ from by kernel_rfl,vWet1] at this
 exact this
theorem aKno (bn kn bw : Nat) (S : List Row) (h : BlOk S (balE []) ⟨some ⟨bn,0,none⟩,kn,some ⟨bw,0,none⟩,2⟩) : Fc Tryz.prog 15 [.agg (cBl (balE []) ⟨some ⟨bn,0,none⟩,kn,some ⟨bw,0,none⟩,2⟩).toArray,.int .i64 1,.int .i64 61] S (fun v H' => v = .tuple #[.int .u8 2,.int .i64 0]∧H' = S):=by
 have:=kKnown_spec (balE []) ⟨some ⟨bn,0,none⟩,kn,some ⟨bw,0,none⟩,2⟩ 1 61 S h
 rw [uIf_pos (oEW (.inl rfl)),oEW (.inl rfl),show numW (balE []).weighs 1 = ⟨1,480,60,90⟩ from by kernel_rfl,show damperOf (balE []) ⟨1,480,60,90⟩ 61 = 2 from by unfold damperOf;rw [vWet1];rfl] at this
 exact this
theorem aPay (bn kn bw : Nat) (S : List Row) (h : BlOk S (balE []) ⟨some ⟨bn,0,none⟩,kn,some ⟨bw,0,none⟩,2⟩) : Fc Tryz.prog 23 [.agg (cBl (balE []) ⟨some ⟨bn,0,none⟩,kn,some ⟨bw,0,none⟩,2⟩).toArray,.int .i64 85] S (fun v H' => v = .tuple #[.agg (cSp ⟨478,490⟩).toArray,.int .i64 0]∧H' = S):=by
 have:=kPays_spec (balE []) ⟨some ⟨bn,0,none⟩,kn,some ⟨bw,0,none⟩,2⟩ 85 S h
 rw [spIf_pos (oED (by decide)),oED (by decide),vDry,show payF ⟨441,452⟩ 85 = ⟨478,490⟩ from by kernel_rfl] at this
 exact this
theorem aAsi (bn kn bw : Nat) (S : List Row) (h : BlOk S (balE []) ⟨some ⟨bn,0,none⟩,kn,some ⟨bw,0,none⟩,2⟩) : Fc Tryz.prog 16 [.agg (cBl (balE []) ⟨some ⟨bn,0,none⟩,kn,some ⟨bw,0,none⟩,2⟩).toArray,.int .i64 90] S (fun v H' => v = .tuple #[.int .u8 1,.int .i64 0]∧H' = S):=by
 have:=kAside_spec (balE []) ⟨some ⟨bn,0,none⟩,kn,some ⟨bw,0,none⟩,2⟩ 90 S h
 rw [uIf_pos (oED (by decide)),oED (by decide),vAside,show max (max 1 (knb (decide ((90 : Int) > 90)) (decide ((62 : Int)≤90)))) (knb (decide ((68 : Int) > 90)) (decide ((40 : Int)≤90))) = 1 from by decide] at this
 exact this
theorem aCan (bn kn bw : Nat) (S : List Row) (h : BlOk S (balE oddD) ⟨some ⟨bn,0,none⟩,kn,some ⟨bw,0,none⟩,2⟩) : Fc Tryz.prog 39 [.agg (cBl (balE oddD) ⟨some ⟨bn,0,none⟩,kn,some ⟨bw,0,none⟩,2⟩).toArray] S (fun v H' => v = .tuple #[.bool false,.int .i64 0]∧H' = S):=by
 have:=kcan_spec (balE oddD) ⟨some ⟨bn,0,none⟩,kn,some ⟨bw,0,none⟩,2⟩ S h
 rw [decide_eq_false (fun q=>noO q.2),if_pos okO] at this
 exact this
theorem aWrg (bn kn bw : Nat) (S : List Row) (h : BlOk S (balE oddD) ⟨some ⟨bn,0,none⟩,kn,some ⟨bw,0,none⟩,2⟩) : Fc Tryz.prog 27 [.agg (cBl (balE oddD) ⟨some ⟨bn,0,none⟩,kn,some ⟨bw,0,none⟩,2⟩).toArray] S (fun v H' => ∃ a1 c1 a2 c2 Z,v = .tuple #[.slice a1 1 c1,.slice a2 0 c2,.int .i64 0]∧SlE (Z++S) a1 cI 1 [1]∧SlE (Z++S) a2 cI 1 []∧H' = Z++S):=by
 have:=kwrong_spec (balE oddD) ⟨bn,0,none⟩ kn ⟨bw,0,none⟩ 2 S h
 rw [vWrong] at this
 exact this
theorem lit3 : fillL (fun i=>some (i * 1,1)) ((Array.range (3 * 1)).map (fun x=>(Value.int .i64 0).cells[x % (Value.int .i64 0).cells.size]!)).toList [(0,.int .i64 1),(1,.int .i64 2),(2,.int .i64 3)] = some [.int .i64 1,.int .i64 2,.int .i64 3]:=by kernel_rfl
def tsKal : List TOp:=[⟨some 57,[],[],[]⟩,⟨some 58,[0],[0],[]⟩,⟨some 59,[0,1],[1],[]⟩,⟨some 60,[0,1,2],[],[]⟩,⟨some 61,[0,1,2],[],[]⟩,⟨some 62,[0,1,2,3,4],[3,4],[]⟩,⟨some 63,[0,1,2,3,4,5],[2,5],[]⟩,⟨some 64,[0,1,2,3,4,5,6],[6],[]⟩,⟨some 65,[0,1,2,3,4,5,6,7],[],[]⟩,⟨some 66,[0,1,2,3,4,5,6,7,8],[8],[]⟩,⟨some 67,[0,1,2,3,4,5,6,7,8,9],[7,9],[]⟩,⟨some 68,[0,1,2,3,4,5,6,7,8,9,10],[10],[]⟩,⟨some 69,[0,1,2,3,4,5,6,7,8,9,10,11],[],[]⟩,⟨some 70,[0,1,2,3,4,5,6,7,8,9,10,11],[],[]⟩,⟨some 71,[0,1,2,3,4,5,6,7,8,9,10,11,12,13],[12,13],[]⟩,⟨some 72,[0,1,2,3,4,5,6,7,8,9,10,11,12,13,14],[11,14],[]⟩,⟨some 73,[0,1,2,3,4,5,6,7,8,9,10,11,12,13,14,15],[15],[]⟩,⟨some 74,[0,1,2,3,4,5,6,7,8,9,10,11,12,13,14,15,16],[],[]⟩,⟨some 75,[0,1,2,3,4,5,6,7,8,9,10,11,12,13,14,15,16,17],[17],[]⟩,⟨some 76,[0,1,2,3,4,5,6,7,8,9,10,11,12,13,14,15,16,17,18],[16,18],[]⟩,⟨some 77,[0,1,2,3,4,5,6,7,8,9,10,11,12,13,14,15,16,17,18,19],[19],[]⟩,⟨some 78,[0,1,2,3,4,5,6,7,8,9,10,11,12,13,14,15,16,17,18,19,20],[],[]⟩,⟨some 79,[0,1,2,3,4,5,6,7,8,9,10,11,12,13,14,15,16,17,18,19,20],[],[]⟩,⟨some 80,[0,1,2,3,4,5,6,7,8,9,10,11,12,13,14,15,16,17,18,19,20,21,22],[21,22],[]⟩,⟨some 81,[0,1,2,3,4,5,6,7,8,9,10,11,12,13,14,15,16,17,18,19,20,21,22,23],[20,23],[]⟩,⟨some 82,[0,1,2,3,4,5,6,7,8,9,10,11,12,13,14,15,16,17,18,19,20,21,22,23,24],[24],[]⟩,⟨some 83,[0,1,2,3,4,5,6,7,8,9,10,11,12,13,14,15,16,17,18,19,20,21,22,23,24,25],[],[]⟩,⟨some 84,[0,1,2,3,4,5,6,7,8,9,10,11,12,13,14,15,16,17,18,19,20,21,22,23,24,25,26],[26],[]⟩,⟨some 85,[0,1,2,3,4,5,6,7,8,9,10,11,12,13,14,15,16,17,18,19,20,21,22,23,24,25,26,27],[25,27],[]⟩,⟨some 86,[0,1,2,3,4,5,6,7,8,9,10,11,12,13,14,15,16,17,18,19,20,21,22,23,24,25,26,27,28],[28],[]⟩,⟨some 87,[0,1,2,3,4,5,6,7,8,9,10,11,12,13,14,15,16,17,18,19,20,21,22,23,24,25,26,27,28,29],[],[]⟩,⟨some 88,[0,1,2,3,4,5,6,7,8,9,10,11,12,13,14,15,16,17,18,19,20,21,22,23,24,25,26,27,28,29,30],[30],[]⟩,⟨some 89,[0,1,2,3,4,5,6,7,8,9,10,11,12,13,14,15,16,17,18,19,20,21,22,23,24,25,26,27,28,29,30,31],[29,31],[]⟩,⟨some 90,[0,1,2,3,4,5,6,7,8,9,10,11,12,13,14,15,16,17,18,19,20,21,22,23,24,25,26,27,28,29,30,31,32],[32],[]⟩,⟨some 91,[0,1,2,3,4,5,6,7,8,9,10,11,12,13,14,15,16,17,18,19,20,21,22,23,24,25,26,27,28,29,30,31,32,33],[],[]⟩,⟨some 92,[0,1,2,3,4,5,6,7,8,9,10,11,12,13,14,15,16,17,18,19,20,21,22,23,24,25,26,27,28,29,30,31,32,33,34],[34],[]⟩,⟨some 93,[0,1,2,3,4,5,6,7,8,9,10,11,12,13,14,15,16,17,18,19,20,21,22,23,24,25,26,27,28,29,30,31,32,33,34,35],[33,35],[]⟩,⟨some 94,[0,1,2,3,4,5,6,7,8,9,10,11,12,13,14,15,16,17,18,19,20,21,22,23,24,25,26,27,28,29,30,31,32,33,34,35,36],[36],[]⟩,⟨some 95,[0,1,2,3,4,5,6,7,8,9,10,11,12,13,14,15,16,17,18,19,20,21,22,23,24,25,26,27,28,29,30,31,32,33,34,35,36,37],[],[]⟩,⟨some 96,[0,1,2,3,4,5,6,7,8,9,10,11,12,13,14,15,16,17,18,19,20,21,22,23,24,25,26,27,28,29,30,31,32,33,34,35,36,37],[],[]⟩,⟨some 97,[0,1,2,3,4,5,6,7,8,9,10,11,12,13,14,15,16,17,18,19,20,21,22,23,24,25,26,27,28,29,30,31,32,33,34,35,36,37,38,39],[38,39],[]⟩,⟨some 98,[0,1,2,3,4,5,6,7,8,9,10,11,12,13,14,15,16,17,18,19,20,21,22,23,24,25,26,27,28,29,30,31,32,33,34,35,36,37,38,39,40],[37,40],[]⟩,⟨some 99,[0,1,2,3,4,5,6,7,8,9,10,11,12,13,14,15,16,17,18,19,20,21,22,23,24,25,26,27,28,29,30,31,32,33,34,35,36,37,38,39,40,41],[41],[]⟩,⟨some 100,[0,1,2,3,4,5,6,7,8,9,10,11,12,13,14,15,16,17,18,19,20,21,22,23,24,25,26,27,28,29,30,31,32,33,34,35,36,37,38,39,40,41,42],[],[]⟩,⟨some 101,[0,1,2,3,4,5,6,7,8,9,10,11,12,13,14,15,16,17,18,19,20,21,22,23,24,25,26,27,28,29,30,31,32,33,34,35,36,37,38,39,40,41,42,43],[43],[]⟩,⟨some 102,[0,1,2,3,4,5,6,7,8,9,10,11,12,13,14,15,16,17,18,19,20,21,22,23,24,25,26,27,28,29,30,31,32,33,34,35,36,37,38,39,40,41,42,43,44],[42,44],[]⟩,⟨some 103,[0,1,2,3,4,5,6,7,8,9,10,11,12,13,14,15,16,17,18,19,20,21,22,23,24,25,26,27,28,29,30,31,32,33,34,35,36,37,38,39,40,41,42,43,44,45],[45],[]⟩,⟨some 104,[0,1,2,3,4,5,6,7,8,9,10,11,12,13,14,15,16,17,18,19,20,21,22,23,24,25,26,27,28,29,30,31,32,33,34,35,36,37,38,39,40,41,42,43,44,45,46],[],[]⟩,⟨some 105,[0,1,2,3,4,5,6,7,8,9,10,11,12,13,14,15,16,17,18,19,20,21,22,23,24,25,26,27,28,29,30,31,32,33,34,35,36,37,38,39,40,41,42,43,44,45,46,47],[47],[]⟩,⟨some 106,[0,1,2,3,4,5,6,7,8,9,10,11,12,13,14,15,16,17,18,19,20,21,22,23,24,25,26,27,28,29,30,31,32,33,34,35,36,37,38,39,40,41,42,43,44,45,46,47,48],[46,48],[]⟩,⟨some 107,[0,1,2,3,4,5,6,7,8,9,10,11,12,13,14,15,16,17,18,19,20,21,22,23,24,25,26,27,28,29,30,31,32,33,34,35,36,37,38,39,40,41,42,43,44,45,46,47,48,49],[49],[]⟩,⟨some 108,[0,1,2,3,4,5,6,7,8,9,10,11,12,13,14,15,16,17,18,19,20,21,22,23,24,25,26,27,28,29,30,31,32,33,34,35,36,37,38,39,40,41,42,43,44,45,46,47,48,49,50],[],[]⟩,⟨some 109,[0,1,2,3,4,5,6,7,8,9,10,11,12,13,14,15,16,17,18,19,20,21,22,23,24,25,26,27,28,29,30,31,32,33,34,35,36,37,38,39,40,41,42,43,44,45,46,47,48,49,50,51],[51],[]⟩,⟨some 110,[0,1,2,3,4,5,6,7,8,9,10,11,12,13,14,15,16,17,18,19,20,21,22,23,24,25,26,27,28,29,30,31,32,33,34,35,36,37,38,39,40,41,42,43,44,45,46,47,48,49,50,51,52],[50,52],[]⟩,⟨some 111,[0,1,2,3,4,5,6,7,8,9,10,11,12,13,14,15,16,17,18,19,20,21,22,23,24,25,26,27,28,29,30,31,32,33,34,35,36,37,38,39,40,41,42,43,44,45,46,47,48,49,50,51,52,53],[53],[]⟩,⟨some 112,[0,1,2,3,4,5,6,7,8,9,10,11,12,13,14,15,16,17,18,19,20,21,22,23,24,25,26,27,28,29,30,31,32,33,34,35,36,37,38,39,40,41,42,43,44,45,46,47,48,49,50,51,52,53,54],[],[]⟩,⟨some 113,[0,1,2,3,4,5,6,7,8,9,10,11,12,13,14,15,16,17,18,19,20,21,22,23,24,25,26,27,28,29,30,31,32,33,34,35,36,37,38,39,40,41,42,43,44,45,46,47,48,49,50,51,52,53,54,55],[55],[]⟩,⟨some 114,[0,1,2,3,4,5,6,7,8,9,10,11,12,13,14,15,16,17,18,19,20,21,22,23,24,25,26,27,28,29,30,31,32,33,34,35,36,37,38,39,40,41,42,43,44,45,46,47,48,49,50,51,52,53,54,55,56],[54,56],[]⟩,⟨some 115,[0,1,2,3,4,5,6,7,8,9,10,11,12,13,14,15,16,17,18,19,20,21,22,23,24,25,26,27,28,29,30,31,32,33,34,35,36,37,38,39,40,41,42,43,44,45,46,47,48,49,50,51,52,53,54,55,56,57],[57],[]⟩,⟨some 116,[0,1,2,3,4,5,6,7,8,9,10,11,12,13,14,15,16,17,18,19,20,21,22,23,24,25,26,27,28,29,30,31,32,33,34,35,36,37,38,39,40,41,42,43,44,45,46,47,48,49,50,51,52,53,54,55,56,57,58],[],[]⟩,⟨some 117,[0,1,2,3,4,5,6,7,8,9,10,11,12,13,14,15,16,17,18,19,20,21,22,23,24,25,26,27,28,29,30,31,32,33,34,35,36,37,38,39,40,41,42,43,44,45,46,47,48,49,50,51,52,53,54,55,56,57,58],[],[]⟩,⟨some 118,[0,1,2,3,4,5,6,7,8,9,10,11,12,13,14,15,16,17,18,19,20,21,22,23,24,25,26,27,28,29,30,31,32,33,34,35,36,37,38,39,40,41,42,43,44,45,46,47,48,49,50,51,52,53,54,55,56,57,58,59,60],[59,60],[60]⟩,⟨some 119,[0,1,2,3,4,5,6,7,8,9,10,11,12,13,14,15,16,17,18,19,20,21,22,23,24,25,26,27,28,29,30,31,32,33,34,35,36,37,38,39,40,41,42,43,44,45,46,47,48,49,50,51,52,53,54,55,56,57,58,59,60,61],[61],[]⟩,⟨some 120,[0,1,2,3,4,5,6,7,8,9,10,11,12,13,14,15,16,17,18,19,20,21,22,23,24,25,26,27,28,29,30,31,32,33,34,35,36,37,38,39,40,41,42,43,44,45,46,47,48,49,50,51,52,53,54,55,56,57,58,59,60,61,62],[58,62],[]⟩]
def valKal (b1 b3 b5 b9 b14 q14 : Nat) (k : Nat) (env : Env) : Value :=
 match k with
 | 0 => .int .i64 0
 | 1 => .bool false
 | 2 => .bool false
 | 3=>gt (false) (.agg (cSp ⟨3,6⟩).toArray)
 | 4=>gt (false) (.agg (cSp ⟨3,6⟩).toArray)
 | 5=>gt (false) (.bool false)
 | 6 => .bool false
 | 7 => .bool false
 | 8=>gt (false) (.int .i64 0)
 | 9=>gt (false) (.bool false)
 | 10 => .bool false
 | 11 => .bool false
 | 12=>gt (false) (.agg (cSp ⟨1,3⟩).toArray)
 | 13=>gt (false) (.agg (cSp ⟨1,3⟩).toArray)
 | 14=>gt (false) (.bool false)
 | 15 => .bool false
 | 16 => .bool false
 | 17=>gt (false) (.int .i64 0)
 | 18=>gt (false) (.bool false)
 | 19 => .bool false
 | 20 => .bool false
 | 21=>gt (false) (.agg (cSp ⟨3,9⟩).toArray)
 | 22=>gt (false) (.agg (cSp ⟨3,9⟩).toArray)
 | 23=>gt (false) (.bool false)
 | 24 => .bool false
 | 25 => .bool false
 | 26=>gt (false) (.int .i64 0)
 | 27=>gt (false) (.bool false)
 | 28 => .bool false
 | 29 => .bool false
 | 30=>gt (false) (.int .u8 1)
 | 31=>gt (false) (.bool false)
 | 32 => .bool false
 | 33 => .bool false
 | 34=>gt (false) (.int .i64 0)
 | 35=>gt (false) (.bool false)
 | 36 => .bool false
 | 37 => .bool false
 | 38=>gt (false) (.agg (cSp ⟨1,3⟩).toArray)
 | 39=>gt (false) (.agg (cSp ⟨1,3⟩).toArray)
 | 40=>gt (false) (.bool false)
 | 41 => .bool false
 | 42 => .bool false
 | 43=>gt (false) (.int .i64 0)
 | 44=>gt (false) (.bool false)
 | 45 => .bool false
 | 46 => .bool false
 | 47=>gt (false) (.int .i64 2)
 | 48=>gt (false) (.bool false)
 | 49 => .bool false
 | 50 => .bool false
 | 51=>gt (false) (.int .i64 3)
 | 52=>gt (false) (.bool false)
 | 53 => .bool false
 | 54 => .bool false
 | 55=>gt (false) (.int .i64 0)
 | 56=>gt (false) (.bool false)
 | 57 => .bool false
 | 58 => .bool false
 | 59=>gt (false) (.slice (some ⟨b14,0,none⟩) 3 q14)
 | 60=>gt (false) (.slice (some ⟨(env 60).1,0,none⟩) 3 3)
 | 61=>gt (false) (.bool true)
 | 62=>gt (false) (.bool false)
 | 63 => .bool false
 | _=>undef
def rowsKal (b1 b3 b5 b9 b14 q14 : Nat) (k : Nat) (env : Env) : List Row :=
 match k with
 | 60=>gr (false) [⟨(env 60).1,0,[.int .i64 1,.int .i64 2,.int .i64 3],some 3,3 * 1⟩]
 | _=>[]
theorem locKal (b1 b3 b5 b9 b14 q14 : Nat) : ∀ k env i q9,i ≠ k → (tAt tsKal k).sup.contains i = false → valKal b1 b3 b5 b9 b14 q14 k (upd env i q9)=valKal b1 b3 b5 b9 b14 q14 k env∧rowsKal b1 b3 b5 b9 b14 q14 k (upd env i q9)=rowsKal b1 b3 b5 b9 b14 q14 k env:=by
 intro k env i q hk hs
 have hu : ∀ j,j ≠ i → upd env i q j = env j:=fun j hj=>by unfold upd;rw [if_neg hj]
 match k,hk,hs with
 | 0,_,_=>exact ⟨rfl,rfl⟩
 | 1,_,_=>exact ⟨rfl,rfl⟩
 | 2,_,_=>exact ⟨rfl,rfl⟩
 | 3,_,_=>exact ⟨rfl,rfl⟩
 | 4,_,_=>exact ⟨rfl,rfl⟩
 | 5,_,_=>exact ⟨rfl,rfl⟩
 | 6,_,_=>exact ⟨rfl,rfl⟩
 | 7,_,_=>exact ⟨rfl,rfl⟩
 | 8,_,_=>exact ⟨rfl,rfl⟩
 | 9,_,_=>exact ⟨rfl,rfl⟩
 | 10,_,_=>exact ⟨rfl,rfl⟩
 | 11,_,_=>exact ⟨rfl,rfl⟩
 | 12,_,_=>exact ⟨rfl,rfl⟩
 | 13,_,_=>exact ⟨rfl,rfl⟩
 | 14,_,_=>exact ⟨rfl,rfl⟩
 | 15,_,_=>exact ⟨rfl,rfl⟩
 | 16,_,_=>exact ⟨rfl,rfl⟩
 | 17,_,_=>exact ⟨rfl,rfl⟩
 | 18,_,_=>exact ⟨rfl,rfl⟩
 | 19,_,_=>exact ⟨rfl,rfl⟩
 | 20,_,_=>exact ⟨rfl,rfl⟩
 | 21,_,_=>exact ⟨rfl,rfl⟩
 | 22,_,_=>exact ⟨rfl,rfl⟩
 | 23,_,_=>exact ⟨rfl,rfl⟩
 | 24,_,_=>exact ⟨rfl,rfl⟩
 | 25,_,_=>exact ⟨rfl,rfl⟩
 | 26,_,_=>exact ⟨rfl,rfl⟩
 | 27,_,_=>exact ⟨rfl,rfl⟩
 | 28,_,_=>exact ⟨rfl,rfl⟩
 | 29,_,_=>exact ⟨rfl,rfl⟩
 | 30,_,_=>exact ⟨rfl,rfl⟩
 | 31,_,_=>exact ⟨rfl,rfl⟩
 | 32,_,_=>exact ⟨rfl,rfl⟩
 | 33,_,_=>exact ⟨rfl,rfl⟩
 | 34,_,_=>exact ⟨rfl,rfl⟩
 | 35,_,_=>exact ⟨rfl,rfl⟩
 | 36,_,_=>exact ⟨rfl,rfl⟩
 | 37,_,_=>exact ⟨rfl,rfl⟩
 | 38,_,_=>exact ⟨rfl,rfl⟩
 | 39,_,_=>exact ⟨rfl,rfl⟩
 | 40,_,_=>exact ⟨rfl,rfl⟩
 | 41,_,_=>exact ⟨rfl,rfl⟩
 | 42,_,_=>exact ⟨rfl,rfl⟩
 | 43,_,_=>exact ⟨rfl,rfl⟩
 | 44,_,_=>exact ⟨rfl,rfl⟩
 | 45,_,_=>exact ⟨rfl,rfl⟩
 | 46,_,_=>exact ⟨rfl,rfl⟩
 | 47,_,_=>exact ⟨rfl,rfl⟩
 | 48,_,_=>exact ⟨rfl,rfl⟩
 | 49,_,_=>exact ⟨rfl,rfl⟩
 | 50,_,_=>exact ⟨rfl,rfl⟩
 | 51,_,_=>exact ⟨rfl,rfl⟩
 | 52,_,_=>exact ⟨rfl,rfl⟩
 | 53,_,_=>exact ⟨rfl,rfl⟩
 | 54,_,_=>exact ⟨rfl,rfl⟩
 | 55,_,_=>exact ⟨rfl,rfl⟩
 | 56,_,_=>exact ⟨rfl,rfl⟩
 | 57,_,_=>exact ⟨rfl,rfl⟩
 | 58,_,_=>exact ⟨rfl,rfl⟩
 | 59,_,_=>exact ⟨rfl,rfl⟩
 | 60,hk,hs=>exact ⟨by simp only [valKal,hu 60 (fun e=>hk e.symm)],by simp only [rowsKal,hu 60 (fun e=>hk e.symm)]⟩
 | 61,_,_=>exact ⟨rfl,rfl⟩
 | 62,_,_=>exact ⟨rfl,rfl⟩
 | 63,_,_=>exact ⟨rfl,rfl⟩
 | _ + 64,_,_=>exact ⟨rfl,rfl⟩
def tsKbl : List TOp:=[⟨some 157,[],[],[]⟩,⟨some 158,[0],[0],[]⟩,⟨some 159,[0,1],[1],[]⟩,⟨some 160,[0,1,2],[],[]⟩,⟨some 161,[0,1,2],[],[]⟩,⟨some 162,[0,1,2,3,4],[3,4],[]⟩,⟨some 163,[0,1,2,3,4,5],[2,5],[]⟩,⟨some 164,[0,1,2,3,4,5,6],[6],[]⟩,⟨some 165,[0,1,2,3,4,5,6,7],[],[]⟩,⟨some 166,[0,1,2,3,4,5,6,7,8],[8],[]⟩,⟨some 167,[0,1,2,3,4,5,6,7,8,9],[7,9],[]⟩,⟨some 168,[0,1,2,3,4,5,6,7,8,9,10],[10],[]⟩,⟨some 169,[0,1,2,3,4,5,6,7,8,9,10,11],[],[]⟩,⟨some 170,[0,1,2,3,4,5,6,7,8,9,10,11],[],[]⟩,⟨some 171,[0,1,2,3,4,5,6,7,8,9,10,11,12,13],[12,13],[]⟩,⟨some 172,[0,1,2,3,4,5,6,7,8,9,10,11,12,13,14],[11,14],[]⟩,⟨some 173,[0,1,2,3,4,5,6,7,8,9,10,11,12,13,14,15],[15],[]⟩,⟨some 174,[0,1,2,3,4,5,6,7,8,9,10,11,12,13,14,15,16],[],[]⟩,⟨some 175,[0,1,2,3,4,5,6,7,8,9,10,11,12,13,14,15,16,17],[17],[]⟩,⟨some 176,[0,1,2,3,4,5,6,7,8,9,10,11,12,13,14,15,16,17,18],[16,18],[]⟩,⟨some 177,[0,1,2,3,4,5,6,7,8,9,10,11,12,13,14,15,16,17,18,19],[19],[]⟩,⟨some 178,[0,1,2,3,4,5,6,7,8,9,10,11,12,13,14,15,16,17,18,19,20],[],[]⟩,⟨some 179,[0,1,2,3,4,5,6,7,8,9,10,11,12,13,14,15,16,17,18,19,20,21],[21],[]⟩,⟨some 180,[0,1,2,3,4,5,6,7,8,9,10,11,12,13,14,15,16,17,18,19,20,21,22],[20,22],[]⟩,⟨some 181,[0,1,2,3,4,5,6,7,8,9,10,11,12,13,14,15,16,17,18,19,20,21,22,23],[23],[]⟩,⟨some 182,[0,1,2,3,4,5,6,7,8,9,10,11,12,13,14,15,16,17,18,19,20,21,22,23,24],[],[]⟩,⟨some 183,[0,1,2,3,4,5,6,7,8,9,10,11,12,13,14,15,16,17,18,19,20,21,22,23,24,25],[25],[]⟩,⟨some 184,[0,1,2,3,4,5,6,7,8,9,10,11,12,13,14,15,16,17,18,19,20,21,22,23,24,25,26],[24,26],[]⟩,⟨some 185,[0,1,2,3,4,5,6,7,8,9,10,11,12,13,14,15,16,17,18,19,20,21,22,23,24,25,26,27],[27],[]⟩,⟨some 186,[0,1,2,3,4,5,6,7,8,9,10,11,12,13,14,15,16,17,18,19,20,21,22,23,24,25,26,27,28],[],[]⟩,⟨some 187,[0,1,2,3,4,5,6,7,8,9,10,11,12,13,14,15,16,17,18,19,20,21,22,23,24,25,26,27,28],[],[]⟩,⟨some 188,[0,1,2,3,4,5,6,7,8,9,10,11,12,13,14,15,16,17,18,19,20,21,22,23,24,25,26,27,28,29,30],[29,30],[]⟩,⟨some 189,[0,1,2,3,4,5,6,7,8,9,10,11,12,13,14,15,16,17,18,19,20,21,22,23,24,25,26,27,28,29,30,31],[28,31],[]⟩,⟨some 190,[0,1,2,3,4,5,6,7,8,9,10,11,12,13,14,15,16,17,18,19,20,21,22,23,24,25,26,27,28,29,30,31,32],[32],[]⟩,⟨some 191,[0,1,2,3,4,5,6,7,8,9,10,11,12,13,14,15,16,17,18,19,20,21,22,23,24,25,26,27,28,29,30,31,32,33],[],[]⟩,⟨some 192,[0,1,2,3,4,5,6,7,8,9,10,11,12,13,14,15,16,17,18,19,20,21,22,23,24,25,26,27,28,29,30,31,32,33,34],[34],[]⟩,⟨some 193,[0,1,2,3,4,5,6,7,8,9,10,11,12,13,14,15,16,17,18,19,20,21,22,23,24,25,26,27,28,29,30,31,32,33,34,35],[33,35],[]⟩,⟨some 194,[0,1,2,3,4,5,6,7,8,9,10,11,12,13,14,15,16,17,18,19,20,21,22,23,24,25,26,27,28,29,30,31,32,33,34,35,36],[36],[]⟩,⟨some 195,[0,1,2,3,4,5,6,7,8,9,10,11,12,13,14,15,16,17,18,19,20,21,22,23,24,25,26,27,28,29,30,31,32,33,34,35,36,37],[],[]⟩,⟨some 196,[0,1,2,3,4,5,6,7,8,9,10,11,12,13,14,15,16,17,18,19,20,21,22,23,24,25,26,27,28,29,30,31,32,33,34,35,36,37,38],[38],[]⟩,⟨some 197,[0,1,2,3,4,5,6,7,8,9,10,11,12,13,14,15,16,17,18,19,20,21,22,23,24,25,26,27,28,29,30,31,32,33,34,35,36,37,38,39],[37,39],[]⟩,⟨some 198,[0,1,2,3,4,5,6,7,8,9,10,11,12,13,14,15,16,17,18,19,20,21,22,23,24,25,26,27,28,29,30,31,32,33,34,35,36,37,38,39,40],[40],[]⟩,⟨some 199,[0,1,2,3,4,5,6,7,8,9,10,11,12,13,14,15,16,17,18,19,20,21,22,23,24,25,26,27,28,29,30,31,32,33,34,35,36,37,38,39,40,41],[],[]⟩,⟨some 200,[0,1,2,3,4,5,6,7,8,9,10,11,12,13,14,15,16,17,18,19,20,21,22,23,24,25,26,27,28,29,30,31,32,33,34,35,36,37,38,39,40,41,42],[42],[]⟩,⟨some 201,[0,1,2,3,4,5,6,7,8,9,10,11,12,13,14,15,16,17,18,19,20,21,22,23,24,25,26,27,28,29,30,31,32,33,34,35,36,37,38,39,40,41,42,43],[41,43],[]⟩,⟨some 202,[0,1,2,3,4,5,6,7,8,9,10,11,12,13,14,15,16,17,18,19,20,21,22,23,24,25,26,27,28,29,30,31,32,33,34,35,36,37,38,39,40,41,42,43,44],[44],[]⟩,⟨some 203,[0,1,2,3,4,5,6,7,8,9,10,11,12,13,14,15,16,17,18,19,20,21,22,23,24,25,26,27,28,29,30,31,32,33,34,35,36,37,38,39,40,41,42,43,44,45],[],[]⟩,⟨some 204,[0,1,2,3,4,5,6,7,8,9,10,11,12,13,14,15,16,17,18,19,20,21,22,23,24,25,26,27,28,29,30,31,32,33,34,35,36,37,38,39,40,41,42,43,44,45,46],[46],[]⟩,⟨some 205,[0,1,2,3,4,5,6,7,8,9,10,11,12,13,14,15,16,17,18,19,20,21,22,23,24,25,26,27,28,29,30,31,32,33,34,35,36,37,38,39,40,41,42,43,44,45,46,47],[45,47],[]⟩,⟨some 206,[0,1,2,3,4,5,6,7,8,9,10,11,12,13,14,15,16,17,18,19,20,21,22,23,24,25,26,27,28,29,30,31,32,33,34,35,36,37,38,39,40,41,42,43,44,45,46,47,48],[48],[]⟩,⟨some 207,[0,1,2,3,4,5,6,7,8,9,10,11,12,13,14,15,16,17,18,19,20,21,22,23,24,25,26,27,28,29,30,31,32,33,34,35,36,37,38,39,40,41,42,43,44,45,46,47,48,49],[],[]⟩,⟨some 208,[0,1,2,3,4,5,6,7,8,9,10,11,12,13,14,15,16,17,18,19,20,21,22,23,24,25,26,27,28,29,30,31,32,33,34,35,36,37,38,39,40,41,42,43,44,45,46,47,48,49,50],[50],[]⟩,⟨some 209,[0,1,2,3,4,5,6,7,8,9,10,11,12,13,14,15,16,17,18,19,20,21,22,23,24,25,26,27,28,29,30,31,32,33,34,35,36,37,38,39,40,41,42,43,44,45,46,47,48,49,50,51],[49,51],[]⟩,⟨some 210,[0,1,2,3,4,5,6,7,8,9,10,11,12,13,14,15,16,17,18,19,20,21,22,23,24,25,26,27,28,29,30,31,32,33,34,35,36,37,38,39,40,41,42,43,44,45,46,47,48,49,50,51,52],[52],[]⟩,⟨some 211,[0,1,2,3,4,5,6,7,8,9,10,11,12,13,14,15,16,17,18,19,20,21,22,23,24,25,26,27,28,29,30,31,32,33,34,35,36,37,38,39,40,41,42,43,44,45,46,47,48,49,50,51,52,53],[],[]⟩,⟨some 212,[0,1,2,3,4,5,6,7,8,9,10,11,12,13,14,15,16,17,18,19,20,21,22,23,24,25,26,27,28,29,30,31,32,33,34,35,36,37,38,39,40,41,42,43,44,45,46,47,48,49,50,51,52,53],[],[]⟩,⟨some 213,[0,1,2,3,4,5,6,7,8,9,10,11,12,13,14,15,16,17,18,19,20,21,22,23,24,25,26,27,28,29,30,31,32,33,34,35,36,37,38,39,40,41,42,43,44,45,46,47,48,49,50,51,52,53,54,55],[54,55],[55]⟩,⟨some 214,[0,1,2,3,4,5,6,7,8,9,10,11,12,13,14,15,16,17,18,19,20,21,22,23,24,25,26,27,28,29,30,31,32,33,34,35,36,37,38,39,40,41,42,43,44,45,46,47,48,49,50,51,52,53,54,55,56],[53,56],[]⟩,⟨some 215,[0,1,2,3,4,5,6,7,8,9,10,11,12,13,14,15,16,17,18,19,20,21,22,23,24,25,26,27,28,29,30,31,32,33,34,35,36,37,38,39,40,41,42,43,44,45,46,47,48,49,50,51,52,53,54,55,56,57],[57],[]⟩,⟨some 216,[0,1,2,3,4,5,6,7,8,9,10,11,12,13,14,15,16,17,18,19,20,21,22,23,24,25,26,27,28,29,30,31,32,33,34,35,36,37,38,39,40,41,42,43,44,45,46,47,48,49,50,51,52,53,54,55,56,57,58],[],[]⟩,⟨some 217,[0,1,2,3,4,5,6,7,8,9,10,11,12,13,14,15,16,17,18,19,20,21,22,23,24,25,26,27,28,29,30,31,32,33,34,35,36,37,38,39,40,41,42,43,44,45,46,47,48,49,50,51,52,53,54,55,56,57,58,59],[59],[]⟩,⟨some 218,[0,1,2,3,4,5,6,7,8,9,10,11,12,13,14,15,16,17,18,19,20,21,22,23,24,25,26,27,28,29,30,31,32,33,34,35,36,37,38,39,40,41,42,43,44,45,46,47,48,49,50,51,52,53,54,55,56,57,58,59,60],[58,60],[]⟩,⟨some 0,[0,1,2,3,4,5,6,7,8,9,10,11,12,13,14,15,16,17,18,19,20,21,22,23,24,25,26,27,28,29,30,31,32,33,34,35,36,37,38,39,40,41,42,43,44,45,46,47,48,49,50,51,52,53,54,55,56,57,58,59,60,61],[61],[]⟩]
def valKbl (b1 b3 b5 c1 c2 : Nat) (a1 a2 : Option Addr) (k : Nat) (env : Env) : Value :=
 match k with
 | 0 => .int .i64 0
 | 1 => .bool true
 | 2 => .bool true
 | 3=>gt (!true) (.agg (cSp ⟨441,452⟩).toArray)
 | 4=>gt (!true) (.agg (cSp ⟨441,452⟩).toArray)
 | 5=>gt (!true) (.bool true)
 | 6 => .bool true
 | 7 => .bool true
 | 8=>gt (!true) (.int .i64 0)
 | 9=>gt (!true) (.bool true)
 | 10 => .bool true
 | 11 => .bool true
 | 12=>gt (!true) (.agg (cSp ⟨62,90⟩).toArray)
 | 13=>gt (!true) (.agg (cSp ⟨62,90⟩).toArray)
 | 14=>gt (!true) (.bool true)
 | 15 => .bool true
 | 16 => .bool true
 | 17=>gt (!true) (.int .i64 0)
 | 18=>gt (!true) (.bool true)
 | 19 => .bool true
 | 20 => .bool true
 | 21=>gt (!true) (.int .u8 2)
 | 22=>gt (!true) (.bool true)
 | 23 => .bool true
 | 24 => .bool true
 | 25=>gt (!true) (.int .i64 0)
 | 26=>gt (!true) (.bool true)
 | 27 => .bool true
 | 28 => .bool true
 | 29=>gt (!true) (.agg (cSp ⟨478,490⟩).toArray)
 | 30=>gt (!true) (.agg (cSp ⟨478,490⟩).toArray)
 | 31=>gt (!true) (.bool true)
 | 32 => .bool true
 | 33 => .bool true
 | 34=>gt (!true) (.int .i64 0)
 | 35=>gt (!true) (.bool true)
 | 36 => .bool true
 | 37 => .bool true
 | 38=>gt (!true) (.int .u8 1)
 | 39=>gt (!true) (.bool true)
 | 40 => .bool true
 | 41 => .bool true
 | 42=>gt (!true) (.int .i64 0)
 | 43=>gt (!true) (.bool true)
 | 44 => .bool true
 | 45 => .bool true
 | 46=>gt (!true) (.bool false)
 | 47=>gt (!true) (.bool true)
 | 48 => .bool true
 | 49 => .bool true
 | 50=>gt (!true) (.int .i64 0)
 | 51=>gt (!true) (.bool true)
 | 52 => .bool true
 | 53 => .bool true
 | 54=>gt (!true) (.slice a1 1 c1)
 | 55=>gt (!true) (.slice (some ⟨(env 55).1,0,none⟩) 1 1)
 | 56=>gt (!true) (.bool true)
 | 57 => .bool true
 | 58 => .bool true
 | 59=>gt (!true) (.slice a2 0 c2)
 | 60=>gt (!true) (.bool true)
 | 61 => .bool true
 | 62 => .bool true
 | _=>undef
def rowsKbl (b1 b3 b5 c1 c2 : Nat) (a1 a2 : Option Addr) (k : Nat) (env : Env) : List Row :=
 match k with
 | 55=>gr (!true) [⟨(env 55).1,0,[.int .i64 1],some 3,1 * 1⟩]
 | _=>[]
theorem locKbl (b1 b3 b5 c1 c2 : Nat) (a1 a2 : Option Addr) : ∀ k env i q9,i ≠ k → (tAt tsKbl k).sup.contains i = false → valKbl b1 b3 b5 c1 c2 a1 a2 k (upd env i q9)=valKbl b1 b3 b5 c1 c2 a1 a2 k env∧rowsKbl b1 b3 b5 c1 c2 a1 a2 k (upd env i q9)=rowsKbl b1 b3 b5 c1 c2 a1 a2 k env:=by
 intro k env i q hk hs
 have hu : ∀ j,j ≠ i → upd env i q j = env j:=fun j hj=>by unfold upd;rw [if_neg hj]
 match k,hk,hs with
 | 0,_,_=>exact ⟨rfl,rfl⟩
 | 1,_,_=>exact ⟨rfl,rfl⟩
 | 2,_,_=>exact ⟨rfl,rfl⟩
 | 3,_,_=>exact ⟨rfl,rfl⟩
 | 4,_,_=>exact ⟨rfl,rfl⟩
 | 5,_,_=>exact ⟨rfl,rfl⟩
 | 6,_,_=>exact ⟨rfl,rfl⟩
 | 7,_,_=>exact ⟨rfl,rfl⟩
 | 8,_,_=>exact ⟨rfl,rfl⟩
 | 9,_,_=>exact ⟨rfl,rfl⟩
 | 10,_,_=>exact ⟨rfl,rfl⟩
 | 11,_,_=>exact ⟨rfl,rfl⟩
 | 12,_,_=>exact ⟨rfl,rfl⟩
 | 13,_,_=>exact ⟨rfl,rfl⟩
 | 14,_,_=>exact ⟨rfl,rfl⟩
 | 15,_,_=>exact ⟨rfl,rfl⟩
 | 16,_,_=>exact ⟨rfl,rfl⟩
 | 17,_,_=>exact ⟨rfl,rfl⟩
 | 18,_,_=>exact ⟨rfl,rfl⟩
 | 19,_,_=>exact ⟨rfl,rfl⟩
 | 20,_,_=>exact ⟨rfl,rfl⟩
 | 21,_,_=>exact ⟨rfl,rfl⟩
 | 22,_,_=>exact ⟨rfl,rfl⟩
 | 23,_,_=>exact ⟨rfl,rfl⟩
 | 24,_,_=>exact ⟨rfl,rfl⟩
 | 25,_,_=>exact ⟨rfl,rfl⟩
 | 26,_,_=>exact ⟨rfl,rfl⟩
 | 27,_,_=>exact ⟨rfl,rfl⟩
 | 28,_,_=>exact ⟨rfl,rfl⟩
 | 29,_,_=>exact ⟨rfl,rfl⟩
 | 30,_,_=>exact ⟨rfl,rfl⟩
 | 31,_,_=>exact ⟨rfl,rfl⟩
 | 32,_,_=>exact ⟨rfl,rfl⟩
 | 33,_,_=>exact ⟨rfl,rfl⟩
 | 34,_,_=>exact ⟨rfl,rfl⟩
 | 35,_,_=>exact ⟨rfl,rfl⟩
 | 36,_,_=>exact ⟨rfl,rfl⟩
 | 37,_,_=>exact ⟨rfl,rfl⟩
 | 38,_,_=>exact ⟨rfl,rfl⟩
 | 39,_,_=>exact ⟨rfl,rfl⟩
 | 40,_,_=>exact ⟨rfl,rfl⟩
 | 41,_,_=>exact ⟨rfl,rfl⟩
 | 42,_,_=>exact ⟨rfl,rfl⟩
 | 43,_,_=>exact ⟨rfl,rfl⟩
 | 44,_,_=>exact ⟨rfl,rfl⟩
 | 45,_,_=>exact ⟨rfl,rfl⟩
 | 46,_,_=>exact ⟨rfl,rfl⟩
 | 47,_,_=>exact ⟨rfl,rfl⟩
 | 48,_,_=>exact ⟨rfl,rfl⟩
 | 49,_,_=>exact ⟨rfl,rfl⟩
 | 50,_,_=>exact ⟨rfl,rfl⟩
 | 51,_,_=>exact ⟨rfl,rfl⟩
 | 52,_,_=>exact ⟨rfl,rfl⟩
 | 53,_,_=>exact ⟨rfl,rfl⟩
 | 54,_,_=>exact ⟨rfl,rfl⟩
 | 55,hk,hs=>exact ⟨by simp only [valKbl,hu 55 (fun e=>hk e.symm)],by simp only [rowsKbl,hu 55 (fun e=>hk e.symm)]⟩
 | 56,_,_=>exact ⟨rfl,rfl⟩
 | 57,_,_=>exact ⟨rfl,rfl⟩
 | 58,_,_=>exact ⟨rfl,rfl⟩
 | 59,_,_=>exact ⟨rfl,rfl⟩
 | 60,_,_=>exact ⟨rfl,rfl⟩
 | 61,_,_=>exact ⟨rfl,rfl⟩
 | 62,_,_=>exact ⟨rfl,rfl⟩
 | _ + 63,_,_=>exact ⟨rfl,rfl⟩
set_option maxHeartbeats 8000000 in
theorem alive_spec (H : List Row) : Fc Tryz.prog 11 [] H (fun v H' => v = .bool true∧H' = H):=by
 refine Fc.mk (callable Tryz.call11) Tryz.func11 rfl Tryz.ntmps11 rfl ?_;dsimp only [fr]
 repeat' (first | (refine uP rfl ?_;(first | ((first | refine uN rfl ?_);(first | (refine uC (uT rfl (Args.cons rfl Args.nil)) rfl rfl (bale_specE [] none 0 _ sleNil (Nat.zero_le _)) ?_;rintro _ _ ⟨bn,kn,bw,rfl,rfl⟩)|(refine uC (uT rfl (Args.cons rfl (Args.cons rfl Args.nil))) rfl rfl (aLay bn kn bw _ (balOk [] (Nat.zero_le _) bn kn bw _ (qH _) (qT _ (qH _)))) ?_;rintro _ _ ⟨rfl,rfl⟩)|(refine uC (uT rfl (Args.cons rfl Args.nil)) rfl rfl (aBst bn kn bw _ (balOk [] (Nat.zero_le _) bn kn bw _ (qH _) (qT _ (qH _)))) ?_;rintro _ _ ⟨rfl,rfl⟩)|(refine uC (uT rfl (Args.cons rfl Args.nil)) rfl rfl (aWor bn kn bw _ (balOk [] (Nat.zero_le _) bn kn bw _ (qH _) (qT _ (qH _)))) ?_;rintro _ _ ⟨rfl,rfl⟩)|(refine uC (uT rfl (Args.cons rfl (Args.cons rfl Args.nil))) rfl rfl (aKin bn kn bw _ (balOk [] (Nat.zero_le _) bn kn bw _ (qH _) (qT _ (qH _)))) ?_;rintro _ _ ⟨rfl,rfl⟩)|(refine uC (uT rfl (Args.cons rfl Args.nil)) rfl rfl (aCut bn kn bw _ (balOk [] (Nat.zero_le _) bn kn bw _ (qH _) (qT _ (qH _)))) ?_;rintro _ _ ⟨rfl,rfl⟩)|(refine uC (uT rfl (Args.cons rfl Args.nil)) rfl rfl (aAsk bn kn bw _ (balOk [] (Nat.zero_le _) bn kn bw _ (qH _) (qT _ (qH _)))) ?_;rintro _ _ ⟨rfl,rfl⟩)|(refine uC (uT rfl (Args.cons rfl Args.nil)) rfl rfl (aDec bn kn bw _ (balOk [] (Nat.zero_le _) bn kn bw _ (qH _) (qT _ (qH _)))) ?_;rintro _ _ ⟨b14,q14,rfl,rfl⟩)|(refine uE (uX rfl rfl rfl) rfl rfl ?_)|(refine Xg.st (StF.alloc rfl Tryz.zeroValue24 rfl) rfl rfl ?_;rintro _ _ ⟨bx,rfl,rfl⟩)|(refine Xg.st0 (uZ (i:=0) (vs:=cSp ⟨3,6⟩) rfl rfl rfl (te rfl) rfl rfl rfl rfl) rfl ?_;rintro _ _ ⟨rfl,rfl⟩;dsimp only [List.set])|(refine Xg.st0 (uZ (i:=0) (vs:=cSp ⟨1,3⟩) rfl rfl rfl (te rfl) rfl rfl rfl rfl) rfl ?_;rintro _ _ ⟨rfl,rfl⟩;dsimp only [List.set])|(refine Xg.st0 (uZ (i:=0) (vs:=cSp ⟨3,9⟩) rfl rfl rfl (te rfl) rfl rfl rfl rfl) rfl ?_;rintro _ _ ⟨rfl,rfl⟩;dsimp only [List.set])|(refine uE (uM rfl rfl) rfl rfl ?_)|(refine uE (uA rfl rfl) rfl rfl ?_)))))|(refine uD rfl ?_;refine hK _ _ ?_;clear hK K) | refine uS rfl ?_ | refine uR rfl (fun K hK=>?_))
 rename_i bn1 kn1 bw1 b1 bn2 kn2 bw2 b3 bn3 kn3 bw3 b5 bn4 kn4 bw4 bn5 kn5 bw5 bn6 kn6 bw6
 generalize bx = b9
 refine X.weak (F' := [(1,.pointer (some ⟨b1,0,none⟩)),(2,.int .i64 0),(3,.pointer (some ⟨b3,0,none⟩)),(4,.int .i64 0),(5,.pointer (some ⟨b5,0,none⟩)),(6,.int .i64 0),(7,.int .u8 1),(8,.int .i64 0),(9,.pointer (some ⟨b9,0,none⟩)),(10,.int .i64 0),(11,.int .i64 2),(12,.int .i64 3),(13,.int .i64 0),(14,.slice (some ⟨b14,0,none⟩) 3 q14),(15,.int .i64 0)]) (H' := ⟨b14,0,[1,2,3].flatMap cI,some 3,q14 * 1⟩::⟨b9,0,cSp ⟨1,3⟩,some 24,2⟩::⟨b5,0,cSp ⟨3,9⟩,some 24,2⟩::⟨b3,0,cSp ⟨1,3⟩,some 24,2⟩::⟨b1,0,cSp ⟨3,6⟩,some 24,2⟩::H) (by repeat (first | exact uU _ | refine uV rfl ?_)) (by repeat (first | exact qR _ | apply qK | apply qC | refine List.Sublist.trans ?_ (List.sublist_append_right _ _))) ?_
 clear bn1 kn1 bw1 bn2 kn2 bw2 bn3 kn3 bw3 bn4 kn4 bw4 bn5 kn5 bw5 bn6 kn6 bw6
 refine X.regionOb tsKal [1,2,3,4,5,6,7,8,9,10,11,12,13,14,15] [(1,.pointer (some ⟨b1,0,none⟩)),(2,.int .i64 0),(3,.pointer (some ⟨b3,0,none⟩)),(4,.int .i64 0),(5,.pointer (some ⟨b5,0,none⟩)),(6,.int .i64 0),(7,.int .u8 1),(8,.int .i64 0),(9,.pointer (some ⟨b9,0,none⟩)),(10,.int .i64 0),(11,.int .i64 2),(12,.int .i64 3),(13,.int .i64 0),(14,.slice (some ⟨b14,0,none⟩) 3 q14),(15,.int .i64 0)] (valKal b1 b3 b5 b9 b14 q14) (rowsKal b1 b3 b5 b9 b14 q14) (fun _=>(0,0)) (⟨b14,0,[1,2,3].flatMap cI,some 3,q14 * 1⟩::⟨b9,0,cSp ⟨1,3⟩,some 24,2⟩::⟨b5,0,cSp ⟨3,9⟩,some 24,2⟩::⟨b3,0,cSp ⟨1,3⟩,some 24,2⟩::⟨b1,0,cSp ⟨3,6⟩,some 24,2⟩::H) rfl mixed (by repeat (first | exact uU _ | refine uV rfl ?_)) rfl (by kernel_rfl) (locKal b1 b3 b5 b9 b14 q14) (qR _) ?_ ?_
 ·repeat' (first | exact AllF.done rfl | (refine AllF.step rfl ?_ ?_;·(first | fail | ((first | refine Ob.ng rfl ?_ | refine Ob.g rfl rfl (fun _=>rfl) ?_);(first | exact uK (fun env R hR=>by exact ⟨_,uM rfl rfl,rfl⟩) rfl (fun _=>rfl) | exact uK (fun env R hR=>by exact ⟨_,EvF.pickF rfl rfl rfl,rfl⟩) rfl (fun _=>rfl) | exact uK (fun env R hR=>by exact ⟨_,EvF.not rfl rfl,rfl⟩) rfl (fun _=>rfl) | exact uK (fun env R hR=>by exact ⟨_,uQ rfl rfl rfl rfl,rfl⟩) rfl (fun _=>rfl) | exact uK (fun env R hR=>by exact ⟨_,uL rfl rfl (uW (te rfl) rfl (hR _ (qT _ (qH _))) rfl),rfl⟩) rfl (fun _=>rfl) | exact uK (fun env R hR=>by exact ⟨_,uL rfl rfl (uW (te rfl) rfl (hR _ (qT _ (qT _ (qH _)))) rfl),rfl⟩) rfl (fun _=>rfl) | exact uK (fun env R hR=>by exact ⟨_,uL rfl rfl (uW (te rfl) rfl (hR _ (qT _ (qT _ (qT _ (qH _))))) rfl),rfl⟩) rfl (fun _=>rfl)|(exact fun env S hS=>OpF.callV (Z:=[]) (uT rfl (Args.cons rfl (Args.cons rfl Args.nil))) (lawSpan 3 6 S) rfl rfl)|(exact fun env S hS=>OpF.callV (Z:=[]) (uT rfl (Args.cons rfl (Args.cons rfl Args.nil))) (lawSpan 1 3 S) rfl rfl)|(exact fun env S hS=>OpF.callV (Z:=[]) (uT rfl (Args.cons rfl (Args.cons rfl Args.nil))) (lawSpan 3 9 S) rfl rfl)|(exact uK (fun env S hS=>⟨_,uL rfl rfl (uW (te rfl) rfl (hS _ (qT _ (qT _ (qT _ (qT _ (qH _)))))) rfl),rfl⟩) rfl (fun _=>rfl))|(exact uK (fun env S hS=>⟨.bool false,EvF.eqSt (r:=true) rfl rfl rfl (by kernel_rfl) (fun w=>eqE ⟨3,6⟩ w) rfl,rfl⟩) rfl (fun _=>rfl))|(exact uK (fun env S hS=>⟨.bool false,EvF.eqSt (r:=true) rfl rfl rfl (by kernel_rfl) (fun w=>eqE ⟨1,3⟩ w) rfl,rfl⟩) rfl (fun _=>rfl))|(exact uK (fun env S hS=>⟨.bool false,EvF.eqSt (r:=true) rfl rfl rfl (by kernel_rfl) (fun w=>eqE ⟨3,9⟩ w) rfl,rfl⟩) rfl (fun _=>rfl))|(exact fun env S hS=>OpF.callV (Z:=[⟨(env 60).1,0,[.int .i64 1,.int .i64 2,.int .i64 3],some 3,3 * 1⟩]) (uT rfl (Args.cons rfl (Args.cons rfl Args.nil))) (intsT [1,2,3] (some ⟨b14,0,none⟩) (some ⟨(env 60).1,0,none⟩) q14 3 _ (SlE.ofRow (qT _ (hS _ (qH _))) (fun _ _=>rfl)) (SlE.ofRow (l:=[1,2,3]) (qH _) (fun _ _=>rfl)) (by decide)) rfl rfl)|(exact fun env S hS=>(StF.buildLit (len:=3) (vs:=[(0,.int .i64 1),(1,.int .i64 2),(2,.int .i64 3)]) (cs:=[.int .i64 1,.int .i64 2,.int .i64 3]) rfl el55 Tryz.zeroValue3 (ArgsP.cons rfl (ArgsP.cons rfl (ArgsP.cons rfl ArgsP.nil))) lit3 rfl rfl rfl).op.mono (fun v H' ⟨b,hv,hH⟩=>⟨(b,0),fun _=>hv,by rw [hH];exact List.Perm.refl _⟩)))))))
 intro env t ha2 hv;refine ⟨_,ha2.cons (hv 63 120 (Nat.le_of_ble_eq_true rfl) rfl),?_⟩;clear hv ha2
 refine X.weak (F' := [(120,.bool false),(1,.pointer (some ⟨b1,0,none⟩)),(3,.pointer (some ⟨b3,0,none⟩)),(5,.pointer (some ⟨b5,0,none⟩))]) (H' := ⟨b5,0,cSp ⟨3,9⟩,some 24,2⟩::⟨b3,0,cSp ⟨1,3⟩,some 24,2⟩::⟨b1,0,cSp ⟨3,6⟩,some 24,2⟩::H) (by repeat (first | exact uU _ | refine uV rfl ?_)) (by repeat (first | exact qR _ | apply qK | apply qC | refine List.Sublist.trans ?_ (List.sublist_append_right _ _))) ?_
 clear env
 repeat' (first | (refine uP rfl ?_;(first | ((first | refine uN rfl ?_);(first | (refine uC (uT rfl (Args.cons rfl Args.nil)) rfl rfl (bale_specE [] none 0 _ sleNil (Nat.zero_le _)) ?_;rintro _ _ ⟨bn,kn,bw,rfl,rfl⟩)|(refine uC (uT rfl Args.nil) rfl rfl (oddB _) ?_;rintro _ _ ⟨bn,kn,bw,Z,rfl,hpo,rfl⟩)|(refine uC (uT rfl (Args.cons rfl Args.nil)) rfl rfl (aDry bn kn bw _ (balOk [] (Nat.zero_le _) bn kn bw _ (qH _) (qT _ (qH _)))) ?_;rintro _ _ ⟨rfl,rfl⟩)|(refine uC (uT rfl (Args.cons rfl (Args.cons rfl Args.nil))) rfl rfl (aWet bn kn bw _ (balOk [] (Nat.zero_le _) bn kn bw _ (qH _) (qT _ (qH _)))) ?_;rintro _ _ ⟨rfl,rfl⟩)|(refine uC (uT rfl (Args.cons rfl (Args.cons rfl (Args.cons rfl Args.nil)))) rfl rfl (aKno bn kn bw _ (balOk [] (Nat.zero_le _) bn kn bw _ (qH _) (qT _ (qH _)))) ?_;rintro _ _ ⟨rfl,rfl⟩)|(refine uC (uT rfl (Args.cons rfl (Args.cons rfl Args.nil))) rfl rfl (aPay bn kn bw _ (balOk [] (Nat.zero_le _) bn kn bw _ (qH _) (qT _ (qH _)))) ?_;rintro _ _ ⟨rfl,rfl⟩)|(refine uC (uT rfl (Args.cons rfl (Args.cons rfl Args.nil))) rfl rfl (aAsi bn kn bw _ (balOk [] (Nat.zero_le _) bn kn bw _ (qH _) (qT _ (qH _)))) ?_;rintro _ _ ⟨rfl,rfl⟩)|(refine uC (uT rfl (Args.cons rfl Args.nil)) rfl rfl (aCan bn kn bw _ (hpo _)) ?_;rintro _ _ ⟨rfl,rfl⟩)|(refine uC (uT rfl (Args.cons rfl Args.nil)) rfl rfl (aWrg bn kn bw _ (hpo _)) ?_;rintro _ _ ⟨a1,c1,a2,c2,Zw,rfl,sw1,sw2,rfl⟩)|(refine uE (uX rfl rfl rfl) rfl rfl ?_)|(refine Xg.st0 (uZ (i:=4) (vs:=cSp ⟨441,452⟩) rfl rfl rfl (te rfl) rfl rfl rfl rfl) rfl ?_;rintro _ _ ⟨rfl,rfl⟩;dsimp only [List.set])|(refine Xg.st0 (uZ (i:=5) (vs:=cSp ⟨62,90⟩) rfl rfl rfl (te rfl) rfl rfl rfl rfl) rfl ?_;rintro _ _ ⟨rfl,rfl⟩;dsimp only [List.set])|(refine Xg.st0 (uZ (i:=8) (vs:=cSp ⟨478,490⟩) rfl rfl rfl (te rfl) rfl rfl rfl rfl) rfl ?_;rintro _ _ ⟨rfl,rfl⟩;dsimp only [List.set])|(refine uE (uM rfl rfl) rfl rfl ?_)|(refine uE (uA rfl rfl) rfl rfl ?_)))))|(refine uD rfl ?_;refine hK _ _ ?_;clear hK K) | refine uS rfl ?_ | refine uR rfl (fun K hK=>?_) | refine X.skip rfl ?_ | (refine X.ite rfl rfl (fun hc=>?_);(first | (with_reducible refine Xb.f hc ?_)) <;> clear hc))
 refine X.gen (fun G hG=>?_)
 rw [← hG] at sw1 sw2
 have m1 : (⟨b1,0,cSp ⟨441,452⟩,some 24,2⟩ : Row) ∈ G:=by rw [hG];repeat (first | exact qH _ | apply List.mem_append_right | apply qT)
 have m3 : (⟨b3,0,cSp ⟨62,90⟩,some 24,2⟩ : Row) ∈ G:=by rw [hG];repeat (first | exact qH _ | apply List.mem_append_right | apply qT)
 have m5 : (⟨b5,0,cSp ⟨478,490⟩,some 24,2⟩ : Row) ∈ G:=by rw [hG];repeat (first | exact qH _ | apply List.mem_append_right | apply qT)
 have hH : H.Sublist G:=by rw [hG];exact (by repeat (first | exact qR _ | apply qK | apply qC | refine List.Sublist.trans ?_ (List.sublist_append_right _ _)))
 clear hG hpo
 refine X.weak (F' := [(1,.pointer (some ⟨b1,0,none⟩)),(2,.int .i64 0),(3,.pointer (some ⟨b3,0,none⟩)),(4,.int .i64 0),(5,.pointer (some ⟨b5,0,none⟩)),(6,.int .i64 0),(7,.int .u8 2),(8,.int .i64 0),(10,.int .i64 0),(13,.int .i64 0),(16,.int .u8 1),(17,.bool false),(18,.slice a1 1 c1),(19,.slice a2 0 c2),(20,.int .i64 0)]) (H' := G) (by repeat (first | exact uU _ | refine uV rfl ?_)) (qR _) ?_
 refine X.regionOb tsKbl [1,2,3,4,5,6,7,8,10,13,16,17,18,19,20] [(1,.pointer (some ⟨b1,0,none⟩)),(2,.int .i64 0),(3,.pointer (some ⟨b3,0,none⟩)),(4,.int .i64 0),(5,.pointer (some ⟨b5,0,none⟩)),(6,.int .i64 0),(7,.int .u8 2),(8,.int .i64 0),(10,.int .i64 0),(13,.int .i64 0),(16,.int .u8 1),(17,.bool false),(18,.slice a1 1 c1),(19,.slice a2 0 c2),(20,.int .i64 0)] (valKbl b1 b3 b5 c1 c2 a1 a2) (rowsKbl b1 b3 b5 c1 c2 a1 a2) (fun _=>(0,0)) (G) rfl mixed (by repeat (first | exact uU _ | refine uV rfl ?_)) rfl (by kernel_rfl) (locKbl b1 b3 b5 c1 c2 a1 a2) (qR _) ?_ ?_
 ·repeat' (first | exact AllF.done rfl | (refine AllF.step rfl ?_ ?_;·(first | fail | ((first | refine Ob.ng rfl ?_ | refine Ob.g rfl rfl (fun _=>rfl) ?_);(first | exact uK (fun env R hR=>by exact ⟨_,uM rfl rfl,rfl⟩) rfl (fun _=>rfl) | exact uK (fun env R hR=>by exact ⟨_,uA rfl rfl,rfl⟩) rfl (fun _=>rfl) | exact uK (fun env R hR=>by exact ⟨_,EvF.pickT rfl rfl rfl,rfl⟩) rfl (fun _=>rfl) | exact uK (fun env R hR=>by exact ⟨_,EvF.not rfl rfl,rfl⟩) rfl (fun _=>rfl) | exact uK (fun env R hR=>by exact ⟨_,uQ rfl rfl rfl rfl,rfl⟩) rfl (fun _=>rfl)|(exact fun env S hS=>OpF.callV (Z:=[]) (uT rfl (Args.cons rfl (Args.cons rfl Args.nil))) (lawSpan 441 452 S) rfl rfl)|(exact fun env S hS=>OpF.callV (Z:=[]) (uT rfl (Args.cons rfl (Args.cons rfl Args.nil))) (lawSpan 62 90 S) rfl rfl)|(exact fun env S hS=>OpF.callV (Z:=[]) (uT rfl (Args.cons rfl (Args.cons rfl Args.nil))) (lawSpan 478 490 S) rfl rfl)|(exact uK (fun env S hS=>⟨_,uL rfl rfl (uW (te rfl) rfl (hS _ m1) rfl),rfl⟩) rfl (fun _=>rfl))|(exact uK (fun env S hS=>⟨_,uL rfl rfl (uW (te rfl) rfl (hS _ m3) rfl),rfl⟩) rfl (fun _=>rfl))|(exact uK (fun env S hS=>⟨_,uL rfl rfl (uW (te rfl) rfl (hS _ m5) rfl),rfl⟩) rfl (fun _=>rfl))|(exact uK (fun env S hS=>⟨.bool true,EvF.eqSt (r:=true) rfl rfl rfl (by kernel_rfl) (fun w=>eqE ⟨441,452⟩ w) rfl,rfl⟩) rfl (fun _=>rfl))|(exact uK (fun env S hS=>⟨.bool true,EvF.eqSt (r:=true) rfl rfl rfl (by kernel_rfl) (fun w=>eqE ⟨62,90⟩ w) rfl,rfl⟩) rfl (fun _=>rfl))|(exact uK (fun env S hS=>⟨.bool true,EvF.eqSt (r:=true) rfl rfl rfl (by kernel_rfl) (fun w=>eqE ⟨478,490⟩ w) rfl,rfl⟩) rfl (fun _=>rfl))|(exact fun env S hS=>OpF.callV (Z:=[⟨(env 55).1,0,[.int .i64 1],some 3,1 * 1⟩]) (uT rfl (Args.cons rfl (Args.cons rfl Args.nil))) (intsT [1] a1 (some ⟨(env 55).1,0,none⟩) c1 1 _ (sw1.sub (fun r h=>qT _ (hS r h))) (SlE.ofRow (l:=[1]) (qH _) (fun _ _=>rfl)) (by decide)) rfl rfl)|(exact fun env S hS=>OpF.callV (Z:=[]) (uT rfl (Args.cons rfl (Args.cons rfl Args.nil))) (intsT [] a2 none c2 0 _ (sw2.sub hS) sleNil (by decide)) rfl rfl)|(exact fun env S hS=>(StF.buildOne (v0 := .int .i64 1) rfl el55 rfl rfl rfl (by decide) (by decide)).op.mono (fun v H' ⟨b,hv,hH⟩=>⟨(b,0),fun _=>hv,by rw [hH];exact List.Perm.refl _⟩)))))))
 ·intro env t ha2 hv;refine ⟨_,ha2.cons (hv 62 0 (Nat.le_of_ble_eq_true rfl) rfl),?_⟩;clear hv ha2
  repeat' (first | refine X.ret rfl ?_)
  exact ret_one (by simp) Tryz.results11 rfl (H' := H) hH ⟨rfl,rfl⟩
def tsKq9 : List TOp:=[⟨some 29,[],[],[]⟩,⟨some 30,[0],[0],[]⟩,⟨some 31,[0,1],[1],[]⟩,⟨some 32,[],[],[]⟩,⟨some 33,[],[],[]⟩,⟨some 34,[4],[4],[]⟩,⟨some 35,[3,4,5],[3,5],[]⟩,⟨some 36,[3,4,5,6],[6],[]⟩,⟨some 37,[0,1,2,3,4,5,6,7],[2,7],[]⟩,⟨some 38,[0,1,2,3,4,5,6,7,8],[8],[8]⟩,⟨some 39,[0,1,2,3,4,5,6,7,8,9],[9],[]⟩]
def valKq9 (b off n c : Nat) (f g : Int) (al : Bool) (k : Nat) (env : Env) : Value :=
 match k with
 | 0 => .slice (some ⟨b,off,none⟩) n c
 | 1 => .pointer (some ⟨b,off + 0 * 1,none⟩)
 | 2 => .int .i64 f
 | 3 => .slice (some ⟨b,off,none⟩) n c
 | 4 => .int .i64 n
 | 5 => .int .i64 (n - 1)
 | 6 => .pointer (some ⟨b,off + (n - 1 : Nat) * 1,none⟩)
 | 7 => .int .i64 g
 | 8 => .slice (some ⟨(env 8).1,0,none⟩) 2 2
 | 9 => .bool al
 | 10 => .bool (!al)
 | _=>undef
def rowsKq9 (b off n c : Nat) (f g : Int) (al : Bool) (k : Nat) (env : Env) : List Row :=
 match k with
 | 8=>[⟨(env 8).1,0,[.int .i64 f,.int .i64 g],some 3,2 * 1⟩]
 | _=>[]
theorem locKq9 (b off n c : Nat) (f g : Int) (al : Bool) : ∀ k env i q9,i ≠ k → (tAt tsKq9 k).sup.contains i = false → valKq9 b off n c f g al k (upd env i q9)=valKq9 b off n c f g al k env∧rowsKq9 b off n c f g al k (upd env i q9)=rowsKq9 b off n c f g al k env:=by
 intro k env i q hk hs
 have hu : ∀ j,j ≠ i → upd env i q j = env j:=fun j hj=>by unfold upd;rw [if_neg hj]
 match k,hk,hs with
 | 0,_,_=>exact ⟨rfl,rfl⟩
 | 1,_,_=>exact ⟨rfl,rfl⟩
 | 2,_,_=>exact ⟨rfl,rfl⟩
 | 3,_,_=>exact ⟨rfl,rfl⟩
 | 4,_,_=>exact ⟨rfl,rfl⟩
 | 5,_,_=>exact ⟨rfl,rfl⟩
 | 6,_,_=>exact ⟨rfl,rfl⟩
 | 7,_,_=>exact ⟨rfl,rfl⟩
 | 8,hk,hs=>exact ⟨by simp only [valKq9,hu 8 (fun e=>hk e.symm)],by simp only [rowsKq9,hu 8 (fun e=>hk e.symm)]⟩
 | 9,_,_=>exact ⟨rfl,rfl⟩
 | 10,_,_=>exact ⟨rfl,rfl⟩
 | _ + 11,_,_=>exact ⟨rfl,rfl⟩
def tsKq11 : List TOp:=[⟨some 40,[],[],[]⟩,⟨some 41,[0],[0],[]⟩,⟨some 42,[0,1],[1],[]⟩,⟨some 43,[],[],[]⟩,⟨some 44,[],[],[]⟩,⟨some 45,[4],[4],[]⟩,⟨some 46,[3,4,5],[3,5],[]⟩,⟨some 47,[3,4,5,6],[6],[]⟩,⟨some 48,[0,1,2,3,4,5,6,7],[2,7],[]⟩,⟨some 5,[0,1,2,3,4,5,6,7,8],[8],[]⟩,⟨some 6,[0,1,2,3,4,5,6,7,8,9],[],[]⟩]
def valKq11 (b off n c : Nat) (f g : Int) (k : Nat) (env : Env) : Value :=
 match k with
 | 0 => .slice (some ⟨b,off,none⟩) n c
 | 1 => .pointer (some ⟨b,off + 0 * 1,none⟩)
 | 2 => .int .i64 f
 | 3 => .slice (some ⟨b,off,none⟩) n c
 | 4 => .int .i64 n
 | 5 => .int .i64 (n - 1)
 | 6 => .pointer (some ⟨b,off + (n - 1 : Nat) * 1,none⟩)
 | 7 => .int .i64 g
 | 8 => .int .i64 (max f g)
 | 9 => .int .i64 (max f g)
 | 10 => .int .i64 0
 | _=>undef
def rowsKq11 (b off n c : Nat) (f g : Int) (k : Nat) (env : Env) : List Row :=
 match k with
 | _=>[]
theorem locKq11 (b off n c : Nat) (f g : Int) : ∀ k env i q9,i ≠ k → (tAt tsKq11 k).sup.contains i = false → valKq11 b off n c f g k (upd env i q9)=valKq11 b off n c f g k env∧rowsKq11 b off n c f g k (upd env i q9)=rowsKq11 b off n c f g k env:=by
 intro k env i q hk hs
 have hu : ∀ j,j ≠ i → upd env i q j = env j:=fun j hj=>by unfold upd;rw [if_neg hj]
 match k,hk,hs with
 | 0,_,_=>exact ⟨rfl,rfl⟩
 | 1,_,_=>exact ⟨rfl,rfl⟩
 | 2,_,_=>exact ⟨rfl,rfl⟩
 | 3,_,_=>exact ⟨rfl,rfl⟩
 | 4,_,_=>exact ⟨rfl,rfl⟩
 | 5,_,_=>exact ⟨rfl,rfl⟩
 | 6,_,_=>exact ⟨rfl,rfl⟩
 | 7,_,_=>exact ⟨rfl,rfl⟩
 | 8,_,_=>exact ⟨rfl,rfl⟩
 | 9,_,_=>exact ⟨rfl,rfl⟩
 | 10,_,_=>exact ⟨rfl,rfl⟩
 | _ + 11,_,_=>exact ⟨rfl,rfl⟩
theorem any_max {l : List Int} {w : Int} (hw : 1 ≤ w) : decide (l.foldl max 0 ≥ w)=l.any (fun x=>decide (w ≤ x)):=by
 obtain ⟨b1,b2,b3⟩:=mx1 l 0
 rw [Bool.eq_iff_iff,decide_eq_true_iff,List.any_eq_true]
 constructor
 ·intro h
  rcases b3 with b3 | b3
  ·exact ⟨_,b3,decide_eq_true h⟩
  ·omega
 ·rintro ⟨x,hx,hd⟩
  have:=b1 x hx
  rw [decide_eq_true_iff] at hd
  omega
set_option maxHeartbeats 4000000 in
theorem rKindOf_spec (l : List Int) (a : Option Addr) (c : Nat) (H : List Row) (hl : SlE H a cI 1 l) (hb : l.length ≤ 1000) (h0 : 0 < l.length) (hc : l.length ≤ c) (hv : ∀ x ∈ l,1 ≤ x∧x ≤ 9) :
  Fc Tryz.prog 35 [.slice a l.length c] H (fun v H' => v = .int .i64 (kindF l)∧H' = H):=by
 have k1 : ∀ (S : List Row) (k : Nat),SlE S a cI 1 l → k ≤ l.length → Fc Tryz.prog 85 [.slice (sfrom a c k 1) (l.length - k) (c - k)] S (fun v H' => v = .bool (alikeB (l.drop k))∧H' = S):=by
  intro S k hS hk
  have w:=ralike_spec (l.drop k) (sfrom a c k 1) (c - k) S (sleFrom hS hc k) (by rw [List.length_drop];omega) (fun x hx=>hv x (List.mem_of_mem_drop hx))
  rwa [List.length_drop] at w
 have k2 : ∀ (S : List Row) (k : Nat),SlE S a cI 1 l → k ≤ l.length → Fc Tryz.prog 85 [.slice a k c] S (fun v H' => v = .bool (alikeB (l.take k))∧H' = S):=by
  intro S k hS hk
  have w:=ralike_spec (l.take k) a c S (sleTake hS k) (by rw [List.length_take];omega) (fun x hx=>hv x (List.mem_of_mem_take hx))
  rwa [List.length_take,Nat.min_eq_left hk] at w
 have k0:=ralike_spec l a c H hl hb hv
 cases hA : alikeB l with
 | true =>
  rw [hA] at k0
  rw [kind_one.2 hA]
  refine Fc.mk (callable Tryz.call35) Tryz.func35 rfl Tryz.ntmps35 rfl ?_;dsimp only [fr]
  repeat' (first | (refine uP rfl ?_;(first | ((first | refine uN rfl ?_);(first | (refine uC (uT rfl (Args.cons rfl Args.nil)) rfl rfl (k0) ?_;rintro _ H9 ⟨rfl,hH9⟩;subst H9)|(refine uE (uM rfl rfl) rfl rfl ?_)|(refine uE (uA rfl rfl) rfl rfl ?_)))))|(refine uD rfl ?_;refine hK _ _ ?_;clear hK K) | refine uS rfl ?_ | refine uR rfl (fun K hK=>?_) | refine X.ret rfl ?_ | (refine X.ite rfl rfl (fun hc=>?_);(first | (with_reducible refine Xb.t hc ?_)) <;> clear hc))
  all_goals try (exfalso;contradiction)
  exact ret_one (by simp) Tryz.results35 rfl (H' := H) (by repeat (first | exact qR _ | apply qK | apply qC)) ⟨rfl,rfl⟩
 | false =>
  rw [hA] at k0
  have h2 : 2 ≤ l.length:=by
   refine Classical.byContradiction fun q=>?_
   match l,h0,hA,q with
   | [x],_,hA,_ =>
    have : alikeB [x] = true:=alike_iff.2 (fun a ha b hb=>by rw [List.mem_singleton.1 ha,List.mem_singleton.1 hb];omega)
    rw [this] at hA
    cases hA
   | x::y::t,_,_,q=>simp at q
  refine Fc.mk (callable Tryz.call35) Tryz.func35 rfl Tryz.ntmps35 rfl ?_;dsimp only [fr]
  repeat' (first | (refine uP rfl ?_;(first | ((first | refine uN rfl ?_);(first | (refine uC (uT rfl (Args.cons rfl Args.nil)) rfl rfl (k0) ?_;rintro _ H9 ⟨rfl,hH9⟩;subst H9)|(refine uE (uM rfl rfl) rfl rfl ?_)|(refine uE (uA rfl rfl) rfl rfl ?_)))))|(refine uD rfl ?_;refine hK _ _ ?_;clear hK K) | refine uS rfl ?_ | refine uR rfl (fun K hK=>?_) | refine X.block rfl ?_ | refine X.skip rfl ?_ | (refine X.ite rfl rfl (fun hc=>?_);(first | (with_reducible refine Xb.f hc ?_)) <;> clear hc))
  all_goals try (exfalso;contradiction)
  refine X.lp rfl (fun q F' H' => ∃ k : Nat,q = l.length - k∧1 ≤ k∧k ≤ l.length∧(∀ j,1 ≤ j → j < k → ¬ (alikeB (l.take j)=true∧alikeB (l.drop j)=true))∧H = H'∧F' = [(0,.slice a l.length c),(3,.int .i64 (k : Nat))])
   (l.length - 1) [(0,.slice a l.length c),(3,.int .i64 (1 : Nat))] _ (by repeat (first | exact uU _ | refine uV rfl ?_)) (by repeat (first | exact qR _ | apply qK | apply qC)) ⟨1,by omega,by omega,by omega,fun j h1 h2=>by omega,rfl,rfl⟩ ?_
  rintro _ _ _ ⟨k,rfl,hk1,hk,hn,rfl,rfl⟩
  by_cases hlt : k < l.length
  ·have hlt' : (k : Int)<l.length:=by omega
   have k1' := k1 H k hl (by omega)
   have k2' := k2 H k hl (by omega)
   cases hT : alikeB (l.take k)
   ·rw [hT] at k2'
    repeat' (first | (refine uP rfl ?_;(first | ((first | refine uN rfl ?_);(first | (refine uE (uQ (b:=true) rfl rfl rfl (congrArg some (decide_eq_true (by omega)))) rfl rfl ?_)|(refine uE (EvF.sliceTo (hh:=k) rfl rfl (te rfl) (te rfl) rfl (by omega)) rfl rfl ?_)|(refine uC (uT rfl (Args.cons rfl Args.nil)) rfl rfl (k2') ?_;rintro _ H9 ⟨rfl,hH9⟩;subst H9)|(refine uE (EvF.add64 (p:=(k : Int)) (q:=1) rfl rfl rfl (by omega) (by omega)) rfl rfl ?_)|(refine uE (uM rfl rfl) rfl rfl ?_)|(refine uE (uA rfl rfl) rfl rfl ?_)|(refine uE (EvF.pickF rfl rfl rfl) rfl rfl ?_)|(refine uE (uY rfl rfl (te rfl)) rfl rfl ?_)))|(refine Xo.g rfl rfl ?_;(first | (with_reducible refine Xw.ft rfl rfl ?_)))))|(refine uD rfl ?_;refine hK _ _ ?_;clear hK K) | refine uS rfl ?_ | refine uR rfl (fun K hK=>?_) | refine X.block rfl ?_ | refine X.skip rfl ?_ | (refine X.ite rfl rfl (fun hc=>?_);(first | (with_reducible refine Xb.t hc ?_)|(with_reducible refine Xb.f hc ?_)) <;> clear hc))
    all_goals try (exfalso;contradiction)
    refine ⟨_,_,_,(by rw [show (k : Int) + 1 = ((k + 1 : Nat) : Int) by omega];exact (by repeat (first | exact uU _ | refine uV rfl ?_))),(by repeat (first | exact qR _ | apply qK | apply qC)),⟨k + 1,rfl,by omega,by omega,fun j g1 g2=>?_,rfl,rfl⟩,by omega⟩
    by_cases e : j = k
    ·subst e;rw [hT];exact fun q=>by cases q.1
    ·exact hn j g1 (by omega)
   ·rw [hT] at k2'
    cases hD : alikeB (l.drop k)
    ·rw [hD] at k1'
     repeat' (first | (refine uP rfl ?_;(first | ((first | refine uN rfl ?_ | (refine Xo.g rfl rfl ?_;with_reducible refine Xw.tt ?_));(first | (refine uE (uQ (b:=true) rfl rfl rfl (congrArg some (decide_eq_true (by omega)))) rfl rfl ?_)|(refine uE (EvF.sliceTo (hh:=k) rfl rfl (te rfl) (te rfl) rfl (by omega)) rfl rfl ?_)|(refine uE (EvF.sliceFrom (lo:=k) rfl rfl (te rfl) (te rfl) rfl (by omega) (by omega)) rfl rfl ?_)|(refine uC (uT rfl (Args.cons rfl Args.nil)) rfl rfl (k2') ?_;rintro _ H9 ⟨rfl,hH9⟩;subst H9)|(refine uC (uT rfl (Args.cons rfl Args.nil)) rfl rfl (k1') ?_;rintro _ H9 ⟨rfl,hH9⟩;subst H9)|(refine uE (EvF.add64 (p:=(k : Int)) (q:=1) rfl rfl rfl (by omega) (by omega)) rfl rfl ?_)|(refine uE (uM rfl rfl) rfl rfl ?_)|(refine uE (uA rfl rfl) rfl rfl ?_)|(refine uE (EvF.pickT rfl rfl rfl) rfl rfl ?_)|(refine uE (uY rfl rfl (te rfl)) rfl rfl ?_)))))|(refine uD rfl ?_;refine hK _ _ ?_;clear hK K) | refine uS rfl ?_ | refine uR rfl (fun K hK=>?_) | refine X.block rfl ?_ | refine X.skip rfl ?_ | (refine X.ite rfl rfl (fun hc=>?_);(first | (with_reducible refine Xb.t hc ?_)|(with_reducible refine Xb.f hc ?_)) <;> clear hc))
     all_goals try (exfalso;contradiction)
     refine ⟨_,_,_,(by rw [show (k : Int) + 1 = ((k + 1 : Nat) : Int) by omega];exact (by repeat (first | exact uU _ | refine uV rfl ?_))),(by repeat (first | exact qR _ | apply qK | apply qC)),⟨k + 1,rfl,by omega,by omega,fun j g1 g2=>?_,rfl,rfl⟩,by omega⟩
     by_cases e : j = k
     ·subst e;rw [hD];exact fun q=>by cases q.2
     ·exact hn j g1 (by omega)
    ·rw [hD] at k1'
     have hK : kindF l = 2:=kind_two.2 ⟨hA,cuts_some.2 ⟨k,hk1,hlt,hT,hD⟩⟩
     rw [hK]
     repeat' (first | (refine uP rfl ?_;(first | ((first | refine uN rfl ?_ | (refine Xo.g rfl rfl ?_;with_reducible refine Xw.tt ?_));(first | (refine uE (uQ (b:=true) rfl rfl rfl (congrArg some (decide_eq_true (by omega)))) rfl rfl ?_)|(refine uE (EvF.sliceTo (hh:=k) rfl rfl (te rfl) (te rfl) rfl (by omega)) rfl rfl ?_)|(refine uE (EvF.sliceFrom (lo:=k) rfl rfl (te rfl) (te rfl) rfl (by omega) (by omega)) rfl rfl ?_)|(refine uC (uT rfl (Args.cons rfl Args.nil)) rfl rfl (k2') ?_;rintro _ H9 ⟨rfl,hH9⟩;subst H9)|(refine uC (uT rfl (Args.cons rfl Args.nil)) rfl rfl (k1') ?_;rintro _ H9 ⟨rfl,hH9⟩;subst H9)|(refine uE (uM rfl rfl) rfl rfl ?_)|(refine uE (uA rfl rfl) rfl rfl ?_)|(refine uE (EvF.pickT rfl rfl rfl) rfl rfl ?_)|(refine uE (uY rfl rfl (te rfl)) rfl rfl ?_)))))|(refine uD rfl ?_;refine hK _ _ ?_;clear hK K) | refine uS rfl ?_ | refine uR rfl (fun K hK=>?_) | refine X.block rfl ?_ | refine X.skip rfl ?_ | refine X.ret rfl ?_ | (refine X.ite rfl rfl (fun hc=>?_);(first | (with_reducible refine Xb.t hc ?_)) <;> clear hc))
     all_goals try (exfalso;contradiction)
     exact ret_one (by simp) Tryz.results35 rfl (H' := H) (by repeat (first | exact qR _ | apply qK | apply qC)) ⟨rfl,rfl⟩
  ·obtain rfl : k = l.length:=by omega
   have hlt' : ¬ ((l.length : Nat) : Int)<l.length:=by omega
   have hK : kindF l = if falseF l = true then 3 else 4:=by
    have : ¬ (cutsF l).lo ≤ (cutsF l).hi:=fun q=>by
     obtain ⟨j,j1,j2,j3,j4⟩:=cuts_some.1 q
     exact hn j j1 j2 ⟨j3,j4⟩
    unfold kindF
    rw [if_neg (by rw [hA];decide),if_neg this]
   rw [hK]
   clear hK hn k0
   obtain ⟨b,off,f,rfl,hf⟩:=hl.elem (i:=0) (by omega)
   obtain ⟨g,hg⟩ : ∃ g,l[l.length - 1]? = some g:=⟨_,List.getElem?_eq_getElem (by omega)⟩
   have hfv:=hv f (List.mem_of_getElem? hf)
   have hgv:=hv g (List.mem_of_getElem? hg)
   have hF : falseF l = ((midL l).all (fun x=>decide (max f g ≤ x)) && ((midL l).any (fun x=>decide (max f g + 2 ≤ x)) && alikeB [f,g])):=by
    have e1 : l.headD 0 = f:=by rw [List.headD_eq_head?_getD,List.head?_eq_getElem?,hf];rfl
    have e2 : l.getLastD 0 = g:=by rw [List.getLastD_eq_getLast?,List.getLast?_eq_getElem?,hg];rfl
    unfold falseF
    rw [e1,e2]
   rw [hF]
   have k3 : ∀ (S : List Row) (d q : Nat),SlE S (some ⟨d,0,none⟩) cI 1 [f,g] → Fc Tryz.prog 85 [.slice (some ⟨d,0,none⟩) 2 q] S (fun v H' => v = .bool (alikeB [f,g])∧H' = S):=fun S d q hS =>
    ralike_spec [f,g] (some ⟨d,0,none⟩) q S hS (by simp) (fun x hx=>by
     rcases List.mem_cons.1 hx with rfl | hx
     ·exact hfv
     ·rw [List.mem_singleton.1 hx];exact hgv)
   obtain ⟨al,hal⟩ : ∃ al,al = alikeB [f,g]:=⟨_,rfl⟩
   rw [← hal] at k3 ⊢
   have hmid : SlE H (some ⟨b,off + 1 * 1,none⟩) cI 1 (midL l):=by
    have:=sleTake (sleFrom hl hc 1) (l.length - 2)
    rwa [sfrom_lt (by omega)] at this
   have hml : (midL l).length = l.length - 2:=by
    unfold midL
    rw [List.length_take,List.length_drop]
    omega
   have hmv : ∀ x ∈ midL l,1 ≤ x∧x ≤ 9:=fun x hx=>hv x (List.mem_of_mem_drop (List.mem_of_mem_take hx))
   obtain ⟨m,hm⟩ : ∃ m,m = midL l:=⟨_,rfl⟩
   rw [← hm] at hmid hml hmv ⊢
   obtain ⟨n,hnE⟩ : ∃ n,n = l.length:=⟨_,rfl⟩
   rw [← hnE] at hb h0 hg hml hc h2 hlt' ⊢
   have hnn : (n - 1 : Nat)=((n : Int) - 1).toNat:=by omega
   clear k1 k2 hA hF hal hm hlt hk hk1
   repeat' (first | (refine uP rfl ?_;(first | ((first | refine uN rfl ?_);(first | (refine uE (uQ (b:=false) rfl rfl rfl (congrArg some (decide_eq_false (by omega)))) rfl rfl ?_)|(refine uE (uM rfl rfl) rfl rfl ?_)|(refine uE (uA rfl rfl) rfl rfl ?_)|(refine uE (uY rfl rfl (te rfl)) rfl rfl ?_)))))|(refine uD rfl ?_;refine hK _ _ ?_;clear hK K) | refine uS rfl ?_ | refine uR rfl (fun K hK=>?_)|(refine X.brk rfl ?_;repeat (first | refine blockX_hit rfl ?_ | refine blockX_miss (by decide) ?_))|(refine X.ite rfl rfl (fun hc=>?_);(first | (with_reducible refine Xb.f hc ?_)) <;> clear hc))
   all_goals try (exfalso;contradiction)
   refine X.weak (F' := [(0,.slice (some ⟨b,off,none⟩) n c),(4,.int .i64 n)]) (H' := H) (by repeat (first | exact uU _ | refine uV rfl ?_)) (by repeat (first | exact qR _ | apply qK | apply qC)) ?_
   refine X.regionOb tsKq9 [0,4] [(0,.slice (some ⟨b,off,none⟩) n c),(4,.int .i64 n)] (valKq9 b off n c f g al) (rowsKq9 b off n c f g al) (fun _=>(0,0)) (H) rfl mixed (by repeat (first | exact uU _ | refine uV rfl ?_)) rfl (by kernel_rfl) (locKq9 b off n c f g al) (qR _) ?_ ?_
   ·repeat' (first | exact AllF.done rfl | (refine AllF.step rfl ?_ ?_;·(first | fail | ((first | refine Ob.ng rfl ?_);(first | exact uK (fun env R hR=>by exact ⟨_,uM rfl rfl,rfl⟩) rfl (fun _=>rfl) | exact uK (fun env R hR=>by exact ⟨_,EvF.not rfl rfl,rfl⟩) rfl (fun _=>rfl)|((refine uK (fun env S hS=>⟨.pointer (some ⟨b,off + 0 * 1,none⟩),?_,rfl⟩) rfl (fun _=>rfl);exact uJ (i:=0) (off:=off) (b:=b) (T:=49) (e:=3) (len:=n) rfl rfl rfl (te rfl) (te rfl) (by omega) (by omega)))|((refine uK (fun env S hS=>⟨.pointer (some ⟨b,off + (n - 1 : Nat) * 1,none⟩),?_,rfl⟩) rfl (fun _=>rfl);rw [hnn];exact uJ (i:=((n : Int) - 1)) (off:=off) (b:=b) (T:=49) (e:=3) (len:=n) rfl rfl rfl (te rfl) (te rfl) (by omega) (by omega)))|(exact uK (fun env S hS=>⟨.int .i64 f,uL rfl rfl (LoadV.el0 (n:=0) (hl.sub hS) hf (te rfl) rfl (fun _ h=>h) rfl),rfl⟩) rfl (fun _=>rfl))|(exact uK (fun env S hS=>⟨.int .i64 g,uL rfl rfl (LoadV.el0 (n:=n - 1) (hl.sub hS) hg (te rfl) rfl (fun _ h=>h) rfl),rfl⟩) rfl (fun _=>rfl))|(exact uK (fun env S hS=>⟨_,EvF.sub64 (p:=(n : Int)) (q:=1) rfl rfl rfl (by omega) (by omega),rfl⟩) rfl (fun _=>rfl))|(exact fun env S hS=>(StF.buildTwo (v0 := .int .i64 f) (v1 := .int .i64 g) rfl el55 rfl rfl rfl rfl rfl rfl (by decide) (by decide)).op.mono (fun v H' ⟨b,hv,hH⟩=>⟨(b,0),fun _=>hv,by rw [hH];exact List.Perm.refl _⟩))|(exact fun env S hS=>OpF.callV (Z:=[⟨(env 8).1,0,[.int .i64 f,.int .i64 g],some 3,2 * 1⟩]) (uT rfl (Args.cons rfl Args.nil)) (k3 _ (env 8).1 2 (SlE.ofRow (l:=[f,g]) (qH _) (fun _ _=>rfl))) rfl rfl))))))
   ·intro env t ha2 hv;refine ⟨_,ha2.cons (hv 10 39 (Nat.le_of_ble_eq_true rfl) rfl),?_⟩;clear hv ha2
    show X _ _ _ [(39,.bool (!al)),(0,.slice (some ⟨b,off,none⟩) n c),(4,.int .i64 n)] H _
    cases al
    ·rw [Bool.and_false,Bool.and_false,if_neg (by decide)]
     repeat' (first | (refine uP rfl ?_;(first | ((first | refine uN rfl ?_);(first | (refine uE (uA rfl rfl) rfl rfl ?_)))))|(refine uD rfl ?_;refine hK _ _ ?_;clear hK K) | refine uS rfl ?_ | refine uR rfl (fun K hK=>?_) | refine X.skip rfl ?_ | refine X.ret rfl ?_ | (refine X.ite rfl rfl (fun hc=>?_);(first | (with_reducible refine Xb.caseB hc (fun h=>?_) (fun h=>?_))) <;> clear hc))
     all_goals try (exfalso;contradiction)
     exact ret_one (by simp) Tryz.results35 rfl (H' := H) (by repeat (first | exact qR _ | apply qK | apply qC)) ⟨rfl,rfl⟩
    ·rw [Bool.and_true]
     repeat' (first | (refine uP rfl ?_;(first | ((first | refine uN rfl ?_);(first | (refine uE (uA rfl rfl) rfl rfl ?_)))))|(refine uD rfl ?_;refine hK _ _ ?_;clear hK K) | refine uS rfl ?_ | refine uR rfl (fun K hK=>?_) | refine X.skip rfl ?_ | refine X.ret rfl ?_ | (refine X.ite rfl rfl (fun hc=>?_);(first | (with_reducible refine Xb.caseB hc (fun h=>?_) (fun h=>?_))) <;> clear hc))
     all_goals try (exfalso;contradiction)
     refine X.weak (F' := [(0,.slice (some ⟨b,off,none⟩) n c),(4,.int .i64 n)]) (H' := H) (by repeat (first | exact uU _ | refine uV rfl ?_)) (by repeat (first | exact qR _ | apply qK | apply qC)) ?_
     refine X.regionOb tsKq11 [0,4] [(0,.slice (some ⟨b,off,none⟩) n c),(4,.int .i64 n)] (valKq11 b off n c f g) (rowsKq11 b off n c f g) (fun _=>(0,0)) (H) rfl mixed (by repeat (first | exact uU _ | refine uV rfl ?_)) rfl (by kernel_rfl) (locKq11 b off n c f g) (qR _) ?_ ?_
     ·repeat' (first | exact AllF.done rfl | (refine AllF.step rfl ?_ ?_;·(first | fail | ((first | refine Ob.ng rfl ?_);(first | exact uK (fun env R hR=>by exact ⟨_,uM rfl rfl,rfl⟩) rfl (fun _=>rfl) | exact uK (fun env R hR=>by exact ⟨_,uA rfl rfl,rfl⟩) rfl (fun _=>rfl)|((refine uK (fun env S hS=>⟨.pointer (some ⟨b,off + 0 * 1,none⟩),?_,rfl⟩) rfl (fun _=>rfl);exact uJ (i:=0) (off:=off) (b:=b) (T:=49) (e:=3) (len:=n) rfl rfl rfl (te rfl) (te rfl) (by omega) (by omega)))|((refine uK (fun env S hS=>⟨.pointer (some ⟨b,off + (n - 1 : Nat) * 1,none⟩),?_,rfl⟩) rfl (fun _=>rfl);rw [hnn];exact uJ (i:=((n : Int) - 1)) (off:=off) (b:=b) (T:=49) (e:=3) (len:=n) rfl rfl rfl (te rfl) (te rfl) (by omega) (by omega)))|(exact uK (fun env S hS=>⟨.int .i64 f,uL rfl rfl (LoadV.el0 (n:=0) (hl.sub hS) hf (te rfl) rfl (fun _ h=>h) rfl),rfl⟩) rfl (fun _=>rfl))|(exact uK (fun env S hS=>⟨.int .i64 g,uL rfl rfl (LoadV.el0 (n:=n - 1) (hl.sub hS) hg (te rfl) rfl (fun _ h=>h) rfl),rfl⟩) rfl (fun _=>rfl))|(exact uK (fun env S hS=>⟨_,EvF.sub64 (p:=(n : Int)) (q:=1) rfl rfl rfl (by omega) (by omega),rfl⟩) rfl (fun _=>rfl))|(exact uK (fun env S hS=>⟨_,EvF.max64 (p:=f) (q:=g) rfl rfl rfl,rfl⟩) rfl (fun _=>rfl)))))))
     ·intro env t ha2 hv;refine ⟨_,(ha2.cons (hv 9 5 (Nat.le_of_ble_eq_true rfl) rfl)).cons (hv 10 6 (Nat.le_of_ble_eq_true rfl) rfl),?_⟩;clear hv ha2
      show X _ _ _ [(6,.int .i64 0),(5,.int .i64 (max f g)),(0,.slice (some ⟨b,off,none⟩) n c),(4,.int .i64 n)] H _
      have hw1 : 1 ≤ max f g∧max f g ≤ 9:=by omega
      obtain ⟨w0,hw0⟩ : ∃ w0,w0 = max f g:=⟨_,rfl⟩
      rw [← hw0] at hw1 ⊢
      have hcn : ¬ c = 1:=by omega
      have hcn2 : ((n : Int) - 1)=((n - 1 : Nat) : Int):=by omega
      repeat' (first | (refine uP rfl ?_;(first | ((first | refine uN rfl ?_);(first | (refine uE (EvF.sub64 (p:=(n : Int)) (q:=1) rfl rfl rfl (by omega) (by omega)) rfl rfl ?_)|(refine uE (EvF.sliceLH (l:=1) (hh:=n - 1) rfl rfl (te rfl) (te rfl) rfl (congrArg (fun z=>some (Value.int .i64 z)) hcn2) (by omega) (by omega) (by omega)) rfl rfl ?_)|(refine uE (uM rfl rfl) rfl rfl ?_)|(refine uE (uY rfl rfl (te rfl)) rfl rfl ?_)))))|(refine uD rfl ?_;refine hK _ _ ?_;clear hK K) | refine uS rfl ?_ | refine uR rfl (fun K hK=>?_) | refine X.block rfl ?_)
      have hml' : n - 1 - 1 = m.length:=by omega
      rw [hml']
      clear hf hg hl hc hnE hnn hcn2
      refine X.lp rfl (fun q F' H' => ∃ i : Nat,q = m.length - i∧i ≤ m.length∧(∀ x ∈ m.take i,w0 ≤ x)∧H = H' ∧
        F' = [(5,.int .i64 w0),(6,.int .i64 ((m.take i).foldl max 0)),(52,.slice (some ⟨b,off + 1 * 1,none⟩) m.length (c - 1)),(53,.int .i64 m.length),(54,.int .i64 (i : Nat))])
       m.length [(5,.int .i64 w0),(6,.int .i64 ((m.take 0).foldl max 0)),(52,.slice (some ⟨b,off + 1 * 1,none⟩) m.length (c - 1)),(53,.int .i64 m.length),(54,.int .i64 (0 : Nat))] _ (by repeat (first | exact uU _ | refine uV rfl ?_)) (by repeat (first | exact qR _ | apply qK | apply qC)) ⟨0,by omega,by omega,fun x hx=>absurd hx List.not_mem_nil,rfl,rfl⟩ ?_
      rintro _ _ _ ⟨i,rfl,hi,hal,rfl,rfl⟩
      by_cases hq : i < m.length
      ·have hq' : (i : Int)<m.length:=by omega
       obtain ⟨x,hx⟩ : ∃ x,m[i]? = some x:=⟨_,List.getElem?_eq_getElem hq⟩
       have htk : m.take (i + 1)=m.take i++[x]:=take_snoc hx
       have hfo : (m.take (i + 1)).foldl max 0 = max ((m.take i).foldl max 0) x:=by rw [htk,List.foldl_append];rfl
       obtain ⟨mx,hmx⟩ : ∃ mx,mx = (m.take i).foldl max 0:=⟨_,rfl⟩
       rw [← hmx] at hfo ⊢
       by_cases hlt : x < w0
       ·have hno : m.all (fun x=>decide (w0 ≤ x)) = false:=by
         rw [← Bool.not_eq_true,List.all_eq_true]
         intro h
         have:=h x (List.mem_of_getElem? hx)
         rw [decide_eq_true_eq] at this
         omega
        rw [hno,Bool.false_and,if_neg (by decide)]
        repeat' (first | (refine uP rfl ?_;(first | ((first | refine uN rfl ?_);(first | (refine uE (uQ (b:=true) rfl rfl rfl (congrArg some (decide_eq_true (by omega)))) rfl rfl ?_)|(refine uE (uJ (i:=(i : Int)) rfl rfl rfl (te rfl) (te rfl) (by omega) (by omega)) rfl rfl ?_)|(refine uE (uL (v := .int .i64 x) rfl rfl (LoadV.el0 (n:=i) hmid hx (te rfl) rfl (fun _ h=>h) rfl)) rfl rfl ?_)|(refine uE (uM rfl rfl) rfl rfl ?_)|(refine uE (uA rfl rfl) rfl rfl ?_)))))|(refine uD rfl ?_;refine hK _ _ ?_;clear hK K) | refine uS rfl ?_ | refine uR rfl (fun K hK=>?_) | refine X.block rfl ?_ | refine X.skip rfl ?_ | refine X.ret rfl ?_ | (refine X.ite rfl rfl (fun hc=>?_);(first | (with_reducible refine Xb.t hc ?_)) <;> clear hc))
        exact ret_one (by simp) Tryz.results35 rfl (H' := H) (by repeat (first | exact qR _ | apply qK | apply qC)) ⟨rfl,rfl⟩
       ·repeat' (first | (refine uP rfl ?_;(first | ((first | refine uN rfl ?_);(first | (refine uE (uQ (b:=true) rfl rfl rfl (congrArg some (decide_eq_true (by omega)))) rfl rfl ?_)|(refine uE (uQ (b:=false) rfl rfl rfl (congrArg some (decide_eq_false (by omega)))) rfl rfl ?_)|(refine uE (uJ (i:=(i : Int)) rfl rfl rfl (te rfl) (te rfl) (by omega) (by omega)) rfl rfl ?_)|(refine uE (uL (v := .int .i64 x) rfl rfl (LoadV.el0 (n:=i) hmid hx (te rfl) rfl (fun _ h=>h) rfl)) rfl rfl ?_)|(refine uE (EvF.max64 (p:=mx) (q:=x) rfl rfl rfl) rfl rfl ?_)|(refine uE (EvF.add64 (p:=(i : Int)) (q:=1) rfl rfl rfl (by omega) (by omega)) rfl rfl ?_)|(refine uE (uM rfl rfl) rfl rfl ?_)|(refine uE (uA rfl rfl) rfl rfl ?_)))))|(refine uD rfl ?_;refine hK _ _ ?_;clear hK K) | refine uS rfl ?_ | refine uR rfl (fun K hK=>?_) | refine X.block rfl ?_ | refine X.skip rfl ?_ | (refine X.ite rfl rfl (fun hc=>?_);(first | (with_reducible refine Xb.t hc ?_)|(with_reducible refine Xb.f hc ?_)) <;> clear hc))
        refine ⟨_,_,_,(by rw [hfo,show (i : Int) + 1 = ((i + 1 : Nat) : Int) by omega];exact (by repeat (first | exact uU _ | refine uV rfl ?_))),(by repeat (first | exact qR _ | apply qK | apply qC)),⟨i + 1,rfl,by omega,fun y hy=>?_,rfl,rfl⟩,by omega⟩
        rw [htk,List.mem_append,List.mem_singleton] at hy
        rcases hy with h | rfl
        ·exact hal y h
        ·omega
      ·obtain rfl : i = m.length:=by omega
       have hq' : ¬ ((m.length : Nat) : Int)<m.length:=by omega
       rw [List.take_length] at hal ⊢
       have hyes : m.all (fun x=>decide (w0 ≤ x)) = true:=List.all_eq_true.2 (fun x hx=>decide_eq_true (hal x hx))
       have ham:=any_max (l:=m) (w:=w0 + 2) (by omega)
       rw [hyes,Bool.true_and, ← ham]
       obtain ⟨mx,hmx⟩ : ∃ mx,mx = m.foldl max 0:=⟨_,rfl⟩
       rw [← hmx]
       by_cases hge : mx ≥ w0 + 2
       ·rw [decide_eq_true hge,if_pos rfl]
        repeat' (first | (refine uP rfl ?_;(first | ((first | refine uN rfl ?_);(first | (refine uE (uQ (b:=true) rfl rfl rfl (congrArg some (decide_eq_true (by omega)))) rfl rfl ?_)|(refine uE (uQ (b:=false) rfl rfl rfl (congrArg some (decide_eq_false (by omega)))) rfl rfl ?_)|(refine uE (EvF.add64 (p:=w0) (q:=2) rfl rfl rfl (by omega) (by omega)) rfl rfl ?_)|(refine uE (uM rfl rfl) rfl rfl ?_)|(refine uE (uA rfl rfl) rfl rfl ?_)))))|(refine uD rfl ?_;refine hK _ _ ?_;clear hK K) | refine uS rfl ?_ | refine uR rfl (fun K hK=>?_)|(refine X.brk rfl ?_;repeat (first | refine blockX_hit rfl ?_ | refine blockX_miss (by decide) ?_)) | refine X.ret rfl ?_ | (refine X.ite rfl rfl (fun hc=>?_);(first | (with_reducible refine Xb.t hc ?_)|(with_reducible refine Xb.f hc ?_)) <;> clear hc))
        exact ret_one (by simp) Tryz.results35 rfl (H' := H) (by repeat (first | exact qR _ | apply qK | apply qC)) ⟨rfl,rfl⟩
       ·rw [decide_eq_false hge,if_neg (by decide)]
        repeat' (first | (refine uP rfl ?_;(first | ((first | refine uN rfl ?_);(first | (refine uE (uQ (b:=false) rfl rfl rfl (congrArg some (decide_eq_false (by omega)))) rfl rfl ?_)|(refine uE (EvF.add64 (p:=w0) (q:=2) rfl rfl rfl (by omega) (by omega)) rfl rfl ?_)|(refine uE (uM rfl rfl) rfl rfl ?_)|(refine uE (uA rfl rfl) rfl rfl ?_)))))|(refine uD rfl ?_;refine hK _ _ ?_;clear hK K) | refine uS rfl ?_ | refine uR rfl (fun K hK=>?_)|(refine X.brk rfl ?_;repeat (first | refine blockX_hit rfl ?_ | refine blockX_miss (by decide) ?_)) | refine X.skip rfl ?_ | refine X.ret rfl ?_ | (refine X.ite rfl rfl (fun hc=>?_);(first | (with_reducible refine Xb.f hc ?_)) <;> clear hc))
        exact ret_one (by simp) Tryz.results35 rfl (H' := H) (by repeat (first | exact qR _ | apply qK | apply qC)) ⟨rfl,rfl⟩
def GOk (G : List Sp) : Prop := ∀ s ∈ G,1 ≤ s.lo∧s.lo ≤ s.hi∧s.hi ≤ 9
theorem GOk.set {G : List Sp} (h : GOk G) {j : Nat} {s : Sp} (hs : 1 ≤ s.lo∧s.lo ≤ s.hi∧s.hi ≤ 9) : GOk (G.set j s):=fun x hx=>by
 rcases List.mem_or_eq_of_mem_set hx with q | rfl
 ·exact h x q
 ·exact hs
theorem gs_ok {B : Bl} (hb : baleOk B) (hc : canB B) : GOk (gsOf B):=by
 intro s hs
 have h1:=hc.1 s hs
 obtain ⟨i,hi⟩:=List.mem_iff_getElem?.1 hs
 have hil:=(List.getElem?_eq_some_iff.1 hi).1
 rw [gsOf_len hb] at hil
 rw [gs_at hb hil] at hi
 have hd : ∀ (l : List Dr) (a : Sp),1 ≤ a.lo → a.hi ≤ 9 → 1 ≤ (l.foldl (stp i) a).lo∧(l.foldl (stp i) a).hi ≤ 9:=by
  intro l
  induction l with
  | nil=>exact fun a g1 g2=>⟨g1,g2⟩
  | cons x l ih =>
   intro a g1 g2
   refine ih (stp i a x) ?_ ?_
   ·unfold stp;split <;> first | (dsimp only;omega) | omega
   ·unfold stp;split <;> first | (dsimp only;omega) | omega
 have h2:=hd B.draws ⟨1,9⟩ (by decide) (by decide)
 have h3 : gr1 B.draws i = s:=Option.some.inj hi
 unfold gr1 at h3
 rw [h3] at h2
 omega
theorem gs_len {B : Bl} (hb : baleOk B) : ((gsOf B).length : Int)=B.layers:=by
 have:=hb.h5
 rw [gsOf_len hb]
 omega
structure Rdy (B : Bl) : Prop where
 ok : baleOk B
 can : canB B
theorem Rdy.l {B : Bl} (h : Rdy B) : B.draws.length ≤ 10∧B.weighs.length ≤ 8:=⟨h.ok.2.2.2.1.1,h.ok.2.2.2.2.1⟩
theorem Rdy.bl {B : Bl} (h : Rdy B) {p : Pb} {H : List Row} (hd : SlE H p.a1 cDr 4 B.draws) (hw : SlE H p.a2 cDr 4 B.weighs) : BlOk H B p:=⟨hd,hw,by have:=h.l.1;omega,by have:=h.l.2;omega⟩
theorem ready_yes (B : Bl) (p : Pb) (H : List Row) (hB : BlOk H B p) (h : Rdy B) : Fc Tryz.prog 30 [.agg (cBl B p).toArray] H (fun v H' => v = .bool true∧H' = H):=by
 have k1:=greatB_spec B p
 have k2:=fun S hS=>bale_spec B p S hS
 have k3:=fun S hS=>true_spec B p S h.ok hS
 have hl:=h.l
 rw [decide_eq_false (by omega)] at k1
 simp only [decide_eq_true h.ok,decide_eq_true h.can] at k2 k3
 refine Fc.mk (callable Tryz.call30) Tryz.func30 rfl Tryz.ntmps30 rfl ?_;dsimp only [fr]
 repeat' (first | (refine uP rfl ?_;(first | ((first | refine uN rfl ?_ | (refine Xo.g rfl rfl ?_;with_reducible refine Xw.tt ?_));(first | (refine uE (uL rfl rfl (uW (te rfl) rfl (qH _) rfl)) rfl rfl ?_)|(refine uC (uT rfl (Args.cons rfl Args.nil)) rfl rfl (k1 _) ?_;rintro _ _ ⟨rfl,rfl⟩)|(refine uC (uT rfl (Args.cons rfl Args.nil)) rfl rfl (k2 _ (hB.sub (fun _ q=>qT _ q))) ?_;rintro _ _ ⟨rfl,rfl⟩)|(refine uC (uT rfl (Args.cons rfl Args.nil)) rfl rfl (k3 _ (hB.sub (fun _ q=>qT _ q))) ?_;rintro _ _ ⟨rfl,rfl⟩)|(refine uE (notF rfl rfl) rfl rfl ?_)|(refine uE (uM rfl rfl) rfl rfl ?_)|(refine uE (uA rfl rfl) rfl rfl ?_)|(refine uE (EvF.pickT rfl rfl rfl) rfl rfl ?_)|(refine Xg.st (StF.boxAgg rfl rfl) rfl rfl ?_;rintro _ _ ⟨bx,rfl,rfl⟩)))))|(refine uD rfl ?_;refine hK _ _ ?_;clear hK K) | refine uS rfl ?_ | refine uR rfl (fun K hK=>?_) | refine X.ret rfl ?_)
 all_goals try (exfalso;contradiction)
 exact ret_one (by simp) Tryz.results30 rfl (H' := H) (by (repeat (first | exact qR _ | apply qC));done) ⟨rfl,rfl⟩
theorem ready_no (B : Bl) (p : Pb) (H : List Row) (hd : SlE H p.a1 cDr 4 B.draws) (hw : SlE H p.a2 cDr 4 B.weighs) (h : ¬ Rdy B) : Fc Tryz.prog 30 [.agg (cBl B p).toArray] H (fun v H' => v = .bool false∧H' = H):=by
 have k1:=greatB_spec B p
 by_cases hg : B.draws.length > 20∨B.weighs.length > 16
 ·rw [decide_eq_true hg] at k1
  refine Fc.mk (callable Tryz.call30) Tryz.func30 rfl Tryz.ntmps30 rfl ?_;dsimp only [fr]
  repeat' (first | (refine uP rfl ?_;(first | ((first | refine uN rfl ?_);(first | (refine uE (uL rfl rfl (uW (te rfl) rfl (qH _) rfl)) rfl rfl ?_)|(refine uC (uT rfl (Args.cons rfl Args.nil)) rfl rfl (k1 _) ?_;rintro _ _ ⟨rfl,rfl⟩)|(refine uE (notT rfl rfl) rfl rfl ?_)|(refine uE (uM rfl rfl) rfl rfl ?_)|(refine uE (uA rfl rfl) rfl rfl ?_)|(refine uE (EvF.pickF rfl rfl rfl) rfl rfl ?_)|(refine Xg.st (StF.boxAgg rfl rfl) rfl rfl ?_;rintro _ _ ⟨bx,rfl,rfl⟩)))|(refine Xo.g rfl rfl ?_;(first | (with_reducible refine Xw.ft rfl rfl ?_)))))|(refine uD rfl ?_;refine hK _ _ ?_;clear hK K) | refine uS rfl ?_ | refine uR rfl (fun K hK=>?_) | refine X.ret rfl ?_)
  all_goals try (exfalso;contradiction)
  exact ret_one (by simp) Tryz.results30 rfl (H' := H) (by (repeat (first | exact qR _ | apply qC));done) ⟨rfl,rfl⟩
 ·rw [decide_eq_false hg] at k1
  have hB : BlOk H B p:=⟨hd,hw,by omega,by omega⟩
  have k2:=fun S hS=>bale_spec B p S hS
  by_cases hb : baleOk B
  ·have k3:=fun S hS=>true_spec B p S hb hS
   have hc : ¬ canB B:=fun q=>h ⟨hb,q⟩
   simp only [decide_eq_true hb,decide_eq_false hc] at k2 k3
   refine Fc.mk (callable Tryz.call30) Tryz.func30 rfl Tryz.ntmps30 rfl ?_;dsimp only [fr]
   repeat' (first | (refine uP rfl ?_;(first | ((first | refine uN rfl ?_ | (refine Xo.g rfl rfl ?_;with_reducible refine Xw.tt ?_));(first | (refine uE (uL rfl rfl (uW (te rfl) rfl (qH _) rfl)) rfl rfl ?_)|(refine uC (uT rfl (Args.cons rfl Args.nil)) rfl rfl (k1 _) ?_;rintro _ _ ⟨rfl,rfl⟩)|(refine uC (uT rfl (Args.cons rfl Args.nil)) rfl rfl (k2 _ (hB.sub (fun _ q=>qT _ q))) ?_;rintro _ _ ⟨rfl,rfl⟩)|(refine uC (uT rfl (Args.cons rfl Args.nil)) rfl rfl (k3 _ (hB.sub (fun _ q=>qT _ q))) ?_;rintro _ _ ⟨rfl,rfl⟩)|(refine uE (notF rfl rfl) rfl rfl ?_)|(refine uE (uM rfl rfl) rfl rfl ?_)|(refine uE (uA rfl rfl) rfl rfl ?_)|(refine uE (EvF.pickT rfl rfl rfl) rfl rfl ?_)|(refine Xg.st (StF.boxAgg rfl rfl) rfl rfl ?_;rintro _ _ ⟨bx,rfl,rfl⟩)))))|(refine uD rfl ?_;refine hK _ _ ?_;clear hK K) | refine uS rfl ?_ | refine uR rfl (fun K hK=>?_) | refine X.ret rfl ?_)
   all_goals try (exfalso;contradiction)
   exact ret_one (by simp) Tryz.results30 rfl (H' := H) (by (repeat (first | exact qR _ | apply qC));done) ⟨rfl,rfl⟩
  ·simp only [decide_eq_false hb] at k2
   refine Fc.mk (callable Tryz.call30) Tryz.func30 rfl Tryz.ntmps30 rfl ?_;dsimp only [fr]
   repeat' (first | (refine uP rfl ?_;(first | ((first | refine uN rfl ?_ | (refine Xo.g rfl rfl ?_;with_reducible refine Xw.tt ?_));(first | (refine uE (uL rfl rfl (uW (te rfl) rfl (qH _) rfl)) rfl rfl ?_)|(refine uC (uT rfl (Args.cons rfl Args.nil)) rfl rfl (k1 _) ?_;rintro _ _ ⟨rfl,rfl⟩)|(refine uC (uT rfl (Args.cons rfl Args.nil)) rfl rfl (k2 _ (hB.sub (fun _ q=>qT _ q))) ?_;rintro _ _ ⟨rfl,rfl⟩)|(refine uE (notF rfl rfl) rfl rfl ?_)|(refine uE (uM rfl rfl) rfl rfl ?_)|(refine uE (uA rfl rfl) rfl rfl ?_)|(refine uE (EvF.pickT rfl rfl rfl) rfl rfl ?_)|(refine uE (EvF.pickF rfl rfl rfl) rfl rfl ?_)|(refine Xg.st (StF.boxAgg rfl rfl) rfl rfl ?_;rintro _ _ ⟨bx,rfl,rfl⟩)))|(refine Xo.g rfl rfl ?_;(first | (with_reducible refine Xw.ft rfl rfl ?_)))))|(refine uD rfl ?_;refine hK _ _ ?_;clear hK K) | refine uS rfl ?_ | refine uR rfl (fun K hK=>?_) | refine X.ret rfl ?_)
   all_goals try (exfalso;contradiction)
   exact ret_one (by simp) Tryz.results30 rfl (H' := H) (by (repeat (first | exact qR _ | apply qC));done) ⟨rfl,rfl⟩
theorem openE_rdy {B : Bl} (h : Rdy B) (k : List Int) (hk : ∀ n ∈ k,1 ≤ n∧n ≤ 4) : openE B ⟨[],k,[],[]⟩ = 0 :=
 oE h.ok h.can (fun _ h=>absurd h List.not_mem_nil) hk (fun _ h=>absurd h List.not_mem_nil) (fun _ h=>absurd h List.not_mem_nil)
def cU (n : Int) : List Value:=[.int .u8 n]
theorem u8_und : (Tryz.prog.underlying 5).isSome = true:=by kernel_rfl
end Go.Proofs.YtbpcbdbclijomaaGreat
namespace Go.Fw
open Go Go.RowKit
def reFs (ts : List TOp) (F0 : FS) (i : Nat) : List (Nat × Nat × Value) → FS
 | []=>F0
 | e::l=>match (tAt ts e.1).sup.contains i with | true=>(e.2.1,e.2.2)::reFs ts F0 i l | false=>reFs ts F0 i l
theorem wpAny_ob6 {P : Program} {n : Nat} {ops : Array Oper} {ts : List TOp} {dom : List Nat} {F0 : FS} {sm : List Nat} (hd : F0.map (·.1)=dom) (hok : okReg3 sm ops ts dom n = true) (rd : Nat → List Nat) (hrd : okRd ts rd ops.size = true) (val : Nat → Env → Value) (rows : Nat → Env → List Row)
  (hloc : ∀ k env i p,i ≠ k → (tAt ts k).sup.contains i = false → val k (upd env i p)=val k env∧rows k (upd env i p)=rows k env)
  (hsm : ∀ i d,sm.contains i = true → (tAt ts i).dst = some d → ∀ env v,lk F0 d = some v → val i env = v)
  {re : List (Nat × Nat × Value)} (hre : ∀ e ∈ re,(tAt ts e.1).dst = some e.2.1∧e.1 < ops.size)
  (R0 : List Row) (hob : ∀ i o,opAt ops.toList i = some o → ObR P n ts rd val rows (reFs ts F0 i re) R0 i o)
  {Q : QT} (hQ : ∀ env t,Ag n F0 t → (∀ i d,i < ops.size → (tAt ts i).dst = some d → t[d]? = some (val i env)) → Q .normal t ((alive ts).flatMap (fun k=>rows k env)++R0))
  {ρ : Option Nat} {ds : List Deferred} {B : Nat} {w0 : World} :
  ∀ (fuel : Nat) (listed : Array Bool) (U A : List Nat) (t : List Value) (H : List Row) (w : World) (env : Env),listed.size = ops.size → U.length = fuel → U.Nodup → (∀ k,k ∈ U ↔ k < ops.size∧listed.getD k true = false) →
   (∀ k,k < ops.size → listed.getD k true = true → ∀ j,(tAt ts k).sup.contains j = true → listed.getD j true = true) →
   A.Nodup → (∀ k,k ∈ A ↔ k < ts.length∧listed.getD k true = true ∧ ∀ j,j < ops.size → listed.getD j true = true → k ∉ (tAt ts j).kills) →
   Ag n F0 t → (∀ e ∈ re,listed.getD e.1 true = false → t[e.2.1]? = some e.2.2) → (∀ k d,k < ops.size → listed.getD k true = true → (tAt ts k).dst = some d → t[d]? = some (val k env)) →
   St B w0 H w → H.Perm (R0++A.flatMap (fun k=>rows k env)) → wpAnyIn (wf ρ) 0 P .any ops (lift ds B w0 Q) fuel listed ⟨t.toArray,ds⟩ w:=by
 unfold okReg3 at hok
 simp only [Bool.and_eq_true,decide_eq_true_eq] at hok
 obtain ⟨⟨⟨hlen,hops⟩,hkn⟩,hps⟩:=hok
 have hopAt : ∀ i o,ops[i]? = some o → okOp3 sm ts dom n ops.size i o = true:=by
  intro i o hi
  have:=List.all_eq_true.1 hops (o,i) (by
   rw [List.mem_zipIdx_iff_getElem?];simpa using hi)
  exact this
 intro fuel
 induction fuel with
 | zero =>
  intro listed U A t H w env hls hUl hUn hU hcl hAn hA hag hr0 hv hS hH
  have hU0 : U = []:=List.eq_nil_of_length_eq_zero hUl
  subst hU0
  have hall : ∀ k,listed.getD k true = true:=by
   intro k
   cases hk : listed.getD k true with
   | true=>rfl
   | false =>
    by_cases h1 : k < ops.size
    ·exact absurd ((hU k).2 ⟨h1,hk⟩) (by simp)
    ·rw [Array.getD_eq_getD_getElem?,Array.getElem?_eq_none (by omega)] at hk;cases hk
  refine ⟨?_,rfl,_,?_,hS.perm (H' := (alive ts).flatMap (fun k=>rows k env)++R0) ?_⟩
  ·unfold Region.ready
   rw [List.filter_eq_nil_iff]
   intro k _
   rw [hall];simp
  ·have:=hQ env t hag (fun i d hi hd=>hv i d hi (hall i) hd)
   simpa using this
  ·refine List.perm_append_comm.trans ((List.Perm.append_left R0 (List.Perm.flatMap_right _ ?_)).trans hH.symm)
   refine perm_of_mem ((List.nodup_range).sublist List.filter_sublist) hAn fun k=>?_
   rw [hA,alive,List.mem_filter,List.mem_range]
   simp only [hall,true_and,Bool.not_eq_true',List.contains_eq_mem,decide_eq_false_iff_not,true_implies]
   refine and_congr_right fun _=>⟨fun h j _ hj=>h (tAt_mem hj),fun h hm=>?_⟩
   obtain ⟨T,hT,hk⟩:=List.mem_flatMap.1 hm
   obtain ⟨j,hj,rfl⟩:=List.mem_iff_getElem.1 hT
   by_cases hj' : j < ops.size
   ·exact h j hj' (by unfold tAt;simp [List.getD,hj,hk])
   ·have:=List.all_eq_true.1 hps ts[j] (by
     rw [List.mem_iff_getElem?]
     exact ⟨j - ops.size,by rw [List.getElem?_drop,show ops.size + (j - ops.size)=j by omega,List.getElem?_eq_getElem hj]⟩)
    simp only [Bool.and_eq_true,List.isEmpty_iff] at this
    rw [this.1] at hk;cases hk
 | succ fuel ih =>
  intro listed U A t H w env hls hUl hUn hU hcl hAn hA hag hr0 hv hS hH
  have hge : ∀ k,ops.size ≤ k → listed.getD k true = true:=fun k hk=>by rw [Array.getD_eq_getD_getElem?,Array.getElem?_eq_none (by omega)];rfl
  have hgd : ∀ k,k < ops.size → listed.getD k false = listed.getD k true:=fun k hk=>by
   rw [Array.getD_eq_getD_getElem?,Array.getD_eq_getD_getElem?,Array.getElem?_eq_getElem (by omega)];rfl
  refine ⟨fun h0=>?_,fun i hi=>?_⟩
  ·exfalso
   have key : ∀ m,m ∈ U → False:=by
    intro m
    induction m using Nat.strongRecOn with
    | _ m ihm =>
     intro hm
     obtain ⟨hms,hml⟩:=(hU m).1 hm
     obtain ⟨o,ho⟩ : ∃ o,ops[m]? = some o:=⟨ops[m],Array.getElem?_eq_getElem hms⟩
     have hc:=hopAt m o ho
     unfold okOp3 at hc
     simp only [Bool.and_eq_true] at hc
     obtain ⟨⟨⟨⟨_,haf⟩,_⟩,_⟩,_⟩:=hc
     by_cases hal : o.after.all (fun e => !Region.binds .any e || listed.getD e.on false)=true
     ·have : m ∈ Region.ready .any ops listed:=by
       unfold Region.ready
       rw [List.mem_filter]
       refine ⟨List.mem_range.2 hms,?_⟩
       rw [hml,ho]
       simp only [Option.map_some,Option.getD_some,Bool.not_false,Bool.true_and]
       exact hal
      rw [h0] at this;cases this
     ·have : ∃ e ∈ o.after, ¬ ((!Region.binds .any e || listed.getD e.on false)=true):=by
       rw [Array.all_eq_true_iff_forall_mem] at hal
       simpa using hal
      obtain ⟨e,he,hne⟩:=this
      have h1:=List.all_eq_true.1 haf e (Array.mem_toList_iff.2 he)
      simp only [Bool.or_eq_true,Bool.not_eq_true',not_or,Bool.not_eq_false,Bool.not_eq_true] at hne h1
      have h2 : e.on < m:=by
       rcases h1 with h1 | h1
       ·rw [hne.1] at h1;cases h1
       ·simpa using h1
      refine ihm e.on h2 ((hU e.on).2 ⟨by omega,?_⟩)
      rw [← hgd e.on (by omega)];exact hne.2
   cases U with
   | nil=>simp at hUl
   | cons u U=>exact key u (List.mem_cons_self ..)
  ·unfold Region.ready at hi
   rw [List.mem_filter,List.mem_range] at hi
   obtain ⟨his,hi2⟩:=hi
   obtain ⟨o,ho⟩ : ∃ o,ops[i]? = some o:=⟨ops[i],Array.getElem?_eq_getElem his⟩
   simp only [ho,Option.map_some,Option.getD_some,Bool.and_eq_true,Bool.not_eq_true'] at hi2
   obtain ⟨hil,hia⟩:=hi2
   have hc:=hopAt i o ho
   unfold okOp3 at hc
   simp only [Bool.and_eq_true] at hc
   obtain ⟨⟨⟨⟨⟨⟨hgu,hdst⟩,hds⟩,haf⟩,hsup⟩,hdeps⟩,hkil⟩:=hc
   have hdst' : o.dst = (tAt ts i).dst:=by simpa using hdst
   rw [Array.all_eq_true_iff_forall_mem] at hia
   have hson : ∀ j,(tAt ts i).sup.contains j = true → j < i∧listed.getD j true = true:=by
    intro j hj
    have h1:=List.all_eq_true.1 hsup j (by simpa using hj)
    simp only [Bool.and_eq_true,decide_eq_true_eq,List.any_eq_true] at h1
    obtain ⟨hji,e,he',hb,h2⟩:=h1
    have he:=Array.mem_toList_iff.1 he'
    refine ⟨hji,?_⟩
    have h3:=hia e he
    rw [hb] at h3
    have h4:=List.all_eq_true.1 haf e he'
    rw [hb] at h4
    simp only [Bool.not_true,Bool.false_or,decide_eq_true_eq] at h3 h4
    rw [hgd e.on (by omega)] at h3
    simp only [Bool.or_eq_true,beq_iff_eq] at h2
    rcases h2 with h2 | h2
    ·rw [← h2];exact h3
    ·exact hcl e.on (by omega) h3 j h2
   have hks : ∀ k ∈ (tAt ts i).kills,k ∈ A:=by
    intro k hk
    rw [hA]
    have h1:=List.all_eq_true.1 hkil k hk
    simp only [Bool.or_eq_true,decide_eq_true_eq] at h1
    refine ⟨?_,?_,fun j hj hjl hkj=>?_⟩
    ·rcases h1 with h1 | h1
     ·have:=(hson k h1).1;omega
     ·omega
    ·rcases h1 with h1 | h1
     ·exact (hson k h1).2
     ·exact hge k h1.1
    ·have:=kills_once hkn hk hkj
     subst this
     rw [hil] at hjl;cases hjl
   have hkin : (tAt ts i).kills.Nodup:=by
    unfold tAt List.getD
    cases hti : ts[i]? with
    | none=>simp
    | some T =>
     simp only [Option.getD_some]
     exact kills_nodup hkn (List.mem_of_getElem? hti)
   obtain ⟨A',hp,hA'n,hA'm⟩:=take_out _ A hkin hAn hks
   have hH1 : ((tAt ts i).kills.flatMap (fun k=>rows k env)++(R0++A'.flatMap (fun k=>rows k env))).Perm H:=by
    refine List.Perm.trans ?_ hH.symm
    refine List.Perm.trans ?_ (List.Perm.append_left R0 (List.Perm.flatMap_right _ hp.symm))
    rw [List.flatMap_append, ← List.append_assoc, ← List.append_assoc]
    exact List.Perm.append_right _ List.perm_append_comm
   have hdp : ∀ k ∈ (tAt ts i).deps,∀ d,(tAt ts k).dst = some d → t[d]? = some (val k env):=by
    intro k hk d hd
    have h1:=List.all_eq_true.1 hdeps k hk
    obtain ⟨h2,h3⟩:=hson k h1
    exact hv k d (by omega) h3 hd
   have hag' : Ag n (reFs ts F0 i re) t:=by
    have hgen : ∀ l : List (Nat × Nat × Value),(∀ e ∈ l,e.1 < ops.size) → (∀ e ∈ l,listed.getD e.1 true = false → t[e.2.1]? = some e.2.2) → Ag n (reFs ts F0 i l) t:=by
     intro l
     induction l with
     | nil=>exact fun _ _=>hag
     | cons e l ihl =>
      intro ha hb
      have hl' := ihl (fun e' he' => ha e' (List.mem_cons_of_mem _ he')) (fun e' he' => hb e' (List.mem_cons_of_mem _ he'))
      unfold reFs
      cases hci : (tAt ts e.1).sup.contains i with
      | false=>exact hl'
      | true =>
       refine hl'.cons (hb e List.mem_cons_self ?_)
       cases hx : listed.getD e.1 true with
       | false=>rfl
       | true=>have:=hcl e.1 (ha e List.mem_cons_self) hx i hci;rw [hil] at this;cases this
    exact hgen re (fun e he=>(hre e he).2) hr0
   have hst:=hob i o (by rw [opAt_eq];simpa using ho)
   have hreads : ∀ k ∈ rd i,∀ r ∈ rows k env,r ∈ R0++A'.flatMap (fun k=>rows k env):=by
    intro k hk r hr
    refine List.mem_append_right _ (List.mem_flatMap.2 ⟨k,?_,hr⟩)
    have h1:=List.all_eq_true.1 (List.all_eq_true.1 hrd i (List.mem_range.2 his)) k hk
    simp only [Bool.and_eq_true,Bool.or_eq_true,decide_eq_true_eq,Bool.not_eq_true'] at h1
    obtain ⟨⟨h1,h2⟩,h3⟩:=h1
    rw [hA'm,hA]
    refine ⟨⟨?_,?_,fun j hj hjl hkj=>?_⟩,by simpa using h2⟩
    ·rcases h1 with h1 | h1
     ·have:=(hson k h1).1;omega
     ·omega
    ·rcases h1 with h1 | h1
     ·exact (hson k h1).2
     ·exact hge k h1.1
    ·have h4:=List.all_eq_true.1 h3 j (List.mem_range.2 hj)
     simp only [Bool.or_eq_true,Bool.not_eq_true'] at h4
     rcases h4 with h4 | h4
     ·rw [List.contains_iff_mem.2 hkj] at h4;cases h4
     ·have:=hcl j hj hjl i h4
      rw [hil] at this;cases this
   have hyv : ∀ j ww,o.guard = some (j,ww) → (tAt ts j).dst ≠ none → yielded ops t.toArray j = bv (val j env):=by
    intro j ww hg hj
    rw [hg] at hgu
    obtain ⟨h1,h2⟩:=hson j hgu
    obtain ⟨d,hd'⟩:=Option.ne_none_iff_exists'.1 hj
    have hoj : ops[j]? = some ops[j]:=Array.getElem?_eq_getElem (by omega)
    have hcj:=hopAt j _ hoj
    unfold okOp3 at hcj
    simp only [Bool.and_eq_true] at hcj
    have hdj : (ops[j]).dst = (tAt ts j).dst:=by simpa using hcj.1.1.1.1.1.2
    exact yielded_bv hoj (by rw [hdj,hd']) (hv j d (by omega) h2 hd')
   have hnext : ∀ (v : Value) (w' : World) (H' : List Row),St B w0 H' w' → (∃ p,((tAt ts i).dst ≠ none → v = val i (upd env i p))∧H'.Perm (rows i (upd env i p)++(R0++A'.flatMap (fun k=>rows k env)))) → wpAnyIn (wf ρ) 0 P .any ops (lift ds B w0 Q) fuel (listed.setIfInBounds i true) ⟨(put t o.dst v).toArray,ds⟩ w' := by
    rintro v w' H' hS' ⟨p,hval,hH'⟩
    have hl' : ∀ k,(listed.setIfInBounds i true).getD k true = if k = i then true else listed.getD k true:=by
     intro k
     rw [Array.getD_eq_getD_getElem?,Array.getD_eq_getD_getElem?,Array.getElem?_setIfInBounds]
     by_cases hki : k = i
     ·subst hki;simp;split <;> rfl
     ·rw [if_neg (fun e=>hki e.symm),if_neg hki]
    have hnot : ∀ k,listed.getD k true = true → (tAt ts k).sup.contains i = false:=by
     intro k hk
     by_cases hks' : k < ops.size
     ·cases hcs : (tAt ts k).sup.contains i with
      | false=>rfl
      | true=>have:=hcl k hks' hk i hcs;rw [hil] at this;cases this
     ·by_cases hkt : k < ts.length
      ·have:=List.all_eq_true.1 hps ts[k] (by
        rw [List.mem_iff_getElem?]
        exact ⟨k - ops.size,by rw [List.getElem?_drop,show ops.size + (k - ops.size)=k by omega,List.getElem?_eq_getElem hkt]⟩)
       simp only [Bool.and_eq_true,List.isEmpty_iff] at this
       have e : tAt ts k = ts[k]:=by unfold tAt;simp [List.getD,hkt]
       rw [e,this.2];rfl
      ·have e : tAt ts k = ⟨none,[],[],[]⟩:=by unfold tAt;simp [List.getD,List.getElem?_eq_none (by omega : ts.length ≤ k)]
       rw [e];rfl
    have hiA : i ∉ A:=fun h=>by have:=((hA i).1 h).2.1;rw [hil] at this;cases this
    refine ih (listed.setIfInBounds i true) (U.erase i) (i::A') (put t o.dst v) H' w' (upd env i p) (by simpa using hls) ?_ (hUn.sublist List.erase_sublist) ?_ ?_ ?_ ?_ ?_ ?_ ?_ hS' ?_
    ·rw [List.length_erase_of_mem ((hU i).2 ⟨his,hil⟩)];omega
    ·intro k
     rw [hUn.mem_erase_iff,hU,hl']
     by_cases hki : k = i
     ·simp [hki]
     ·simp [hki]
    ·intro k hk hkl j hj
     rw [hl'] at hkl ⊢
     split
     ·rfl
     ·by_cases hki : k = i
      ·subst hki;exact (hson j hj).2
      ·rw [if_neg hki] at hkl;exact hcl k hk hkl j hj
    ·exact List.nodup_cons.2 ⟨fun h=>hiA ((hA'm i).1 h).1,hA'n⟩
    ·intro k
     rw [List.mem_cons,hA'm,hA,hl']
     by_cases hki : k = i
     ·subst hki
      simp only [true_or,if_true,true_and,true_iff]
      refine ⟨by omega,fun j hj hjl hkj=>?_⟩
      have h1 : ops[j]? = some ops[j]:=Array.getElem?_eq_getElem hj
      have hcj:=hopAt j _ h1
      unfold okOp3 at hcj
      simp only [Bool.and_eq_true] at hcj
      have h2:=List.all_eq_true.1 hcj.2 k hkj
      simp only [Bool.or_eq_true,decide_eq_true_eq] at h2
      rw [hl'] at hjl
      rcases h2 with h2 | h2
      ·by_cases hjk : j = k
       ·subst hjk;have:=(hson j h2).1;omega
       ·rw [if_neg hjk] at hjl
        have:=hcl j hj hjl k h2
        rw [hil] at this;cases this
      ·omega
     ·simp only [hki,false_or,if_false]
      constructor
      ·rintro ⟨⟨h1,h2,h3⟩,h4⟩
       refine ⟨h1,h2,fun j hj hjl=>?_⟩
       rw [hl'] at hjl
       by_cases hji : j = i
       ·subst hji;exact h4
       ·rw [if_neg hji] at hjl;exact h3 j hj hjl
      ·rintro ⟨h1,h2,h3⟩
       exact ⟨⟨h1,h2,fun j hj hjl=>h3 j hj (by rw [hl'];split;rfl;exact hjl)⟩,h3 i his (by rw [hl',if_pos rfl])⟩
    ·cases hdd : o.dst with
     | none=>exact hag
     | some d =>
      rw [hdst'] at hdd
      rw [hdd] at hds
      simp only [Bool.and_eq_true,decide_eq_true_eq] at hds
      refine ⟨by simpa [put] using hag.1,fun s u hs=>?_⟩
      have h1:=hag.2 s u hs
      simp only [put,List.getElem?_set]
      by_cases hsd : d = s
      ·subst hsd
       have : d ∈ dom:=by
        rw [← hd]
        exact lk_mem hs
       have h2:=hds.1.2
       have hsi : sm.contains i = true:=by simpa [this] using h2
       have e : v = u:=(hval (by rw [hdd];simp)).trans (hsm i d hsi hdd _ u hs)
       rw [if_pos rfl,e]
       exact if_pos (by rw [hag.1];exact hds.1.1)
      ·rw [if_neg hsd]
       exact h1
    ·rintro ⟨i0,d0,u0⟩ he0 hl0
     have hi0 : i0 < ops.size:=(hre _ he0).2
     have hre0 : (tAt ts i0).dst = some d0:=(hre _ he0).1
     dsimp only at hl0 ⊢
     rw [hl'] at hl0
     by_cases hii : i0 = i
     ·rw [if_pos hii] at hl0;cases hl0
     ·rw [if_neg hii] at hl0
      have h1 : t[d0]? = some u0:=hr0 _ he0 hl0
      cases hdd : o.dst with
      | none=>exact h1
      | some d' =>
       simp only [put,List.getElem?_set]
       rw [if_neg]
       ·exact h1
       ·rintro rfl
        rw [hdst'] at hdd
        rcases Nat.lt_or_gt_of_ne hii with hlt | hlt
        ·rw [hdd] at hds
         simp only [Bool.and_eq_true] at hds
         have:=List.all_eq_true.1 hds.2 i0 (List.mem_range.2 hlt)
         simp [hre0] at this
        ·have hck:=hopAt i0 _ (Array.getElem?_eq_getElem hi0)
         unfold okOp3 at hck
         simp only [Bool.and_eq_true] at hck
         have hdk:=hck.1.1.1.1.2
         rw [hre0] at hdk
         simp only [Bool.and_eq_true] at hdk
         have:=List.all_eq_true.1 hdk.2 i (List.mem_range.2 hlt)
         simp [hdd] at this
    ·intro k d hk hkl hkd
     rw [hl'] at hkl
     by_cases hki : k = i
     ·subst hki
      rw [hdst',hkd]
      rw [hkd] at hds
      simp only [Bool.and_eq_true,decide_eq_true_eq] at hds
      simp only [put,List.getElem?_set,if_true]
      rw [if_pos (by rw [hag.1];exact hds.1.1),hval (by rw [hkd];simp)]
     ·rw [if_neg hki] at hkl
      rw [(hloc k env i p (fun e=>hki e.symm) (hnot k hkl)).1]
      have h1:=hv k d hk hkl hkd
      cases hdd : o.dst with
      | none=>exact h1
      | some d' =>
       simp only [put,List.getElem?_set]
       rw [if_neg]
       ·exact h1
       ·rintro rfl
        rw [hdst'] at hdd
        rcases Nat.lt_or_gt_of_ne hki with hlt | hlt
        ·rw [hdd] at hds
         simp only [Bool.and_eq_true] at hds
         have:=List.all_eq_true.1 hds.2 k (List.mem_range.2 hlt)
         simp [hkd] at this
        ·have hck:=hopAt k _ (Array.getElem?_eq_getElem hk)
         unfold okOp3 at hck
         simp only [Bool.and_eq_true] at hck
         have hdk:=hck.1.1.1.1.2
         rw [hkd] at hdk
         simp only [Bool.and_eq_true] at hdk
         have:=List.all_eq_true.1 hdk.2 i (List.mem_range.2 hlt)
         simp [hdd] at this
    ·refine hH'.trans ?_
     have e : A'.flatMap (fun k=>rows k (upd env i p)) = A'.flatMap (fun k=>rows k env):=by
      have : ∀ k ∈ A',rows k (upd env i p)=rows k env:=fun k hk=>by
       have h1:=(hA'm k).1 hk
       have h2:=((hA k).1 h1.1).2.1
       exact (hloc k env i p (fun e=>hiA (e ▸ h1.1)) (hnot k h2)).2
      exact flatMap_congr' this
     rw [List.flatMap_cons,e, ← List.append_assoc, ← List.append_assoc]
     exact List.Perm.append_right _ List.perm_append_comm
   unfold wpOpIn
   simp only [ho]
   rcases hst with ⟨hgr,hst⟩ | ⟨j,ww,hg,hj,hbv,hki,hvi,hri⟩
   ·have hwant : Region.wanted o (yielded ops t.toArray)=true:=by
     unfold Region.wanted
     rcases hgr with hgr | ⟨j,ww,hg,hj,hb⟩
     ·rw [hgr]
     ·rw [hg];simp only [hyv j ww hg hj,hb];simp
    simp only [hwant,if_true]
    exact hst env (R0++A'.flatMap (fun k=>rows k env)) (fun r hr=>List.mem_append_left _ hr) hreads t (ag_fdeps hag' _ hdp) ρ ds B w0 w (hS.perm hH1) _ _ hnext
   ·have hwant : Region.wanted o (yielded ops t.toArray)=false:=by
     unfold Region.wanted
     rw [hg];simp only [hyv j ww hg hj]
     simpa using hbv env
    simp only [hwant,Bool.false_eq_true,if_false]
    rw [put_act]
    refine ⟨fun _ _=>trivial,hnext undef w _ hS ⟨(0,0),fun _=>(hvi _).symm,?_⟩⟩
    --,fun _=>(hvi _).symm,?_⟩
    rw [hri,List.nil_append]
    rw [hki] at hH1
    simpa using hH1.symm
theorem X.regionRs {P : Program} {n : Nat} {c : Code} {F : FS} {H : List Row} {Q : QX} (sm : List Nat) (ts : List TOp) (rd : Nat → List Nat) (dom : List Nat) (F0 : FS) (val : Nat → Env → Value) (rows : Nat → Env → List Row) (env0 : Env) (R0 : List Row)
  (h : c = .region (cid c) (cops c) true) (hm : P.follows .mixedOrders = true) (hsub : Sub F0 F) (hd : F0.map (·.1)=dom) (hok : okReg3 sm (cops c) ts dom n = true) (hrd : okRd ts rd (cops c).size = true)
  (hloc : ∀ k env i p,i ≠ k → (tAt ts k).sup.contains i = false → val k (upd env i p)=val k env∧rows k (upd env i p)=rows k env)
  (hsm : ∀ i d,sm.contains i = true → (tAt ts i).dst = some d → ∀ env v,lk F0 d = some v → val i env = v)
  (hH : (((List.range ts.length).drop (cops c).size).flatMap (fun k=>rows k env0)++R0).Sublist H)
  (re : List (Nat × Nat × Value)) (hre : ∀ e ∈ re,(tAt ts e.1).dst = some e.2.1∧e.1 < (cops c).size) (h0 : ∀ e ∈ re,lk F e.2.1 = some e.2.2)
  (hob' : AllF (cops c).toList 0 fun i o=>ObR P n ts rd val rows (reFs ts F0 i re) R0 i o)
  (hQ : ∀ env t,Ag n F0 t → (∀ i d,i < (cops c).size → (tAt ts i).dst = some d → t[d]? = some (val i env)) → exQ n Q .normal t ((alive ts).flatMap (fun k=>rows k env)++R0)) : X P n c F H Q:=by
 have hob:=fun i o ho=>hob' i o (Nat.zero_le i) ho
 unfold X W
 intro t ha ρ ds B w0 w hS
 rw [h]
 refine wpIn_region_any hm ?_
 have hlen : (cops c).size ≤ ts.length:=by
  have:=hok
  unfold okReg3 at this
  simp only [Bool.and_eq_true,decide_eq_true_eq] at this
  exact this.1.1.1
 have hl : ∀ k d,(Array.replicate (cops c).size false).getD k d = if k < (cops c).size then false else d:=by
  intro k d
  rw [Array.getD_eq_getD_getElem?,Array.getElem?_replicate]
  split <;> rfl
 have hdm : ∀ k,k ∈ (List.range ts.length).drop (cops c).size ↔ (cops c).size ≤ k∧k < ts.length:=by
  intro k
  rw [List.mem_iff_getElem?]
  constructor
  ·rintro ⟨j,hj⟩
   rw [List.getElem?_drop] at hj
   have:=List.getElem?_eq_some_iff.1 hj
   obtain ⟨h1,h2⟩:=this
   simp at h1 h2
   omega
  ·rintro ⟨h1,h2⟩
   exact ⟨k - (cops c).size,by rw [List.getElem?_drop,show (cops c).size + (k - (cops c).size)=k by omega,List.getElem?_range h2]⟩
 refine wpAny_ob6 hd hok rd hrd val rows hloc hsm hre R0 hob hQ (cops c).size _ (List.range (cops c).size) ((List.range ts.length).drop (cops c).size) t _ _ env0 (by simp) (by simp) List.nodup_range ?_ ?_ ((List.nodup_range).sublist (List.drop_sublist _ _)) ?_ (ha.sub hsub) (fun e he _=>ha.2 e.2.1 e.2.2 (h0 e he)) ?_ ((hS.drewN 1).sub hH) List.perm_append_comm
 ·intro k
  rw [List.mem_range,hl]
  by_cases hk : k < (cops c).size <;> simp [hk]
 ·intro k hk hkl
  rw [hl,if_pos hk] at hkl
  cases hkl
 ·intro k
  rw [hdm,hl]
  constructor
  ·rintro ⟨h1,h2⟩
   refine ⟨h2,by rw [if_neg (by omega)],fun j hj hjl=>?_⟩
   rw [hl,if_pos hj] at hjl
   cases hjl
  ·rintro ⟨h1,h2,_⟩
   refine ⟨?_,h1⟩
   by_cases hk : k < (cops c).size
   ·rw [if_pos hk] at h2;cases h2
   ·omega
 ·intro k d hk hkl
  rw [hl,if_pos hk] at hkl
  cases hkl
end Go.Fw
