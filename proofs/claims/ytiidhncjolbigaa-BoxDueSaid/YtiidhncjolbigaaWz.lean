/- BoxDue: for every room and two numbers of points the law returns true (what is due is due by nobody before, in the month that is told just these boxes may have yellowed by more, with more points nothing is due sooner; the examples are as told), and each argument reads afterwards as before. No condition. -/
import Derived.Test.YtiidhncjolbigaaW08
import Derived.OpenShut
import Derived.ProofKit
import Derived.Test.YtiidhncjolbigaaRows
import Derived.WalkKit
import Derived.ChangeOld
import Derived.ShutString
section
set_option linter.unusedVariables false
set_option linter.unusedSimpArgs false
namespace Go.Proofs.Ytiidhncjolbigaa
open Go Go.Fw
set_option maxRecDepth 10000
theorem due_fac2 {R : Rm} (h : Rdy R) (n : Int) : ∃ (d : Nat) (l : List Int) (e : Int),dueF R n = ((d : Int),l,e)∧l.length ≤ 4∧((e = 6∧d = 0∧l = [] ∧ ∀ b m,there R b m → toldF (rng R R.mats ⟨b.id,m⟩ zp) (n + 1)=0)∨(e = 0∧(d : Int)<R.months∧0 < l.length∧(∀ b m,there R b m → m < d → toldF (rng R R.mats ⟨b.id,m⟩ zp) (n + 1)=0)∧(∀ b,there R b d → (toldF (rng R R.mats ⟨b.id,d⟩ zp) (n + 1) ≠ 0 ↔ b.id ∈ l)))):=by
 have key : ∀ b m,there R b m → (toldF (rng R R.mats ⟨b.id,m⟩ zp) (n + 1) ≠ 0 ↔ dueB R n m b.id):=fun b m hb=>by
  rw [due_told]
  have:=rdy_bdz h (rdy_bx h hb.1 hb.2.1 hb.2.2).2.1 (thI_of hb.1 hb.2.1)
  exact ⟨fun q=>q.elim id (fun q=>by unfold dueB;omega),.inl⟩
 have hpos : ∀ b m,there R b m → 0 ≤ m:=fun b m hb=>(rdy_bx h hb.1 hb.2.1 hb.2.2).2.1.1
 have no : ∀ b m,there R b m → ¬ dueB R n m b.id → toldF (rng R R.mats ⟨b.id,m⟩ zp) (n + 1)=0:=fun b m hb hd=>by
  by_cases c : toldF (rng R R.mats ⟨b.id,m⟩ zp) (n + 1)=0
  ·exact c
  ·exact absurd ((key b m hb).1 c) hd
 rcases due_facts h n with ⟨e1,e2⟩ | ⟨d,e1,e2,e3,e4,e5⟩
 ·exact ⟨0,[],6,e1,Nat.zero_le _,.inl ⟨rfl,rfl,rfl,fun b m hb=>no b m hb (e2 b m hb (hpos b m hb))⟩⟩
 ·refine ⟨d,_,0,e2,?_,.inr ⟨rfl,e1,List.length_pos_iff.2 e3,fun b m hb hm=>no b m hb (e4 b m hb (hpos b m hb) hm),fun b hb=>(key b d hb).trans (e5 b hb).symm⟩⟩
  unfold dueL
  rw [List.length_map]
  exact Nat.le_trans (List.length_filter_le _ _) h.ok.ok.b4
set_option maxHeartbeats 16000000 in
theorem boxDue_spec (R : Rm) (p : Pl) (po q : Int) (h1 : 0 ≤ po∧po ≤ 255) (h2 : 0 ≤ q∧q ≤ 255) (H : List Row) (hR : RmOk H R p) :
  Fc Try.prog 11 [.agg (cRm R p).toArray,.int .u8 po,.int .u8 q] H (fun v _=>v = .bool true):=by
 by_cases hrd : Rdy R
 ·have hlb4:=hrd.ok.ok.b4
  have hlb : R.boxes.length ≤ 1000000:=by omega
  have hm1:=hrd.ok.ok.m1
  have hm12:=hrd.ok.ok.m12
  have hn0 : 0 ≤ po % 60∧po % 60 ≤ 59:=by omega
  have kdue:=fun S hS=>kDue_spec R p (po % 60) S hS hlb
  refine Fc.mk (callable Try.call11) Try.func11 rfl Try.ntmps11 rfl ?_;dsimp only [fr]
  repeat' (first | (refine uP rfl ?_;(first | ((first | refine uN rfl ?_ | (refine Xo.g rfl rfl ?_;with_reducible refine Xw.ff ?_));(first | (refine uC (uT rfl Args.nil) rfl rfl (alive_spec _) ?_;rintro _ _ ⟨rfl,rfl⟩)|(refine uE (uL rfl rfl (uW (te rfl) rfl (qH _) rfl)) rfl rfl ?_)|(refine uC (uT rfl (Args.cons rfl Args.nil)) rfl rfl (ready_yes R p _ (hR.sub (fun _ h=>by repeat (first | exact h | apply qT))) hrd) ?_;rintro _ _ ⟨rfl,rfl⟩)|(refine uE (EvF.conv rfl rfl byte_und int_undI (by omega) (by omega)) rfl rfl ?_)|(refine uE (EvF.rem64 rfl rfl rfl (by omega) (by omega)) rfl rfl ?_)|(refine uE (uM rfl rfl) rfl rfl ?_)|(refine uE (uA rfl rfl) rfl rfl ?_)|(refine uE (EvF.pickT rfl rfl rfl) rfl rfl ?_)|(refine uE (EvF.pickF rfl rfl rfl) rfl rfl ?_)|(refine uE (EvF.not rfl rfl) rfl rfl ?_)|(refine Xg.st (StF.boxAgg rfl rfl) rfl rfl ?_;rintro _ _ ⟨bx,rfl,rfl⟩)))|(refine Xo.g rfl rfl ?_;(first | (with_reducible refine Xw.tf rfl rfl ?_)|(with_reducible refine Xw.caseB (fun h=>?_) (fun h=>?_) <;> simp only [h,decide_true,decide_false,Bool.not_true,Bool.not_false,and_self,and_true,true_and,and_false,false_and])))))|(refine uD rfl ?_;refine hK _ _ ?_;clear hK K) | refine uS rfl ?_ | refine uR rfl (fun K hK=>?_) | refine X.skip rfl ?_ | refine X.ret rfl ?_ | (refine X.ite rfl rfl (fun hc=>?_);(first | (with_reducible refine Xb.t hc ?_)|(with_reducible refine Xb.caseB hc (fun h=>?_) (fun h=>?_))) <;> clear hc))
  all_goals try (exfalso;contradiction)
  generalize bx = b3
  obtain ⟨n,hn⟩ : ∃ n,n = po % 60:=⟨_,rfl⟩
  rw [← hn] at kdue hn0 ⊢
  clear hn
  obtain ⟨d,l,e,e1,hll,hcase⟩:=due_fac2 hrd n
  have hmore : ∀ w k,dueF R (n + q)=(w,k,0) → e = 0∧(d : Int)≤w:=fun w k hw=>by
   rcases due_facts hrd (n + q) with ⟨g1,_⟩ | ⟨d2,g1,g2,g3,g4,g5⟩
   ·rw [g1] at hw;cases hw
   ·obtain ⟨d3,l3,w1,w2⟩:=due_more hrd h2.1 (d:=0) (l:=[]) g2
    rw [e1] at w1
    rw [g2] at hw
    injection hw with hw1 _
    injection w1 with z1 z2
    injection z2 with _ z3
    exact ⟨z3,by omega⟩
  have hde : ∀ w : Int,∃ k : List Int,True:=fun _=>⟨[],trivial⟩
  clear hde
  have kkn:=fun (a m : Int) S hS=>kKnown_spec R p a m (n + 1) S hS hlb
  obtain ⟨w2,k2,f2,hd2⟩ : ∃ w k f,dueF R (n + q)=(w,k,f):=⟨_,_,_,rfl⟩
  have kdue2:=fun S hS=>kDue_spec R p (n + q) S hS hlb
  rw [hd2] at kdue2
  have hfin : f2 = 0 → e = 0∧(d : Int)≤w2:=fun h=>hmore w2 k2 (by rw [hd2,h])
  clear hd2 hmore
  have hlc : ((l.length : Nat) : Int)=(l.length : Int):=rfl
  rcases hcase with ⟨rfl,rfl,rfl,hno⟩ | ⟨rfl,hdm,hlp,hno,hin⟩
  ·have kdueA : ∀ S,RmOk S R p → Fc Try.prog 32 [.agg (cRm R p).toArray,.int .i64 n] S (fun v H' => ∃ a c Z,v = .tuple #[.int .i64 (0 : Nat),.slice a 0 c,.int .i64 6]∧SlE (Z++S) a cI 1 ([] : List Int)∧H' = Z++S):=fun S hS=>by
    have:=kdue S hS
    rw [e1] at this
    exact this
   clear e1 kdue
   repeat' (first | (refine uP rfl ?_;(first | ((first | refine uN rfl ?_ | (refine Xo.g rfl rfl ?_;with_reducible refine Xw.tt ?_)|(refine Xo.g rfl rfl ?_;with_reducible refine Xw.ff ?_));(first | (refine uE (uX rfl rfl rfl) rfl rfl ?_)|(refine uC (uT rfl (Args.cons rfl (Args.cons rfl Args.nil))) rfl rfl (kdueA _ (hR.sub (fun _ h=>by repeat (first | exact h | apply qT)))) ?_;rintro _ _ ⟨a,c,Z,rfl,hl0,rfl⟩)|(refine uE (uQ (b:=false) rfl rfl rfl (congrArg some (nd_f (Eq.refl (0 : Int))))) rfl rfl ?_)|(refine uE (uQ (b:=false) rfl rfl rfl (congrArg some (nd_f (Eq.refl (6 : Int))))) rfl rfl ?_)|(refine uE (uQ (b:=true) rfl rfl rfl (congrArg some (nd_t (show ¬ (6 : Int)=0 by decide)))) rfl rfl ?_)|(refine uE (EvF.lenSlice rfl rfl (te rfl)) rfl rfl ?_)|(refine uE (uL rfl rfl (uO (te rfl) rfl (List.mem_append_right _ (qH _)) rfl)) rfl rfl ?_)|(refine uE (uM rfl rfl) rfl rfl ?_)|(refine uE (uA rfl rfl) rfl rfl ?_)|(refine uE (EvF.pickT rfl rfl rfl) rfl rfl ?_)|(refine uE (EvF.pickF rfl rfl rfl) rfl rfl ?_)|(refine uE (uF rfl rfl (te rfl) rfl (te rfl) (by decide)) rfl rfl ?_)))))|(refine uD rfl ?_;refine hK _ _ ?_;clear hK K) | refine uS rfl ?_ | refine uR rfl (fun K hK=>?_) | refine X.block rfl ?_ | refine X.skip rfl ?_ | (refine X.ite rfl rfl (fun hc=>?_);(first | (with_reducible refine Xb.f hc ?_)) <;> clear hc))
   all_goals try (exfalso;contradiction)
   obtain ⟨G,hG⟩ : ∃ G : List Row,G = Z++⟨b3,0,cRm R p,some 26,5⟩::H:=⟨_,rfl⟩
   have hb3 : (⟨b3,0,cRm R p,some 26,5⟩ : Row) ∈ G:=by rw [hG];exact List.mem_append_right _ (qH _)
   have hGR : RmOk G R p:=hR.sub (fun r h=>by rw [hG];exact List.mem_append_right _ (qT _ h))
   have hl : SlE G a cI 1 ([] : List Int):=by rw [hG];exact hl0
   clear hl0 hR kdueA
   refine X.lp rfl (fun r F' H' => ∃ k : Nat,r = R.months.toNat - k∧(k : Int)≤R.months∧G = H'∧F' = [(2,.int .u8 q),(3,.pointer (some ⟨b3,0,none⟩)),(7,.bool true),(8,.int .i64 n),(9,.int .i64 (0 : Nat)),(10,.slice a 0 c),(11,.int .i64 6),(51,.int .i64 R.months),(52,.int .i64 (k : Nat))])
    R.months.toNat [(2,.int .u8 q),(3,.pointer (some ⟨b3,0,none⟩)),(7,.bool true),(8,.int .i64 n),(9,.int .i64 (0 : Nat)),(10,.slice a 0 c),(11,.int .i64 6),(51,.int .i64 R.months),(52,.int .i64 (0 : Nat))] G (by repeat (first | exact uU _ | refine uV rfl ?_)) (by rw [hG];exact qR _) ⟨0,rfl,by omega,rfl,rfl⟩ ?_
   clear hG
   rintro _ _ _ ⟨k,rfl,hk,rfl,rfl⟩
   by_cases hlt : (k : Int)<R.months
   ·repeat' (first | (refine uP rfl ?_;(first | ((first | refine uN rfl ?_);(first | (refine uE (uQ (b:=true) rfl rfl rfl (congrArg some (decide_eq_true hlt))) rfl rfl ?_)|(refine uE (uL rfl rfl (uO (te rfl) rfl hb3 rfl)) rfl rfl ?_)|(refine uE (EvF.lenSlice rfl rfl (te rfl)) rfl rfl ?_)|(refine uE (uM rfl rfl) rfl rfl ?_)|(refine uE (uA rfl rfl) rfl rfl ?_)|(refine uE (uF rfl rfl (te rfl) rfl (te rfl) (by decide)) rfl rfl ?_)))))|(refine uD rfl ?_;refine hK _ _ ?_;clear hK K) | refine uS rfl ?_ | refine uR rfl (fun K hK=>?_) | refine X.block rfl ?_ | refine X.skip rfl ?_ | (refine X.ite rfl rfl (fun hc=>?_);(first | (with_reducible refine Xb.t hc ?_)) <;> clear hc))
    refine X.lp rfl (fun r F' H' => ∃ j : Nat,r = R.boxes.length - j∧j ≤ R.boxes.length∧G = H'∧F' = [(2,.int .u8 q),(3,.pointer (some ⟨b3,0,none⟩)),(7,.bool true),(8,.int .i64 n),(9,.int .i64 (0 : Nat)),(10,.slice a 0 c),(11,.int .i64 6),(12,.int .i64 (k : Nat)),(51,.int .i64 R.months),(52,.int .i64 (k : Nat)),(56,.slice p.a2 R.boxes.length p.c2),(57,.int .i64 R.boxes.length),(58,.int .i64 (j : Nat))])
     R.boxes.length [(2,.int .u8 q),(3,.pointer (some ⟨b3,0,none⟩)),(7,.bool true),(8,.int .i64 n),(9,.int .i64 (0 : Nat)),(10,.slice a 0 c),(11,.int .i64 6),(12,.int .i64 (k : Nat)),(51,.int .i64 R.months),(52,.int .i64 (k : Nat)),(56,.slice p.a2 R.boxes.length p.c2),(57,.int .i64 R.boxes.length),(58,.int .i64 (0 : Nat))] G (by repeat (first | exact uU _ | refine uV rfl ?_)) (qR _) ⟨0,rfl,Nat.zero_le _,rfl,rfl⟩ ?_
    rintro _ _ _ ⟨j,rfl,hj,rfl,rfl⟩
    by_cases hjl : j < R.boxes.length
    ·have hjl' : (j : Int)<(R.boxes.length : Int):=by omega
     obtain ⟨bb,off,x,hq2,hx⟩:=hGR.boxes.elem (i:=j) hjl
     have hxm:=List.mem_of_getElem? hx
     have hbs:=hGR.boxes
     rw [hq2] at hbs ⊢
     by_cases hmd : x.made > (k : Int)
     ·repeat' (first | (refine uP rfl ?_;(first | ((first | refine uN rfl ?_);(first | (refine uE (uQ (b:=true) rfl rfl rfl (congrArg some (decide_eq_true hjl'))) rfl rfl ?_)|(refine uE (uQ (b:=true) rfl rfl rfl (congrArg some (decide_eq_true hmd))) rfl rfl ?_)|(refine uE (uL rfl rfl (LoadV.elA0 hbs hx (te rfl) rfl (fun _ hm=>hm) rfl)) rfl rfl ?_)|(refine Xg.st (StF.alloc rfl Try.zeroValue81 rfl) rfl rfl ?_;rintro _ _ ⟨bx,rfl,rfl⟩)|(refine Xg.st0 (StF.storeAll (i:=0) (vs:=cBx x) rfl rfl rfl (te rfl) rfl rfl rfl rfl) rfl ?_;rintro _ _ ⟨rfl,rfl⟩;dsimp only [List.set])|(refine uE (uL rfl rfl (uO (te rfl) rfl (qH _) rfl)) rfl rfl ?_)|(refine uE (EvF.add64 (p:=(j : Int)) (q:=1) rfl rfl rfl (by omega) (by omega)) rfl rfl ?_)|(refine uE (uM rfl rfl) rfl rfl ?_)|(refine uE (EvF.pickT rfl rfl rfl) rfl rfl ?_)|(refine uE (uF rfl rfl (te rfl) rfl (te rfl) (by decide)) rfl rfl ?_)|(refine uE (EvF.indexSlice rfl rfl rfl (te rfl) (te rfl) (by omega) (by omega)) rfl rfl ?_)))|(refine Xo.g rfl rfl ?_;(first | (with_reducible refine Xw.tf rfl rfl ?_)))|(refine Xo.sk rfl rfl rfl rfl ?_)))|(refine uD rfl ?_;refine hK _ _ ?_;clear hK K) | refine uS rfl ?_ | refine uR rfl (fun K hK=>?_) | refine X.block rfl ?_ | (refine X.brk rfl ?_;repeat (first | refine blockX_hit rfl ?_ | refine blockX_miss (by decide) ?_)) | refine X.skip rfl ?_ | (refine X.ite rfl rfl (fun hc=>?_);(first | (with_reducible refine Xb.t hc ?_)) <;> clear hc))
      all_goals try (exfalso;contradiction)
      exact ⟨_,_,G,(by repeat (first | exact uU _ | refine uV rfl ?_)),(by repeat (first | exact qR _ | apply qK | apply qC)),⟨j + 1,rfl,by omega,rfl,rfl⟩,by omega⟩
     ·have hth : there R x (k : Int):=⟨hxm,by omega,by omega⟩
      have kk:=fun S hS=>kkn x.id (k : Int) S hS
      rw [rdy_yel hrd (rdy_bx hrd hxm (by omega) (by omega)).2.1 (thI_of hxm (by omega))] at kk
      rw [show knP (rng R R.mats ⟨x.id,(k : Int)⟩ zp,0) (n + 1)=(0,0) by show (toldF _ _,0)=_;rw [hno x k hth]] at kk
      repeat' (first | (refine uP rfl ?_;(first | ((first | refine uN rfl ?_ | (refine Xo.g rfl rfl ?_;with_reducible refine Xw.ff ?_));(first | (refine uE (uQ (b:=true) rfl rfl rfl (congrArg some (decide_eq_true hjl'))) rfl rfl ?_)|(refine uE (uL rfl rfl (LoadV.elA0 hbs hx (te rfl) rfl (fun _ hm=>hm) rfl)) rfl rfl ?_)|(refine Xg.st (StF.alloc rfl Try.zeroValue81 rfl) rfl rfl ?_;rintro _ _ ⟨bx,rfl,rfl⟩)|(refine Xg.st0 (StF.storeAll (i:=0) (vs:=cBx x) rfl rfl rfl (te rfl) rfl rfl rfl rfl) rfl ?_;rintro _ _ ⟨rfl,rfl⟩;dsimp only [List.set])|(refine uE (uL rfl rfl (uO (te rfl) rfl (qH _) rfl)) rfl rfl ?_)|(refine uE (uL rfl rfl (uW (T:=26) (cs:=cRm R p) (te rfl) rfl (qT _ hb3) rfl)) rfl rfl ?_)|(refine uC (uT rfl (Args.cons rfl (Args.cons rfl (Args.cons rfl (Args.cons rfl Args.nil))))) rfl rfl (kk _ (hGR.sub (fun _ h=>by repeat (first | exact h | apply qT)))) ?_;rintro _ _ ⟨rfl,rfl⟩)|(refine uE (uQ (b:=false) rfl rfl rfl (congrArg some (nd_f (Eq.refl (0 : Int))))) rfl rfl ?_)|(refine uE (uQ (b:=false) rfl rfl rfl (congrArg some (decide_eq_false hmd))) rfl rfl ?_)|(refine uE (EvF.cmpB (b:=false) rfl rfl rfl Try.underlying4 rfl) rfl rfl ?_)|(refine uE (EvF.add64 (p:=n) (q:=1) rfl rfl rfl (by omega) (by omega)) rfl rfl ?_)|(refine uE (EvF.add64 (p:=(j : Int)) (q:=1) rfl rfl rfl (by omega) (by omega)) rfl rfl ?_)|(refine uE (uM rfl rfl) rfl rfl ?_)|(refine uE (uA rfl rfl) rfl rfl ?_)|(refine uE (EvF.pickF rfl rfl rfl) rfl rfl ?_)|(refine uE (uF rfl rfl (te rfl) rfl (te rfl) (by decide)) rfl rfl ?_)|(refine uE (EvF.indexSlice rfl rfl rfl (te rfl) (te rfl) (by omega) (by omega)) rfl rfl ?_)|(refine uE (uX rfl rfl rfl) rfl rfl ?_)))|(refine Xo.g rfl rfl ?_;(first | (with_reducible refine Xw.ft rfl rfl ?_)))))|(refine uD rfl ?_;refine hK _ _ ?_;clear hK K) | refine uS rfl ?_ | refine uR rfl (fun K hK=>?_) | refine X.block rfl ?_ | refine X.skip rfl ?_ | (refine X.ite rfl rfl (fun hc=>?_);(first | (with_reducible refine Xb.t hc ?_)|(with_reducible refine Xb.f hc ?_)) <;> clear hc))
      all_goals try (exfalso;contradiction)
      exact ⟨_,_,G,(by repeat (first | exact uU _ | refine uV rfl ?_)),(by repeat (first | exact qR _ | apply qK | apply qC)),⟨j + 1,rfl,by omega,rfl,rfl⟩,by omega⟩
    ·obtain rfl : j = R.boxes.length:=by omega
     have hjl' : ¬ (R.boxes.length : Int)<(R.boxes.length : Int):=by omega
     repeat' (first | (refine uP rfl ?_;(first | ((first | refine uN rfl ?_);(first | (refine uE (uQ (b:=false) rfl rfl rfl (congrArg some (decide_eq_false hjl'))) rfl rfl ?_)|(refine uE (EvF.add64 (p:=(k : Int)) (q:=1) rfl rfl rfl (by omega) (by omega)) rfl rfl ?_)|(refine uE (uM rfl rfl) rfl rfl ?_)))))|(refine uD rfl ?_;refine hK _ _ ?_;clear hK K) | refine uS rfl ?_ | refine uR rfl (fun K hK=>?_)|(refine X.brk rfl ?_;repeat (first | refine blockX_hit rfl ?_ | refine blockX_miss (by decide) ?_))|(refine X.ite rfl rfl (fun hc=>?_);(first | (with_reducible refine Xb.f hc ?_)) <;> clear hc))
     all_goals try (exfalso;contradiction)
     exact ⟨_,_,G,(by repeat (first | exact uU _ | refine uV rfl ?_)),(by repeat (first | exact qR _ | apply qK | apply qC)),⟨k + 1,rfl,by omega,rfl,rfl⟩,by omega⟩
   ·by_cases hf2 : f2 = 0
    ·obtain ⟨g1,g2⟩:=hfin hf2
     cases g1
    ·have hz9:=hf2
     repeat' (first | (refine uP rfl ?_;(first | ((first | refine uN rfl ?_ | (refine Xo.g rfl rfl ?_;with_reducible refine Xw.tt ?_));(first | (refine uE (uQ (b:=false) rfl rfl rfl (congrArg some (decide_eq_false hlt))) rfl rfl ?_)|(refine uE (uL rfl rfl (uW (T:=26) (cs:=cRm R p) (te rfl) rfl hb3 rfl)) rfl rfl ?_)|(refine uE (uX rfl rfl rfl) rfl rfl ?_)|(refine uE (EvF.conv rfl rfl byte_und int_undI (by omega) (by omega)) rfl rfl ?_)|(refine uE (EvF.add64 rfl rfl rfl (by omega) (by omega)) rfl rfl ?_)|(refine uC (uT rfl (Args.cons rfl (Args.cons rfl Args.nil))) rfl rfl (kdue2 _ (hGR.sub (fun _ h=>by repeat (first | exact h | apply qT)))) ?_;rintro _ _ ⟨a3,c3,Z3,rfl,_,rfl⟩)|(refine uE (uQ (b:=true) rfl rfl rfl (congrArg some (nd_t hf2))) rfl rfl ?_)|(refine uE (uQ (b:=true) rfl rfl rfl (congrArg some (nd_t (show ¬ (6 : Int)=0 by decide)))) rfl rfl ?_)|(refine uE (uM rfl rfl) rfl rfl ?_)|(refine uE (uA rfl rfl) rfl rfl ?_)|(refine uE (EvF.pickT rfl rfl rfl) rfl rfl ?_)))|(refine Xo.g rfl rfl ?_;(first | (with_reducible refine Xw.tf rfl rfl ?_)))|(refine Xo.sk rfl rfl rfl rfl ?_)))|(refine uD rfl ?_;refine hK _ _ ?_;clear hK K) | refine uS rfl ?_ | refine uR rfl (fun K hK=>?_)|(refine X.brk rfl ?_;repeat (first | refine blockX_hit rfl ?_ | refine blockX_miss (by decide) ?_)) | refine X.ret rfl ?_ | (refine X.ite rfl rfl (fun hc=>?_);(first | (with_reducible refine Xb.f hc ?_)) <;> clear hc))
     all_goals try (exfalso;contradiction)
     exact ret_one (by simp) Try.results11 rfl (H' := _) (qR _) rfl
  ·have kdueA : ∀ S,RmOk S R p → Fc Try.prog 32 [.agg (cRm R p).toArray,.int .i64 n] S (fun v H' => ∃ a c Z,v = .tuple #[.int .i64 (d : Nat),.slice a l.length c,.int .i64 0]∧SlE (Z++S) a cI 1 l∧H' = Z++S):=fun S hS=>by
    have:=kdue S hS
    rw [e1] at this
    exact this
   clear e1 kdue
   repeat' (first | (refine uP rfl ?_;(first | ((first | refine uN rfl ?_);(first | (refine uE (uX rfl rfl rfl) rfl rfl ?_)|(refine uC (uT rfl (Args.cons rfl (Args.cons rfl Args.nil))) rfl rfl (kdueA _ (hR.sub (fun _ h=>by repeat (first | exact h | apply qT)))) ?_;rintro _ _ ⟨a,c,Z,rfl,hl0,rfl⟩)|(refine uE (uQ (b:=false) rfl rfl rfl (congrArg some (nd_f (Eq.refl (0 : Int))))) rfl rfl ?_)|(refine uE (uL rfl rfl (uO (te rfl) rfl (List.mem_append_right _ (qH _)) rfl)) rfl rfl ?_)|(refine uE (uM rfl rfl) rfl rfl ?_)|(refine uE (uA rfl rfl) rfl rfl ?_)|(refine uE (EvF.pickF rfl rfl rfl) rfl rfl ?_)|(refine uE (uF rfl rfl (te rfl) rfl (te rfl) (by decide)) rfl rfl ?_)))|(refine Xo.g rfl rfl ?_;(first | (with_reducible refine Xw.ft rfl rfl ?_)))|(refine Xo.sk rfl rfl rfl rfl ?_)))|(refine uD rfl ?_;refine hK _ _ ?_;clear hK K) | refine uS rfl ?_ | refine uR rfl (fun K hK=>?_) | refine X.block rfl ?_ | refine X.skip rfl ?_ | (refine X.ite rfl rfl (fun hc=>?_);(first | (with_reducible refine Xb.f hc ?_)) <;> clear hc))
   all_goals try (exfalso;contradiction)
   obtain ⟨G,hG⟩ : ∃ G : List Row,G = Z++⟨b3,0,cRm R p,some 26,5⟩::H:=⟨_,rfl⟩
   have hb3 : (⟨b3,0,cRm R p,some 26,5⟩ : Row) ∈ G:=by rw [hG];exact List.mem_append_right _ (qH _)
   have hGR : RmOk G R p:=hR.sub (fun r h=>by rw [hG];exact List.mem_append_right _ (qT _ h))
   have hl : SlE G a cI 1 l:=by rw [hG];exact hl0
   clear hl0 hR kdueA
   refine X.lp rfl (fun r F' H' => ∃ k : Nat,r = R.months.toNat - k∧(k : Int)≤R.months∧G = H'∧F' = [(2,.int .u8 q),(3,.pointer (some ⟨b3,0,none⟩)),(7,.bool true),(8,.int .i64 n),(9,.int .i64 (d : Nat)),(10,.slice a l.length c),(11,.int .i64 0),(51,.int .i64 R.months),(52,.int .i64 (k : Nat))])
    R.months.toNat [(2,.int .u8 q),(3,.pointer (some ⟨b3,0,none⟩)),(7,.bool true),(8,.int .i64 n),(9,.int .i64 (d : Nat)),(10,.slice a l.length c),(11,.int .i64 0),(51,.int .i64 R.months),(52,.int .i64 (0 : Nat))] G (by repeat (first | exact uU _ | refine uV rfl ?_)) (by rw [hG];exact qR _) ⟨0,rfl,by omega,rfl,rfl⟩ ?_
   clear hG
   rintro _ _ _ ⟨k,rfl,hk,rfl,rfl⟩
   by_cases hlt : (k : Int)<R.months
   ·repeat' (first | (refine uP rfl ?_;(first | ((first | refine uN rfl ?_);(first | (refine uE (uQ (b:=true) rfl rfl rfl (congrArg some (decide_eq_true hlt))) rfl rfl ?_)|(refine uE (uL rfl rfl (uO (te rfl) rfl hb3 rfl)) rfl rfl ?_)|(refine uE (EvF.lenSlice rfl rfl (te rfl)) rfl rfl ?_)|(refine uE (uM rfl rfl) rfl rfl ?_)|(refine uE (uA rfl rfl) rfl rfl ?_)|(refine uE (uF rfl rfl (te rfl) rfl (te rfl) (by decide)) rfl rfl ?_)))))|(refine uD rfl ?_;refine hK _ _ ?_;clear hK K) | refine uS rfl ?_ | refine uR rfl (fun K hK=>?_) | refine X.block rfl ?_ | refine X.skip rfl ?_ | (refine X.ite rfl rfl (fun hc=>?_);(first | (with_reducible refine Xb.t hc ?_)) <;> clear hc))
    refine X.lp rfl (fun r F' H' => ∃ j : Nat,r = R.boxes.length - j∧j ≤ R.boxes.length∧G = H'∧F' = [(2,.int .u8 q),(3,.pointer (some ⟨b3,0,none⟩)),(7,.bool true),(8,.int .i64 n),(9,.int .i64 (d : Nat)),(10,.slice a l.length c),(11,.int .i64 0),(12,.int .i64 (k : Nat)),(51,.int .i64 R.months),(52,.int .i64 (k : Nat)),(56,.slice p.a2 R.boxes.length p.c2),(57,.int .i64 R.boxes.length),(58,.int .i64 (j : Nat))])
     R.boxes.length [(2,.int .u8 q),(3,.pointer (some ⟨b3,0,none⟩)),(7,.bool true),(8,.int .i64 n),(9,.int .i64 (d : Nat)),(10,.slice a l.length c),(11,.int .i64 0),(12,.int .i64 (k : Nat)),(51,.int .i64 R.months),(52,.int .i64 (k : Nat)),(56,.slice p.a2 R.boxes.length p.c2),(57,.int .i64 R.boxes.length),(58,.int .i64 (0 : Nat))] G (by repeat (first | exact uU _ | refine uV rfl ?_)) (qR _) ⟨0,rfl,Nat.zero_le _,rfl,rfl⟩ ?_
    rintro _ _ _ ⟨j,rfl,hj,rfl,rfl⟩
    by_cases hjl : j < R.boxes.length
    ·have hjl' : (j : Int)<(R.boxes.length : Int):=by omega
     obtain ⟨bb,off,x,hq2,hx⟩:=hGR.boxes.elem (i:=j) hjl
     have hxm:=List.mem_of_getElem? hx
     have hbs:=hGR.boxes
     rw [hq2] at hbs ⊢
     by_cases hmd : x.made > (k : Int)
     ·repeat' (first | (refine uP rfl ?_;(first | ((first | refine uN rfl ?_);(first | (refine uE (uQ (b:=true) rfl rfl rfl (congrArg some (decide_eq_true hjl'))) rfl rfl ?_)|(refine uE (uQ (b:=true) rfl rfl rfl (congrArg some (decide_eq_true hmd))) rfl rfl ?_)|(refine uE (uL rfl rfl (LoadV.elA0 hbs hx (te rfl) rfl (fun _ hm=>hm) rfl)) rfl rfl ?_)|(refine Xg.st (StF.alloc rfl Try.zeroValue81 rfl) rfl rfl ?_;rintro _ _ ⟨bx,rfl,rfl⟩)|(refine Xg.st0 (StF.storeAll (i:=0) (vs:=cBx x) rfl rfl rfl (te rfl) rfl rfl rfl rfl) rfl ?_;rintro _ _ ⟨rfl,rfl⟩;dsimp only [List.set])|(refine uE (uL rfl rfl (uO (te rfl) rfl (qH _) rfl)) rfl rfl ?_)|(refine uE (EvF.add64 (p:=(j : Int)) (q:=1) rfl rfl rfl (by omega) (by omega)) rfl rfl ?_)|(refine uE (uM rfl rfl) rfl rfl ?_)|(refine uE (EvF.pickT rfl rfl rfl) rfl rfl ?_)|(refine uE (uF rfl rfl (te rfl) rfl (te rfl) (by decide)) rfl rfl ?_)|(refine uE (EvF.indexSlice rfl rfl rfl (te rfl) (te rfl) (by omega) (by omega)) rfl rfl ?_)))|(refine Xo.g rfl rfl ?_;(first | (with_reducible refine Xw.tf rfl rfl ?_)))|(refine Xo.sk rfl rfl rfl rfl ?_)))|(refine uD rfl ?_;refine hK _ _ ?_;clear hK K) | refine uS rfl ?_ | refine uR rfl (fun K hK=>?_) | refine X.block rfl ?_ | (refine X.brk rfl ?_;repeat (first | refine blockX_hit rfl ?_ | refine blockX_miss (by decide) ?_)) | refine X.skip rfl ?_ | (refine X.ite rfl rfl (fun hc=>?_);(first | (with_reducible refine Xb.t hc ?_)) <;> clear hc))
      all_goals try (exfalso;contradiction)
      exact ⟨_,_,G,(by repeat (first | exact uU _ | refine uV rfl ?_)),(by repeat (first | exact qR _ | apply qK | apply qC)),⟨j + 1,rfl,by omega,rfl,rfl⟩,by omega⟩
     ·by_cases hkd : (k : Int) > ((d : Nat) : Int)
      ·repeat' (first | (refine uP rfl ?_;(first | ((first | refine uN rfl ?_ | (refine Xo.g rfl rfl ?_;with_reducible refine Xw.tt ?_)|(refine Xo.g rfl rfl ?_;with_reducible refine Xw.ff ?_));(first | (refine uE (uQ (b:=true) rfl rfl rfl (congrArg some (decide_eq_true hjl'))) rfl rfl ?_)|(refine uE (uQ (b:=false) rfl rfl rfl (congrArg some (decide_eq_false hmd))) rfl rfl ?_)|(refine uE (uQ (b:=true) rfl rfl rfl (congrArg some (decide_eq_true hkd))) rfl rfl ?_)|(refine uE (uQ (b:=true) rfl rfl rfl (congrArg some (decide_eq_true (Eq.refl (0 : Int))))) rfl rfl ?_)|(refine uE (uL rfl rfl (LoadV.elA0 hbs hx (te rfl) rfl (fun _ hm=>hm) rfl)) rfl rfl ?_)|(refine Xg.st (StF.alloc rfl Try.zeroValue81 rfl) rfl rfl ?_;rintro _ _ ⟨bx,rfl,rfl⟩)|(refine Xg.st0 (StF.storeAll (i:=0) (vs:=cBx x) rfl rfl rfl (te rfl) rfl rfl rfl rfl) rfl ?_;rintro _ _ ⟨rfl,rfl⟩;dsimp only [List.set])|(refine uE (uL rfl rfl (uO (te rfl) rfl (qH _) rfl)) rfl rfl ?_)|(refine uE (EvF.add64 (p:=(j : Int)) (q:=1) rfl rfl rfl (by omega) (by omega)) rfl rfl ?_)|(refine uE (uM rfl rfl) rfl rfl ?_)|(refine uE (EvF.pickT rfl rfl rfl) rfl rfl ?_)|(refine uE (EvF.pickF rfl rfl rfl) rfl rfl ?_)|(refine uE (uF rfl rfl (te rfl) rfl (te rfl) (by decide)) rfl rfl ?_)|(refine uE (EvF.indexSlice rfl rfl rfl (te rfl) (te rfl) (by omega) (by omega)) rfl rfl ?_)))))|(refine uD rfl ?_;refine hK _ _ ?_;clear hK K) | refine uS rfl ?_ | refine uR rfl (fun K hK=>?_) | refine X.block rfl ?_ | (refine X.brk rfl ?_;repeat (first | refine blockX_hit rfl ?_ | refine blockX_miss (by decide) ?_)) | refine X.skip rfl ?_ | (refine X.ite rfl rfl (fun hc=>?_);(first | (with_reducible refine Xb.t hc ?_)) <;> clear hc))
       all_goals try (exfalso;contradiction)
       exact ⟨_,_,G,(by repeat (first | exact uU _ | refine uV rfl ?_)),(by repeat (first | exact qR _ | apply qK | apply qC)),⟨j + 1,rfl,by omega,rfl,rfl⟩,by omega⟩
      ·have hth : there R x (k : Int):=⟨hxm,by omega,by omega⟩
       have kk:=fun S hS=>kkn x.id (k : Int) S hS
       rw [rdy_yel hrd (rdy_bx hrd hxm (by omega) (by omega)).2.1 (thI_of hxm (by omega))] at kk
       by_cases hkd2 : (k : Int)=((d : Nat) : Int)
       ·have hin2:=hin x (by rw [← hkd2];exact hth)
        rw [← hkd2] at hin2
        obtain ⟨t,ht⟩ : ∃ t,t = toldF (rng R R.mats ⟨x.id,(k : Int)⟩ zp) (n + 1):=⟨_,rfl⟩
        rw [show knP (rng R R.mats ⟨x.id,(k : Int)⟩ zp,0) (n + 1)=(t,0) by rw [ht];rfl] at kk
        rw [← ht] at hin2
        clear ht
        have kh:=fun S (hS : SlE S a cI 1 l)=>lawHas l a c x.id S hS (by omega)
        by_cases ht0 : t = 0
        ·rw [decide_eq_false (fun q=>hin2.2 q ht0)] at kh
         repeat' (first | (refine uP rfl ?_;(first | ((first | refine uN rfl ?_ | (refine Xo.g rfl rfl ?_;with_reducible refine Xw.tt ?_)|(refine Xo.g rfl rfl ?_;with_reducible refine Xw.ff ?_));(first | (refine uE (uQ (b:=true) rfl rfl rfl (congrArg some (decide_eq_true hjl'))) rfl rfl ?_)|(refine uE (uL rfl rfl (LoadV.elA0 hbs hx (te rfl) rfl (fun _ hm=>hm) rfl)) rfl rfl ?_)|(refine Xg.st (StF.alloc rfl Try.zeroValue81 rfl) rfl rfl ?_;rintro _ _ ⟨bx,rfl,rfl⟩)|(refine Xg.st0 (StF.storeAll (i:=0) (vs:=cBx x) rfl rfl rfl (te rfl) rfl rfl rfl rfl) rfl ?_;rintro _ _ ⟨rfl,rfl⟩;dsimp only [List.set])|(refine uE (uL rfl rfl (uO (te rfl) rfl (qH _) rfl)) rfl rfl ?_)|(refine uE (uL rfl rfl (uW (T:=26) (cs:=cRm R p) (te rfl) rfl (qT _ hb3) rfl)) rfl rfl ?_)|(refine uC (uT rfl (Args.cons rfl (Args.cons rfl (Args.cons rfl (Args.cons rfl Args.nil))))) rfl rfl (kk _ (hGR.sub (fun _ h=>by repeat (first | exact h | apply qT)))) ?_;rintro _ _ ⟨rfl,rfl⟩)|(refine uE (uQ (b:=false) rfl rfl rfl (congrArg some (nd_f (Eq.refl (0 : Int))))) rfl rfl ?_)|(refine uE (uQ (b:=false) rfl rfl rfl (congrArg some (decide_eq_false hmd))) rfl rfl ?_)|(refine uE (uQ (b:=false) rfl rfl rfl (congrArg some (decide_eq_false hkd))) rfl rfl ?_)|(refine uE (uQ (b:=true) rfl rfl rfl (congrArg some (decide_eq_true hkd2))) rfl rfl ?_)|(refine uE (uQ (b:=true) rfl rfl rfl (congrArg some (decide_eq_true (Eq.refl (0 : Int))))) rfl rfl ?_)|(refine uE (uQ (b:=false) rfl rfl rfl (congrArg some (nd_f ht0))) rfl rfl ?_)|(refine uC (uT rfl (Args.cons rfl (Args.cons rfl Args.nil))) rfl rfl (kh _ (hl.sub (fun _ h=>by repeat (first | exact h | apply qT)))) ?_;rintro _ _ ⟨rfl,rfl⟩)|(refine uE (EvF.cmpB (b:=false) rfl rfl rfl Try.underlying4 rfl) rfl rfl ?_)|(refine uE (EvF.add64 (p:=n) (q:=1) rfl rfl rfl (by omega) (by omega)) rfl rfl ?_)|(refine uE (EvF.add64 (p:=(j : Int)) (q:=1) rfl rfl rfl (by omega) (by omega)) rfl rfl ?_)|(refine uE (uM rfl rfl) rfl rfl ?_)|(refine uE (uA rfl rfl) rfl rfl ?_)|(refine uE (EvF.pickT rfl rfl rfl) rfl rfl ?_)|(refine uE (EvF.pickF rfl rfl rfl) rfl rfl ?_)|(refine uE (uF rfl rfl (te rfl) rfl (te rfl) (by decide)) rfl rfl ?_)|(refine uE (EvF.indexSlice rfl rfl rfl (te rfl) (te rfl) (by omega) (by omega)) rfl rfl ?_)|(refine uE (uX rfl rfl rfl) rfl rfl ?_)))))|(refine uD rfl ?_;refine hK _ _ ?_;clear hK K) | refine uS rfl ?_ | refine uR rfl (fun K hK=>?_) | refine X.block rfl ?_ | refine X.skip rfl ?_ | (refine X.ite rfl rfl (fun hc=>?_);(first | (with_reducible refine Xb.t hc ?_)|(with_reducible refine Xb.f hc ?_)) <;> clear hc))
         all_goals try (exfalso;contradiction)
         exact ⟨_,_,G,(by repeat (first | exact uU _ | refine uV rfl ?_)),(by repeat (first | exact qR _ | apply qK | apply qC)),⟨j + 1,rfl,by omega,rfl,rfl⟩,by omega⟩
        ·rw [decide_eq_true (hin2.1 ht0)] at kh
         repeat' (first | (refine uP rfl ?_;(first | ((first | refine uN rfl ?_ | (refine Xo.g rfl rfl ?_;with_reducible refine Xw.tt ?_)|(refine Xo.g rfl rfl ?_;with_reducible refine Xw.ff ?_));(first | (refine uE (uQ (b:=true) rfl rfl rfl (congrArg some (decide_eq_true hjl'))) rfl rfl ?_)|(refine uE (uL rfl rfl (LoadV.elA0 hbs hx (te rfl) rfl (fun _ hm=>hm) rfl)) rfl rfl ?_)|(refine Xg.st (StF.alloc rfl Try.zeroValue81 rfl) rfl rfl ?_;rintro _ _ ⟨bx,rfl,rfl⟩)|(refine Xg.st0 (StF.storeAll (i:=0) (vs:=cBx x) rfl rfl rfl (te rfl) rfl rfl rfl rfl) rfl ?_;rintro _ _ ⟨rfl,rfl⟩;dsimp only [List.set])|(refine uE (uL rfl rfl (uO (te rfl) rfl (qH _) rfl)) rfl rfl ?_)|(refine uE (uL rfl rfl (uW (T:=26) (cs:=cRm R p) (te rfl) rfl (qT _ hb3) rfl)) rfl rfl ?_)|(refine uC (uT rfl (Args.cons rfl (Args.cons rfl (Args.cons rfl (Args.cons rfl Args.nil))))) rfl rfl (kk _ (hGR.sub (fun _ h=>by repeat (first | exact h | apply qT)))) ?_;rintro _ _ ⟨rfl,rfl⟩)|(refine uE (uQ (b:=false) rfl rfl rfl (congrArg some (nd_f (Eq.refl (0 : Int))))) rfl rfl ?_)|(refine uE (uQ (b:=false) rfl rfl rfl (congrArg some (decide_eq_false hmd))) rfl rfl ?_)|(refine uE (uQ (b:=false) rfl rfl rfl (congrArg some (decide_eq_false hkd))) rfl rfl ?_)|(refine uE (uQ (b:=true) rfl rfl rfl (congrArg some (decide_eq_true hkd2))) rfl rfl ?_)|(refine uE (uQ (b:=true) rfl rfl rfl (congrArg some (decide_eq_true (Eq.refl (0 : Int))))) rfl rfl ?_)|(refine uE (uQ (b:=true) rfl rfl rfl (congrArg some (nd_t ht0))) rfl rfl ?_)|(refine uC (uT rfl (Args.cons rfl (Args.cons rfl Args.nil))) rfl rfl (kh _ (hl.sub (fun _ h=>by repeat (first | exact h | apply qT)))) ?_;rintro _ _ ⟨rfl,rfl⟩)|(refine uE (EvF.cmpB (b:=false) rfl rfl rfl Try.underlying4 rfl) rfl rfl ?_)|(refine uE (EvF.add64 (p:=n) (q:=1) rfl rfl rfl (by omega) (by omega)) rfl rfl ?_)|(refine uE (EvF.add64 (p:=(j : Int)) (q:=1) rfl rfl rfl (by omega) (by omega)) rfl rfl ?_)|(refine uE (uM rfl rfl) rfl rfl ?_)|(refine uE (uA rfl rfl) rfl rfl ?_)|(refine uE (EvF.pickT rfl rfl rfl) rfl rfl ?_)|(refine uE (EvF.pickF rfl rfl rfl) rfl rfl ?_)|(refine uE (uF rfl rfl (te rfl) rfl (te rfl) (by decide)) rfl rfl ?_)|(refine uE (EvF.indexSlice rfl rfl rfl (te rfl) (te rfl) (by omega) (by omega)) rfl rfl ?_)|(refine uE (uX rfl rfl rfl) rfl rfl ?_)))))|(refine uD rfl ?_;refine hK _ _ ?_;clear hK K) | refine uS rfl ?_ | refine uR rfl (fun K hK=>?_) | refine X.block rfl ?_ | refine X.skip rfl ?_ | (refine X.ite rfl rfl (fun hc=>?_);(first | (with_reducible refine Xb.t hc ?_)|(with_reducible refine Xb.f hc ?_)) <;> clear hc))
         all_goals try (exfalso;contradiction)
         exact ⟨_,_,G,(by repeat (first | exact uU _ | refine uV rfl ?_)),(by repeat (first | exact qR _ | apply qK | apply qC)),⟨j + 1,rfl,by omega,rfl,rfl⟩,by omega⟩
       ·rw [show knP (rng R R.mats ⟨x.id,(k : Int)⟩ zp,0) (n + 1)=(0,0) by show (toldF _ _,0)=_;rw [hno x k hth (by omega)]] at kk
        repeat' (first | (refine uP rfl ?_;(first | ((first | refine uN rfl ?_ | (refine Xo.g rfl rfl ?_;with_reducible refine Xw.tt ?_)|(refine Xo.g rfl rfl ?_;with_reducible refine Xw.ff ?_));(first | (refine uE (uQ (b:=true) rfl rfl rfl (congrArg some (decide_eq_true hjl'))) rfl rfl ?_)|(refine uE (uL rfl rfl (LoadV.elA0 hbs hx (te rfl) rfl (fun _ hm=>hm) rfl)) rfl rfl ?_)|(refine Xg.st (StF.alloc rfl Try.zeroValue81 rfl) rfl rfl ?_;rintro _ _ ⟨bx,rfl,rfl⟩)|(refine Xg.st0 (StF.storeAll (i:=0) (vs:=cBx x) rfl rfl rfl (te rfl) rfl rfl rfl rfl) rfl ?_;rintro _ _ ⟨rfl,rfl⟩;dsimp only [List.set])|(refine uE (uL rfl rfl (uO (te rfl) rfl (qH _) rfl)) rfl rfl ?_)|(refine uE (uL rfl rfl (uW (T:=26) (cs:=cRm R p) (te rfl) rfl (qT _ hb3) rfl)) rfl rfl ?_)|(refine uC (uT rfl (Args.cons rfl (Args.cons rfl (Args.cons rfl (Args.cons rfl Args.nil))))) rfl rfl (kk _ (hGR.sub (fun _ h=>by repeat (first | exact h | apply qT)))) ?_;rintro _ _ ⟨rfl,rfl⟩)|(refine uE (uQ (b:=false) rfl rfl rfl (congrArg some (nd_f (Eq.refl (0 : Int))))) rfl rfl ?_)|(refine uE (uQ (b:=false) rfl rfl rfl (congrArg some (decide_eq_false hmd))) rfl rfl ?_)|(refine uE (uQ (b:=false) rfl rfl rfl (congrArg some (decide_eq_false hkd))) rfl rfl ?_)|(refine uE (uQ (b:=false) rfl rfl rfl (congrArg some (decide_eq_false hkd2))) rfl rfl ?_)|(refine uE (uQ (b:=true) rfl rfl rfl (congrArg some (decide_eq_true (Eq.refl (0 : Int))))) rfl rfl ?_)|(refine uE (EvF.cmpB (b:=false) rfl rfl rfl Try.underlying4 rfl) rfl rfl ?_)|(refine uE (EvF.add64 (p:=n) (q:=1) rfl rfl rfl (by omega) (by omega)) rfl rfl ?_)|(refine uE (EvF.add64 (p:=(j : Int)) (q:=1) rfl rfl rfl (by omega) (by omega)) rfl rfl ?_)|(refine uE (uM rfl rfl) rfl rfl ?_)|(refine uE (uA rfl rfl) rfl rfl ?_)|(refine uE (EvF.pickT rfl rfl rfl) rfl rfl ?_)|(refine uE (EvF.pickF rfl rfl rfl) rfl rfl ?_)|(refine uE (uF rfl rfl (te rfl) rfl (te rfl) (by decide)) rfl rfl ?_)|(refine uE (EvF.indexSlice rfl rfl rfl (te rfl) (te rfl) (by omega) (by omega)) rfl rfl ?_)|(refine uE (uX rfl rfl rfl) rfl rfl ?_)))|(refine Xo.g rfl rfl ?_;(first | (with_reducible refine Xw.ft rfl rfl ?_)))))|(refine uD rfl ?_;refine hK _ _ ?_;clear hK K) | refine uS rfl ?_ | refine uR rfl (fun K hK=>?_) | refine X.block rfl ?_ | refine X.skip rfl ?_ | (refine X.ite rfl rfl (fun hc=>?_);(first | (with_reducible refine Xb.t hc ?_)|(with_reducible refine Xb.f hc ?_)) <;> clear hc))
        all_goals try (exfalso;contradiction)
        exact ⟨_,_,G,(by repeat (first | exact uU _ | refine uV rfl ?_)),(by repeat (first | exact qR _ | apply qK | apply qC)),⟨j + 1,rfl,by omega,rfl,rfl⟩,by omega⟩
    ·obtain rfl : j = R.boxes.length:=by omega
     have hjl' : ¬ (R.boxes.length : Int)<(R.boxes.length : Int):=by omega
     repeat' (first | (refine uP rfl ?_;(first | ((first | refine uN rfl ?_);(first | (refine uE (uQ (b:=false) rfl rfl rfl (congrArg some (decide_eq_false hjl'))) rfl rfl ?_)|(refine uE (EvF.add64 (p:=(k : Int)) (q:=1) rfl rfl rfl (by omega) (by omega)) rfl rfl ?_)|(refine uE (uM rfl rfl) rfl rfl ?_)))))|(refine uD rfl ?_;refine hK _ _ ?_;clear hK K) | refine uS rfl ?_ | refine uR rfl (fun K hK=>?_)|(refine X.brk rfl ?_;repeat (first | refine blockX_hit rfl ?_ | refine blockX_miss (by decide) ?_))|(refine X.ite rfl rfl (fun hc=>?_);(first | (with_reducible refine Xb.f hc ?_)) <;> clear hc))
     all_goals try (exfalso;contradiction)
     exact ⟨_,_,G,(by repeat (first | exact uU _ | refine uV rfl ?_)),(by repeat (first | exact qR _ | apply qK | apply qC)),⟨k + 1,rfl,by omega,rfl,rfl⟩,by omega⟩
   ·by_cases hf2 : f2 = 0
    ·obtain ⟨g1,g2⟩:=hfin hf2
     have g2' : w2 ≥ ((d : Nat) : Int):=g2
     have h0d : ((d : Nat) : Int) ≥ 0:=by omega
     have hlp2 : ((l.length : Nat) : Int) > 0:=by omega
     rw [hf2] at kdue2
     repeat' (first | (refine uP rfl ?_;(first | ((first | refine uN rfl ?_ | (refine Xo.g rfl rfl ?_;with_reducible refine Xw.tt ?_)|(refine Xo.g rfl rfl ?_;with_reducible refine Xw.ff ?_));(first | (refine uE (uQ (b:=false) rfl rfl rfl (congrArg some (decide_eq_false hlt))) rfl rfl ?_)|(refine uE (uL rfl rfl (uW (T:=26) (cs:=cRm R p) (te rfl) rfl hb3 rfl)) rfl rfl ?_)|(refine uE (uX rfl rfl rfl) rfl rfl ?_)|(refine uE (EvF.conv rfl rfl byte_und int_undI (by omega) (by omega)) rfl rfl ?_)|(refine uE (EvF.add64 rfl rfl rfl (by omega) (by omega)) rfl rfl ?_)|(refine uC (uT rfl (Args.cons rfl (Args.cons rfl Args.nil))) rfl rfl (kdue2 _ (hGR.sub (fun _ h=>by repeat (first | exact h | apply qT)))) ?_;rintro _ _ ⟨a3,c3,Z3,rfl,_,rfl⟩)|(refine uE (uQ (b:=true) rfl rfl rfl (congrArg some (decide_eq_true g2'))) rfl rfl ?_)|(refine uE (uQ (b:=false) rfl rfl rfl (congrArg some (nd_f (Eq.refl (0 : Int))))) rfl rfl ?_)|(refine uE (uQ (b:=true) rfl rfl rfl (congrArg some (decide_eq_true (Eq.refl (0 : Int))))) rfl rfl ?_)|(refine uE (EvF.lenSlice rfl rfl (te rfl)) rfl rfl ?_)|(refine uE (uQ (b:=true) rfl rfl rfl (congrArg some (decide_eq_true hlp2))) rfl rfl ?_)|(refine uE (uQ (b:=true) rfl rfl rfl (congrArg some (decide_eq_true h0d))) rfl rfl ?_)|(refine uE (uQ (b:=true) rfl rfl rfl (congrArg some (decide_eq_true hdm))) rfl rfl ?_)|(refine uE (uL rfl rfl (uO (te rfl) rfl (List.mem_append_right _ hb3) rfl)) rfl rfl ?_)|(refine uE (uM rfl rfl) rfl rfl ?_)|(refine uE (uA rfl rfl) rfl rfl ?_)|(refine uE (EvF.pickT rfl rfl rfl) rfl rfl ?_)|(refine uE (EvF.pickF rfl rfl rfl) rfl rfl ?_)|(refine uE (uF rfl rfl (te rfl) rfl (te rfl) (by decide)) rfl rfl ?_)))))|(refine uD rfl ?_;refine hK _ _ ?_;clear hK K) | refine uS rfl ?_ | refine uR rfl (fun K hK=>?_)|(refine X.brk rfl ?_;repeat (first | refine blockX_hit rfl ?_ | refine blockX_miss (by decide) ?_)) | refine X.ret rfl ?_ | (refine X.ite rfl rfl (fun hc=>?_);(first | (with_reducible refine Xb.f hc ?_)) <;> clear hc))
     all_goals try (exfalso;contradiction)
     exact ret_one (by simp) Try.results11 rfl (H' := _) (qR _) rfl
    ·have hz9:=hf2
     have h0d : ((d : Nat) : Int) ≥ 0:=by omega
     have hlp2 : ((l.length : Nat) : Int) > 0:=by omega
     repeat' (first | (refine uP rfl ?_;(first | ((first | refine uN rfl ?_ | (refine Xo.g rfl rfl ?_;with_reducible refine Xw.tt ?_)|(refine Xo.g rfl rfl ?_;with_reducible refine Xw.ff ?_));(first | (refine uE (uQ (b:=false) rfl rfl rfl (congrArg some (decide_eq_false hlt))) rfl rfl ?_)|(refine uE (uL rfl rfl (uW (T:=26) (cs:=cRm R p) (te rfl) rfl hb3 rfl)) rfl rfl ?_)|(refine uE (uX rfl rfl rfl) rfl rfl ?_)|(refine uE (EvF.conv rfl rfl byte_und int_undI (by omega) (by omega)) rfl rfl ?_)|(refine uE (EvF.add64 rfl rfl rfl (by omega) (by omega)) rfl rfl ?_)|(refine uC (uT rfl (Args.cons rfl (Args.cons rfl Args.nil))) rfl rfl (kdue2 _ (hGR.sub (fun _ h=>by repeat (first | exact h | apply qT)))) ?_;rintro _ _ ⟨a3,c3,Z3,rfl,_,rfl⟩)|(refine uE (uQ (b:=true) rfl rfl rfl (congrArg some (nd_t hf2))) rfl rfl ?_)|(refine uE (uQ (b:=false) rfl rfl rfl (congrArg some (nd_f (Eq.refl (0 : Int))))) rfl rfl ?_)|(refine uE (EvF.lenSlice rfl rfl (te rfl)) rfl rfl ?_)|(refine uE (uQ (b:=true) rfl rfl rfl (congrArg some (decide_eq_true hlp2))) rfl rfl ?_)|(refine uE (uQ (b:=true) rfl rfl rfl (congrArg some (decide_eq_true h0d))) rfl rfl ?_)|(refine uE (uQ (b:=true) rfl rfl rfl (congrArg some (decide_eq_true hdm))) rfl rfl ?_)|(refine uE (uL rfl rfl (uO (te rfl) rfl (List.mem_append_right _ hb3) rfl)) rfl rfl ?_)|(refine uE (uM rfl rfl) rfl rfl ?_)|(refine uE (uA rfl rfl) rfl rfl ?_)|(refine uE (EvF.pickT rfl rfl rfl) rfl rfl ?_)|(refine uE (EvF.pickF rfl rfl rfl) rfl rfl ?_)|(refine uE (uF rfl rfl (te rfl) rfl (te rfl) (by decide)) rfl rfl ?_)))|(refine Xo.g rfl rfl ?_;(first | (with_reducible refine Xw.tf rfl rfl ?_)))|(refine Xo.sk rfl rfl rfl rfl ?_)))|(refine uD rfl ?_;refine hK _ _ ?_;clear hK K) | refine uS rfl ?_ | refine uR rfl (fun K hK=>?_)|(refine X.brk rfl ?_;repeat (first | refine blockX_hit rfl ?_ | refine blockX_miss (by decide) ?_)) | refine X.ret rfl ?_ | (refine X.ite rfl rfl (fun hc=>?_);(first | (with_reducible refine Xb.f hc ?_)) <;> clear hc))
     all_goals try (exfalso;contradiction)
     exact ret_one (by simp) Try.results11 rfl (H' := _) (qR _) rfl
 ·refine Fc.mk (callable Try.call11) Try.func11 rfl Try.ntmps11 rfl ?_;dsimp only [fr]
  repeat' (first | (refine uP rfl ?_;(first | ((first | refine uN rfl ?_ | (refine Xo.g rfl rfl ?_;with_reducible refine Xw.ff ?_));(first | (refine uC (uT rfl Args.nil) rfl rfl (alive_spec _) ?_;rintro _ _ ⟨rfl,rfl⟩)|(refine uE (uL rfl rfl (uW (te rfl) rfl (qH _) rfl)) rfl rfl ?_)|(refine uC (uT rfl (Args.cons rfl Args.nil)) rfl rfl (ready_no R p _ (hR.sub (fun _ h=>by repeat (first | exact h | apply qT))) hrd) ?_;rintro _ _ ⟨rfl,rfl⟩)|(refine uE (uM rfl rfl) rfl rfl ?_)|(refine uE (uA rfl rfl) rfl rfl ?_)|(refine uE (EvF.pickT rfl rfl rfl) rfl rfl ?_)|(refine uE (EvF.pickF rfl rfl rfl) rfl rfl ?_)|(refine uE (EvF.not rfl rfl) rfl rfl ?_)|(refine Xg.st (StF.boxAgg rfl rfl) rfl rfl ?_;rintro _ _ ⟨bx,rfl,rfl⟩)))|(refine Xo.g rfl rfl ?_;(first | (with_reducible refine Xw.tf rfl rfl ?_)|(with_reducible refine Xw.caseB (fun h=>?_) (fun h=>?_) <;> simp only [h,decide_true,decide_false,Bool.not_true,Bool.not_false,and_self,and_true,true_and,and_false,false_and])))))|(refine uD rfl ?_;refine hK _ _ ?_;clear hK K) | refine uS rfl ?_ | refine uR rfl (fun K hK=>?_) | refine X.skip rfl ?_ | refine X.ret rfl ?_ | (refine X.ite rfl rfl (fun hc=>?_);(first | (with_reducible refine Xb.t hc ?_)|(with_reducible refine Xb.caseB hc (fun h=>?_) (fun h=>?_))) <;> clear hc))
  all_goals try (exfalso;contradiction)
  exact ret_one (by simp) Try.results11 rfl (H' := _) (qR _) rfl
end Go.Proofs.Ytiidhncjolbigaa
end
section
set_option linter.unusedVariables false
namespace Go.Proofs.Ytiidhncjolbigaa
open Go Go.Fw Go.ChangeShapes Go.WideShapes
set_option maxRecDepth 10000
instance : Inhabited Sp:=⟨⟨0,0⟩⟩
instance : Inhabited Bx:=⟨⟨0,0⟩⟩
instance : Inhabited Mt:=⟨⟨0,0,0,0,0,0⟩⟩
def w64 (n : Int) : Prop:=(Lit.int .i64 n).wf = true
section
variable {H : Type} {enc : TypeId × Value → H} {w : World} {base : Nat} {spare : Nat → Bool} {held : Bool} {fuel : Nat} {cs : List Value} {x : DataW H × List MemPlace}
theorem open_i (h : DataW.trod enc Try.prog w base spare held fuel 3 cs = some x) : ∃ q : Int,cs = cI q∧w64 q:=trod_i (te rfl) h
theorem open_sp (h : DataW.trod enc Try.prog w base spare held fuel 35 cs = some x) : ∃ q : Sp,cs = cSp q∧(w64 q.lo∧w64 q.hi):=by
 obtain ⟨hl,hf⟩:=trod_st (te rfl) h
 obtain ⟨n0,y0,h0⟩:=hf 0 0 3 _ rfl (te rfl)
 obtain ⟨n1,y1,h1⟩:=hf 1 1 3 _ rfl (te rfl)
 match cs,hl with
 | [a,b],_ =>
  obtain ⟨lo,e0,w0⟩:=open_i h0
  obtain ⟨hi,e1,w1⟩:=open_i h1
  simp [cI] at e0 e1
  subst e0 e1
  exact ⟨⟨lo,hi⟩,rfl,w0,w1⟩
theorem open_bx (h : DataW.trod enc Try.prog w base spare held fuel 81 cs = some x) : ∃ q : Bx,cs = cBx q∧(w64 q.id∧w64 q.made):=by
 obtain ⟨hl,hf⟩:=trod_st (te rfl) h
 obtain ⟨n0,y0,h0⟩:=hf 0 0 3 _ rfl (te rfl)
 obtain ⟨n1,y1,h1⟩:=hf 1 1 3 _ rfl (te rfl)
 match cs,hl with
 | [a,b],_ =>
  obtain ⟨lo,e0,w0⟩:=open_i h0
  obtain ⟨hi,e1,w1⟩:=open_i h1
  simp [cI] at e0 e1
  subst e0 e1
  exact ⟨⟨lo,hi⟩,rfl,w0,w1⟩
theorem open_mt (h : DataW.trod enc Try.prog w base spare held fuel 111 cs = some x) : ∃ q : Mt,cs = cMt q∧(w64 q.number∧w64 q.month∧w64 q.a∧w64 q.b∧w64 q.lo∧w64 q.hi):=by
 obtain ⟨hl,hf⟩:=trod_st (te rfl) h
 obtain ⟨n0,y0,h0⟩:=hf 0 0 3 _ rfl (te rfl)
 obtain ⟨n1,y1,h1⟩:=hf 1 1 3 _ rfl (te rfl)
 obtain ⟨n2,y2,h2⟩:=hf 2 2 3 _ rfl (te rfl)
 obtain ⟨n3,y3,h3⟩:=hf 3 3 3 _ rfl (te rfl)
 obtain ⟨n4,y4,h4⟩:=hf 4 4 35 _ rfl (te rfl)
 match cs,hl with
 | [a,b,c,d,e,f],_ =>
  obtain ⟨q0,e0,w0⟩:=open_i h0
  obtain ⟨q1,e1,w1⟩:=open_i h1
  obtain ⟨q2,e2,w2⟩:=open_i h2
  obtain ⟨q3,e3,w3⟩:=open_i h3
  obtain ⟨q4,e4,w4⟩:=open_sp h4
  simp [cI,cSp] at e0 e1 e2 e3 e4
  obtain ⟨e4,e5⟩:=e4
  subst e0 e1 e2 e3 e4 e5
  exact ⟨⟨q0,q1,q2,q3,q4.lo,q4.hi⟩,rfl,w0,w1,w2,w3,w4.1,w4.2⟩
end
structure InRm (w : World) (R : Rm) (p : Pl) : Prop where
 ages : InSl w p.a1 cSp 2 R.ages
 boxes : InSl w p.a2 cBx 2 R.boxes
 mats : InSl w p.a3 cMt 6 R.mats
 mo : w64 R.months
 st : w64 R.step
 k1 : R.ages.length ≤ p.c1
 k2 : R.boxes.length ≤ p.c2
 k3 : R.mats.length ≤ p.c3
def rowsRm (R : Rm) (p : Pl) : List Row:=rowsOf p.a1 cSp R.ages++(rowsOf p.a2 cBx R.boxes++rowsOf p.a3 cMt R.mats)
theorem InRm.rm {w : World} {R : Rm} {p : Pl} {H : List Row} (h : InRm w R p) (hs : ∀ r ∈ rowsRm R p,r ∈ H) : RmOk H R p where
 ages:=h.ages.sl fun r hr=>hs r (List.mem_append_left _ hr)
 boxes:=h.boxes.sl fun r hr=>hs r (List.mem_append_right _ (List.mem_append_left _ hr))
 mats:=h.mats.sl fun r hr=>hs r (List.mem_append_right _ (List.mem_append_right _ hr))
 l1:=by have:=h.ages.2.1;unfold maxLen at this;omega
 l2:=by have:=h.boxes.2.1;unfold maxLen at this;omega
 l3:=by have:=h.mats.2.1;unfold maxLen at this;omega
theorem InRm.ok {w : World} {R : Rm} {p : Pl} {B : Nat} (h : InRm w R p) : ∀ r ∈ rowsRm R p,r.own = none∧r.ok B w:=by
 intro r hr
 rcases List.mem_append.1 hr with hr | hr
 ·exact h.ages.ok r hr
 ·rcases List.mem_append.1 hr with hr | hr
  ·exact h.boxes.ok r hr
  ·exact h.mats.ok r hr
section
variable {H : Type} {enc : TypeId × Value → H} {w : World} {base : Nat} {spare : Nat → Bool} {held : Bool} {v : Value} {d : DataW H} {p : List MemPlace} {r : Reach} {b0 : Nat}
theorem open_room (hv : Value.okWide Try.prog w r b0 26 v) (h : DataW.Trod enc Try.prog w base spare held 26 v d p) : ∃ R pl,v = .agg (cRm R pl).toArray∧InRm w R pl:=by
 obtain ⟨fa,hu,_⟩:=ti_struct (te (T:=26) rfl)
 obtain ⟨⟨cs⟩,rfl,_⟩:=okWide_struct hu hv
 obtain ⟨fuel,hf⟩:=h
 obtain ⟨hl,hf⟩:=trod_st (te rfl) hf
 obtain ⟨n0,y0,h0⟩:=hf 0 0 3 _ rfl (te rfl)
 obtain ⟨n1,y1,h1⟩:=hf 1 1 3 _ rfl (te rfl)
 obtain ⟨n2,y2,h2⟩:=hf 2 2 22 _ rfl (te rfl)
 obtain ⟨n3,y3,h3⟩:=hf 3 3 23 _ rfl (te rfl)
 obtain ⟨n4,y4,h4⟩:=hf 4 4 24 _ rfl (te rfl)
 match cs,hl with
 | [a,b,c,d,e],_ =>
  obtain ⟨q0,e0,w0⟩:=open_i h0
  obtain ⟨q1,e1,w1⟩:=open_i h1
  simp [cI,Value.cells] at e0 e1
  obtain ⟨l2,a2,c2,e2,i2,_,k2⟩:=open_sl (te rfl) (te rfl) rfl (by decide) (fun _ _ _=>open_sp) (fun _=>rfl) h2
  obtain ⟨l3,a3,c3,e3,i3,_,k3⟩:=open_sl (te rfl) (te rfl) rfl (by decide) (fun _ _ _=>open_bx) (fun _=>rfl) h3
  obtain ⟨l4,a4,c4,e4,i4,_,k4⟩:=open_sl (te rfl) (te rfl) rfl (by decide) (fun _ _ _=>open_mt) (fun _=>rfl) h4
  subst e0 e1 e2 e3 e4
  exact ⟨⟨q0,q1,l2,l3,l4⟩,⟨a2,c2,a3,c3,a4,c4⟩,rfl,i2,i3,i4,w0,w1,k2,k3,k4⟩
end
end Go.Proofs.Ytiidhncjolbigaa
end
section
set_option linter.unusedVariables false
namespace Go.Proofs.Ytiidhncjolbigaa
open Go Go.Fw Go.ChangeShapes Go.WideShapes Go.ChangeAt Go.RowKit
set_option linter.unusedVariables false
set_option maxRecDepth 100000
theorem ownK : ownKnob Try.prog.godebug = none:=by kernel_rfl
theorem laidO : laidOutB Try.prog = true:=by kernel_rfl
theorem open_in {w : World} {r : Reach} {b0 : Nat} {v : Value} (hv : Value.okWide Try.prog w r b0 3 v) : ∃ q : Int,v = .int .i64 q:=okWide_int Try.underlying3 hv
theorem boxTells_run (R : Rm) (p : Pl) (a b m : Int) (w : World) (hR : InRm w R p) :
  Calls Try.prog 3 #[.agg (cRm R p).toArray,.int .i64 a,.int .i64 b,.int .i64 m] w fun e w' => e = .returned (.bool true)∧Below w.heap.size w w' :=
 Fc.calls (H:=rowsRm R p) (boxTells_spec R p a b m _ (hR.rm (fun _ h=>h))) (fun r hr=>hR.ok r hr)
theorem lifted (os : Os) (started : os.Started) (H : Type) (enc : TypeId × Value → H) :
  ReturnsInHanded {} Try.checked os 3 .any (Rows.boxTellsSpec.pre6 enc Try.prog Try.f3 Rows.boxTellsRow.domain false) (Rows.boxTellsSpec.post enc Try.prog Try.f3 false true false false):=by
 refine returnsInHanded_of_change (C:=Try.checked) ownK started (by kernel_rfl) Try.func3
  (ChangeSpec.witness6 (enc:=enc) (C:=Try.checked) false ⟨#[], #[.agg (cRm ⟨0,0,[],[],[]⟩ ⟨none,0,none,0,none,0⟩).toArray,.int .i64 0,.int .i64 0,.int .i64 0],[]⟩ 8 (by kernel_rfl) (by kernel_rfl) (by kernel_rfl) (by kernel_rfl)) ?_
 intro W base args ds gs before hval0 hW hcnd _
 have hval : ∀ (j : Nat) t v,Try.f3.params[j]? = some t → args[j]? = some v → Value.okWide Try.prog W .any base t v:=hval0
 have hW' := hW
 obtain ⟨p,q,hA0,hV,rfl,hfz,hnd⟩:=hW
 have hA : DataW.TrodAll enc Try.prog W 0 (fun _=>true) true Try.f3.params.toList args.toList ds p:=hA0
 rw [Try.params3] at hA hval
 obtain ⟨v0,vs0,d0,ds0,p0,q0,hargs,rfl,rfl,h0,r0⟩:=trodAll_cons hA
 obtain ⟨v1,vs1,d1,ds1,p1,q1,rfl,rfl,rfl,h1,r1⟩:=trodAll_cons r0
 obtain ⟨v2,vs2,d2,ds2,p2,q2,rfl,rfl,rfl,h2,r2⟩:=trodAll_cons r1
 obtain ⟨v3,vs3,d3,ds3,p3,q3,rfl,rfl,rfl,h3,r3⟩:=trodAll_cons r2
 obtain ⟨rfl,rfl,rfl⟩:=trodAll_nil r3
 obtain rfl : args = #[v0,v1,v2,v3]:=by cases args;simp_all
 obtain ⟨rfl,rfl⟩:=trodVars_none hV
 have lt : ∀ {t v d ps},DataW.Trod enc Try.prog W 0 (fun _=>true) true t v d ps → ∀ x ∈ ps,x.block < W.heap.size:=fun h=>by obtain ⟨m,hm⟩:=h;exact DataW.trod_lt m _ _ _ hm
 obtain ⟨R,pl,rfl,hR⟩:=open_room (hval 0 _ v0 rfl rfl) h0
 obtain ⟨a,rfl⟩:=open_in (hval 1 _ v1 rfl rfl)
 obtain ⟨b,rfl⟩:=open_in (hval 2 _ v2 rfl rfl)
 obtain ⟨m,rfl⟩:=open_in (hval 3 _ v3 rfl rfl)
 clear hA0 hval0
 refine (boxTells_run R pl a b m W hR).mono fun e W' ⟨he,bel⟩=>?_
 subst he
 exact ⟨_,rfl,_,_,_,[],_,[],hW',trodAll_mk1 (shut_bool Try.underlying4 _),(trodAll_cons_mk (Below.trod laidO (by kernel_rfl) (of_decide_eq_true (by kernel_rfl)) h0 bel (lt h0)) (trodAll_cons_mk (Below.trod laidO (by kernel_rfl) (of_decide_eq_true (by kernel_rfl)) h1 bel (lt h1)) (trodAll_cons_mk (Below.trod laidO (by kernel_rfl) (of_decide_eq_true (by kernel_rfl)) h2 bel (lt h2)) (trodAll_cons_mk (Below.trod laidO (by kernel_rfl) (of_decide_eq_true (by kernel_rfl)) h3 bel (lt h3)) trodAll_mk0)))),rfl,bel.frame _,fun h=>by cases h⟩
theorem over : Rows.boxTellsRow.holds Try.pinned (OpenSpec.ofChange Rows.boxTellsSpec) :=
 OpenClaim.holds_of_wide 3 Try.f3 rfl rfl rfl rfl rfl rfl rfl ⟨rfl,rfl,rfl,rfl,rfl⟩ rfl rfl rfl rfl rfl (by kernel_rfl) Try.func3 (by kernel_rfl)
  (of_decide_eq_true (by kernel_rfl)) (by unfold Func.isWrapper;first | (rw [if_pos (by decide +kernel)];kernel_rfl)|(rw [if_neg (by decide +kernel)];exact ⟨rfl,rfl⟩))
  (fun os started H enc _=>lifted os started H enc)
end Go.Proofs.Ytiidhncjolbigaa
end
section
set_option linter.unusedVariables false
namespace Go.Proofs.Ytiidhncjolbigaa
open Go Go.Fw Go.ChangeShapes Go.WideShapes Go.ChangeAt Go.RowKit
set_option linter.unusedVariables false
set_option maxRecDepth 10000
def u8 (n : Int) : Prop:=0 ≤ n∧n ≤ 255
section
variable {H : Type} {enc : TypeId × Value → H} {w : World} {base : Nat} {spare : Nat → Bool} {held : Bool} {v : Value} {d : DataW H} {p : List MemPlace} {r : Reach} {b0 : Nat}
theorem u8_wf {n : Int} (h : (Lit.int .u8 n).wf = true) : u8 n:=by
 simp [Lit.wf,IntKind.min,IntKind.max,IntKind.signed,IntKind.bits] at h
 exact ⟨by omega,by omega⟩
theorem open_u8 (hv : Value.okWide Try.prog w r b0 5 v) (h : DataW.Trod enc Try.prog w base spare held 5 v d p) : ∃ n,v = .int .u8 n∧u8 n:=by
 obtain ⟨n,h1,_,_,h2⟩:=Go.ChangeShapes.open_int Try.underlying5 hv h
 exact ⟨n,h1,u8_wf h2⟩
end
end Go.Proofs.Ytiidhncjolbigaa
end
section
set_option linter.unusedVariables false
namespace Go.Proofs.Ytiidhncjolbigaa
open Go Go.Fw Go.ChangeShapes Go.WideShapes Go.ChangeAt Go.RowKit
set_option linter.unusedVariables false
set_option maxRecDepth 100000
theorem boxDue_run (R : Rm) (pR : Pl) (po : Int) (q : Int) (w : World) (hpo : u8 po) (hq : u8 q) (hR : InRm w R pR) :
  Calls Try.prog 11 #[.agg (cRm R pR).toArray,.int .u8 po,.int .u8 q] w fun e w' => e = .returned (.bool true)∧Below w.heap.size w w' :=
 Fc.calls (H:=rowsRm R pR) (boxDue_spec R pR po q hpo hq _ (hR.rm (fun _ h=>h))) (fun r hr=>by
  exact hR.ok r hr
 )
theorem boxDue_lifted (os : Os) (started : os.Started) (H : Type) (enc : TypeId × Value → H) :
  ReturnsInHanded {} Try.checked os 11 .any (Rows.boxDueSpec.pre6 enc Try.prog Try.f11 Rows.boxDueRow.domain false) (Rows.boxDueSpec.post enc Try.prog Try.f11 false true false false):=by
 refine returnsInHanded_of_change (C:=Try.checked) ownK started (by kernel_rfl) Try.func11
  (ChangeSpec.witness6 (enc:=enc) (C:=Try.checked) false ⟨#[], #[.agg (cRm ⟨0,0,[],[],[]⟩ ⟨none,0,none,0,none,0⟩).toArray,.int .u8 0,.int .u8 0],[]⟩ 8 (by kernel_rfl) (by kernel_rfl) (by kernel_rfl) (by kernel_rfl)) ?_
 intro W base args ds gs before hval0 hW hcnd _
 have hval : ∀ (j : Nat) t v,Try.f11.params[j]? = some t → args[j]? = some v → Value.okWide Try.prog W .any base t v:=hval0
 have hW' := hW
 obtain ⟨p,q,hA0,hV,rfl,hfz,hnd⟩:=hW
 have hA : DataW.TrodAll enc Try.prog W 0 (fun _=>true) true Try.f11.params.toList args.toList ds p:=hA0
 rw [Try.params11] at hA hval
 obtain ⟨v0,vs0,d0,ds0,p0,q0,hargs,rfl,rfl,h0,r0⟩:=trodAll_cons hA
 obtain ⟨v1,vs1,d1,ds1,p1,q1,rfl,rfl,rfl,h1,r1⟩:=trodAll_cons r0
 obtain ⟨v2,vs2,d2,ds2,p2,q2,rfl,rfl,rfl,h2,r2⟩:=trodAll_cons r1
 obtain ⟨rfl,rfl,rfl⟩:=trodAll_nil r2
 obtain rfl : args = #[v0,v1,v2]:=by cases args;simp_all
 obtain ⟨rfl,rfl⟩:=trodVars_none hV
 have lt : ∀ {t v d ps},DataW.Trod enc Try.prog W 0 (fun _=>true) true t v d ps → ∀ x ∈ ps,x.block < W.heap.size:=fun h=>by obtain ⟨m,hm⟩:=h;exact DataW.trod_lt m _ _ _ hm
 obtain ⟨R,pR,rfl,hR⟩:=open_room (hval 0 _ v0 rfl rfl) h0
 obtain ⟨po,rfl,hpo⟩:=open_u8 (hval 1 _ v1 rfl rfl) h1
 obtain ⟨q,rfl,hq⟩:=open_u8 (hval 2 _ v2 rfl rfl) h2
 clear hA0 hval0
 refine (boxDue_run R pR po q W hpo hq hR).mono fun e W' ⟨he,bel⟩=>?_
 subst he
 exact ⟨_,rfl,_,_,_,[],_,[],hW',trodAll_mk1 (shut_bool Try.underlying4 _),(trodAll_cons_mk (Below.trod laidO (by kernel_rfl) (of_decide_eq_true (by kernel_rfl)) h0 bel (lt h0)) (trodAll_cons_mk (Below.trod laidO (by kernel_rfl) (of_decide_eq_true (by kernel_rfl)) h1 bel (lt h1)) (trodAll_cons_mk (Below.trod laidO (by kernel_rfl) (of_decide_eq_true (by kernel_rfl)) h2 bel (lt h2)) trodAll_mk0))),rfl,bel.frame _,fun h=>by cases h⟩
theorem boxDue_over : Rows.boxDueRow.holds Try.pinned (OpenSpec.ofChange Rows.boxDueSpec) :=
 OpenClaim.holds_of_wide 11 Try.f11 rfl rfl rfl rfl rfl rfl rfl ⟨rfl,rfl,rfl,rfl,rfl⟩ rfl rfl rfl rfl rfl (by kernel_rfl) Try.func11 (by kernel_rfl)
  (of_decide_eq_true (by kernel_rfl)) (by unfold Func.isWrapper;first | (rw [if_pos (by decide +kernel)];kernel_rfl)|(rw [if_neg (by decide +kernel)];exact ⟨rfl,rfl⟩))
  (fun os started H enc _=>boxDue_lifted os started H enc)
theorem boxDue_proved : Rows.BoxDueSaid:=boxDue_over
#print axioms boxDue_proved
end Go.Proofs.Ytiidhncjolbigaa
end
