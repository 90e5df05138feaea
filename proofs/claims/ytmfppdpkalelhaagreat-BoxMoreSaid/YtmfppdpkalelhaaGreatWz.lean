/- BoxMore: for every room, a match, a box and points by numbers the law returns true (one match more never makes less known: spans are no wider, nobody else may be fresh, nothing is due sooner; the examples are as told), and each argument reads afterwards as before. No condition. -/
import Derived.Test.YtmfppdpkalelhaaGreatW08
section
set_option linter.unusedVariables false
set_option linter.unusedSimpArgs false
namespace Go.Proofs.YtmfppdpkalelhaaGreat
open Go Go.Fw
set_option maxRecDepth 10000
theorem ex_inner {R : Rm} {x : Mt} {a b : Pk} {s t : Sp} (h : ExR R R.mats a b s) (g : ExR (putRm R x) (putRm R x).mats a b t) : (s.lo ≤ t.lo∧t.hi ≤ s.hi)∧t.lo ≤ t.hi:=by
 obtain ⟨z1,q1,e1⟩:=g.lo
 obtain ⟨z2,q2,e2⟩:=g.hi
 have a1:=h.all z1 (tru_put.1 q1).1
 have a2:=h.all z2 (tru_put.1 q2).1
 have a3:=g.all z1 q1
 omega
theorem ex_at {R : Rm} {x : Mt} {t : Sp} (g : ExR (putRm R x) (putRm R x).mats ⟨x.a,x.month⟩ ⟨x.b,x.month⟩ t) : x.lo ≤ t.lo:=by
 obtain ⟨z1,q1,e1⟩:=g.lo
 have a1:=(tru_put.1 q1).2
 omega
theorem rdy_put {R : Rm} {x : Mt} (hok : roomOk (putRm R x)) (h : hasT (putRm R x) (putRm R x).mats) : Rdy (putRm R x):=by
 refine ⟨?_,hok,h⟩
 unfold great
 have h1:=hok.ok.m12
 have h2:=hok.1.2.2.2.2.1
 have h3:=hok.ok.b4
 have h4:=hok.1.2.2.2.2.2.2
 omega
theorem more_yel {R : Rm} {x : Mt} (h : Rdy R) (g : Rdy (putRm R x)) {m a : Int} (hm : 0 ≤ m∧m ≤ R.months - 1) (ha : a ∈ thI R m) : ((rng R R.mats ⟨a,m⟩ zp).lo ≤ (rng (putRm R x) (putRm R x).mats ⟨a,m⟩ zp).lo∧(rng (putRm R x) (putRm R x).mats ⟨a,m⟩ zp).hi ≤ (rng R R.mats ⟨a,m⟩ zp).hi)∧(rng (putRm R x) (putRm R x).mats ⟨a,m⟩ zp).lo ≤ (rng (putRm R x) (putRm R x).mats ⟨a,m⟩ zp).hi :=
 ex_inner (rdy_exz h hm ha) (rdy_exz g hm ha)
theorem more_dif {R : Rm} {x : Mt} (h : Rdy R) (g : Rdy (putRm R x)) {m a b : Int} (hm : 0 ≤ m∧m ≤ R.months - 1) (ha : a ∈ thI R m) (hb : b ∈ thI R m) : ((rng R R.mats ⟨a,m⟩ ⟨b,m⟩).lo ≤ (rng (putRm R x) (putRm R x).mats ⟨a,m⟩ ⟨b,m⟩).lo∧(rng (putRm R x) (putRm R x).mats ⟨a,m⟩ ⟨b,m⟩).hi ≤ (rng R R.mats ⟨a,m⟩ ⟨b,m⟩).hi)∧(rng (putRm R x) (putRm R x).mats ⟨a,m⟩ ⟨b,m⟩).lo ≤ (rng (putRm R x) (putRm R x).mats ⟨a,m⟩ ⟨b,m⟩).hi :=
 ex_inner (rdy_ex h hm ha hb) (rdy_ex g hm ha hb)
theorem more_fre {R : Rm} {x : Mt} (h : Rdy R) (g : Rdy (putRm R x)) {m a : Int} (hm : 0 ≤ m∧m ≤ R.months - 1) (ha : a ∈ freL (putRm R x) m) : a ∈ freL R m:=by
 obtain ⟨h1,h2⟩:=mem_fre.1 ha
 have h1' : a ∈ thI R m:=h1
 refine mem_fre.2 ⟨h1',fun b hb=>?_⟩
 have e:=(more_dif h g hm h1' hb).1.1
 have:=h2 b hb
 omega
theorem more_due {R : Rm} {x : Mt} (h : Rdy R) (g : Rdy (putRm R x)) {n : Int} {w : Nat} {k : List Int} (hw : dueF (putRm R x) n = ((w : Int),k,0)) : ∃ d : Nat,∃ l,dueF R n = ((d : Int),l,0)∧d ≤ w:=by
 have hm1:=h.ok.ok.m1
 rcases due_facts g n with ⟨e1,_⟩ | ⟨d2,e1,e2,e3,e4,e5⟩
 ·rw [e1] at hw;cases hw
 ·rw [e2] at hw
  have hd2 : d2 = w:=by injection hw with a _;omega
  subst hd2
  have e1' : (d2 : Int)<R.months:=e1
  obtain ⟨a,ha⟩:=List.exists_mem_of_ne_nil _ e3
  obtain ⟨b,hb,hba,hd⟩:=(mem_dueL (by omega)).1 ha
  have hb' : there R b d2:=hb
  have hin:=more_yel h g (m:=d2) ⟨by omega,by omega⟩ ((mem_thI (by omega)).2 ⟨b,hb',rfl⟩)
  have hbd : dueB R n d2 b.id:=by unfold dueB;omega
  rcases due_facts h n with ⟨g1,g2⟩ | ⟨d3,g1,g2,g3,g4,g5⟩
  ·exact absurd hbd (g2 b d2 hb' (by omega))
  ·refine ⟨d3,_,g2,?_⟩
   rcases Nat.lt_or_ge d2 d3 with c | c
   ·exact absurd hbd (g4 b d2 hb' (by omega) (by omega))
   ·exact c
end Go.Proofs.YtmfppdpkalelhaaGreat
end
section
set_option linter.unusedVariables false
set_option linter.unusedSimpArgs false
namespace Go.Proofs.YtmfppdpkalelhaaGreat
open Go Go.Fw
set_option maxRecDepth 10000
set_option maxHeartbeats 8000000 in
theorem more_r34 (R Rx : Rm) (p px : Pl) (b8 b23 : Nat) (G : List Row) (h8 : (⟨b8,0,cRm R p,some 32,5⟩ : Row) ∈ G) (h23 : (⟨b23,0,cRm Rx px,some 32,5⟩ : Row) ∈ G) (hR : RmOk G R p) (hX : RmOk G Rx px) (hlb : R.boxes.length ≤ 1000000) (hlx : Rx.boxes.length ≤ 1000000) (y : Int) (hy : 0 ≤ y∧y ≤ 255) (hfin : ∀ n,(∃ l,dueF Rx n = (0,l,6)) ∨ ∃ (d w : Nat) (l k : List Int),dueF R n = ((d : Int),l,0)∧dueF Rx n = ((w : Int),k,0)∧d ≤ w) (F : FS) (hF : Sub [(7,.int .u8 y),(8,.pointer (some ⟨b8,0,none⟩)),(17,.bool true),(23,.pointer (some ⟨b23,0,none⟩))] F) :
  X Tryz.prog 256 (csnd (csnd (csnd (csnd (csnd (csnd (csnd (csnd (csnd (csnd (csnd (csnd (csnd (csnd (csnd (csnd (csnd (csnd (cof Tryz.f5))))))))))))))))))) F G (retX Tryz.prog Tryz.f5 (fun v _=>v = .bool true)):=by
 have kd1:=fun S hS=>kDue_spec R p (y % 60) S hS hlb
 have kd2:=fun S hS=>kDue_spec Rx px (y % 60) S hS hlx
 refine X.weak hF (qR _) ?_
 rcases hfin (y % 60) with ⟨l,e2⟩ | ⟨d,w,l,k,e1,e2,hdw⟩
 ·rw [e2] at kd2
  repeat' (first | (refine uP rfl ?_;(first | ((first | refine uN rfl ?_ | (refine Xo.g rfl rfl ?_;with_reducible refine Xw.tt ?_));(first | (refine uE (uX rfl rfl rfl) rfl rfl ?_)|(refine uE (EvF.conv rfl rfl byte_und int_undI (by omega) (by omega)) rfl rfl ?_)|(refine uE (EvF.rem64 rfl rfl rfl (by omega) (by omega)) rfl rfl ?_)|(refine uE (uL rfl rfl (uW (T:=32) (cs:=cRm R p) (te rfl) rfl h8 rfl)) rfl rfl ?_)|(refine uE (uL rfl rfl (uW (T:=32) (cs:=cRm Rx px) (te rfl) rfl (List.mem_append_right _ h23) rfl)) rfl rfl ?_)|(refine uC (uT rfl (Args.cons rfl (Args.cons rfl Args.nil))) rfl rfl (kd1 _ hR) ?_;rintro _ _ ⟨a1,c1,Z1,rfl,_,rfl⟩)|(refine uC (uT rfl (Args.cons rfl (Args.cons rfl Args.nil))) rfl rfl (kd2 _ (hX.sub (fun _ h=>List.mem_append_right _ h))) ?_;rintro _ _ ⟨a2,c2,Z2,rfl,_,rfl⟩)|(refine uE (uQ (b:=true) rfl rfl rfl (congrArg some (nd_t (show ¬ (6 : Int)=0 by decide)))) rfl rfl ?_)|(refine uE (uM rfl rfl) rfl rfl ?_)|(refine uE (uA rfl rfl) rfl rfl ?_)|(refine uE (EvF.pickT rfl rfl rfl) rfl rfl ?_)))|(refine Xo.g rfl rfl ?_;(first | (with_reducible refine Xw.tf rfl rfl ?_)))|(refine Xo.sk rfl rfl rfl rfl ?_)))|(refine uD rfl ?_;refine hK _ _ ?_;clear hK K) | refine uS rfl ?_ | refine uR rfl (fun K hK=>?_) | refine X.ret rfl ?_)
  all_goals try (exfalso;contradiction)
  exact ret_one (by simp) Tryz.results5 rfl (H' := _) (qR _) rfl
 ·rw [e2] at kd2
  rw [e1] at kd1
  have hdw' : (w : Int) ≥ (d : Int):=by omega
  repeat' (first | (refine uP rfl ?_;(first | ((first | refine uN rfl ?_ | (refine Xo.g rfl rfl ?_;with_reducible refine Xw.tt ?_)|(refine Xo.g rfl rfl ?_;with_reducible refine Xw.ff ?_));(first | (refine uE (uX rfl rfl rfl) rfl rfl ?_)|(refine uE (EvF.conv rfl rfl byte_und int_undI (by omega) (by omega)) rfl rfl ?_)|(refine uE (EvF.rem64 rfl rfl rfl (by omega) (by omega)) rfl rfl ?_)|(refine uE (uL rfl rfl (uW (T:=32) (cs:=cRm R p) (te rfl) rfl h8 rfl)) rfl rfl ?_)|(refine uE (uL rfl rfl (uW (T:=32) (cs:=cRm Rx px) (te rfl) rfl (List.mem_append_right _ h23) rfl)) rfl rfl ?_)|(refine uC (uT rfl (Args.cons rfl (Args.cons rfl Args.nil))) rfl rfl (kd1 _ hR) ?_;rintro _ _ ⟨a1,c1,Z1,rfl,_,rfl⟩)|(refine uC (uT rfl (Args.cons rfl (Args.cons rfl Args.nil))) rfl rfl (kd2 _ (hX.sub (fun _ h=>List.mem_append_right _ h))) ?_;rintro _ _ ⟨a2,c2,Z2,rfl,_,rfl⟩)|(refine uE (uQ (b:=false) rfl rfl rfl (congrArg some (nd_f (Eq.refl (0 : Int))))) rfl rfl ?_)|(refine uE (uQ (b:=true) rfl rfl rfl (congrArg some (decide_eq_true (Eq.refl (0 : Int))))) rfl rfl ?_)|(refine uE (uQ (b:=true) rfl rfl rfl (congrArg some (decide_eq_true hdw'))) rfl rfl ?_)|(refine uE (uM rfl rfl) rfl rfl ?_)|(refine uE (uA rfl rfl) rfl rfl ?_)|(refine uE (EvF.pickT rfl rfl rfl) rfl rfl ?_)|(refine uE (EvF.pickF rfl rfl rfl) rfl rfl ?_)))))|(refine uD rfl ?_;refine hK _ _ ?_;clear hK K) | refine uS rfl ?_ | refine uR rfl (fun K hK=>?_) | refine X.ret rfl ?_)
  all_goals try (exfalso;contradiction)
  exact ret_one (by simp) Tryz.results5 rfl (H' := _) (qR _) rfl
end Go.Proofs.YtmfppdpkalelhaaGreat
end
section
set_option linter.unusedVariables false
set_option linter.unusedSimpArgs false
namespace Go.Proofs.YtmfppdpkalelhaaGreat
open Go Go.Fw
set_option maxRecDepth 10000
theorem lawInner (t s : Sp) (h1 : t.lo ≥ s.lo) (h2 : t.hi ≤ s.hi) (h3 : t.lo ≤ t.hi) (H : List Row) : Fc Tryz.prog 33 [.agg (cSp t).toArray,.agg (cSp s).toArray] H (fun v H' => v = .bool true∧H' = H):=by
 refine Fc.mk (callable Tryz.call33) Tryz.func33 rfl Tryz.ntmps33 rfl ?_;dsimp only [fr]
 repeat' (first | (refine uP rfl ?_;(first | ((first | refine uN rfl ?_ | (refine Xo.g rfl rfl ?_;with_reducible refine Xw.tt ?_));(first | (refine uE (uQ (b:=true) rfl rfl rfl (congrArg some (decide_eq_true h1))) rfl rfl ?_)|(refine uE (uQ (b:=true) rfl rfl rfl (congrArg some (decide_eq_true h2))) rfl rfl ?_)|(refine uE (uQ (b:=true) rfl rfl rfl (congrArg some (decide_eq_true h3))) rfl rfl ?_)|(refine uE (uM rfl rfl) rfl rfl ?_)|(refine uE (uA rfl rfl) rfl rfl ?_)|(refine uE (EvF.pickT rfl rfl rfl) rfl rfl ?_)|(refine uE (uF rfl rfl (te rfl) rfl (te rfl) (by decide)) rfl rfl ?_)|(refine uE (uL rfl rfl (uO (te rfl) rfl (qH _) rfl)) rfl rfl ?_)|(refine uE (uL rfl rfl (uO (te rfl) rfl (qT _ (qH _)) rfl)) rfl rfl ?_)|(refine Xg.st (StF.boxAgg rfl rfl) rfl rfl ?_;rintro _ _ ⟨bx,rfl,rfl⟩)))))|(refine uD rfl ?_;refine hK _ _ ?_;clear hK K) | refine uS rfl ?_ | refine uR rfl (fun K hK=>?_) | refine X.ret rfl ?_)
 all_goals try (exfalso;contradiction)
 exact ret_one (by simp) Tryz.results33 rfl (H' := H) (by repeat (first | exact qR _ | apply qK | apply qC)) ⟨rfl,rfl⟩
set_option maxHeartbeats 16000000 in
theorem more_r22 (R Rx : Rm) (p px : Pl) (b8 b23 : Nat) (G : List Row) (h8 : (⟨b8,0,cRm R p,some 32,5⟩ : Row) ∈ G) (h23 : (⟨b23,0,cRm Rx px,some 32,5⟩ : Row) ∈ G) (hR : RmOk G R p) (hX : RmOk G Rx px) (hlb : R.boxes.length ≤ 1000000) (hlx : Rx.boxes.length ≤ 1000000) (y a b m lo : Int) (s t : Sp) (hy : 0 ≤ y∧y ≤ 255) (hfin : ∀ n,(∃ l,dueF Rx n = (0,l,6)) ∨ ∃ (d w : Nat) (l k : List Int),dueF R n = ((d : Int),l,0)∧dueF Rx n = ((w : Int),k,0)∧d ≤ w)
  (e1 : difF R a b m = (s,0)) (e2 : difF Rx a b m = (t,0)) (e3 : freF R m = (freL R m,0)) (e4 : freF Rx m = (freL Rx m,0)) (hst : (s.lo ≤ t.lo∧t.hi ≤ s.hi)∧t.lo ≤ t.hi) (hlo : lo ≤ t.lo) (hfr : ∀ i ∈ freL Rx m,i ∈ freL R m) (hf1 : (freL R m).length ≤ 1000) (hf2 : (freL Rx m).length ≤ 1000) (F : FS) (hF : Sub [(7,.int .u8 y),(8,.pointer (some ⟨b8,0,none⟩)),(17,.bool true),(18,.int .i64 a),(19,.int .i64 b),(20,.int .i64 m),(22,.int .i64 lo),(23,.pointer (some ⟨b23,0,none⟩))] F) :
  X Tryz.prog 256 (csnd (csnd (csnd (csnd (csnd (csnd (csnd (csnd (csnd (csnd (csnd (csnd (cof Tryz.f5))))))))))))) F G (retX Tryz.prog Tryz.f5 (fun v _=>v = .bool true)):=by
 have kd1:=fun S hS=>kDiffer_spec R p a b m S hS hlb
 have kd2:=fun S hS=>kDiffer_spec Rx px a b m S hS hlx
 have kf1:=fun S hS=>kFresh_spec R p m S hS hlb
 have kf2:=fun S hS=>kFresh_spec Rx px m S hS hlx
 rw [e1] at kd1
 rw [e2] at kd2
 rw [e3] at kf1
 rw [e4] at kf2
 have kf1 : ∀ S,RmOk S R p → Fc Tryz.prog 15 [.agg (cRm R p).toArray,.int .i64 m] S (LstR (freL R m) 0 S):=kf1
 have kf2 : ∀ S,RmOk S Rx px → Fc Tryz.prog 15 [.agg (cRm Rx px).toArray,.int .i64 m] S (LstR (freL Rx m) 0 S):=kf2
 have hlo' : ¬ t.lo < lo:=by omega
 have kin:=fun S=>lawInner t s hst.1.1 hst.1.2 hst.2 S
 clear e1 e2 e3 e4
 refine X.weak hF (qR _) ?_
 repeat' (first | (refine uP rfl ?_;(first | ((first | refine uN rfl ?_);(first | (refine uE (uL rfl rfl (uW (T:=32) (cs:=cRm R p) (te rfl) rfl h8 rfl)) rfl rfl ?_)|(refine uC (uT rfl (Args.cons rfl (Args.cons rfl (Args.cons rfl (Args.cons rfl Args.nil))))) rfl rfl (kd1 _ hR) ?_;rintro _ G ⟨rfl,rfl⟩)|(refine Xg.st (StF.alloc rfl Tryz.zeroValue24 rfl) rfl rfl ?_;rintro _ _ ⟨bx,rfl,rfl⟩)|(refine Xg.st0 (StF.storeAll (i:=0) (vs:=cSp s) rfl rfl rfl (te rfl) rfl rfl rfl rfl) rfl ?_;rintro _ _ ⟨rfl,rfl⟩;dsimp only [List.set])|(refine uE (uX rfl rfl rfl) rfl rfl ?_)|(refine uE (uM rfl rfl) rfl rfl ?_)|(refine uE (uA rfl rfl) rfl rfl ?_)))))|(refine uD rfl ?_;refine hK _ _ ?_;clear hK K) | refine uS rfl ?_ | refine uR rfl (fun K hK=>?_))
 all_goals try (exfalso;contradiction)
 generalize bx = b33
 repeat' (first | (refine uP rfl ?_;(first | ((first | refine uN rfl ?_ | (refine Xo.g rfl rfl ?_;with_reducible refine Xw.ff ?_));(first | (refine uE (uL rfl rfl (uW (T:=32) (cs:=cRm Rx px) (te rfl) rfl (qT _ h23) rfl)) rfl rfl ?_)|(refine uC (uT rfl (Args.cons rfl (Args.cons rfl (Args.cons rfl (Args.cons rfl Args.nil))))) rfl rfl (kd2 _ (hX.sub (fun _ h=>qT _ h))) ?_;rintro _ _ ⟨rfl,rfl⟩)|(refine Xg.st (StF.alloc rfl Tryz.zeroValue24 rfl) rfl rfl ?_;rintro _ _ ⟨bx,rfl,rfl⟩)|(refine Xg.st0 (StF.storeAll (i:=0) (vs:=cSp t) rfl rfl rfl (te rfl) rfl rfl rfl rfl) rfl ?_;rintro _ _ ⟨rfl,rfl⟩;dsimp only [List.set])|(refine uE (uX rfl rfl rfl) rfl rfl ?_)|(refine uE (uL rfl rfl (uW (T:=32) (cs:=cRm R p) (te rfl) rfl (qT _ (qT _ h8)) rfl)) rfl rfl ?_)|(refine uC (uT rfl (Args.cons rfl (Args.cons rfl Args.nil))) rfl rfl (kf1 _ (hR.sub (fun _ h=>qT _ (qT _ h)))) ?_;rintro _ _ ⟨a1,c1,Z1,rfl,hl1,rfl⟩)|(refine uE (uL rfl rfl (uW (T:=32) (cs:=cRm Rx px) (te rfl) rfl (List.mem_append_right _ (qT _ (qT _ h23))) rfl)) rfl rfl ?_)|(refine uC (uT rfl (Args.cons rfl (Args.cons rfl Args.nil))) rfl rfl (kf2 _ (hX.sub (fun _ h=>List.mem_append_right _ (qT _ (qT _ h))))) ?_;rintro _ _ ⟨a2,c2,Z2,rfl,hl2,rfl⟩)|(refine uE (uQ (b:=false) rfl rfl rfl (congrArg some (nd_f (Eq.refl (0 : Int))))) rfl rfl ?_)|(refine uE (uL rfl rfl (uW (T:=24) (cs:=cSp t) (te rfl) rfl (List.mem_append_right _ (List.mem_append_right _ (qH _))) rfl)) rfl rfl ?_)|(refine uE (uL rfl rfl (uW (T:=24) (cs:=cSp s) (te rfl) rfl (List.mem_append_right _ (List.mem_append_right _ (qT _ (qH _)))) rfl)) rfl rfl ?_)|(refine uE (uL rfl rfl (uO (te rfl) rfl (List.mem_append_right _ (List.mem_append_right _ (qH _))) rfl)) rfl rfl ?_)|(refine uC (uT rfl (Args.cons rfl (Args.cons rfl Args.nil))) rfl rfl (kin _) ?_;rintro _ _ ⟨rfl,rfl⟩)|(refine uE (uQ (b:=false) rfl rfl rfl (congrArg some (decide_eq_false hlo'))) rfl rfl ?_)|(refine uE (EvF.lenSlice rfl rfl (te rfl)) rfl rfl ?_)|(refine uE (uM rfl rfl) rfl rfl ?_)|(refine uE (uA rfl rfl) rfl rfl ?_)|(refine uE (EvF.pickT rfl rfl rfl) rfl rfl ?_)|(refine uE (EvF.pickF rfl rfl rfl) rfl rfl ?_)|(refine uE (EvF.not rfl rfl) rfl rfl ?_)|(refine uE (uF rfl rfl (te rfl) rfl (te rfl) (by decide)) rfl rfl ?_)))|(refine Xo.g rfl rfl ?_;(first | (with_reducible refine Xw.tf rfl rfl ?_)|(with_reducible refine Xw.caseB (fun h=>?_) (fun h=>?_) <;> simp only [h,decide_true,decide_false,Bool.not_true,Bool.not_false,and_self,and_true,true_and,and_false,false_and])))))|(refine uD rfl ?_;refine hK _ _ ?_;clear hK K) | refine uS rfl ?_ | refine uR rfl (fun K hK=>?_) | refine X.block rfl ?_ | refine X.skip rfl ?_ | refine X.ret rfl ?_ | (refine X.ite rfl rfl (fun hc=>?_);(first | (with_reducible refine Xb.t hc ?_)|(with_reducible refine Xb.f hc ?_)) <;> clear hc))
 all_goals try (exfalso;contradiction)
 have b35q : bx = bx:=rfl
 obtain ⟨G2,hG⟩ : ∃ G2 : List Row,G2 = Z2++(Z1++⟨bx,0,cSp t,some 24,2⟩::⟨b33,0,cSp s,some 24,2⟩::G):=⟨_,rfl⟩
 have hsub : ∀ r ∈ G,r ∈ G2:=fun r h=>by rw [hG];exact List.mem_append_right _ (List.mem_append_right _ (qT _ (qT _ h)))
 have hl1 : SlE G2 a1 cI 1 (freL R m):=hl1.sub (fun r h=>by rw [hG];exact List.mem_append_right _ h)
 have hl2 : SlE G2 a2 cI 1 (freL Rx m):=by rw [hG];exact hl2
 have h8:=hsub _ h8
 have h23:=hsub _ h23
 have hR:=hR.sub hsub
 have hX:=hX.sub hsub
 have khas:=fun (x : Int) S (hS : SlE S a1 cI 1 (freL R m))=>lawHas (freL R m) a1 c1 x S hS (by omega)
 refine X.lp rfl (fun r F' H' => ∃ k : Nat,r = (freL Rx m).length - k∧k ≤ (freL Rx m).length∧G2 = H'∧F' = [(7,.int .u8 y),(8,.pointer (some ⟨b8,0,none⟩)),(17,.bool true),(23,.pointer (some ⟨b23,0,none⟩)),(37,.slice a1 (freL R m).length c1),(214,.slice a2 (freL Rx m).length c2),(215,.int .i64 (freL Rx m).length),(216,.int .i64 (k : Nat))])
  (freL Rx m).length [(7,.int .u8 y),(8,.pointer (some ⟨b8,0,none⟩)),(17,.bool true),(23,.pointer (some ⟨b23,0,none⟩)),(37,.slice a1 (freL R m).length c1),(214,.slice a2 (freL Rx m).length c2),(215,.int .i64 (freL Rx m).length),(216,.int .i64 (0 : Nat))] G2 (by repeat (first | exact uU _ | refine uV rfl ?_)) (by rw [hG];exact qR _) ⟨0,rfl,Nat.zero_le _,rfl,rfl⟩ ?_
 clear hG
 rintro _ _ _ ⟨k,rfl,hk,rfl,rfl⟩
 by_cases hlt : k < (freL Rx m).length
 ·have hlt' : (k : Int)<((freL Rx m).length : Int):=by omega
  obtain ⟨bb,off,e,rfl,he⟩:=hl2.elem (i:=k) hlt
  have kh:=fun S hS=>khas e S hS
  rw [decide_eq_true (hfr e (List.mem_of_getElem? he))] at kh
  repeat' (first | (refine uP rfl ?_;(first | ((first | refine uN rfl ?_);(first | (refine uE (uQ (b:=true) rfl rfl rfl (congrArg some (decide_eq_true hlt'))) rfl rfl ?_)|(refine uE (uL rfl rfl (LoadV.el0 hl2 he (te rfl) rfl (fun _ hm=>hm) rfl)) rfl rfl ?_)|(refine uC (uT rfl (Args.cons rfl (Args.cons rfl Args.nil))) rfl rfl (kh _ hl1) ?_;rintro _ _ ⟨rfl,rfl⟩)|(refine uE (EvF.add64 (p:=(k : Int)) (q:=1) rfl rfl rfl (by omega) (by omega)) rfl rfl ?_)|(refine uE (uM rfl rfl) rfl rfl ?_)|(refine uE (uA rfl rfl) rfl rfl ?_)|(refine uE (EvF.not rfl rfl) rfl rfl ?_)|(refine uE (EvF.indexSlice rfl rfl rfl (te rfl) (te rfl) (by omega) (by omega)) rfl rfl ?_)))))|(refine uD rfl ?_;refine hK _ _ ?_;clear hK K) | refine uS rfl ?_ | refine uR rfl (fun K hK=>?_) | refine X.block rfl ?_ | refine X.skip rfl ?_ | refine X.ret rfl ?_ | (refine X.ite rfl rfl (fun hc=>?_);(first | (with_reducible refine Xb.t hc ?_)|(with_reducible refine Xb.caseB hc (fun h=>?_) (fun h=>?_))) <;> clear hc))
  all_goals try (exfalso;contradiction)
  exact ⟨_,_,_,(by repeat (first | exact uU _ | refine uV rfl ?_)),qR _,⟨k + 1,rfl,by omega,rfl,rfl⟩,by omega⟩
 ·obtain rfl : k = (freL Rx m).length:=by omega
  have hlt' : ¬ ((freL Rx m).length : Int)<((freL Rx m).length : Int):=by omega
  repeat' (first | (refine more_r34 R Rx p px b8 b23 _ h8 h23 hR hX hlb hlx y hy hfin _ ?_;exact (by repeat (first | exact uU _ | refine uV rfl ?_)))|(refine uP rfl ?_;(first | ((first | refine uN rfl ?_);(first | (refine uE (uQ (b:=false) rfl rfl rfl (congrArg some (decide_eq_false hlt'))) rfl rfl ?_)))))|(refine uD rfl ?_;refine hK _ _ ?_;clear hK K) | refine uS rfl ?_ | refine uR rfl (fun K hK=>?_)|(refine X.brk rfl ?_;repeat (first | refine blockX_hit rfl ?_ | refine blockX_miss (by decide) ?_))|(refine X.ite rfl rfl (fun hc=>?_);(first | (with_reducible refine Xb.f hc ?_)) <;> clear hc))
  all_goals try (exfalso;contradiction)
end Go.Proofs.YtmfppdpkalelhaaGreat
end
section
set_option linter.unusedVariables false
set_option linter.unusedSimpArgs false
namespace Go.Proofs.YtmfppdpkalelhaaGreat
open Go Go.Fw
set_option maxRecDepth 10000
set_option maxHeartbeats 16000000 in
theorem more_r15 (R Rx : Rm) (p px : Pl) (b8 b23 : Nat) (G : List Row) (h8 : (⟨b8,0,cRm R p,some 32,5⟩ : Row) ∈ G) (h23 : (⟨b23,0,cRm Rx px,some 32,5⟩ : Row) ∈ G) (hR : RmOk G R p) (hX : RmOk G Rx px) (hlb : R.boxes.length ≤ 1000000) (hlx : Rx.boxes.length ≤ 1000000) (b27 : Nat) (e : Bx) (h27 : (⟨b27,0,cBx e,some 47,2⟩ : Row) ∈ G) (y a b m lo : Int) (s0 t0 : Sp) (hy : 0 ≤ y∧y ≤ 255) (hfin : ∀ n,(∃ l,dueF Rx n = (0,l,6)) ∨ ∃ (d w : Nat) (l k : List Int),dueF R n = ((d : Int),l,0)∧dueF Rx n = ((w : Int),k,0)∧d ≤ w)
  (e1 : difF R a b m = (s0,0)) (e2 : difF Rx a b m = (t0,0)) (e3 : freF R m = (freL R m,0)) (e4 : freF Rx m = (freL Rx m,0)) (hst : (s0.lo ≤ t0.lo∧t0.hi ≤ s0.hi)∧t0.lo ≤ t0.hi) (hlo : lo ≤ t0.lo) (hfr : ∀ i ∈ freL Rx m,i ∈ freL R m) (hf1 : (freL R m).length ≤ 1000) (hf2 : (freL Rx m).length ≤ 1000)
  (hmd : 0 ≤ e.made∧e.made ≤ R.months∧R.months ≤ 12) (hyel : ∀ n,e.made ≤ n → n < R.months → ∃ s t,yelF R e.id n = (s,0)∧yelF Rx e.id n = (t,0)∧(s.lo ≤ t.lo∧t.hi ≤ s.hi)∧t.lo ≤ t.hi) (F : FS) (hF : Sub [(7,.int .u8 y),(8,.pointer (some ⟨b8,0,none⟩)),(17,.bool true),(18,.int .i64 a),(19,.int .i64 b),(20,.int .i64 m),(22,.int .i64 lo),(23,.pointer (some ⟨b23,0,none⟩)),(27,.pointer (some ⟨b27,0,none⟩))] F) :
  X Tryz.prog 256 (csnd (csnd (csnd (csnd (csnd (csnd (csnd (csnd (csnd (csnd (csnd (cof Tryz.f5)))))))))))) F G (retX Tryz.prog Tryz.f5 (fun v _=>v = .bool true)):=by
 refine X.weak hF (qR _) ?_
 repeat' (first | (refine uP rfl ?_;(first | ((first | refine uN rfl ?_);(first | (refine uE (uL rfl rfl (uO (te rfl) rfl h27 rfl)) rfl rfl ?_)|(refine uE (uA rfl rfl) rfl rfl ?_)|(refine uE (uF rfl rfl (te rfl) rfl (te rfl) (by decide)) rfl rfl ?_)))))|(refine uD rfl ?_;refine hK _ _ ?_;clear hK K) | refine uS rfl ?_ | refine uR rfl (fun K hK=>?_) | refine X.block rfl ?_)
 refine X.lp rfl (fun r F' H' => ∃ n : Int,r = (R.months - n).toNat∧e.made ≤ n∧n ≤ R.months∧G = H'∧F' = [(7,.int .u8 y),(8,.pointer (some ⟨b8,0,none⟩)),(17,.bool true),(18,.int .i64 a),(19,.int .i64 b),(20,.int .i64 m),(22,.int .i64 lo),(23,.pointer (some ⟨b23,0,none⟩)),(27,.pointer (some ⟨b27,0,none⟩)),(28,.int .i64 n)])
  (R.months - e.made).toNat [(7,.int .u8 y),(8,.pointer (some ⟨b8,0,none⟩)),(17,.bool true),(18,.int .i64 a),(19,.int .i64 b),(20,.int .i64 m),(22,.int .i64 lo),(23,.pointer (some ⟨b23,0,none⟩)),(27,.pointer (some ⟨b27,0,none⟩)),(28,.int .i64 e.made)] G (by repeat (first | exact uU _ | refine uV rfl ?_)) (qR _) ⟨e.made,rfl,Int.le_refl _,hmd.2.1,rfl,rfl⟩ ?_
 rintro _ _ _ ⟨n,rfl,hn1,hn2,rfl,rfl⟩
 by_cases hlt : n < R.months
 ·obtain ⟨s,t,y1,y2,hin⟩:=hyel n hn1 hlt
  have ky1:=fun S hS=>kYellow_spec R p e.id n S hS hlb
  have ky2:=fun S hS=>kYellow_spec Rx px e.id n S hS hlx
  rw [y1] at ky1
  rw [y2] at ky2
  have kin:=fun S=>lawInner t s hin.1.1 hin.1.2 hin.2 S
  clear y1 y2
  repeat' (first | (refine uP rfl ?_;(first | ((first | refine uN rfl ?_ | (refine Xo.g rfl rfl ?_;with_reducible refine Xw.ff ?_));(first | (refine uE (uQ (b:=true) rfl rfl rfl (congrArg some (decide_eq_true hlt))) rfl rfl ?_)|(refine uE (uX rfl rfl rfl) rfl rfl ?_)|(refine uE (uL rfl rfl (uO (te rfl) rfl h8 rfl)) rfl rfl ?_)|(refine uE (uL rfl rfl (uW (T:=32) (cs:=cRm R p) (te rfl) rfl h8 rfl)) rfl rfl ?_)|(refine uE (uL rfl rfl (uO (te rfl) rfl h27 rfl)) rfl rfl ?_)|(refine uC (uT rfl (Args.cons rfl (Args.cons rfl (Args.cons rfl Args.nil)))) rfl rfl (ky1 _ hR) ?_;rintro _ G ⟨rfl,rfl⟩)|(refine Xg.st (StF.alloc rfl Tryz.zeroValue24 rfl) rfl rfl ?_;rintro _ _ ⟨bx,rfl,rfl⟩)|(refine Xg.st0 (StF.storeAll (i:=0) (vs:=cSp s) rfl rfl rfl (te rfl) rfl rfl rfl rfl) rfl ?_;rintro _ _ ⟨rfl,rfl⟩;dsimp only [List.set])|(refine uE (uL rfl rfl (uW (T:=32) (cs:=cRm Rx px) (te rfl) rfl (qT _ h23) rfl)) rfl rfl ?_)|(refine uE (uL rfl rfl (uO (te rfl) rfl (qT _ h27) rfl)) rfl rfl ?_)|(refine uC (uT rfl (Args.cons rfl (Args.cons rfl (Args.cons rfl Args.nil)))) rfl rfl (ky2 _ (hX.sub (fun _ h=>qT _ h))) ?_;rintro _ _ ⟨rfl,rfl⟩)|(refine Xg.st0 (StF.storeAll (i:=0) (vs:=cSp t) rfl rfl rfl (te rfl) rfl rfl rfl rfl) rfl ?_;rintro _ _ ⟨rfl,rfl⟩;dsimp only [List.set])|(refine uE (uQ (b:=false) rfl rfl rfl (congrArg some (nd_f (Eq.refl (0 : Int))))) rfl rfl ?_)|(refine uE (uL rfl rfl (uW (T:=24) (cs:=cSp t) (te rfl) rfl (qH _) rfl)) rfl rfl ?_)|(refine uE (uL rfl rfl (uW (T:=24) (cs:=cSp s) (te rfl) rfl (qT _ (qH _)) rfl)) rfl rfl ?_)|(refine uC (uT rfl (Args.cons rfl (Args.cons rfl Args.nil))) rfl rfl (kin _) ?_;rintro _ _ ⟨rfl,rfl⟩)|(refine uE (EvF.add64 (p:=n) (q:=1) rfl rfl rfl (by omega) (by omega)) rfl rfl ?_)|(refine uE (uM rfl rfl) rfl rfl ?_)|(refine uE (uA rfl rfl) rfl rfl ?_)|(refine uE (EvF.pickF rfl rfl rfl) rfl rfl ?_)|(refine uE (EvF.not rfl rfl) rfl rfl ?_)|(refine uE (uF rfl rfl (te rfl) rfl (te rfl) (by decide)) rfl rfl ?_)))))|(refine uD rfl ?_;refine hK _ _ ?_;clear hK K) | refine uS rfl ?_ | refine uR rfl (fun K hK=>?_) | refine X.block rfl ?_ | refine X.skip rfl ?_ | refine X.ret rfl ?_ | (refine X.ite rfl rfl (fun hc=>?_);(first | (with_reducible refine Xb.t hc ?_)|(with_reducible refine Xb.caseB hc (fun h=>?_) (fun h=>?_))) <;> clear hc))
  all_goals try (exfalso;contradiction)
  exact ⟨_,_,_,(by repeat (first | exact uU _ | refine uV rfl ?_)),(by repeat (first | exact qR _ | apply qK | apply qC)),⟨n + 1,rfl,by omega,by omega,rfl,rfl⟩,by omega⟩
 ·repeat' (first | (refine more_r22 R Rx p px b8 b23 _ h8 h23 hR hX hlb hlx y a b m lo s0 t0 hy hfin e1 e2 e3 e4 hst hlo hfr hf1 hf2 _ ?_;exact (by repeat (first | exact uU _ | refine uV rfl ?_)))|(refine uP rfl ?_;(first | ((first | refine uN rfl ?_);(first | (refine uE (uQ (b:=false) rfl rfl rfl (congrArg some (decide_eq_false hlt))) rfl rfl ?_)|(refine uE (uL rfl rfl (uO (te rfl) rfl h8 rfl)) rfl rfl ?_)|(refine uE (uM rfl rfl) rfl rfl ?_)|(refine uE (uF rfl rfl (te rfl) rfl (te rfl) (by decide)) rfl rfl ?_)))))|(refine uD rfl ?_;refine hK _ _ ?_;clear hK K) | refine uS rfl ?_ | refine uR rfl (fun K hK=>?_)|(refine X.brk rfl ?_;repeat (first | refine blockX_hit rfl ?_ | refine blockX_miss (by decide) ?_))|(refine X.ite rfl rfl (fun hc=>?_);(first | (with_reducible refine Xb.f hc ?_)) <;> clear hc))
  all_goals try (exfalso;contradiction)
end Go.Proofs.YtmfppdpkalelhaaGreat
end
section
set_option linter.unusedVariables false
set_option linter.unusedSimpArgs false
namespace Go.Proofs.YtmfppdpkalelhaaGreat
open Go Go.Fw
set_option maxRecDepth 10000
/-- what one match more leaves as it is -/
structure MoreF (R Rx : Rm) (a b m lo : Int) : Prop where
 fin : ∀ n,(∃ l,dueF Rx n = (0,l,6)) ∨ ∃ (d w : Nat) (l k : List Int),dueF R n = ((d : Int),l,0)∧dueF Rx n = ((w : Int),k,0)∧d ≤ w
 dif : ∃ s t,difF R a b m = (s,0)∧difF Rx a b m = (t,0)∧((s.lo ≤ t.lo∧t.hi ≤ s.hi)∧t.lo ≤ t.hi)∧lo ≤ t.lo
 fr1 : freF R m = (freL R m,0)
 fr2 : freF Rx m = (freL Rx m,0)
 sub : ∀ i ∈ freL Rx m,i ∈ freL R m
 len1 : (freL R m).length ≤ 1000
 len2 : (freL Rx m).length ≤ 1000
 yel : ∀ e ∈ R.boxes,∀ n,e.made ≤ n → n < R.months → ∃ s t,yelF R e.id n = (s,0)∧yelF Rx e.id n = (t,0)∧(s.lo ≤ t.lo∧t.hi ≤ s.hi)∧t.lo ≤ t.hi
 mad : ∀ e ∈ R.boxes,0 ≤ e.made∧e.made ≤ R.months∧R.months ≤ 12
theorem moreF_of {R : Rm} {x : Mt} (h : Rdy R) (g : Rdy (putRm R x)) (hm : 0 ≤ x.month∧x.month ≤ R.months - 1) (ha : x.a ∈ thI R x.month) (hb : x.b ∈ thI R x.month) (hab : x.a ≠ x.b) : MoreF R (putRm R x) x.a x.b x.month x.lo where
 fin:=fun n=>by
  rcases due_facts g n with ⟨e1,_⟩ | ⟨w,_,e2,_⟩
  ·exact .inl ⟨_,e1⟩
  ·obtain ⟨d,l,e1,hd⟩:=more_due h g e2
   exact .inr ⟨d,w,l,_,e1,e2,hd⟩
 dif:=⟨_,_,rdy_dif h hm ha hb hab,rdy_dif g hm ha hb hab,more_dif h g hm ha hb,ex_at (rdy_ex g hm ha hb)⟩
 fr1:=fre_eq h hm
 fr2:=fre_eq g hm
 sub:=fun _ hi=>more_fre h g hm hi
 len1:=by
  have h1:=(fre_sub R x.month).length_le
  have h2 : (thI R x.month).length ≤ R.boxes.length:=thL_len x.month R.boxes
  have:=h.ok.ok.b4
  omega
 len2:=by
  have h1:=(fre_sub (putRm R x) x.month).length_le
  have h2 : (thI (putRm R x) x.month).length ≤ R.boxes.length:=thL_len x.month R.boxes
  have:=h.ok.ok.b4
  omega
 yel:=fun e he n h1 h2=>by
  obtain ⟨_,hn,ht⟩:=rdy_bx h he h1 (by omega)
  exact ⟨_,_,rdy_yel h hn ht,rdy_yel g hn ht,more_yel h g hn ht⟩
 mad:=fun e he=>by
  have h1:=okBoxes_mem _ _ _ h.ok.2.2.1 e he
  have h2:=h.ok.ok.m12
  omega
def tsKmb : List TOp:=[⟨some 114,[],[],[]⟩,⟨some 115,[0],[0],[]⟩,⟨some 116,[],[],[]⟩,⟨some 117,[2],[2],[]⟩,⟨some 118,[],[],[]⟩,⟨some 119,[4],[4],[]⟩,⟨some 120,[4,5],[5],[]⟩,⟨some 121,[2,3,4,5,6],[3,6],[]⟩,⟨some 122,[0,1,2,3,4,5,6,7],[1,7],[]⟩,⟨some 123,[0,1,2,3,4,5,6,7,8],[8],[]⟩,⟨some 27,[],[],[]⟩,⟨none,[0,1,2,3,4,5,6,7,8,9,10],[10,9],[10]⟩]
def valKmb (b8 b23 bb off nn c2 kk : Nat) (z y a b m lo : Int) (e : Bx) (k : Nat) (env : Env) : Value :=
 match k with
 | 0 => .pointer (some ⟨b8,3,none⟩)
 | 1 => .slice (some ⟨bb,off,none⟩) nn c2
 | 2 => .int .u8 z
 | 3 => .int .i64 z
 | 4 => .pointer (some ⟨b8,3,none⟩)
 | 5 => .slice (some ⟨bb,off,none⟩) nn c2
 | 6 => .int .i64 nn
 | 7 => .int .i64 (kk : Nat)
 | 8 => .pointer (some ⟨bb,off + kk * 2,none⟩)
 | 9 => .agg (cBx e).toArray
 | 10 => .pointer (some ⟨(env 10).1,0,none⟩)
 | 11=>undef
 | _=>undef
def rowsKmb (b8 b23 bb off nn c2 kk : Nat) (z y a b m lo : Int) (e : Bx) (k : Nat) (env : Env) : List Row :=
 match k with
 | 10=>[⟨(env 10).1,0,cBx ⟨0,0⟩,some 47,2⟩]
 | 11=>[⟨(env 10).1,0,cBx e,some 47,2⟩]
 | _=>[]
theorem locKmb (b8 b23 bb off nn c2 kk : Nat) (z y a b m lo : Int) (e : Bx) : ∀ k env i q9,i ≠ k → (tAt tsKmb k).sup.contains i = false → valKmb b8 b23 bb off nn c2 kk z y a b m lo e k (upd env i q9)=valKmb b8 b23 bb off nn c2 kk z y a b m lo e k env∧rowsKmb b8 b23 bb off nn c2 kk z y a b m lo e k (upd env i q9)=rowsKmb b8 b23 bb off nn c2 kk z y a b m lo e k env:=by
 intro k env i q hk hs
 have hu : ∀ j,j ≠ i → upd env i q j = env j:=fun j hj=>by unfold upd;rw [if_neg hj]
 match k,hk,hs with
 | 0,_,_=>exact ⟨rfl,rfl⟩
 | 1,_,_=>exact ⟨rfl,rfl⟩
 | 2,_,_=>exact ⟨rfl,rfl⟩
 | 3,_,_=>exact ⟨rfl,rfl⟩
 | 4,_,_=>exact ⟨rfl,rfl⟩
 | 5,_,_=>exact ⟨rfl,rfl⟩
 | 6,_,_=>exact ⟨rfl,rfl⟩
 | 7,_,_=>exact ⟨rfl,rfl⟩
 | 8,_,_=>exact ⟨rfl,rfl⟩
 | 9,_,_=>exact ⟨rfl,rfl⟩
 | 10,hk,hs=>exact ⟨by simp only [valKmb,hu 10 (fun e=>hk e.symm)],by simp only [rowsKmb,hu 10 (fun e=>hk e.symm)]⟩
 | 11,hk,hs=>exact ⟨by simp only [valKmb,hu 10 (by rintro rfl;cases hs)],by simp only [rowsKmb,hu 10 (by rintro rfl;cases hs)]⟩
 | _ + 12,_,_=>exact ⟨rfl,rfl⟩
set_option maxHeartbeats 16000000 in
theorem more_r9 (R Rx : Rm) (p px : Pl) (b8 b23 : Nat) (G : List Row) (h8 : (⟨b8,0,cRm R p,some 32,5⟩ : Row) ∈ G) (h23 : (⟨b23,0,cRm Rx px,some 32,5⟩ : Row) ∈ G) (hR : RmOk G R p) (hX : RmOk G Rx px) (hlb : R.boxes.length ≤ 1000000) (hlx : Rx.boxes.length ≤ 1000000) (z y a b m lo : Int) (w : Bool) (hz : 0 ≤ z∧z ≤ 255) (hy : 0 ≤ y∧y ≤ 255) (hcan : canF Rx = .tuple #[.bool w,.int .i64 0]) (hmo : w = true → MoreF R Rx a b m lo) (hbx : 0 < R.boxes.length) (F : FS) (hF : Sub [(6,.int .u8 z),(7,.int .u8 y),(8,.pointer (some ⟨b8,0,none⟩)),(17,.bool true),(18,.int .i64 a),(19,.int .i64 b),(20,.int .i64 m),(22,.int .i64 lo),(23,.pointer (some ⟨b23,0,none⟩)),(24,.int .i64 0)] F) :
  X Tryz.prog 256 (csnd (csnd (csnd (csnd (csnd (csnd (csnd (cof Tryz.f5)))))))) F G (retX Tryz.prog Tryz.f5 (fun v _=>v = .bool true)):=by
 have kc:=fun S hS=>kCan_spec Rx px S hS
 rw [hcan] at kc
 refine X.weak hF (qR _) ?_
 cases w with
 | false =>
  repeat' (first | (refine uP rfl ?_;(first | ((first | refine uN rfl ?_ | (refine Xo.g rfl rfl ?_;with_reducible refine Xw.ff ?_));(first | (refine uE (uX rfl rfl rfl) rfl rfl ?_)|(refine uE (uL rfl rfl (uW (T:=32) (cs:=cRm Rx px) (te rfl) rfl h23 rfl)) rfl rfl ?_)|(refine uC (uT rfl (Args.cons rfl Args.nil)) rfl rfl (kc _ hX) ?_;rintro _ _ ⟨rfl,rfl⟩)|(refine uE (uQ (b:=false) rfl rfl rfl (congrArg some (nd_f (Eq.refl (0 : Int))))) rfl rfl ?_)|(refine uE (uM rfl rfl) rfl rfl ?_)|(refine uE (uA rfl rfl) rfl rfl ?_)|(refine uE (EvF.pickF rfl rfl rfl) rfl rfl ?_)|(refine uE (EvF.not rfl rfl) rfl rfl ?_)))))|(refine uD rfl ?_;refine hK _ _ ?_;clear hK K) | refine uS rfl ?_ | refine uR rfl (fun K hK=>?_) | refine X.skip rfl ?_ | refine X.ret rfl ?_ | (refine X.ite rfl rfl (fun hc=>?_);(first | (with_reducible refine Xb.f hc ?_)|(with_reducible refine Xb.caseB hc (fun h=>?_) (fun h=>?_))) <;> clear hc))
  all_goals try (exfalso;contradiction)
  exact ret_one (by simp) Tryz.results5 rfl (H' := _) (qR _) rfl
 | true =>
  obtain ⟨hfin,⟨s0,t0,e1,e2,hst,hlo⟩,e3,e4,hfr,hf1,hf2,hyel,hmad⟩:=hmo rfl
  obtain ⟨kk,hk1,hk2⟩:=rem_nat hz.1 (n:=R.boxes.length) (by omega)
  obtain ⟨e,he⟩ : ∃ e,R.boxes[kk]? = some e:=⟨_,List.getElem?_eq_getElem hk1⟩
  have heb:=List.mem_of_getElem? he
  obtain ⟨q1,q2,q3,q4,q5,q6⟩:=p
  obtain ⟨bb,off,_,rfl,_⟩:=hR.boxes.elem (i:=kk) hk1
  repeat' (first | (refine uP rfl ?_;(first | ((first | refine uN rfl ?_ | (refine Xo.g rfl rfl ?_;with_reducible refine Xw.ff ?_));(first | (refine uE (uX rfl rfl rfl) rfl rfl ?_)|(refine uE (uL rfl rfl (uW (T:=32) (cs:=cRm Rx px) (te rfl) rfl h23 rfl)) rfl rfl ?_)|(refine uC (uT rfl (Args.cons rfl Args.nil)) rfl rfl (kc _ hX) ?_;rintro _ G ⟨rfl,rfl⟩)|(refine uE (uQ (b:=false) rfl rfl rfl (congrArg some (nd_f (Eq.refl (0 : Int))))) rfl rfl ?_)|(refine uE (uM rfl rfl) rfl rfl ?_)|(refine uE (uA rfl rfl) rfl rfl ?_)|(refine uE (EvF.pickF rfl rfl rfl) rfl rfl ?_)|(refine uE (EvF.not rfl rfl) rfl rfl ?_)))))|(refine uD rfl ?_;refine hK _ _ ?_;clear hK K) | refine uS rfl ?_ | refine uR rfl (fun K hK=>?_) | refine X.skip rfl ?_ | refine X.ret rfl ?_ | (refine X.ite rfl rfl (fun hc=>?_);(first | (with_reducible refine Xb.f hc ?_)|(with_reducible refine Xb.caseB hc (fun h=>?_) (fun h=>?_))) <;> clear hc))
  all_goals try (exfalso;contradiction)
  have hbs:=hR.boxes
  refine X.weak (F' := [(6,.int .u8 z),(7,.int .u8 y),(8,.pointer (some ⟨b8,0,none⟩)),(17,.bool true),(18,.int .i64 a),(19,.int .i64 b),(20,.int .i64 m),(22,.int .i64 lo),(23,.pointer (some ⟨b23,0,none⟩))]) (H' := G) (by repeat (first | exact uU _ | refine uV rfl ?_)) (qR _) ?_
  refine X.regionOb tsKmb [6,7,8,17,18,19,20,22,23] [(6,.int .u8 z),(7,.int .u8 y),(8,.pointer (some ⟨b8,0,none⟩)),(17,.bool true),(18,.int .i64 a),(19,.int .i64 b),(20,.int .i64 m),(22,.int .i64 lo),(23,.pointer (some ⟨b23,0,none⟩))] (valKmb b8 b23 bb off R.boxes.length q4 kk z y a b m lo e) (rowsKmb b8 b23 bb off R.boxes.length q4 kk z y a b m lo e) (fun _=>(0,0)) (G) rfl mixed (by repeat (first | exact uU _ | refine uV rfl ?_)) rfl (by kernel_rfl) (locKmb b8 b23 bb off R.boxes.length q4 kk z y a b m lo e) (qR _) ?_ ?_
  ·repeat' (first | exact AllF.done rfl | (refine AllF.step rfl ?_ ?_;·(first | fail | ((first | refine Ob.ng rfl ?_);(first | exact ObK.pure (fun env R hR=>by exact ⟨_,uM rfl rfl,rfl⟩) rfl (fun _=>rfl) | exact ObK.pure (fun env R hR=>by exact ⟨_,uF rfl rfl (te rfl) rfl (te rfl) (by decide),rfl⟩) rfl (fun _=>rfl) | exact ObK.pure (fun env R hR=>by exact ⟨_,EvF.lenSlice rfl rfl (te rfl),rfl⟩) rfl (fun _=>rfl)|(exact ObK.pure (fun env S hS=>⟨_,EvF.conv rfl rfl byte_und int_undI (by omega) (by omega),rfl⟩) rfl (fun _=>rfl))|(exact ObK.pure (fun env S hS=>⟨_,uL rfl rfl (uO (te rfl) rfl (hS _ h8) rfl),rfl⟩) rfl (fun _=>rfl))|((refine ObK.pure (fun env S hS=>⟨.int .i64 (kk : Nat),?_,rfl⟩) rfl (fun _=>rfl);rw [← hk2];exact EvF.rem64 (p:=z) rfl rfl rfl (by omega) (by omega)))|((refine ObK.pure (fun env S hS=>⟨.pointer (some ⟨bb,off + kk * 2,none⟩),?_,rfl⟩) rfl (fun _=>rfl);exact EvF.indexSlice (i:=(kk : Int)) (off:=off) (b:=bb) (T:=29) (e:=47) (len:=R.boxes.length) rfl rfl rfl (te rfl) (te rfl) (by omega) (by omega)))|(exact ObK.pure (fun env S hS=>⟨.agg (cBx e).toArray,uL rfl rfl (LoadV.elA0 (n:=kk) (hbs.sub (fun r h=>hS r h)) he (te rfl) rfl (fun _ h=>h) rfl),rfl⟩) rfl (fun _=>rfl))|(exact fun env S hS=>(StF.alloc rfl Tryz.zeroValue47 rfl).op.mono (fun v H' ⟨b,hv,hH⟩=>⟨(b,0),fun _=>hv,by rw [hH];exact List.Perm.refl _⟩))|(exact fun env S hS=>(StF.storeAll (i:=0) (vs:=cBx e) (cs:=cBx ⟨0,0⟩) rfl rfl rfl (te rfl) rfl rfl rfl rfl).op.mono (fun v H' ⟨hv,hH⟩=>⟨(0,0),fun h=>absurd rfl h,by rw [hH];exact List.Perm.refl _⟩)))))))
  ·intro env t ha2 hv;refine ⟨_,ha2.cons (hv 10 27 (Nat.le_of_ble_eq_true rfl) rfl),?_⟩;clear hv ha2
   show X _ _ _ [(27,.pointer (some ⟨(env 10).1,0,none⟩)),(6,.int .u8 z),(7,.int .u8 y),(8,.pointer (some ⟨b8,0,none⟩)),(17,.bool true),(18,.int .i64 a),(19,.int .i64 b),(20,.int .i64 m),(22,.int .i64 lo),(23,.pointer (some ⟨b23,0,none⟩))] (⟨(env 10).1,0,cBx e,some 47,2⟩::G) _
   generalize (env 10).1 = b27
   exact more_r15 R Rx ⟨q1,q2,some ⟨bb,off,none⟩,q4,q5,q6⟩ px b8 b23 _ (qT _ h8) (qT _ h23) (hR.sub (fun _ h=>qT _ h)) (hX.sub (fun _ h=>qT _ h)) hlb hlx b27 e (qH _) y a b m lo s0 t0 hy hfin e1 e2 e3 e4 hst hlo hfr hf1 hf2 (hmad e heb) (hyel e heb) _ (by repeat (first | exact uU _ | refine uV rfl ?_))
end Go.Proofs.YtmfppdpkalelhaaGreat
end
section
set_option linter.unusedVariables false
set_option linter.unusedSimpArgs false
namespace Go.Proofs.YtmfppdpkalelhaaGreat
open Go Go.Fw
set_option maxRecDepth 10000
def tsKmt : List TOp:=[⟨some 83,[],[],[]⟩,⟨some 84,[],[],[]⟩,⟨some 85,[1],[1],[]⟩,⟨some 86,[],[],[]⟩,⟨some 87,[],[],[]⟩,⟨some 88,[],[],[]⟩,⟨some 89,[],[],[]⟩,⟨some 90,[],[],[]⟩,⟨some 91,[],[],[]⟩,⟨some 92,[8],[8],[]⟩,⟨some 93,[8,9],[9],[]⟩,⟨some 94,[7,8,9,10],[7,10],[]⟩,⟨some 95,[7,8,9,10,11],[11],[]⟩,⟨some 96,[1,2,3,4,5,6,7,8,9,10,11,12],[2,3,4,5,6,12],[]⟩,⟨some 97,[0,1,2,3,4,5,6,7,8,9,10,11,12,13],[0,13],[]⟩,⟨some 82,[0,1,2,3,4,5,6,7,8,9,10,11,12,13,14],[14],[]⟩,⟨some 98,[0,1,2,3,4,5,6,7,8,9,10,11,12,13,14,15],[15],[]⟩,⟨some 99,[0,1,2,3,4,5,6,7,8,9,10,11,12,13,14,15],[15],[]⟩,⟨some 23,[],[],[]⟩,⟨none,[0,1,2,3,4,5,6,7,8,9,10,11,12,13,14,15,16,18],[18,16],[18]⟩,⟨some 24,[0,1,2,3,4,5,6,7,8,9,10,11,12,13,14,15,16,17,18,19],[17],[]⟩]
noncomputable def valKmt (b8 : Nat) (R : Rm) (p : Pl) (a b m lo wd z y q : Int) (k : Nat) (env : Env) : Value :=
 match k with
 | 0 => .agg (cRm R p).toArray
 | 1 => .agg (cRm R p).toArray
 | 2 => .int .i64 q
 | 3 => .int .i64 m
 | 4 => .int .i64 a
 | 5 => .int .i64 b
 | 6 => .int .i64 lo
 | 7 => .int .i64 lo
 | 8 => .int .u8 wd
 | 9 => .int .i64 wd
 | 10 => .int .i64 (wd % 20)
 | 11 => .int .i64 (lo + (wd % 20))
 | 12 => .int .i64 (min 60 (lo + wd % 20))
 | 13 => .agg (cMt ⟨q,m,a,b,lo,min 60 (lo + wd % 20)⟩).toArray
 | 14 => .tuple #[.agg (cRm (putRm R ⟨q,m,a,b,lo,min 60 (lo + wd % 20)⟩) (plQ (env 14))).toArray,.int .i64 0]
 | 15 => .tuple #[.agg (cRm (putRm R ⟨q,m,a,b,lo,min 60 (lo + wd % 20)⟩) (plQ (env 14))).toArray,.int .i64 0]
 | 16 => .agg (cRm (putRm R ⟨q,m,a,b,lo,min 60 (lo + wd % 20)⟩) (plQ (env 14))).toArray
 | 17 => .int .i64 0
 | 18 => .pointer (some ⟨(env 18).1,0,none⟩)
 | 19=>undef
 | 20 => .int .i64 0
 | _=>undef
noncomputable def rowsKmt (b8 : Nat) (R : Rm) (p : Pl) (a b m lo wd z y q : Int) (k : Nat) (env : Env) : List Row :=
 match k with
 | 14=>rowsQ (putRm R ⟨q,m,a,b,lo,min 60 (lo + wd % 20)⟩) (env 14)
 | 18=>[⟨(env 18).1,0,cRm Rz pz,some 32,5⟩]
 | 19=>[⟨(env 18).1,0,cRm (putRm R ⟨q,m,a,b,lo,min 60 (lo + wd % 20)⟩) (plQ (env 14)),some 32,5⟩]
 | _=>[]
theorem locKmt (b8 : Nat) (R : Rm) (p : Pl) (a b m lo wd z y q : Int) : ∀ k env i q9,i ≠ k → (tAt tsKmt k).sup.contains i = false → valKmt b8 R p a b m lo wd z y q k (upd env i q9)=valKmt b8 R p a b m lo wd z y q k env∧rowsKmt b8 R p a b m lo wd z y q k (upd env i q9)=rowsKmt b8 R p a b m lo wd z y q k env:=by
 intro k env i q hk hs
 have hu : ∀ j,j ≠ i → upd env i q j = env j:=fun j hj=>by unfold upd;rw [if_neg hj]
 match k,hk,hs with
 | 0,_,_=>exact ⟨rfl,rfl⟩
 | 1,_,_=>exact ⟨rfl,rfl⟩
 | 2,_,_=>exact ⟨rfl,rfl⟩
 | 3,_,_=>exact ⟨rfl,rfl⟩
 | 4,_,_=>exact ⟨rfl,rfl⟩
 | 5,_,_=>exact ⟨rfl,rfl⟩
 | 6,_,_=>exact ⟨rfl,rfl⟩
 | 7,_,_=>exact ⟨rfl,rfl⟩
 | 8,_,_=>exact ⟨rfl,rfl⟩
 | 9,_,_=>exact ⟨rfl,rfl⟩
 | 10,_,_=>exact ⟨rfl,rfl⟩
 | 11,_,_=>exact ⟨rfl,rfl⟩
 | 12,_,_=>exact ⟨rfl,rfl⟩
 | 13,_,_=>exact ⟨rfl,rfl⟩
 | 14,hk,hs=>exact ⟨by simp only [valKmt,hu 14 (fun e=>hk e.symm)],by simp only [rowsKmt,hu 14 (fun e=>hk e.symm)]⟩
 | 15,hk,hs=>exact ⟨by simp only [valKmt,hu 14 (by rintro rfl;cases hs)],by simp only [rowsKmt,hu 14 (by rintro rfl;cases hs)]⟩
 | 16,hk,hs=>exact ⟨by simp only [valKmt,hu 14 (by rintro rfl;cases hs)],by simp only [rowsKmt,hu 14 (by rintro rfl;cases hs)]⟩
 | 17,_,_=>exact ⟨rfl,rfl⟩
 | 18,hk,hs=>exact ⟨by simp only [valKmt,hu 18 (fun e=>hk e.symm)],by simp only [rowsKmt,hu 18 (fun e=>hk e.symm)]⟩
 | 19,hk,hs=>exact ⟨by simp only [valKmt,hu 14 (by rintro rfl;cases hs),hu 18 (by rintro rfl;cases hs)],by simp only [rowsKmt,hu 14 (by rintro rfl;cases hs),hu 18 (by rintro rfl;cases hs)]⟩
 | 20,_,_=>exact ⟨rfl,rfl⟩
 | _ + 21,_,_=>exact ⟨rfl,rfl⟩
set_option maxHeartbeats 8000000 in
theorem more_r8 (R : Rm) (p : Pl) (a b m lo wd z y : Int) (b8 : Nat) (H : List Row) (hR : RmOk H R p) (hrd : Rdy R) (hl8 : R.mats.length < 8) (hm : 0 ≤ m∧m ≤ R.months - 1) (ha : a ∈ thI R m) (hb : b ∈ thI R m) (hab : a ≠ b) (h1 : -60 ≤ lo) (h2 : lo ≤ 60) (hwd : 0 ≤ wd∧wd ≤ 255) (hz : 0 ≤ z∧z ≤ 255) (hy : 0 ≤ y∧y ≤ 255) (F : FS) (G : List Row)
  (hF : Sub [(5,.int .u8 wd),(6,.int .u8 z),(7,.int .u8 y),(8,.pointer (some ⟨b8,0,none⟩)),(17,.bool true),(18,.int .i64 a),(19,.int .i64 b),(20,.int .i64 m),(22,.int .i64 lo)] F) (hG : (⟨b8,0,cRm R p,some 32,5⟩::H).Sublist G) :
  X Tryz.prog 256 (csnd (csnd (csnd (csnd (csnd (csnd (cof Tryz.f5))))))) F G (retX Tryz.prog Tryz.f5 (fun v _=>v = .bool true)):=by
 have hlb4:=hrd.ok.ok.b4
 have hnum:=numF_ok R.mats 1 (okMats_num R R.mats 0 hrd.ok.2.2.2).2
 obtain ⟨q,hq⟩ : ∃ q,q = numF R.mats 1:=⟨_,rfl⟩
 rw [← hq] at hnum
 have hmin:=min_two 60 (lo + wd % 20)
 have hw0 : 0 ≤ wd % 20∧wd % 20 ≤ 19:=by omega
 have hx : matchOk R ⟨q,m,a,b,lo,min 60 (lo + wd % 20)⟩:=mat_ok hrd.ok (q:=q) hm ha hb hab h1 (by omega) (by omega)
 obtain ⟨hp1,hp2⟩:=put_ok hrd.ok hl8 hx hnum.1 (by show q ≤ 9999;omega) hnum.2.2
 have kn:=fun S hS=>lawNumber R p S hS hrd.ok
 rw [← hq] at kn
 clear hq
 have hbx : 0 < R.boxes.length:=by
  obtain ⟨c,hc,_⟩:=rdy_there hm ha
  exact List.length_pos_of_mem hc.1
 have kp:=fun S hS=>putG_spec R p ⟨q,m,a,b,lo,min 60 (lo + wd % 20)⟩ S hS hrd.ok hbx hl8 hp2 hp1
 obtain ⟨w,hw⟩ : ∃ w : Bool,(w = true ↔ hasT (putRm R ⟨q,m,a,b,lo,min 60 (lo + wd % 20)⟩) (putRm R ⟨q,m,a,b,lo,min 60 (lo + wd % 20)⟩).mats):=by
  classical
  exact ⟨decide (hasT (putRm R ⟨q,m,a,b,lo,min 60 (lo + wd % 20)⟩) (putRm R ⟨q,m,a,b,lo,min 60 (lo + wd % 20)⟩).mats),decide_eq_true_iff⟩
 have hcan:=canF_put hp1 hw
 have hmo : w = true → MoreF R (putRm R ⟨q,m,a,b,lo,min 60 (lo + wd % 20)⟩) a b m lo:=fun h=>moreF_of (x:=⟨q,m,a,b,lo,min 60 (lo + wd % 20)⟩) hrd (rdy_put hp1 (hw.1 h)) hm ha hb hab
 have hmr : ∀ (qq : Nat × Nat) S,(∀ r ∈ rowsQ (putRm R ⟨q,m,a,b,lo,min 60 (lo + wd % 20)⟩) qq,r ∈ S) → RmOk S (putRm R ⟨q,m,a,b,lo,min 60 (lo + wd % 20)⟩) (plQ qq):=fun qq S hS=>rmQ _ qq S hS (by have:=hrd.ok.1.2.2.2.2.1;have:=hrd.ok.ok.m12;show R.ages.length ≤ _;omega) (by show R.boxes.length ≤ _;omega) (by show (insMt ⟨q,m,a,b,lo,min 60 (lo + wd % 20)⟩ R.mats).length ≤ _;rw [insMt_len];omega)
 clear hw
 refine X.weak hF hG ?_
 refine uS rfl ?_
 refine X.regionOb tsKmt [5,6,7,8,17,18,19,20,22] [(5,.int .u8 wd),(6,.int .u8 z),(7,.int .u8 y),(8,.pointer (some ⟨b8,0,none⟩)),(17,.bool true),(18,.int .i64 a),(19,.int .i64 b),(20,.int .i64 m),(22,.int .i64 lo)] (valKmt b8 R p a b m lo wd z y q) (rowsKmt b8 R p a b m lo wd z y q) (fun _=>(0,0)) (⟨b8,0,cRm R p,some 32,5⟩::H) rfl mixed (by repeat (first | exact uU _ | refine uV rfl ?_)) rfl (by kernel_rfl) (locKmt b8 R p a b m lo wd z y q) (qR _) ?_ ?_
 ·repeat' (first | exact AllF.done rfl | (refine AllF.step rfl ?_ ?_;·(first | fail | ((first | refine Ob.ng rfl ?_);(first | exact ObK.pure (fun env R hR=>by exact ⟨_,uM rfl rfl,rfl⟩) rfl (fun _=>rfl) | exact ObK.pure (fun env R hR=>by exact ⟨_,uA rfl rfl,rfl⟩) rfl (fun _=>rfl) | exact ObK.pure (fun env R hR=>by exact ⟨_,uL rfl rfl (uW (te rfl) rfl (hR _ (qH _)) rfl),rfl⟩) rfl (fun _=>rfl)|(exact ObK.pure (fun env S hS=>⟨_,EvF.conv rfl rfl byte_und int_undI (by omega) (by omega),rfl⟩) rfl (fun _=>rfl))|(exact ObK.pure (fun env S hS=>⟨_,EvF.min64 rfl rfl rfl,rfl⟩) rfl (fun _=>rfl))|(exact fun env S hS=>(OpF.call (uT rfl (Args.cons rfl Args.nil)) (kn _ (hR.sub (fun r h=>hS r (qT _ h))))).mono (fun v H' ⟨hv,hH⟩=>⟨(0,0),fun _=>hv,by rw [hH];exact List.Perm.refl _⟩))|(exact fun env S hS=>(OpF.call (uT rfl (Args.cons rfl (Args.cons rfl (Args.cons rfl (Args.cons rfl (Args.cons rfl (Args.cons rfl Args.nil))))))) (lawMatch q m a b lo (min 60 (lo + wd % 20)) _)).mono (fun v H' ⟨hv,hH⟩=>⟨(0,0),fun _=>hv,by rw [hH];exact List.Perm.refl _⟩))|(exact fun env S hS=>(OpF.call (uT rfl (Args.cons rfl (Args.cons rfl Args.nil))) (kp _ (hR.sub (fun r h=>hS r (qT _ h))))).mono (fun v H' ⟨qq,hv,hH⟩=>⟨qq,fun _=>hv,hH⟩))|(exact fun env S hS=>(StF.alloc rfl Tryz.zeroValue32 rfl).op.mono (fun v H' ⟨b,hv,hH⟩=>⟨(b,0),fun _=>hv,by rw [hH];exact List.Perm.refl _⟩))|(exact fun env S hS=>(StF.storeAll (i:=0) (vs:=cRm (putRm R ⟨q,m,a,b,lo,min 60 (lo + wd % 20)⟩) (plQ (env 14))) (cs:=cRm Rz pz) rfl rfl rfl (te rfl) rfl rfl rfl rfl).op.mono (fun v H' ⟨hv,hH⟩=>⟨(0,0),fun h=>absurd rfl h,by rw [hH];exact List.Perm.refl _⟩))|(exact ObK.pure (fun env S hS=>⟨_,EvF.rem64 rfl rfl rfl (by omega) (by omega),rfl⟩) rfl (fun _=>rfl))|(exact ObK.pure (fun env S hS=>⟨_,EvF.add64 rfl rfl rfl (by omega) (by omega),rfl⟩) rfl (fun _=>rfl))|(exact ObK.pure (fun env S hS=>⟨_,uX rfl rfl rfl,rfl⟩) rfl (fun _=>rfl)))))))
 ·intro env t ha2 hv;refine ⟨_,(ha2.cons (hv 18 23 (Nat.le_of_ble_eq_true rfl) rfl)).cons (hv 20 24 (Nat.le_of_ble_eq_true rfl) rfl),?_⟩;clear hv ha2
  show X _ _ _ [(24,.int .i64 0),(23,.pointer (some ⟨(env 18).1,0,none⟩)),(5,.int .u8 wd),(6,.int .u8 z),(7,.int .u8 y),(8,.pointer (some ⟨b8,0,none⟩)),(17,.bool true),(18,.int .i64 a),(19,.int .i64 b),(20,.int .i64 m),(22,.int .i64 lo)] (rowsQ (putRm R ⟨q,m,a,b,lo,min 60 (lo + wd % 20)⟩) (env 14)++⟨(env 18).1,0,cRm (putRm R ⟨q,m,a,b,lo,min 60 (lo + wd % 20)⟩) (plQ (env 14)),some 32,5⟩::⟨b8,0,cRm R p,some 32,5⟩::H) _
  generalize env 14 = qq
  generalize (env 18).1 = b23
  exact more_r9 R (putRm R ⟨q,m,a,b,lo,min 60 (lo + wd % 20)⟩) p (plQ qq) b8 b23 _ (List.mem_append_right _ (qT _ (qH _))) (List.mem_append_right _ (qH _)) (hR.sub (fun _ h=>List.mem_append_right _ (qT _ (qT _ h)))) (hmr qq _ (fun r h=>List.mem_append_left _ h)) (by omega) (by show R.boxes.length ≤ _;omega) z y a b m lo w hz hy hcan hmo hbx _ (by repeat (first | exact uU _ | refine uV rfl ?_))
set_option maxHeartbeats 8000000 in
theorem boxMore_spec (R : Rm) (p : Pl) (mo i j l wd z y : Int) (h1 : 0 ≤ mo∧mo ≤ 255) (h2 : 0 ≤ i∧i ≤ 255) (h3 : 0 ≤ j∧j ≤ 255) (h4 : 0 ≤ l∧l ≤ 255) (h5 : 0 ≤ wd∧wd ≤ 255) (h6 : 0 ≤ z∧z ≤ 255) (h7 : 0 ≤ y∧y ≤ 255) (H : List Row) (hR : RmOk H R p) :
  Fc Tryz.prog 5 [.agg (cRm R p).toArray,.int .u8 mo,.int .u8 i,.int .u8 j,.int .u8 l,.int .u8 wd,.int .u8 z,.int .u8 y] H (fun v _=>v = .bool true):=by
 by_cases hrd : Rdy R
 ·have hm0:=mod_bd hrd.ok h1.1
  have hlm : R.mats.length ≤ 8:=hrd.ok.1.2.2.2.2.2.2
  have hlb : R.boxes.length ≤ 1000000:=by have:=hrd.ok.ok.b4;omega
  by_cases hl8 : R.mats.length = 8
  ·have hl8' : ((R.mats.length : Nat) : Int)=8:=by omega
   refine Fc.mk (callable Tryz.call5) Tryz.func5 rfl Tryz.ntmps5 rfl ?_;dsimp only [fr]
   repeat' (first | (refine uP rfl ?_;(first | ((first | refine uN rfl ?_ | (refine Xo.g rfl rfl ?_;with_reducible refine Xw.ff ?_));(first | (refine uC (uT rfl Args.nil) rfl rfl (alive_spec _) ?_;rintro _ _ ⟨rfl,rfl⟩)|(refine uE (uL rfl rfl (uW (te rfl) rfl (qH _) rfl)) rfl rfl ?_)|(refine uC (uT rfl (Args.cons rfl Args.nil)) rfl rfl (ready_yes R p _ (hR.sub (fun _ h=>by repeat (first | exact h | apply qT))) hrd) ?_;rintro _ _ ⟨rfl,rfl⟩)|(refine uE (EvF.lenSlice rfl rfl (te rfl)) rfl rfl ?_)|(refine uE (uQ (b:=true) rfl rfl rfl (congrArg some (decide_eq_true hl8'))) rfl rfl ?_)|(refine uE (uM rfl rfl) rfl rfl ?_)|(refine uE (uA rfl rfl) rfl rfl ?_)|(refine uE (EvF.pickT rfl rfl rfl) rfl rfl ?_)|(refine uE (EvF.pickF rfl rfl rfl) rfl rfl ?_)|(refine uE (EvF.not rfl rfl) rfl rfl ?_)|(refine uE (uF rfl rfl (te rfl) rfl (te rfl) (by decide)) rfl rfl ?_)|(refine uE (uL rfl rfl (uO (te rfl) rfl (qH _) rfl)) rfl rfl ?_)|(refine Xg.st (StF.boxAgg rfl rfl) rfl rfl ?_;rintro _ _ ⟨bx,rfl,rfl⟩)))|(refine Xo.g rfl rfl ?_;(first | (with_reducible refine Xw.tf rfl rfl ?_)|(with_reducible refine Xw.caseB (fun h=>?_) (fun h=>?_) <;> simp only [h,decide_true,decide_false,Bool.not_true,Bool.not_false,and_self,and_true,true_and,and_false,false_and])))))|(refine uD rfl ?_;refine hK _ _ ?_;clear hK K) | refine uS rfl ?_ | refine uR rfl (fun K hK=>?_) | refine X.ret rfl ?_ | (refine X.ite rfl rfl (fun hc=>?_);(first | (with_reducible refine Xb.t hc ?_)) <;> clear hc))
   all_goals try (exfalso;contradiction)
   exact ret_one (by simp) Tryz.results5 rfl (H' := _) (qR _) rfl
  ·have hl8' : ¬ ((R.mats.length : Nat) : Int)=8:=by omega
   refine Fc.mk (callable Tryz.call5) Tryz.func5 rfl Tryz.ntmps5 rfl ?_;dsimp only [fr]
   repeat' (first | (refine uP rfl ?_;(first | ((first | refine uN rfl ?_ | (refine Xo.g rfl rfl ?_;with_reducible refine Xw.ff ?_));(first | (refine uC (uT rfl Args.nil) rfl rfl (alive_spec _) ?_;rintro _ _ ⟨rfl,rfl⟩)|(refine uE (uL rfl rfl (uW (te rfl) rfl (qH _) rfl)) rfl rfl ?_)|(refine uC (uT rfl (Args.cons rfl Args.nil)) rfl rfl (ready_yes R p _ (hR.sub (fun _ h=>by repeat (first | exact h | apply qT))) hrd) ?_;rintro _ _ ⟨rfl,rfl⟩)|(refine uE (EvF.lenSlice rfl rfl (te rfl)) rfl rfl ?_)|(refine uE (uQ (b:=false) rfl rfl rfl (congrArg some (decide_eq_false hl8'))) rfl rfl ?_)|(refine uE (uX rfl rfl rfl) rfl rfl ?_)|(refine uC (uT rfl (Args.cons rfl (Args.cons rfl (Args.cons rfl (Args.cons rfl Args.nil))))) rfl rfl (two_spec R p mo i j _ (hR.sub (fun _ h=>by repeat (first | exact h | apply qT))) hrd.ok h1 h2 h3) ?_;rintro _ _ ⟨rfl,⟨hl2,rfl⟩ | ⟨a,b,ha,hb,hab,hl2,rfl⟩⟩)|(refine uE (uM rfl rfl) rfl rfl ?_)|(refine uE (uA rfl rfl) rfl rfl ?_)|(refine uE (EvF.pickT rfl rfl rfl) rfl rfl ?_)|(refine uE (EvF.pickF rfl rfl rfl) rfl rfl ?_)|(refine uE (EvF.not rfl rfl) rfl rfl ?_)|(refine uE (uF rfl rfl (te rfl) rfl (te rfl) (by decide)) rfl rfl ?_)|(refine uE (uL rfl rfl (uO (te rfl) rfl (qH _) rfl)) rfl rfl ?_)|(refine Xg.st (StF.boxAgg rfl rfl) rfl rfl ?_;rintro _ _ ⟨bx,rfl,rfl⟩)))|(refine Xo.g rfl rfl ?_;(first | (with_reducible refine Xw.tf rfl rfl ?_)|(with_reducible refine Xw.caseB (fun h=>?_) (fun h=>?_) <;> simp only [h,decide_true,decide_false,Bool.not_true,Bool.not_false,and_self,and_true,true_and,and_false,false_and])))))|(refine uD rfl ?_;refine hK _ _ ?_;clear hK K) | refine uS rfl ?_ | refine uR rfl (fun K hK=>?_) | refine X.skip rfl ?_ | refine X.ret rfl ?_ | (refine X.ite rfl rfl (fun hc=>?_);(first | (with_reducible refine Xb.t hc ?_)|(with_reducible refine Xb.caseB hc (fun h=>?_) (fun h=>?_))) <;> clear hc))
   all_goals try (exfalso;contradiction)
   ·repeat' (first | fail)
    all_goals try (exfalso;contradiction)
    exact ret_one (by simp) Tryz.results5 rfl (H' := _) (qR _) rfl
   ·generalize bx = b8
    obtain ⟨m,hmq⟩ : ∃ m,m = mo % R.months:=⟨_,rfl⟩
    rw [← hmq] at hm0 ha hb hl2 ⊢
    clear hmq
    have hw0 : 0 ≤ l % 121 - 60 + 60∧l % 121 - 60 ≤ 60:=by omega
    repeat' (first | (refine more_r8 R p a b m (l % 121 - 60) wd z y b8 H hR hrd (by omega) hm0 ha hb hab (by omega) (by omega) h5 h6 h7 _ _ ?_ ?_;exact (by repeat (first | exact uU _ | refine uV rfl ?_));exact (by repeat (first | exact qR _ | apply qK | apply qC)))|(refine uP rfl ?_;(first | ((first | refine uN rfl ?_);(first | (refine uE (EvF.conv rfl rfl byte_und int_undI (by omega) (by omega)) rfl rfl ?_)|(refine uE (EvF.rem64 rfl rfl rfl (by omega) (by omega)) rfl rfl ?_)|(refine uE (EvF.sub64 rfl rfl rfl (by omega) (by omega)) rfl rfl ?_)|(refine uE (uA rfl rfl) rfl rfl ?_)))))|(refine uD rfl ?_;refine hK _ _ ?_;clear hK K))
    all_goals try (exfalso;contradiction)
 ·refine Fc.mk (callable Tryz.call5) Tryz.func5 rfl Tryz.ntmps5 rfl ?_;dsimp only [fr]
  repeat' (first | (refine uP rfl ?_;(first | ((first | refine uN rfl ?_ | (refine Xo.g rfl rfl ?_;with_reducible refine Xw.ff ?_));(first | (refine uC (uT rfl Args.nil) rfl rfl (alive_spec _) ?_;rintro _ _ ⟨rfl,rfl⟩)|(refine uE (uL rfl rfl (uW (te rfl) rfl (qH _) rfl)) rfl rfl ?_)|(refine uC (uT rfl (Args.cons rfl Args.nil)) rfl rfl (ready_no R p _ (hR.sub (fun _ h=>by repeat (first | exact h | apply qT))) hrd) ?_;rintro _ _ ⟨rfl,rfl⟩)|(refine uE (uM rfl rfl) rfl rfl ?_)|(refine uE (uA rfl rfl) rfl rfl ?_)|(refine uE (EvF.pickT rfl rfl rfl) rfl rfl ?_)|(refine uE (EvF.pickF rfl rfl rfl) rfl rfl ?_)|(refine uE (uQ rfl rfl rfl rfl) rfl rfl ?_)|(refine uE (EvF.not rfl rfl) rfl rfl ?_)|(refine uE (uF rfl rfl (te rfl) rfl (te rfl) (by decide)) rfl rfl ?_)|(refine uE (EvF.lenSlice rfl rfl (te rfl)) rfl rfl ?_)|(refine uE (uL rfl rfl (uO (te rfl) rfl (qH _) rfl)) rfl rfl ?_)|(refine Xg.st (StF.boxAgg rfl rfl) rfl rfl ?_;rintro _ _ ⟨bx,rfl,rfl⟩)))|(refine Xo.g rfl rfl ?_;(first | (with_reducible refine Xw.tf rfl rfl ?_)|(with_reducible refine Xw.case (fun h=>?_) (fun h=>?_) <;> simp only [h,decide_true,decide_false,Bool.not_true,Bool.not_false,and_self,and_true,true_and,and_false,false_and])|(with_reducible refine Xw.caseB (fun h=>?_) (fun h=>?_) <;> simp only [h,decide_true,decide_false,Bool.not_true,Bool.not_false,and_self,and_true,true_and,and_false,false_and])))))|(refine uD rfl ?_;refine hK _ _ ?_;clear hK K) | refine uS rfl ?_ | refine uR rfl (fun K hK=>?_) | refine X.skip rfl ?_ | refine X.ret rfl ?_ | (refine X.ite rfl rfl (fun hc=>?_);(first | (with_reducible refine Xb.t hc ?_)|(with_reducible refine Xb.caseB hc (fun h=>?_) (fun h=>?_))) <;> clear hc))
  all_goals try (exfalso;contradiction)
  exact ret_one (by simp) Tryz.results5 rfl (H' := _) (qR _) rfl
end Go.Proofs.YtmfppdpkalelhaaGreat
end
section
set_option linter.unusedVariables false
namespace Go.Proofs.YtmfppdpkalelhaaGreat
open Go Go.Fw Go.ChangeShapes Go.WideShapes Go.ChangeAt Go.RowKit
set_option linter.unusedVariables false
set_option maxRecDepth 100000
theorem boxMore_run (R : Rm) (pR : Pl) (mo : Int) (i : Int) (j : Int) (l : Int) (wd : Int) (z : Int) (y : Int) (w : World) (hmo : u8 mo) (hi : u8 i) (hj : u8 j) (hl : u8 l) (hwd : u8 wd) (hz : u8 z) (hy : u8 y) (hR : InRm w R pR) :
  Calls Tryz.prog 5 #[.agg (cRm R pR).toArray,.int .u8 mo,.int .u8 i,.int .u8 j,.int .u8 l,.int .u8 wd,.int .u8 z,.int .u8 y] w fun e w' => e = .returned (.bool true)∧Below w.heap.size w w' :=
 Fc.calls (H:=rowsRm R pR) (boxMore_spec R pR mo i j l wd z y hmo hi hj hl hwd hz hy _ (hR.rm (fun _ h=>h))) (fun r hr=>by
  exact hR.ok r hr
 )
theorem boxMore_lifted (os : Os) (started : os.Started) (H : Type) (enc : TypeId × Value → H) :
  ReturnsInHanded {} Tryz.checked os 5 .any (Rows.boxMoreSpec.pre6 enc Tryz.prog Tryz.f5 Rows.boxMoreRow.domain false) (Rows.boxMoreSpec.post enc Tryz.prog Tryz.f5 false true false false):=by
 refine returnsInHanded_of_change (C:=Tryz.checked) ownK started (by kernel_rfl) Tryz.func5
  (ChangeSpec.witness6 (enc:=enc) (C:=Tryz.checked) false ⟨#[], #[.agg (cRm ⟨0,0,[],[],[]⟩ ⟨none,0,none,0,none,0⟩).toArray,.int .u8 0,.int .u8 0,.int .u8 0,.int .u8 0,.int .u8 0,.int .u8 0,.int .u8 0],[]⟩ 8 (by kernel_rfl) (by kernel_rfl) (by kernel_rfl) (by kernel_rfl)) ?_
 intro W base args ds gs before hval0 hW hcnd _
 have hval : ∀ (j : Nat) t v,Tryz.f5.params[j]? = some t → args[j]? = some v → Value.okWide Tryz.prog W .any base t v:=hval0
 have hW' := hW
 obtain ⟨p,q,hA0,hV,rfl,hfz,hnd⟩:=hW
 have hA : DataW.TrodAll enc Tryz.prog W 0 (fun _=>true) true Tryz.f5.params.toList args.toList ds p:=hA0
 rw [Tryz.params5] at hA hval
 obtain ⟨v0,vs0,d0,ds0,p0,q0,hargs,rfl,rfl,h0,r0⟩:=trodAll_cons hA
 obtain ⟨v1,vs1,d1,ds1,p1,q1,rfl,rfl,rfl,h1,r1⟩:=trodAll_cons r0
 obtain ⟨v2,vs2,d2,ds2,p2,q2,rfl,rfl,rfl,h2,r2⟩:=trodAll_cons r1
 obtain ⟨v3,vs3,d3,ds3,p3,q3,rfl,rfl,rfl,h3,r3⟩:=trodAll_cons r2
 obtain ⟨v4,vs4,d4,ds4,p4,q4,rfl,rfl,rfl,h4,r4⟩:=trodAll_cons r3
 obtain ⟨v5,vs5,d5,ds5,p5,q5,rfl,rfl,rfl,h5,r5⟩:=trodAll_cons r4
 obtain ⟨v6,vs6,d6,ds6,p6,q6,rfl,rfl,rfl,h6,r6⟩:=trodAll_cons r5
 obtain ⟨v7,vs7,d7,ds7,p7,q7,rfl,rfl,rfl,h7,r7⟩:=trodAll_cons r6
 obtain ⟨rfl,rfl,rfl⟩:=trodAll_nil r7
 obtain rfl : args = #[v0,v1,v2,v3,v4,v5,v6,v7]:=by cases args;simp_all
 obtain ⟨rfl,rfl⟩:=trodVars_none hV
 have lt : ∀ {t v d ps},DataW.Trod enc Tryz.prog W 0 (fun _=>true) true t v d ps → ∀ x ∈ ps,x.block < W.heap.size:=fun h=>by obtain ⟨m,hm⟩:=h;exact DataW.trod_lt m _ _ _ hm
 obtain ⟨R,pR,rfl,hR⟩:=open_room (hval 0 _ v0 rfl rfl) h0
 obtain ⟨mo,rfl,hmo⟩:=open_u8 (hval 1 _ v1 rfl rfl) h1
 obtain ⟨i,rfl,hi⟩:=open_u8 (hval 2 _ v2 rfl rfl) h2
 obtain ⟨j,rfl,hj⟩:=open_u8 (hval 3 _ v3 rfl rfl) h3
 obtain ⟨l,rfl,hl⟩:=open_u8 (hval 4 _ v4 rfl rfl) h4
 obtain ⟨wd,rfl,hwd⟩:=open_u8 (hval 5 _ v5 rfl rfl) h5
 obtain ⟨z,rfl,hz⟩:=open_u8 (hval 6 _ v6 rfl rfl) h6
 obtain ⟨y,rfl,hy⟩:=open_u8 (hval 7 _ v7 rfl rfl) h7
 clear hA0 hval0
 refine (boxMore_run R pR mo i j l wd z y W hmo hi hj hl hwd hz hy hR).mono fun e W' ⟨he,bel⟩=>?_
 subst he
 exact ⟨_,rfl,_,_,_,[],_,[],hW',trodAll_mk1 (shut_bool Tryz.underlying4 _),(trodAll_cons_mk (Below.trod laidO (by kernel_rfl) (of_decide_eq_true (by kernel_rfl)) h0 bel (lt h0)) (trodAll_cons_mk (Below.trod laidO (by kernel_rfl) (of_decide_eq_true (by kernel_rfl)) h1 bel (lt h1)) (trodAll_cons_mk (Below.trod laidO (by kernel_rfl) (of_decide_eq_true (by kernel_rfl)) h2 bel (lt h2)) (trodAll_cons_mk (Below.trod laidO (by kernel_rfl) (of_decide_eq_true (by kernel_rfl)) h3 bel (lt h3)) (trodAll_cons_mk (Below.trod laidO (by kernel_rfl) (of_decide_eq_true (by kernel_rfl)) h4 bel (lt h4)) (trodAll_cons_mk (Below.trod laidO (by kernel_rfl) (of_decide_eq_true (by kernel_rfl)) h5 bel (lt h5)) (trodAll_cons_mk (Below.trod laidO (by kernel_rfl) (of_decide_eq_true (by kernel_rfl)) h6 bel (lt h6)) (trodAll_cons_mk (Below.trod laidO (by kernel_rfl) (of_decide_eq_true (by kernel_rfl)) h7 bel (lt h7)) trodAll_mk0)))))))),rfl,bel.frame _,fun h=>by cases h⟩
theorem boxMore_over : Rows.boxMoreRow.holds Tryz.pinned (OpenSpec.ofChange Rows.boxMoreSpec) :=
 OpenClaim.holds_of_wide 5 Tryz.f5 rfl rfl rfl rfl rfl rfl rfl ⟨rfl,rfl,rfl,rfl,rfl⟩ rfl rfl rfl rfl rfl (by kernel_rfl) Tryz.func5 (by kernel_rfl)
  (of_decide_eq_true (by kernel_rfl)) (by unfold Func.isWrapper;first | (rw [if_pos (by decide +kernel)];kernel_rfl)|(rw [if_neg (by decide +kernel)];exact ⟨rfl,rfl⟩))
  (fun os started H enc _=>boxMore_lifted os started H enc)
theorem boxMore_proved : Rows.BoxMoreSaid:=boxMore_over
#print axioms boxMore_proved
end Go.Proofs.YtmfppdpkalelhaaGreat
end
