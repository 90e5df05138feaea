/- Own work: contracts of functions, from rows of what is known of the memory; The law BoxTells returns true from whatever memory.; contracts of functions, from rows of what is known of the memory; contracts of functions, from rows of what is known of the memory; contracts of functions, from rows of what is known of the memory; contracts of functions, from rows of what is known of the memory; contracts of functions, from rows of what is known of the memory; contracts of functions, from rows of what is known of the memory; contracts of functions, from rows of what is known of the memory; contracts of functions, from rows of what is known of the memory; contracts of functions, from rows of what is known of the memory; contracts of functions, from rows of what is known of the memory; contracts of function -/
import Derived.Test.YtmfppdpkalelhaaGreatW07
import Derived.OpenShut
import Derived.ProofKit
import Derived.Test.YtmfppdpkalelhaaGreatRows
import Derived.WalkKit
import Derived.ChangeOld
import Derived.ShutString
section
set_option linter.unusedVariables false
set_option linter.unusedSimpArgs false
namespace Go.Proofs.YtmfppdpkalelhaaGreat
open Go Go.Fw
set_option maxRecDepth 10000
def zCm : List Value:=zCt++[.int .i64 0,.int .i64 0]++[.int .i64 0,.int .i64 0]
def tsKcl : List TOp:=[⟨some 28,[],[],[]⟩,⟨some 29,[],[],[]⟩,⟨some 30,[],[],[]⟩,⟨some 31,[],[],[]⟩,⟨some 32,[2,3],[2,3],[]⟩,⟨some 33,[0,1,2,3,4],[0,1,4],[]⟩,⟨none,[0,1,2,3,4,5],[5],[8]⟩,⟨some 7,[0,1,2,3,4,5,6],[],[]⟩,⟨none,[],[],[]⟩]
def valKcl (b6 b8 b10 : Nat) (R : Rm) (p : Pl) (a : Option Addr) (c : Nat) (q : Pk) (s : Sp) (k : Nat) (env : Env) : Value :=
 match k with
 | 0 => .agg (cCt R p a c).toArray
 | 1 => .agg (cPk q).toArray
 | 2 => .agg (cCt R p a c).toArray
 | 3 => .agg (cPk q).toArray
 | 4 => .agg (cSp s).toArray
 | 5 => .agg (cCm R p a c q s).toArray
 | 6=>undef
 | 7 => .int .i64 0
 | _=>undef
def rowsKcl (b6 b8 b10 : Nat) (R : Rm) (p : Pl) (a : Option Addr) (c : Nat) (q : Pk) (s : Sp) (k : Nat) (env : Env) : List Row :=
 match k with
 | 6=>[⟨b6,0,cCm R p a c q s,some 95,10⟩]
 | 8=>[⟨b6,0,zCm,some 95,10⟩]
 | _=>[]
theorem locKcl (b6 b8 b10 : Nat) (R : Rm) (p : Pl) (a : Option Addr) (c : Nat) (q : Pk) (s : Sp) : ∀ k env i q9,i ≠ k → (tAt tsKcl k).sup.contains i = false → valKcl b6 b8 b10 R p a c q s k (upd env i q9)=valKcl b6 b8 b10 R p a c q s k env∧rowsKcl b6 b8 b10 R p a c q s k (upd env i q9)=rowsKcl b6 b8 b10 R p a c q s k env:=by
 intro k env i q hk hs
 have hu : ∀ j,j ≠ i → upd env i q j = env j:=fun j hj=>by unfold upd;rw [if_neg hj]
 match k,hk,hs with
 | 0,_,_=>exact ⟨rfl,rfl⟩
 | 1,_,_=>exact ⟨rfl,rfl⟩
 | 2,_,_=>exact ⟨rfl,rfl⟩
 | 3,_,_=>exact ⟨rfl,rfl⟩
 | 4,_,_=>exact ⟨rfl,rfl⟩
 | 5,_,_=>exact ⟨rfl,rfl⟩
 | 6,_,_=>exact ⟨rfl,rfl⟩
 | 7,_,_=>exact ⟨rfl,rfl⟩
 | 8,_,_=>exact ⟨rfl,rfl⟩
 | _ + 9,_,_=>exact ⟨rfl,rfl⟩
set_option maxHeartbeats 8000000 in
theorem claimedY (R : Rm) (p : Pl) (x m : Int) (H : List Row) (hR : RmOk H R p) (h2 : R.boxes.length ≤ 1000000) (he : openE R [x] [m] = 0) :
  Fc Tryz.prog 52 [.agg (cRm R p).toArray,.int .i64 x,.int .i64 m] H (fun v H' => ∃ b k,(plcs R).length ≤ k∧v = .tuple #[.agg (cCm R p (some ⟨b,0,none⟩) k ⟨x,m⟩ (rng R R.mats ⟨x,m⟩ zp)).toArray,.int .i64 0]∧H' = ⟨b,0,(plcs R).flatMap cPk,some 86,k * 2⟩::H):=by
 have hbt : ∀ (H' : List Row) (b1 b2 : Nat),⟨b1,0,[.int .i64 x],some 3,1 * 1⟩ ∈ H' → ⟨b2,0,[.int .i64 m],some 3,1 * 1⟩ ∈ H' → BtOk H' ⟨[x],some ⟨b1,0,none⟩,1,[m],some ⟨b2,0,none⟩,1⟩:=fun H' b1 b2 q1 q2=>⟨SlE.ofRow (l:=[x]) q1 (fun _ _=>rfl),SlE.ofRow (l:=[m]) q2 (fun _ _=>rfl),Nat.le_of_ble_eq_true rfl,Nat.le_of_ble_eq_true rfl⟩
 obtain ⟨hok,_,_,hT⟩:=openE_ok he
 have hp:=plcs_of he (List.mem_singleton.2 rfl) (List.mem_singleton.2 rfl)
 have hye:=fun H' b k hC hk=>yellow_spec R p (some ⟨b,0,none⟩) k ⟨x,m⟩ H' hok.ok hok.mats hC hok.lens.ages hok.lens.mats hk hp hT
 obtain ⟨s,hs⟩ : ∃ s,s = rng R R.mats ⟨x,m⟩ zp:=⟨_,rfl⟩
 rw [← hs] at hye ⊢
 refine Fc.mk (callable Tryz.call52) Tryz.func52 rfl Tryz.ntmps52 rfl ?_;dsimp only [fr]
 repeat' (first | (refine uP rfl ?_;(first | ((first | refine uN rfl ?_);(first | (refine uE (uQ (b:=false) rfl rfl rfl (congrArg some (nd_f (by omega)))) rfl rfl ?_)|(refine Xg.st (StF.buildOne (v0 := .int .i64 x) rfl el55 rfl rfl rfl (by decide) (by decide)) rfl rfl ?_;rintro _ _ ⟨b1,rfl,rfl⟩)|(refine Xg.st (StF.buildOne (v0 := .int .i64 m) rfl el55 rfl rfl rfl (by decide) (by decide)) rfl rfl ?_;rintro _ _ ⟨b2,rfl,rfl⟩)|(refine uE (EvF.build (cs:=cBt ⟨[x],some ⟨b1,0,none⟩,1,[m],some ⟨b2,0,none⟩,1⟩) rfl (ArgsP.cons rfl (ArgsP.cons rfl ArgsP.nil)) (te rfl) (Places.cons (te rfl) (Places.cons (te rfl) Places.nil)) Tryz.zeroValue83 rfl) rfl rfl ?_)|(refine uC (uT rfl (by (repeat (first | exact Args.nil | refine Args.cons rfl ?_));done)) rfl rfl (openY (hR.sub (fun _ h=>by repeat (first | exact h | apply qT))) (hbt _ b1 b2 (qT _ (qH _)) (qH _)) h2 he) ?_;rintro _ _ ⟨b,k,hbk,rfl,rfl⟩)|(refine Xg.st (StF.alloc rfl Tryz.zeroValue79 rfl) rfl rfl ?_;rintro _ _ ⟨b8,rfl,rfl⟩)|(refine Xg.st0 (StF.storeAll (i:=0) (vs:=cCt R p (some ⟨b,0,none⟩) k) rfl rfl rfl (te rfl) rfl rfl rfl rfl) rfl ?_;rintro _ _ ⟨rfl,rfl⟩;dsimp only [List.set])|(refine uE (EvF.build (cs:=cPk ⟨x,m⟩) rfl (ArgsP.cons rfl (ArgsP.cons rfl ArgsP.nil)) (te rfl) (Places.cons (te rfl) (Places.cons (te rfl) Places.nil)) Tryz.zeroValue86 rfl) rfl rfl ?_)|(refine Xg.st (StF.alloc rfl Tryz.zeroValue86 rfl) rfl rfl ?_;rintro _ _ ⟨b10,rfl,rfl⟩)|(refine uE (uM rfl rfl) rfl rfl ?_)|(refine uE (uA rfl rfl) rfl rfl ?_)|(refine uE (uL rfl rfl (uW (te rfl) rfl (qT _ (qH _)) rfl)) rfl rfl ?_)|(refine uE (uX rfl rfl rfl) rfl rfl ?_)|(refine Xg.st (StF.boxAgg rfl rfl) rfl rfl ?_;rintro _ _ ⟨bx,rfl,rfl⟩)|(refine Xg.st (StF.alloc rfl Tryz.zeroValue95 rfl) rfl rfl ?_;rintro _ _ ⟨bx,rfl,rfl⟩)|(refine Xg.st0 (StF.storeAll (i:=0) rfl rfl rfl (te rfl) rfl rfl rfl rfl) rfl ?_;rintro _ _ ⟨rfl,rfl⟩;dsimp only [List.set])))))|(refine uD rfl ?_;refine hK _ _ ?_;clear hK K) | refine uS rfl ?_ | refine uR rfl (fun K hK=>?_) | refine X.skip rfl ?_ | (refine X.ite rfl rfl (fun hc=>?_);(first | (with_reducible refine Xb.f hc ?_)) <;> clear hc))
 all_goals try (exfalso;contradiction)
 generalize bx = b6
 refine X.weak (F' := [(6,.pointer (some ⟨b6,0,none⟩)),(8,.pointer (some ⟨b8,0,none⟩)),(10,.pointer (some ⟨b10,0,none⟩))]) (H' := ⟨b10,0,cPk ⟨x,m⟩,some 86,2⟩::⟨b8,0,cCt R p (some ⟨b,0,none⟩) k,some 79,6⟩::⟨b,0,(plcs R).flatMap cPk,some 86,k * 2⟩::⟨b6,0,zCm,some 95,10⟩::H) (by repeat (first | exact uU _ | refine uV rfl ?_)) (by repeat (first | exact qR _ | apply qK | apply qC)) ?_
 refine X.permH (H' := ⟨b6,0,zCm,some 95,10⟩::⟨b10,0,cPk ⟨x,m⟩,some 86,2⟩::⟨b8,0,cCt R p (some ⟨b,0,none⟩) k,some 79,6⟩::⟨b,0,(plcs R).flatMap cPk,some 86,k * 2⟩::H) (List.perm_middle (l₁:=[_,_,_])).symm ?_
 refine X.regionOb tsKcl [6,8,10] [(6,.pointer (some ⟨b6,0,none⟩)),(8,.pointer (some ⟨b8,0,none⟩)),(10,.pointer (some ⟨b10,0,none⟩))] (valKcl b6 b8 b10 R p (some ⟨b,0,none⟩) k ⟨x,m⟩ s) (rowsKcl b6 b8 b10 R p (some ⟨b,0,none⟩) k ⟨x,m⟩ s) (fun _=>(0,0)) (⟨b10,0,cPk ⟨x,m⟩,some 86,2⟩::⟨b8,0,cCt R p (some ⟨b,0,none⟩) k,some 79,6⟩::⟨b,0,(plcs R).flatMap cPk,some 86,k * 2⟩::H) rfl mixed (by repeat (first | exact uU _ | refine uV rfl ?_)) rfl (by kernel_rfl) (locKcl b6 b8 b10 R p (some ⟨b,0,none⟩) k ⟨x,m⟩ s) (qR _) ?_ ?_
 ·repeat' (first | exact AllF.done rfl | (refine AllF.step rfl ?_ ?_;·(first | fail | ((first | refine Ob.ng rfl ?_);(first | exact ObK.pure (fun env R hR=>by exact ⟨_,uA rfl rfl,rfl⟩) rfl (fun _=>rfl) | exact ObK.pure (fun env R hR=>by exact ⟨_,uL rfl rfl (uW (te rfl) rfl (hR _ (qH _)) rfl),rfl⟩) rfl (fun _=>rfl) | exact ObK.pure (fun env R hR=>by exact ⟨_,uL rfl rfl (uW (te rfl) rfl (hR _ (qT _ (qH _))) rfl),rfl⟩) rfl (fun _=>rfl)|(exact fun env S hS=>OpF.callV (Z:=[]) (uT rfl (Args.cons rfl (Args.cons rfl Args.nil))) (hye S b k ⟨hR.sub (fun r h=>hS r (qT _ (qT _ (qT _ h)))),SlE.ofRow (hS _ (qT _ (qT _ (qH _)))) (fun _ _=>rfl)⟩ hbk) rfl rfl)|(exact ObK.pure (fun env S hS=>⟨_,EvF.build (cs:=cCm R p (some ⟨b,0,none⟩) k ⟨x,m⟩ s) rfl (ArgsP.cons rfl (ArgsP.cons rfl (ArgsP.cons rfl ArgsP.nil))) (te rfl) (Places.cons (te rfl) (Places.cons (te rfl) (Places.cons (te rfl) Places.nil))) Tryz.zeroValue95 rfl,rfl⟩) rfl (fun _=>rfl))|(exact fun env S hS=>(StF.storeAll (i:=0) (cs:=zCm) (vs:=cCm R p (some ⟨b,0,none⟩) k ⟨x,m⟩ s) rfl rfl rfl (te rfl) rfl rfl rfl rfl).op.mono (fun v H' ⟨hv,hH⟩=>⟨(0,0),fun h=>absurd rfl h,by rw [hH];exact List.Perm.refl _⟩)))))))
 intro env t ha2 hv;refine ⟨_,ha2.cons (hv 7 7 (Nat.le_of_ble_eq_true rfl) rfl),?_⟩;clear hv ha2
 show X _ _ _ [(7,.int .i64 0),(6,.pointer (some ⟨b6,0,none⟩)),(8,.pointer (some ⟨b8,0,none⟩)),(10,.pointer (some ⟨b10,0,none⟩))] (⟨b6,0,cCm R p (some ⟨b,0,none⟩) k ⟨x,m⟩ s,some 95,10⟩::⟨b10,0,cPk ⟨x,m⟩,some 86,2⟩::⟨b8,0,cCt R p (some ⟨b,0,none⟩) k,some 79,6⟩::⟨b,0,(plcs R).flatMap cPk,some 86,k * 2⟩::H) _
 clear env
 repeat' (first | refine X.ret rfl ?_)
 exact ret_two (v := .agg (cCm R p (some ⟨b,0,none⟩) k ⟨x,m⟩ s).toArray) (by simp) Tryz.results52 ⟨_,rfl,uW (te rfl) rfl (qH _) rfl⟩ rfl (H' := ⟨b,0,(plcs R).flatMap cPk,some 86,k * 2⟩::H) (by repeat (first | exact qR _ | apply qK | apply qC)) ⟨b,k,hbk,rfl,rfl⟩
set_option maxHeartbeats 4000000 in
theorem claimedN (R : Rm) (p : Pl) (x m e : Int) (H : List Row) (hR : RmOk H R p) (h2 : R.boxes.length ≤ 1000000) (he : openE R [x] [m] = e) (h0 : e ≠ 0) :
  Fc Tryz.prog 52 [.agg (cRm R p).toArray,.int .i64 x,.int .i64 m] H (fun v H' => v = .tuple #[.agg zCm.toArray,.int .i64 e]∧H' = H):=by
 have hbt : ∀ (H' : List Row) (b1 b2 : Nat),⟨b1,0,[.int .i64 x],some 3,1 * 1⟩ ∈ H' → ⟨b2,0,[.int .i64 m],some 3,1 * 1⟩ ∈ H' → BtOk H' ⟨[x],some ⟨b1,0,none⟩,1,[m],some ⟨b2,0,none⟩,1⟩:=fun H' b1 b2 q1 q2=>⟨SlE.ofRow (l:=[x]) q1 (fun _ _=>rfl),SlE.ofRow (l:=[m]) q2 (fun _ _=>rfl),Nat.le_of_ble_eq_true rfl,Nat.le_of_ble_eq_true rfl⟩
 refine Fc.mk (callable Tryz.call52) Tryz.func52 rfl Tryz.ntmps52 rfl ?_;dsimp only [fr]
 repeat' (first | (refine uP rfl ?_;(first | ((first | refine uN rfl ?_);(first | (refine uE (uQ (b:=true) rfl rfl rfl (congrArg some (nd_t (by omega)))) rfl rfl ?_)|(refine Xg.st (StF.buildOne (v0 := .int .i64 x) rfl el55 rfl rfl rfl (by decide) (by decide)) rfl rfl ?_;rintro _ _ ⟨b1,rfl,rfl⟩)|(refine Xg.st (StF.buildOne (v0 := .int .i64 m) rfl el55 rfl rfl rfl (by decide) (by decide)) rfl rfl ?_;rintro _ _ ⟨b2,rfl,rfl⟩)|(refine uE (EvF.build (cs:=cBt ⟨[x],some ⟨b1,0,none⟩,1,[m],some ⟨b2,0,none⟩,1⟩) rfl (ArgsP.cons rfl (ArgsP.cons rfl ArgsP.nil)) (te rfl) (Places.cons (te rfl) (Places.cons (te rfl) Places.nil)) Tryz.zeroValue83 rfl) rfl rfl ?_)|(refine uC (uT rfl (Args.cons rfl (Args.cons rfl Args.nil))) rfl rfl (openN (hR.sub (fun _ h=>by repeat (first | exact h | apply qT))) (hbt _ b1 b2 (qT _ (qH _)) (qH _)) h2 he h0) ?_;rintro _ H9 ⟨rfl,hH9⟩;subst H9)|(refine Xg.st (StF.alloc rfl Tryz.zeroValue79 rfl) rfl rfl ?_;rintro _ _ ⟨b8,rfl,rfl⟩)|(refine Xg.st0 (StF.storeAll (i:=0) (vs:=zCt) rfl rfl rfl (te rfl) rfl rfl rfl rfl) rfl ?_;rintro _ _ ⟨rfl,rfl⟩;dsimp only [List.set])|(refine uE (EvF.build (cs:=zCm) rfl ArgsP.nil (te rfl) (Places.cons (te rfl) (Places.cons (te rfl) (Places.cons (te rfl) Places.nil))) Tryz.zeroValue95 rfl) rfl rfl ?_)|(refine Xg.st0 (StF.storeAll (i:=3) (vs:=zCm) rfl rfl rfl (te rfl) rfl rfl rfl rfl) rfl ?_;rintro _ _ ⟨rfl,rfl⟩;dsimp only [List.set])|(refine uE (uM rfl rfl) rfl rfl ?_)|(refine uE (uA rfl rfl) rfl rfl ?_)|(refine uE (uL rfl rfl (uW (te rfl) rfl (qT _ (qH _)) rfl)) rfl rfl ?_)|(refine uE (uX rfl rfl rfl) rfl rfl ?_)|(refine Xg.st (StF.boxAgg rfl rfl) rfl rfl ?_;rintro _ _ ⟨bx,rfl,rfl⟩)|(refine Xg.st (StF.alloc rfl Tryz.zeroValue95 rfl) rfl rfl ?_;rintro _ _ ⟨bx,rfl,rfl⟩)))))|(refine uD rfl ?_;refine hK _ _ ?_;clear hK K) | refine uS rfl ?_ | refine uR rfl (fun K hK=>?_) | refine X.ret rfl ?_ | (refine X.ite rfl rfl (fun hc=>?_);(first | (with_reducible refine Xb.t hc ?_)) <;> clear hc))
 all_goals try (exfalso;contradiction)
 exact ret_two (v := .agg zCm.toArray) (by simp) Tryz.results52 ⟨_,rfl,uW (te rfl) rfl (by repeat (first | exact qH _ | apply qT)) rfl⟩ rfl (H' := H) (by (repeat (first | exact qR _ | apply qC));done) ⟨rfl,rfl⟩
theorem wrong11_spec (x : Mt) (l : List Int) (al : Option Addr) (cl b : Nat) (ow : Option Kd) (cap : Nat) (H : List Row) (hm : ⟨b,0,[.slice al l.length cl],ow,cap⟩ ∈ H) (hl : SlE H al cI 1 l) (hb : l.length ≤ 1000000) :
  Fc Tryz.prog 79 ([.agg (cMt x).toArray]++[.pointer (some ⟨b,0,none⟩)]) H (fun v H' => v = .bool (decide (x.number ∈ l))∧H' = H):=by
 show Fc Tryz.prog 79 [.agg (cMt x).toArray,.pointer (some ⟨b,0,none⟩)] H _
 refine Fc.mk (callable Tryz.call79) Tryz.func79 rfl Tryz.ntmps79 rfl ?_;dsimp only [fr]
 repeat' (first | (refine uP rfl ?_;(first | ((first | refine uN rfl ?_);(first | (refine uE (uL rfl rfl (uO (te rfl) rfl (qT _ hm) rfl)) rfl rfl ?_)|(refine uC (uT rfl (Args.cons rfl (Args.cons rfl Args.nil))) rfl rfl (contains_spec l al cl x.number _ (hl.sub (fun _ h=>by repeat (first | exact h | apply qT))) (by omega)) ?_;rintro _ H9 ⟨rfl,hH9⟩;subst H9)|(refine uE (uA rfl rfl) rfl rfl ?_)|(refine uE (uF rfl rfl (te rfl) rfl (te rfl) (by decide)) rfl rfl ?_)|(refine uE (uL rfl rfl (uO (te rfl) rfl (qH _) rfl)) rfl rfl ?_)|(refine Xg.st (StF.boxAgg rfl rfl) rfl rfl ?_;rintro _ _ ⟨bx,rfl,rfl⟩)))))|(refine uD rfl ?_;refine hK _ _ ?_;clear hK K) | refine uS rfl ?_ | refine uR rfl (fun K hK=>?_) | refine X.ret rfl ?_)
 exact ret_one (by simp) Tryz.results79 rfl (H' := H) (by repeat (first | exact qR _ | apply qK | apply qC)) ⟨rfl,rfl⟩
set_option maxHeartbeats 4000000 in
theorem wrong1_spec (R : Rm) (p : Pl) (a : Option Addr) (c : Nat) (l : List Int) (al : Option Addr) (cl b5 : Nat) (ow : Option Kd) (cap : Nat) (H : List Row) (hr : okRm R) (hm : matsThere R R.mats) (hC : CtOk H R p a) (hla : R.ages.length ≤ 1000) (hlm : R.mats.length ≤ 1000) (hpc : (plcs R).length ≤ c) (m5 : ⟨b5,0,cCt R p a c,ow,cap⟩ ∈ H) (hl : SlE H al cI 1 l) (hb : l.length ≤ 1000000) :
  Fc Tryz.prog 77 ([.slice al l.length cl]++[.pointer (some ⟨b5,0,none⟩)]) H (fun v H' => v = .bool (okW R l)∧H' = H):=by
 show Fc Tryz.prog 77 [.slice al l.length cl,.pointer (some ⟨b5,0,none⟩)] H _
 have hMs : ∀ x ∈ outM R.mats l,x ∈ R.mats:=fun x hx=>(List.mem_filter.1 hx).1
 have hMl : (outM R.mats l).length ≤ 1000:=Nat.le_trans (List.length_filter_le _ _) hlm
 have hwo:=fun b3 S hC (hl' : SlE S al cI 1 l) (m3 : (⟨b3,0,[.slice al l.length cl],some 38,1⟩ : Row) ∈ S)=>kwithout_spec R p a c 79 [.pointer (some ⟨b3,0,none⟩)] (fun x=>decide (x.number ∈ l)) S hlm hC (fun x H' hs=>wrong11_spec x l al cl b3 (some 38) 1 H' (hs _ m3) (hl'.sub hs) hb)
 have hca:=fun p' S hC' => can_spec (wM R (outM R.mats l)) p' a c S (wM_ok _ hr) (mats_sub hm hMs) hC' hla hMl hpc
 have hok : decide (hasT (wM R (outM R.mats l)) (wM R (outM R.mats l)).mats)=okW R l:=by unfold okW;exact decide_eq_decide.2 wM_has
 rw [hok] at hca
 refine Fc.mk (callable Tryz.call77) Tryz.func77 rfl Tryz.ntmps77 rfl ?_;dsimp only [fr]
 repeat' (first | (refine uP rfl ?_;(first | ((first | refine uN rfl ?_);(first | (refine uE (uL rfl rfl (uW (T:=79) (cs:=cCt R p a c) (te rfl) rfl (qT _ m5) rfl)) rfl rfl ?_)|(refine uE (EvF.makeFunc (fl:=[]) rfl Args.nil (Args.cons rfl Args.nil)) rfl rfl ?_)|(refine uC (uT rfl (by (repeat (first | exact Args.nil | refine Args.cons rfl ?_));done)) rfl rfl (hwo _ _ (hC.sub (fun _ h=>by repeat (first | exact h | apply qT))) (hl.sub (fun _ h=>by repeat (first | exact h | apply qT))) (qH _)) ?_;rintro _ _ ⟨p',Z,rfl,hC',rfl⟩)|(refine uC (uT rfl (Args.cons rfl Args.nil)) rfl rfl (hca p' _ hC') ?_;rintro _ H9 ⟨rfl,hH9⟩;subst H9)|(refine uE (uA rfl rfl) rfl rfl ?_)|(refine Xg.st (StF.boxOne rfl rfl rfl) rfl rfl ?_;rintro _ _ ⟨bx,rfl,rfl⟩)))))|(refine uD rfl ?_;refine hK _ _ ?_;clear hK K) | refine uS rfl ?_ | refine uR rfl (fun K hK=>?_) | refine X.ret rfl ?_)
 exact ret_one (by simp) Tryz.results77 rfl (H' := H) ((qC _ (qR _)).trans (List.sublist_append_right _ _)) ⟨rfl,rfl⟩
end Go.Proofs.YtmfppdpkalelhaaGreat
end
section
set_option linter.unusedVariables false
set_option linter.unusedSimpArgs false
namespace Go.Fw
open Go
end Go.Fw
namespace Go.Proofs.YtmfppdpkalelhaaGreat
open Go Go.Fw
set_option maxRecDepth 10000
noncomputable def chkF (R : Rm) : Int:=if roomOk R then 0 else 10
theorem kCheck2_spec (R : Rm) (p : Pl) (H : List Row) (hR : RmOk H R p) : Fc Tryz.prog 27 [.agg (cRm R p).toArray] H (fun v H' => v = .int .i64 (chkF R)∧H' = H):=by
 refine (check_spec R p H hR).mono fun v H' ⟨h,h2⟩=>⟨?_,h2⟩
 unfold chkF
 rcases h with ⟨h,e⟩ | ⟨h,e⟩
 ·rw [if_pos h];exact e
 ·rw [if_neg h];exact e
end Go.Proofs.YtmfppdpkalelhaaGreat
end
section
set_option linter.unusedVariables false
set_option linter.unusedSimpArgs false
namespace Go.Proofs.YtmfppdpkalelhaaGreat
open Go Go.Fw
set_option maxRecDepth 10000
theorem numsMt (R : Rm) (p : Pl) (H : List Row) (hM : SlE H p.a3 cMt 6 R.mats) (hl : R.mats.length ≤ 1000000) : Fc Tryz.prog 54 [.slice p.a3 R.mats.length p.c3,.func (.func 55) #[] #[]] H (fun v H' => (R.mats = []∧v = .slice none 0 0∧H' = H) ∨ ∃ b q,R.mats ≠ []∧v = .slice (some ⟨b,0,none⟩) (R.mats.map (·.number)).length q∧H' = ⟨b,0,(R.mats.map (·.number)).flatMap cI,some 3,q * 1⟩::H) :=
 numbersO_specMt 55 (·.number) number_spec R.mats p.a3 p.c3 H hM hl
def wrgO : Option (List Int) → List Int × Int
 | some r=>(r,0)
 | none=>([],4)
set_option maxHeartbeats 8000000 in
theorem kWrong_spec (R : Rm) (p : Pl) (H : List Row) (hR : RmOk H R p) (h2 : R.boxes.length ≤ 1000000) : Fc Tryz.prog 41 [.agg (cRm R p).toArray] H (LstR (wrgF R).1 (wrgF R).2 H):=by
 by_cases hok : roomOk R
 ·have hml : R.mats.length ≤ 8:=hok.1.2.2.2.2.2.2
  have hck:=fun p' H' (h : RmOk H' R p')=>kCheck2_spec R p' H' h
  rw [show chkF R = 0 by unfold chkF;rw [if_pos hok]] at hck
  obtain ⟨L,hL⟩ : ∃ L,L = R.mats.map (·.number):=⟨_,rfl⟩
  have hLl : L.length ≤ 8:=by rw [hL,List.length_map];exact hml
  obtain ⟨f,hf⟩ : ∃ f,f = fewG (okW R) L 4 0:=⟨_,rfl⟩
  have hF : wrgF R = wrgO f:=by
   unfold wrgF
   rw [if_pos hok, ← hL, ← hf]
   cases f <;> rfl
  have hfm : fewG (okW R) L (min 3 L.length + 1) 0 = f:=by rw [fewG_min,hf]
  have hfw:=fun a c b5 b k S (hs : SlE S a cI 1 L) hC hk (m5 : (⟨b5,0,cCt R p (some ⟨b,0,none⟩) k,some 79,6⟩ : Row) ∈ S)=>fewest_specI (okW R) L a c 3 77 [.pointer (some ⟨b5,0,none⟩)] S hs (by omega) (by omega) (fun acc a' c' H' hs' hacc hal=>wrong1_spec R p (some ⟨b,0,none⟩) k acc a' c' b5 (some 79) 6 H' hok.ok hok.mats (CtOk.sub hC hs') hok.lens.ages hok.lens.mats hk (hs' _ m5) hacc hal)
  simp only [hfm] at hfw
  have hnu:=fun S hS=>numsMt R p S hS (by omega)
  rw [← hL] at hnu
  rw [hF]
  clear hF hfm hf
  refine Fc.mk (callable Tryz.call41) Tryz.func41 rfl Tryz.ntmps41 rfl ?_;dsimp only [fr]
  repeat' (first | (refine uP rfl ?_;(first | ((first | refine uN rfl ?_);(first | (refine uE (uQ (b:=false) rfl rfl rfl (congrArg some (nd_f (by omega)))) rfl rfl ?_)|(refine uE (uL rfl rfl (uW (T:=32) (cs:=cRm R p) (te rfl) rfl (by repeat (first | exact qH _ | apply qT)) rfl)) rfl rfl ?_)|(refine uC (uT rfl (Args.cons rfl Args.nil)) rfl rfl (hck p _ (hR.sub (fun _ h=>by repeat (first | exact h | apply qT)))) ?_;rintro _ H9 ⟨rfl,hH9⟩;subst H9)|(refine uC (uT rfl (by (repeat (first | exact Args.nil | refine Args.cons rfl ?_));done)) rfl rfl (draw_spec R p _ hok.ok (hR.sub (fun _ h=>by repeat (first | exact h | apply qT)))) ?_;rintro _ _ ⟨b,k,hbk,rfl,rfl⟩)|(refine Xg.st (StF.alloc rfl Tryz.zeroValue79 rfl) rfl rfl ?_;rintro _ _ ⟨b5,rfl,rfl⟩)|(refine Xg.st0 (StF.storeAll (i:=0) (vs:=cCt R p (some ⟨b,0,none⟩) k) rfl rfl rfl (te rfl) rfl rfl rfl rfl) rfl ?_;rintro _ _ ⟨rfl,rfl⟩;dsimp only [List.set])|(refine uE (uL rfl rfl (uO (cs:=cRm R p) (te rfl) rfl (by repeat (first | exact qH _ | apply qT)) rfl)) rfl rfl ?_)|(refine uC (uT rfl (by (repeat (first | exact Args.nil | refine Args.cons rfl ?_));done)) rfl rfl (hnu _ (hR.mats.sub (fun _ h=>by repeat (first | exact h | apply qT)))) ?_;rintro _ _ (⟨h0,rfl,rfl⟩ | ⟨bn,kn,h0,rfl,rfl⟩))|(refine uE (EvF.makeFunc (fl:=[]) rfl Args.nil (Args.cons rfl Args.nil)) rfl rfl ?_)|(refine uE (uM rfl rfl) rfl rfl ?_)|(refine uE (uA rfl rfl) rfl rfl ?_)|(refine uE (uF rfl rfl (te rfl) rfl (te rfl) (by decide)) rfl rfl ?_)|(refine Xg.st (StF.boxAgg rfl rfl) rfl rfl ?_;rintro _ _ ⟨bx,rfl,rfl⟩)))))|(refine uD rfl ?_;refine hK _ _ ?_;clear hK K) | refine uS rfl ?_ | refine uR rfl (fun K hK=>?_) | refine X.skip rfl ?_ | (refine X.ite rfl rfl (fun hc=>?_);(first | (with_reducible refine Xb.f hc ?_)) <;> clear hc))
  all_goals try (exfalso;contradiction)
  ·have hL0 : L = []:=by rw [hL,h0];rfl
   subst hL0
   repeat' (first | (refine uP rfl ?_;(first | ((first | refine uN rfl ?_);(first | (refine uC (uT rfl (by (repeat (first | exact Args.nil | refine Args.cons rfl ?_));done)) rfl rfl (hfw none 0 b5 b k _ sleNil ⟨hR.sub (fun _ h=>by repeat (first | exact h | apply qT)),SlE.ofRow (by repeat (first | exact qH _ | apply qT)) (fun _ _=>rfl)⟩ hbk (by repeat (first | exact qH _ | apply qT))) ?_;rintro _ _ ⟨out,Z,hT,rfl,rfl⟩)|(refine uE (uX rfl rfl rfl) rfl rfl ?_)|(refine uE (uM rfl rfl) rfl rfl ?_)|(refine uE (uA rfl rfl) rfl rfl ?_)|(refine uE (EvF.not rfl rfl) rfl rfl ?_)))))|(refine uD rfl ?_;refine hK _ _ ?_;clear hK K) | refine uS rfl ?_ | refine uR rfl (fun K hK=>?_) | refine X.skip rfl ?_ | refine X.ret rfl ?_ | (refine X.ite rfl rfl (fun hc=>?_);(first | (with_reducible refine Xb.caseB hc (fun h=>?_) (fun h=>?_))) <;> clear hc))
   ·have hn : f.isSome = false:=by simpa using (by assumption : (!f.isSome)=true)
    cases f with
    | some r=>cases hn
    | none=>exact ret_two (by simp) Tryz.results41 rfl rfl (H' := H) (List.Sublist.trans (by (repeat (first | exact qR _ | apply qC));done) (List.sublist_append_right _ _)) ⟨none,0,[],rfl,sleNil,rfl⟩
   ·have hn : f.isSome = true:=by simpa using (by assumption : (!f.isSome)=false)
    cases f with
    | none=>cases hn
    | some r =>
     obtain ⟨a',c',rfl,hs⟩:=TrvI.sl (H:=H) hT
     exact ret_two (by simp) Tryz.results41 rfl rfl (H' := Z++H) (List.Sublist.append (qR _) (by (repeat (first | exact qR _ | apply qC));done)) ⟨a',c',Z,rfl,hs,rfl⟩
  ·repeat' (first | (refine uP rfl ?_;(first | ((first | refine uN rfl ?_);(first | (refine uC (uT rfl (by (repeat (first | exact Args.nil | refine Args.cons rfl ?_));done)) rfl rfl (hfw (some ⟨bn,0,none⟩) kn b5 b k _ (SlE.ofRow (by repeat (first | exact qH _ | apply qT)) (fun _ _=>rfl)) ⟨hR.sub (fun _ h=>by repeat (first | exact h | apply qT)),SlE.ofRow (by repeat (first | exact qH _ | apply qT)) (fun _ _=>rfl)⟩ hbk (by repeat (first | exact qH _ | apply qT))) ?_;rintro _ _ ⟨out,Z,hT,rfl,rfl⟩)|(refine uE (uX rfl rfl rfl) rfl rfl ?_)|(refine uE (uM rfl rfl) rfl rfl ?_)|(refine uE (uA rfl rfl) rfl rfl ?_)|(refine uE (EvF.not rfl rfl) rfl rfl ?_)))))|(refine uD rfl ?_;refine hK _ _ ?_;clear hK K) | refine uS rfl ?_ | refine uR rfl (fun K hK=>?_) | refine X.skip rfl ?_ | refine X.ret rfl ?_ | (refine X.ite rfl rfl (fun hc=>?_);(first | (with_reducible refine Xb.caseB hc (fun h=>?_) (fun h=>?_))) <;> clear hc))
   ·have hn : f.isSome = false:=by simpa using (by assumption : (!f.isSome)=true)
    cases f with
    | some r=>cases hn
    | none=>exact ret_two (by simp) Tryz.results41 rfl rfl (H' := H) (List.Sublist.trans (by (repeat (first | exact qR _ | apply qC));done) (List.sublist_append_right _ _)) ⟨none,0,[],rfl,sleNil,rfl⟩
   ·have hn : f.isSome = true:=by simpa using (by assumption : (!f.isSome)=false)
    cases f with
    | none=>cases hn
    | some r =>
     obtain ⟨a',c',rfl,hs⟩:=TrvI.sl (H:=H) hT
     exact ret_two (by simp) Tryz.results41 rfl rfl (H' := Z++H) (List.Sublist.append (qR _) (by (repeat (first | exact qR _ | apply qC));done)) ⟨a',c',Z,rfl,hs,rfl⟩
 ·have hck:=fun p' H' (h : RmOk H' R p')=>kCheck2_spec R p' H' h
  rw [show chkF R = 10 by unfold chkF;rw [if_neg hok]] at hck
  have hF : wrgF R = ([],10):=by unfold wrgF;rw [if_neg hok]
  rw [hF]
  refine Fc.mk (callable Tryz.call41) Tryz.func41 rfl Tryz.ntmps41 rfl ?_;dsimp only [fr]
  repeat' (first | (refine uP rfl ?_;(first | ((first | refine uN rfl ?_);(first | (refine uE (uQ (b:=true) rfl rfl rfl (congrArg some (nd_t (by omega)))) rfl rfl ?_)|(refine uE (uL rfl rfl (uW (T:=32) (cs:=cRm R p) (te rfl) rfl (by repeat (first | exact qH _ | apply qT)) rfl)) rfl rfl ?_)|(refine uC (uT rfl (Args.cons rfl Args.nil)) rfl rfl (hck p _ (hR.sub (fun _ h=>by repeat (first | exact h | apply qT)))) ?_;rintro _ H9 ⟨rfl,hH9⟩;subst H9)|(refine uE (uM rfl rfl) rfl rfl ?_)|(refine uE (uA rfl rfl) rfl rfl ?_)|(refine Xg.st (StF.boxAgg rfl rfl) rfl rfl ?_;rintro _ _ ⟨bx,rfl,rfl⟩)))))|(refine uD rfl ?_;refine hK _ _ ?_;clear hK K) | refine uS rfl ?_ | refine uR rfl (fun K hK=>?_) | refine X.ret rfl ?_ | (refine X.ite rfl rfl (fun hc=>?_);(first | (with_reducible refine Xb.t hc ?_)) <;> clear hc))
  all_goals try (exfalso;contradiction)
  exact ret_two (by simp) Tryz.results41 rfl rfl (H' := H) (by repeat (first | exact qR _ | apply qK | apply qC)) ⟨none,0,[],rfl,sleNil,rfl⟩
end Go.Proofs.YtmfppdpkalelhaaGreat
end
section
set_option linter.unusedVariables false
set_option linter.unusedSimpArgs false
namespace Go.Proofs.YtmfppdpkalelhaaGreat
open Go Go.Fw
set_option maxRecDepth 10000
/-- the first list of numbers, m more, that is right -/
def stk9 (ok : List Int → Bool) : List Mt → Nat → List Int → Option (List Int)
 | [],0,ns=>if ok ns = true then some ns else none
 | [],_ + 1,_=>none
 | _::_,0,ns=>if ok ns = true then some ns else none
 | x::t,m + 1,ns=>match stk9 ok t m (ns++[x.number]) with
  | some r=>some r
  | none=>stk9 ok t (m + 1) ns
theorem stk9_zero (ok : List Int → Bool) (t : List Mt) (ns : List Int) : stk9 ok t 0 ns = if ok ns = true then some ns else none:=by cases t <;> rfl
def Stk9R (ok : List Int → Bool) (t : List Mt) (m : Nat) (ns : List Int) (a : Option Addr) (c : Nat) (H : List Row) (v : Value) (H' : List Row) : Prop :=
 (m = 0∧v = .tuple #[.slice a ns.length c,.bool (ok ns)]∧H' = H)∨(0 < m∧((∃ r b k,stk9 ok t m ns = some r∧v = .tuple #[.slice (some ⟨b,0,none⟩) r.length k,.bool true]∧H' = ⟨b,0,r.flatMap cI,some 3,k * 1⟩::H)∨(stk9 ok t m ns = none∧v = .tuple #[.slice none 0 0,.bool false]∧H' = H)))
end Go.Proofs.YtmfppdpkalelhaaGreat
end
section
set_option linter.unusedVariables false
set_option linter.unusedSimpArgs false
namespace Go.Proofs.YtmfppdpkalelhaaGreat
open Go Go.Fw
set_option maxRecDepth 10000
theorem Stk9R.top {ok : List Int → Bool} {t : List Mt} {m : Nat} {H : List Row} {v : Value} {H' : List Row} (h : Stk9R ok t m [] none 0 H v H') :
  (∃ r a c Z,stk9 ok t m [] = some r∧v = .tuple #[.slice a r.length c,.bool true]∧(∀ H0,SlE (Z++H0) a cI 1 r)∧H' = Z++H)∨(stk9 ok t m [] = none∧v = .tuple #[.slice none 0 0,.bool false]∧H' = H):=by
 rcases h with ⟨rfl,rfl,rfl⟩ | ⟨_,⟨r,b,k,hr,rfl,rfl⟩ | h⟩
 ·rw [stk9_zero]
  by_cases hk : ok [] = true
  ·exact .inl ⟨[],none,0,[],by rw [if_pos hk],by rw [hk];(try rfl),fun _=>sleNil,rfl⟩
  ·exact .inr ⟨by rw [if_neg hk],by rw [Bool.eq_false_iff.2 hk];(try rfl),rfl⟩
 ·exact .inl ⟨r,_,_,[⟨b,0,r.flatMap cI,some 3,k * 1⟩],hr,rfl,fun _=>SlE.ofRow (qH _) (fun _ _=>rfl),rfl⟩
 ·exact .inr h
end Go.Proofs.YtmfppdpkalelhaaGreat
end
section
set_option linter.unusedVariables false
set_option linter.unusedSimpArgs false
namespace Go.Proofs.YtmfppdpkalelhaaGreat
open Go Go.Fw
set_option maxRecDepth 10000
def ChR (ok : List Mt → Bool) (t : List Mt) (m : Nat) (ns : List Mt) (a : Option Addr) (c : Nat) (H : List Row) (v : Value) (H' : List Row) : Prop :=
 (m = 0∧v = .tuple #[.slice a ns.length c,.bool (ok ns)]∧H' = H)∨(0 < m∧((∃ r b k,lonG ok t m ns = some r∧v = .tuple #[.slice (some ⟨b,0,none⟩) r.length k,.bool true]∧H' = ⟨b,0,r.flatMap cMt,some 44,k * 6⟩::H)∨(lonG ok t m ns = none∧v = .tuple #[.slice none 0 0,.bool false]∧H' = H)))
end Go.Proofs.YtmfppdpkalelhaaGreat
end
section
set_option linter.unusedVariables false
set_option linter.unusedSimpArgs false
namespace Go.Proofs.YtmfppdpkalelhaaGreat
open Go Go.Fw
set_option maxRecDepth 10000
theorem okMats_lo (R : Rm) : ∀ (l : List Mt) (p : Int),okMats R p l → ∀ x ∈ l,p < x.number
 | [],_,_,_,hx=>absurd hx List.not_mem_nil
 | c::l,p,h,x,hx=>by
  have h1 : p + 1 ≤ c.number:=h.1
  rcases List.mem_cons.1 hx with rfl | hx
  ·omega
  ·have:=okMats_lo R l c.number h.2.2.2 x hx
   omega
theorem okMats_pw (R : Rm) : ∀ (l : List Mt) (p : Int),okMats R p l → l.Pairwise (fun a b=>a.number < b.number)
 | [],_,_=>List.Pairwise.nil
 | c::l,p,h=>List.Pairwise.cons (fun b hb=>okMats_lo R l c.number h.2.2.2 b hb) (okMats_pw R l c.number h.2.2.2)
theorem roomOk.nums {R : Rm} (h : roomOk R) : (R.mats.map (·.number)).Nodup :=
 List.pairwise_map.2 ((okMats_pw R R.mats 0 h.2.2.2).imp (fun q e=>by
  have e : _ = _:=e
  omega))
theorem ChR.top {ok : List Mt → Bool} {t : List Mt} {m : Nat} {H : List Row} {v : Value} {H' : List Row} (h : ChR ok t m [] none 0 H v H') :
  (∃ r a c Z,lonG ok t m [] = some r∧v = .tuple #[.slice a r.length c,.bool true]∧(∀ H0,SlE (Z++H0) a cMt 6 r)∧H' = Z++H)∨(lonG ok t m [] = none∧v = .tuple #[.slice none 0 0,.bool false]∧H' = H):=by
 rcases h with ⟨rfl,rfl,rfl⟩ | ⟨_,⟨r,b,k,hr,rfl,rfl⟩ | h⟩
 ·rw [lonG_zero]
  by_cases hk : ok [] = true
  ·exact .inl ⟨[],none,0,[],by rw [if_pos hk],by rw [hk];(try rfl),fun _=>sleNil,rfl⟩
  ·exact .inr ⟨by rw [if_neg hk],by rw [Bool.eq_false_iff.2 hk];(try rfl),rfl⟩
 ·exact .inl ⟨r,_,_,[⟨b,0,r.flatMap cMt,some 44,k * 6⟩],hr,rfl,fun _=>SlE.ofRow (qH _) (fun _ _=>rfl),rfl⟩
 ·exact .inr h
end Go.Proofs.YtmfppdpkalelhaaGreat
end
section
set_option linter.unusedVariables false
set_option linter.unusedSimpArgs false
namespace Go.Proofs.YtmfppdpkalelhaaGreat
open Go Go.Fw
set_option maxRecDepth 10000
def rsG (ok : List Mt → Bool) (R : Rm) (M : List Mt) : List Int:=(M.filter (fun x => !ok (outM R.mats [x.number]))).map (·.number)
theorem rsG_snoc (ok : List Mt → Bool) (R : Rm) {l : List Mt} {k : Nat} {x : Mt} (he : l[k]? = some x) : rsG ok R (l.take (k + 1)) = rsG ok R (l.take k)++(if ok (outM R.mats [x.number]) = true then [] else [x.number]):=by
 unfold rsG
 rw [take_snoc he,List.filter_append,List.map_append]
 by_cases h : ok (outM R.mats [x.number]) = true
 ·rw [if_pos h];simp [List.filter,h]
 ·rw [if_neg h];simp [List.filter,h]
theorem rsG_len (ok : List Mt → Bool) (R : Rm) (M : List Mt) : (rsG ok R M).length ≤ M.length:=by
 unfold rsG;rw [List.length_map];exact List.length_filter_le _ _
end Go.Proofs.YtmfppdpkalelhaaGreat
end
section
set_option linter.unusedVariables false
set_option linter.unusedSimpArgs false
namespace Go.Proofs.YtmfppdpkalelhaaGreat
open Go Go.Fw
set_option maxRecDepth 10000
/-- a list of numbers, told in one of its ways, drawn -/
theorem slDraw (L : List Int) : ∃ (nv : Nat × Nat → Value) (rn : Nat × Nat → List Row),
  (∀ v Z,TrvI L v Z → ∃ q,v = nv q∧Z = rn q)∧(∀ q S,(∀ r ∈ rn q,r ∈ S) → ∃ a c,nv q = .slice a L.length c∧SlE S a cI 1 L):=by
 by_cases h0 : L = []
 ·subst h0
  refine ⟨fun q=>match q.1 with
   | 0 => .slice none 0 0
   | n + 1 => .slice (some ⟨n,0,none⟩) 0 q.2,fun q=>match q.1 with
   | 0=>[]
   | n + 1=>[⟨n,0,[],some 3,q.2 * 1⟩],?_,?_⟩
  ·rintro v Z (⟨_,rfl,rfl⟩ | ⟨b,q,rfl,rfl⟩)
   ·exact ⟨(0,0),rfl,rfl⟩
   ·exact ⟨(b + 1,q),rfl,rfl⟩
  ·rintro ⟨n,c⟩ S hS
   cases n with
   | zero=>exact ⟨none,0,rfl,sleNil⟩
   | succ n=>exact ⟨some ⟨n,0,none⟩,c,rfl,SlE.ofRow (l:=[]) (hS _ (qH _)) (fun _ _=>rfl)⟩
 ·refine ⟨fun q => .slice (some ⟨q.1,0,none⟩) L.length q.2,fun q=>[⟨q.1,0,L.flatMap cI,some 3,q.2 * 1⟩],?_,?_⟩
  ·rintro v Z (⟨h,_,_⟩ | ⟨b,q,rfl,rfl⟩)
   ·exact absurd h h0
   ·exact ⟨(b,q),rfl,rfl⟩
  ·rintro ⟨n,c⟩ S hS
   exact ⟨some ⟨n,0,none⟩,c,rfl,SlE.ofRow (hS _ (qH _)) (fun _ _=>rfl)⟩
theorem numsTr (R : Rm) (p : Pl) (H : List Row) (hM : SlE H p.a3 cMt 6 R.mats) (hl : R.mats.length ≤ 1000000) : Fc Tryz.prog 54 [.slice p.a3 R.mats.length p.c3,.func (.func 55) #[] #[]] H (fun v H' => ∃ Z,TrvI (R.mats.map (·.number)) v Z∧H' = Z++H) :=
 (numsMt R p H hM hl).mono fun v H' h=>by
  rcases h with ⟨h0,hv,hH⟩ | ⟨b,q,_,hv,hH⟩
  ·exact ⟨[],.inl ⟨by rw [h0];rfl,hv,rfl⟩,hH⟩
  ·exact ⟨[_],.inr ⟨b,q,hv,rfl⟩,hH⟩
def tsKwy : List TOp:=[⟨some 23,[],[],[]⟩,⟨some 24,[0],[0],[]⟩,⟨some 25,[0,1],[1],[]⟩,⟨some 26,[],[],[]⟩,⟨some 27,[3],[3],[]⟩,⟨some 28,[3,4],[4],[]⟩,⟨some 29,[],[],[]⟩,⟨some 30,[6],[6],[]⟩,⟨some 31,[0,1,2,3,4,5,6,7],[2,5,7],[]⟩,⟨some 22,[0,1,2,3,4,5,6,7,8],[8],[]⟩,⟨some 32,[0,1,2,3,4,5,6,7,8,9],[9],[]⟩,⟨some 33,[0,1,2,3,4,5,6,7,8,9],[9],[]⟩,⟨some 10,[0,1,2,3,4,5,6,7,8,9,10],[10],[]⟩,⟨some 11,[0,1,2,3,4,5,6,7,8,9,10,11,12],[11],[]⟩]
def valKwy (b3 b8 : Nat) (R : Rm) (p : Pl) (a : Option Addr) (c : Nat) (q : Pk) (s : Sp) (nv fv : Nat × Nat → Value) (rn rf : Nat × Nat → List Row) (bb : Bool) (k : Nat) (env : Env) : Value :=
 match k with
 | 0 => .pointer (some ⟨b3,4,none⟩)
 | 1 => .slice p.a3 R.mats.length p.c3
 | 2=>nv (env 2)
 | 3 => .pointer (some ⟨b3,4,none⟩)
 | 4 => .slice p.a3 R.mats.length p.c3
 | 5 => .int .i64 R.mats.length
 | 6 => .agg (cCm R p a c q s).toArray
 | 7 => .func (.func 56) #[.agg (cCm R p a c q s).toArray] #[]
 | 8 => .tuple #[fv (env 8),.bool bb]
 | 9 => .tuple #[fv (env 8),.bool bb]
 | 10=>fv (env 8)
 | 11 => .bool bb
 | 12=>fv (env 8)
 | 13 => .bool bb
 | _=>undef
def rowsKwy (b3 b8 : Nat) (R : Rm) (p : Pl) (a : Option Addr) (c : Nat) (q : Pk) (s : Sp) (nv fv : Nat × Nat → Value) (rn rf : Nat × Nat → List Row) (bb : Bool) (k : Nat) (env : Env) : List Row :=
 match k with
 | 2=>rn (env 2)
 | 8=>rf (env 8)
 | _=>[]
theorem locKwy (b3 b8 : Nat) (R : Rm) (p : Pl) (a : Option Addr) (c : Nat) (q : Pk) (s : Sp) (nv fv : Nat × Nat → Value) (rn rf : Nat × Nat → List Row) (bb : Bool) : ∀ k env i q9,i ≠ k → (tAt tsKwy k).sup.contains i = false → valKwy b3 b8 R p a c q s nv fv rn rf bb k (upd env i q9)=valKwy b3 b8 R p a c q s nv fv rn rf bb k env∧rowsKwy b3 b8 R p a c q s nv fv rn rf bb k (upd env i q9)=rowsKwy b3 b8 R p a c q s nv fv rn rf bb k env:=by
 intro k env i q hk hs
 have hu : ∀ j,j ≠ i → upd env i q j = env j:=fun j hj=>by unfold upd;rw [if_neg hj]
 match k,hk,hs with
 | 0,_,_=>exact ⟨rfl,rfl⟩
 | 1,_,_=>exact ⟨rfl,rfl⟩
 | 2,hk,hs=>exact ⟨by simp only [valKwy,hu 2 (fun e=>hk e.symm)],by simp only [rowsKwy,hu 2 (fun e=>hk e.symm)]⟩
 | 3,_,_=>exact ⟨rfl,rfl⟩
 | 4,_,_=>exact ⟨rfl,rfl⟩
 | 5,_,_=>exact ⟨rfl,rfl⟩
 | 6,_,_=>exact ⟨rfl,rfl⟩
 | 7,_,_=>exact ⟨rfl,rfl⟩
 | 8,hk,hs=>exact ⟨by simp only [valKwy,hu 8 (fun e=>hk e.symm)],by simp only [rowsKwy,hu 8 (fun e=>hk e.symm)]⟩
 | 9,hk,hs=>exact ⟨by simp only [valKwy,hu 8 (by rintro rfl;cases hs)],by simp only [rowsKwy,hu 8 (by rintro rfl;cases hs)]⟩
 | 10,hk,hs=>exact ⟨by simp only [valKwy,hu 8 (by rintro rfl;cases hs)],by simp only [rowsKwy,hu 8 (by rintro rfl;cases hs)]⟩
 | 11,_,_=>exact ⟨rfl,rfl⟩
 | 12,hk,hs=>exact ⟨by simp only [valKwy,hu 8 (by rintro rfl;cases hs)],by simp only [rowsKwy,hu 8 (by rintro rfl;cases hs)]⟩
 | 13,_,_=>exact ⟨rfl,rfl⟩
 | _ + 14,_,_=>exact ⟨rfl,rfl⟩
def rdKwy (k : Nat) : List Nat:=match k with
 | 8=>[2]
 | _=>[]
set_option maxHeartbeats 8000000 in
theorem kWhy_spec (R : Rm) (p : Pl) (x m : Int) (H : List Row) (hR : RmOk H R p) (h2 : R.boxes.length ≤ 1000000) : Fc Tryz.prog 16 [.agg (cRm R p).toArray,.int .i64 x,.int .i64 m] H (LstR (whyF R x m).1 (whyF R x m).2 H):=by
 obtain ⟨e,he⟩ : ∃ e,openE R [x] [m] = e:=⟨_,rfl⟩
 by_cases h0 : e = 0
 ·subst h0
  obtain ⟨hok,_,_,hT⟩:=openE_ok he
  have hml : R.mats.length ≤ 8:=hok.1.2.2.2.2.2.2
  have hpq:=plcs_of he (List.mem_singleton.2 rfl) (List.mem_singleton.2 rfl)
  have hcm:=fun S hS=>claimedY R p x m S hS h2 he
  obtain ⟨s,hs⟩ : ∃ s,s = rng R R.mats ⟨x,m⟩ zp:=⟨_,rfl⟩
  obtain ⟨L,hL⟩ : ∃ L,L = R.mats.map (·.number):=⟨_,rfl⟩
  have hLl : L.length = R.mats.length:=by rw [hL,List.length_map]
  obtain ⟨fo,hfo⟩ : ∃ fo,fo = fewG (prvN R ⟨x,m⟩ s) L (R.mats.length + 1) 0:=⟨_,rfl⟩
  obtain ⟨W,hW⟩ : ∃ W,W = fo.getD []:=⟨_,rfl⟩
  have hy : whyF R x m = (W,0):=by
   unfold whyF whyL
   rw [if_pos he, ← hs, ← hL, ← hfo, ← hW]
  rw [← hs] at hcm
  rw [hy]
  clear hy hs
  have hnt:=fun S hS=>numsTr R p S hS (by omega)
  rw [← hL] at hnt
  have hft:=fun al cl b k S (hl : SlE S al cI 1 L) (hC : CtOk S R p (some ⟨b,0,none⟩)) (hk : (plcs R).length ≤ k)=>fewest_specJ (prvN R ⟨x,m⟩ s) L al cl R.mats.length 56 [.agg (cCm R p (some ⟨b,0,none⟩) k ⟨x,m⟩ s).toArray] [] S hl (by omega) (by omega) (fun acc a' c' H' hs' hacc hal=>kproves_spec R p (some ⟨b,0,none⟩) k ⟨x,m⟩ s acc a' c' H' hok.ok hok.mats (CtOk.sub hC hs') hok.lens.ages hok.lens.mats hk hT hpq hacc hal)
  rw [show min R.mats.length L.length + 1 = R.mats.length + 1 by omega, ← hfo, ← hW] at hft
  obtain ⟨nv,rn,hn1,hn2⟩:=slDraw L
  obtain ⟨fv,rf,hf1,hf2⟩:=slDraw W
  refine Fc.mk (callable Tryz.call16) Tryz.func16 rfl Tryz.ntmps16 rfl ?_;dsimp only [fr]
  repeat' (first | (refine uP rfl ?_;(first | ((first | refine uN rfl ?_);(first | (refine uE (uQ (b:=false) rfl rfl rfl (congrArg some (nd_f (by omega)))) rfl rfl ?_)|(refine uE (uL rfl rfl (uW (T:=32) (cs:=cRm R p) (te rfl) rfl (by repeat (first | exact qH _ | apply qT)) rfl)) rfl rfl ?_)|(refine uC (uT rfl (by (repeat (first | exact Args.nil | refine Args.cons rfl ?_));done)) rfl rfl (hcm _ (hR.sub (fun _ h=>by repeat (first | exact h | apply qT)))) ?_;rintro _ _ ⟨b,k,hbk,rfl,rfl⟩)|(refine uE (uX rfl rfl rfl) rfl rfl ?_)|(refine Xg.st (StF.alloc rfl Tryz.zeroValue95 rfl) rfl rfl ?_;rintro _ _ ⟨b8,rfl,rfl⟩)|(refine Xg.st0 (StF.storeAll (i:=0) (vs:=cCm R p (some ⟨b,0,none⟩) k ⟨x,m⟩ s) rfl rfl rfl (te rfl) rfl rfl rfl rfl) rfl ?_;rintro _ _ ⟨rfl,rfl⟩;dsimp only [List.set])|(refine uE (uM rfl rfl) rfl rfl ?_)|(refine uE (uA rfl rfl) rfl rfl ?_)|(refine Xg.st (StF.boxAgg rfl rfl) rfl rfl ?_;rintro _ _ ⟨bx,rfl,rfl⟩)))))|(refine uD rfl ?_;refine hK _ _ ?_;clear hK K) | refine uS rfl ?_ | refine uR rfl (fun K hK=>?_) | refine X.skip rfl ?_ | (refine X.ite rfl rfl (fun hc=>?_);(first | (with_reducible refine Xb.f hc ?_)) <;> clear hc))
  all_goals try (exfalso;contradiction)
  generalize bx = b3
  refine X.regionRd tsKwy rdKwy [3,8] [(3,.pointer (some ⟨b3,0,none⟩)),(8,.pointer (some ⟨b8,0,none⟩))] (valKwy b3 b8 R p (some ⟨b,0,none⟩) k ⟨x,m⟩ s nv fv rn rf fo.isSome) (rowsKwy b3 b8 R p (some ⟨b,0,none⟩) k ⟨x,m⟩ s nv fv rn rf fo.isSome) (fun _=>(0,0)) (⟨b8,0,cCm R p (some ⟨b,0,none⟩) k ⟨x,m⟩ s,some 95,10⟩::⟨b,0,(plcs R).flatMap cPk,some 86,k * 2⟩::⟨b3,0,cRm R p,some 32,5⟩::H) rfl mixed (by repeat (first | exact uU _ | refine uV rfl ?_)) rfl (by kernel_rfl) (by kernel_rfl) (locKwy b3 b8 R p (some ⟨b,0,none⟩) k ⟨x,m⟩ s nv fv rn rf fo.isSome) (qR _) ?_ ?_
  ·repeat' (first | exact AllF.done rfl | (refine AllF.step rfl ?_ ?_;·(first | exact (Ob.ng rfl (ObK.pure (fun env R hR=>by exact ⟨_,uM rfl rfl,rfl⟩) rfl (fun _=>rfl))).toR | exact (Ob.ng rfl (ObK.pure (fun env R hR=>by exact ⟨_,uA rfl rfl,rfl⟩) rfl (fun _=>rfl))).toR | exact (Ob.ng rfl (ObK.pure (fun env R hR=>by exact ⟨_,uF rfl rfl (te rfl) rfl (te rfl) (by decide),rfl⟩) rfl (fun _=>rfl))).toR | exact (Ob.ng rfl (ObK.pure (fun env R hR=>by exact ⟨_,EvF.lenSlice rfl rfl (te rfl),rfl⟩) rfl (fun _=>rfl))).toR | exact (Ob.ng rfl (ObK.pure (fun env R hR=>by exact ⟨_,uL rfl rfl (uO (te rfl) rfl (hR _ (qT _ (qT _ (qH _)))) rfl),rfl⟩) rfl (fun _=>rfl))).toR | exact (Ob.ng rfl (ObK.pure (fun env R hR=>by exact ⟨_,uL rfl rfl (uW (te rfl) rfl (hR _ (qH _)) rfl),rfl⟩) rfl (fun _=>rfl))).toR | (refine ObR.ng rfl ?_;(first | (exact fun env S hS hrd=>(StF.ofEv (EvF.makeFunc (fl:=[.tmp 29]) rfl (Args.cons rfl Args.nil) Args.nil)).op.mono (fun v H' ⟨hv,hH⟩=>⟨(0,0),fun _=>hv,by rw [hH];exact List.Perm.refl _⟩))|(exact fun env S hS hrd=>(StF.ofEv (v := .bool fo.isSome) (uX rfl rfl rfl)).op.mono (fun v H' ⟨hv,hH⟩=>⟨(0,0),fun _=>hv,by rw [hH];exact List.Perm.refl _⟩))|(exact fun env S hS hrd=>(StF.ofEv (v:=fv (env 8)) (uX rfl rfl rfl)).op.mono (fun v H' ⟨hv,hH⟩=>⟨(0,0),fun _=>hv,by rw [hH];exact List.Perm.refl _⟩))|(exact fun env S hS hrd=>(OpF.call (uT rfl (Args.cons rfl (Args.cons rfl Args.nil))) (hnt S (hR.mats.sub (fun r h=>hS r (qT _ (qT _ (qT _ h))))))).mono (fun v H' ⟨Z,hZ,hH⟩=>by obtain ⟨q,h1,h3⟩:=hn1 _ _ hZ;exact ⟨q,fun _=>h1,by rw [hH,h3];exact List.Perm.refl _⟩))|((refine fun env S hS hrd=>?_;obtain ⟨al,cl,hal,hsl⟩:=hn2 (env 2) S (hrd 2 (qH _));have hca:=hft al cl b k S hsl ⟨hR.sub (fun r h=>hS r (qT _ (qT _ (qT _ h)))),SlE.ofRow (hS _ (qT _ (qH _))) (fun _ _=>rfl)⟩ hbk;rw [← hal] at hca;exact (OpF.call (uT rfl (Args.cons rfl (Args.cons rfl (Args.cons rfl Args.nil)))) hca).mono (fun v H' ⟨out,Z,hZ,hv,hH⟩=>by obtain ⟨q,h1,h3⟩:=hf1 _ _ hZ;exact ⟨q,fun _=>by rw [hv,h1];rfl,by rw [hH,h3];exact List.Perm.refl _⟩))))))))
  ·intro env t ha2 hv;refine ⟨_,(ha2.cons (hv 12 10 (Nat.le_of_ble_eq_true rfl) rfl)).cons (hv 13 11 (Nat.le_of_ble_eq_true rfl) rfl),?_⟩;clear hv ha2
   show X _ _ _ _ ((rn (env 2)++(rf (env 8)++[]))++⟨b8,0,cCm R p (some ⟨b,0,none⟩) k ⟨x,m⟩ s,some 95,10⟩::⟨b,0,(plcs R).flatMap cPk,some 86,k * 2⟩::⟨b3,0,cRm R p,some 32,5⟩::H) _
   obtain ⟨aw,cw,hvw,hsw⟩:=hf2 (env 8) (rf (env 8)++H) (fun r h=>List.mem_append_left _ h)
   rw [List.append_nil,List.append_assoc]
   refine X.weak (F' := [(10,.slice aw W.length cw)]) (H' := rf (env 8)++H) (by rw [← hvw];exact (by repeat (first | exact uU _ | refine uV rfl ?_))) ((List.Sublist.append (qR _) (by (repeat (first | exact qR _ | apply qC));done)).trans (List.sublist_append_right _ _)) ?_
   generalize rf (env 8)=Zw at hsw
   clear hvw env
   repeat' (first | (refine uP rfl ?_;(first | ((first | refine uN rfl ?_);(first | (refine uE (uM rfl rfl) rfl rfl ?_)|(refine uE (uA rfl rfl) rfl rfl ?_)))))|(refine uD rfl ?_;refine hK _ _ ?_;clear hK K) | refine uS rfl ?_ | refine uR rfl (fun K hK=>?_) | refine X.ret rfl ?_)
   exact ret_two (by simp) Tryz.results16 rfl rfl (H' := Zw++H) (qR _) ⟨aw,cw,Zw,rfl,hsw,rfl⟩
 ·have hy : whyF R x m = ([],e):=by unfold whyF;rw [if_neg (by rw [he];exact h0),he]
  rw [hy]
  refine Fc.mk (callable Tryz.call16) Tryz.func16 rfl Tryz.ntmps16 rfl ?_;dsimp only [fr]
  repeat' (first | (refine uP rfl ?_;(first | ((first | refine uN rfl ?_);(first | (refine uE (uL rfl rfl (uW (T:=32) (cs:=cRm R p) (te rfl) rfl (by repeat (first | exact qH _ | apply qT)) rfl)) rfl rfl ?_)|(refine uC (uT rfl (Args.cons rfl (Args.cons rfl (Args.cons rfl Args.nil)))) rfl rfl (claimedN R p x m e _ (hR.sub (fun _ h=>by repeat (first | exact h | apply qT))) h2 he h0) ?_;rintro _ H9 ⟨rfl,hH9⟩;subst H9)|(refine uE (uX rfl rfl rfl) rfl rfl ?_)|(refine Xg.st (StF.alloc rfl Tryz.zeroValue95 rfl) rfl rfl ?_;rintro _ _ ⟨b8,rfl,rfl⟩)|(refine Xg.st0 (StF.storeAll (i:=0) (vs:=zCm) rfl rfl rfl (te rfl) rfl rfl rfl rfl) rfl ?_;rintro _ _ ⟨rfl,rfl⟩;dsimp only [List.set])|(refine uE (uM rfl rfl) rfl rfl ?_)|(refine uE (uA rfl rfl) rfl rfl ?_)|(refine uE (uQ rfl rfl rfl rfl) rfl rfl ?_)|(refine Xg.st (StF.boxAgg rfl rfl) rfl rfl ?_;rintro _ _ ⟨bx,rfl,rfl⟩)))))|(refine uD rfl ?_;refine hK _ _ ?_;clear hK K) | refine uS rfl ?_ | refine uR rfl (fun K hK=>?_) | refine X.skip rfl ?_ | refine X.ret rfl ?_ | (refine X.ite rfl rfl (fun hc=>?_);(first | (with_reducible refine Xb.caseN hc (fun h=>?_) (fun h=>?_))) <;> clear hc))
  all_goals try (exfalso;simp_all;done)
  exact ret_two (by simp) Tryz.results16 rfl rfl (H' := H) (by (repeat (first | exact qR _ | apply qC));done) ⟨none,0,[],rfl,sleNil,rfl⟩
end Go.Proofs.YtmfppdpkalelhaaGreat
end
section
set_option linter.unusedVariables false
set_option linter.unusedSimpArgs false
namespace Go.Proofs.YtmfppdpkalelhaaGreat
open Go Go.Fw
set_option maxRecDepth 10000
/-- onto a part of a row of one's own, where there is room: what stood behind is written over -/
theorem appendRoom {P : Program} {n : Nat} {H : List Row} {F : FS} {o : Oper} {α : Type} {enc : α → List Value} {l : List α} {a : Option Addr} {T e : TypeId} {x y : Operand} {sz by' q b k cap c : Nat} {xs old : List Value} (h : isAppend o x y T) (hT : ElT P T e sz by') (hx : evF F x = some (.slice (some ⟨b,0,none⟩) k cap)) (hy : evF F y = some (.slice a l.length c))
  (hi : H[q]? = some ⟨b,0,xs++old,some e,cap * sz⟩) (hs : SlE H a enc sz l) (h1 : ∀ e ∈ l,(enc e).all (·.oneCell') = true) (hxs : xs.length = k * sz) (hz : 0 < sz) (ho : l.length * sz ≤ old.length) :
  StF P n H F o (fun v H' => v = .slice (some ⟨b,0,none⟩) (k + l.length) cap∧H' = ⟨b,0,xs++l.flatMap enc++old.drop (l.length * sz),some e,cap * sz⟩::H.eraseIdx q):=by
 unfold StF StepOp
 intro t ha B w0 w hS
 have hr:=hS.ok _ (List.mem_of_getElem? hi)
 obtain ⟨hB,_,rest,hg,hlen⟩:=hr
 dsimp only at hg hlen hB
 have hroom : k + l.length ≤ cap:=by
  simp only [List.length_append,hxs] at hlen
  refine Nat.le_of_mul_le_mul_right (?_ : (k + l.length) * sz ≤ cap * sz) hz
  rw [Nat.add_mul];omega
 cases hl0 : l with
 | nil =>
  subst hl0
  refine ⟨.slice (some ⟨b,0,none⟩) k cap,w,_,.inl ?_,hS.turn (cs' := xs++old) (rest:=rest) hi ⟨rfl,rfl,rfl,Nat.le_refl _,fun _ _=>rfl⟩ (Nat.le_refl _) (fun _ _ _=>rfl) hg hlen,rfl,?_⟩
  ·exact run_append_op h (by rw [ha.ev hx,ha.ev hy];exact Fw.appendNone hT (by omega))
  ·simp
 | cons q0 l0 =>
  rw [← hl0]
  obtain ⟨b1,o1,rfl,_⟩:=hs.2 (by rw [hl0];simp)
  obtain ⟨ht,inf,z,hinf,hz',rfl,rfl,hzs⟩:=hT
  have hl : (l.flatMap enc).length = l.length * inf.size:=flat_len hs.1
  have hnews:=hs.rd.cell hS
  have h1' : ∀ u ∈ l.flatMap enc,u.oneCell' = true:=fun u hu=>by
   obtain ⟨e',he,hv⟩:=List.mem_flatMap.1 hu
   exact List.all_eq_true.1 (h1 e' he) u hv
  have hfit : k * inf.size + (l.flatMap enc).length ≤ (xs++old++rest).toArray.size:=by
   rw [List.size_toArray,hlen,hl, ← Nat.add_mul];exact Nat.mul_le_mul_right _ hroom
  have hrun:=run_append_room (P:=P) w T o.type e inf ht hinf b k cap _ hg ⟨b1,o1,none⟩ l.length c (l.flatMap enc) hl hnews h1' hroom hfit
  refine ⟨.slice (some ⟨b,0,none⟩) (k + l.length) cap,_,_,.inl (run_append_op h (by rw [ha.ev hx,ha.ev hy];exact hrun)),?_,rfl,rfl⟩
  refine hS.turn (rest:=rest) hi ⟨rfl,rfl,rfl,by simp,fun q hq=>setRow_other w b q _ (by omega)⟩ (by simp) (fun q _ hq=>setRow_other w b q _ hq) ?_ ?_
  ·rw [setRow_heap w b _ _ e _ hg]
   congr 3
   have e1 : (xs++old++rest).take (k * inf.size)=xs:=by rw [← hxs,List.append_assoc];exact List.take_left
   have e2 : (xs++old++rest).drop (k * inf.size + (l.flatMap enc).length)=old.drop (l.length * inf.size)++rest:=by
    rw [← hxs, ← List.drop_drop,List.append_assoc,List.drop_left,hl,List.drop_append_of_le_length ho]
   simp only [e1,e2]
   simp
  ·simp only [List.length_append,List.length_drop] at hlen ⊢
   rw [hl]
   omega
theorem sliceLoHi {P : Program} {n : Nat} {H : List Row} {F : FS} {o : Oper} {T e : TypeId} {x q r : Operand} {b off len cap lo hh s y : Nat} {kk kk' : IntKind} {ti : TI} (h : o.op = .slice T x (some q) (some r) none) (hx : evF F x = some (.slice (some ⟨b,off,none⟩) len cap)) (hT : tiOf P T = some ⟨.sl e,s,y⟩) (he : tiOf P e = some ti) (hq : evF F q = some (.int kk (lo : Int))) (hr : evF F r = some (.int kk' (hh : Int))) (h1 : lo ≤ hh) (h2 : hh ≤ cap) (h3 : lo < cap) :
  EvF P n H F o (.slice (some ⟨b,off + lo * ti.size,none⟩) (hh - lo) (cap - lo)):=by
 have:=EvF.slice (P:=P) (n:=n) (H:=H) h hx hT he (m:=cap) rfl (hh:=hh) ⟨kk',hr⟩ (l:=lo) ⟨kk,hq⟩ h1 h2 (Nat.le_refl _)
 rwa [if_neg (by omega)] at this
def tsKdl : List TOp:=[⟨some 20,[],[],[]⟩,⟨some 21,[],[],[]⟩,⟨some 22,[0,1],[0,1],[]⟩,⟨some 23,[],[],[]⟩,⟨some 24,[],[],[]⟩,⟨some 25,[3,4],[3,4],[]⟩,⟨some 26,[0,1,2,3,4,5],[2,5],[8]⟩,⟨some 0,[0,1,2,3,4,5,6],[6],[]⟩,⟨none,[],[],[]⟩]
def valKdl (b ii nn cc : Nat) (P0 P1 : List Value) (k : Nat) (env : Env) : Value :=
 match k with
 | 0 => .slice (some ⟨b,0,none⟩) nn cc
 | 1 => .int .i64 (ii : Nat)
 | 2 => .slice (some ⟨b,0,none⟩) ii cc
 | 3 => .slice (some ⟨b,0,none⟩) nn cc
 | 4 => .int .i64 (ii + 1 : Nat)
 | 5 => .slice (sfrom (some ⟨b,0,none⟩) cc (ii + 1) 1) (nn - (ii + 1)) (cc - (ii + 1))
 | 6 => .slice (some ⟨b,0,none⟩) (ii + (nn - (ii + 1))) cc
 | 7 => .slice (some ⟨b,0,none⟩) (ii + (nn - (ii + 1))) cc
 | _=>undef
def rowsKdl (b ii nn cc : Nat) (P0 P1 : List Value) (k : Nat) (env : Env) : List Row :=
 match k with
 | 6=>[⟨b,0,P1,some 3,cc * 1⟩]
 | 8=>[⟨b,0,P0,some 3,cc * 1⟩]
 | _=>[]
theorem locKdl (b ii nn cc : Nat) (P0 P1 : List Value) : ∀ k env i q9,i ≠ k → (tAt tsKdl k).sup.contains i = false → valKdl b ii nn cc P0 P1 k (upd env i q9)=valKdl b ii nn cc P0 P1 k env∧rowsKdl b ii nn cc P0 P1 k (upd env i q9)=rowsKdl b ii nn cc P0 P1 k env:=by
 intro k env i q hk hs
 have hu : ∀ j,j ≠ i → upd env i q j = env j:=fun j hj=>by unfold upd;rw [if_neg hj]
 match k,hk,hs with
 | 0,_,_=>exact ⟨rfl,rfl⟩
 | 1,_,_=>exact ⟨rfl,rfl⟩
 | 2,_,_=>exact ⟨rfl,rfl⟩
 | 3,_,_=>exact ⟨rfl,rfl⟩
 | 4,_,_=>exact ⟨rfl,rfl⟩
 | 5,_,_=>exact ⟨rfl,rfl⟩
 | 6,_,_=>exact ⟨rfl,rfl⟩
 | 7,_,_=>exact ⟨rfl,rfl⟩
 | 8,_,_=>exact ⟨rfl,rfl⟩
 | _ + 9,_,_=>exact ⟨rfl,rfl⟩
def rdKdl (_ : Nat) : List Nat:=[]
set_option maxHeartbeats 4000000 in
theorem delete_spec (L : List Int) (b c i : Nat) (H : List Row) (hi : i < L.length) (hb : L.length ≤ 1000000) :
  Fc Tryz.prog 74 [.slice (some ⟨b,0,none⟩) L.length c,.int .i64 (i : Nat),.int .i64 (i + 1 : Nat)] (⟨b,0,L.flatMap cI,some 3,c * 1⟩::H)
   (fun v H' => v = .slice (some ⟨b,0,none⟩) (L.take i++L.drop (i + 1)).length c∧H' = ⟨b,0,(L.take i++L.drop (i + 1)).flatMap cI,some 3,c * 1⟩::H):=by
 have hlA : (L.take i).length = i:=by rw [List.length_take];omega
 have hlB : (L.drop (i + 1)).length = L.length - (i + 1):=List.length_drop
 have hfA : ((L.take i).flatMap cI).length = i * 1:=by rw [lenI,hlA]
 have hfB : ((L.drop (i + 1)).flatMap cI).length = (L.length - (i + 1)) * 1:=by rw [lenI,hlB]
 have hfD : ((L.drop i).flatMap cI).length = (L.length - i) * 1:=by rw [lenI,List.length_drop]
 have hsp : L.flatMap cI = (L.take i).flatMap cI++(L.drop i).flatMap cI:=by rw [← List.flatMap_append,List.take_append_drop]
 obtain ⟨E,hE⟩ : ∃ E,E = ((L.drop i).flatMap cI).drop ((L.drop (i + 1)).length * 1):=⟨_,rfl⟩
 have hEl : E.length = 1:=by rw [hE,List.length_drop,hfD,hlB];omega
 refine Fc.mk (callable Tryz.call74) Tryz.func74 rfl Tryz.ntmps74 rfl ?_;dsimp only [fr]
 refine X.reveal (q:=0) rfl (fun rest hrest=>?_)
 refine X.forget (q:=0) (cs:=L.flatMap cI) (cs' := rest) rfl ?_
 have hc : L.length ≤ c:=by rw [List.length_append,lenI] at hrest;omega
 clear hrest
 dsimp only [List.set]
 repeat' (first | (refine uP rfl ?_;(first | ((first | refine uN rfl ?_);(first | (refine uE (uQ (b:=false) rfl rfl rfl (congrArg some (decide_eq_false (by omega)))) rfl rfl ?_)|(refine uE (EvF.slice (l:=i) (hh:=i + 1) (m:=L.length) rfl rfl (te rfl) (te rfl) ⟨_,rfl⟩ ⟨_,rfl⟩ ⟨_,rfl⟩ (by omega) (by omega) (by omega)) rfl rfl ?_)|(refine uE (uM rfl rfl) rfl rfl ?_)|(refine uE (uA rfl rfl) rfl rfl ?_)|(refine uE (EvF.lenSlice rfl rfl (te rfl)) rfl rfl ?_)))))|(refine uD rfl ?_;refine hK _ _ ?_;clear hK K) | refine uS rfl ?_ | refine uR rfl (fun K hK=>?_) | refine X.skip rfl ?_ | (refine X.ite rfl rfl (fun hc=>?_);(first | (with_reducible refine Xb.f hc ?_)) <;> clear hc))
 all_goals try (exfalso;contradiction)
 all_goals try (exfalso;omega)
 have hsl : ∀ S,SlE (⟨b,0,L.flatMap cI,some 3,c * 1⟩::S) (sfrom (some ⟨b,0,none⟩) c (i + 1) 1) cI 1 (L.drop (i + 1)):=fun S=>by
  have h0 : SlE (⟨b,0,L.flatMap cI,some 3,c * 1⟩::S) (some ⟨b,0,none⟩) cI 1 L:=SlE.ofRow (qH _) (fun _ _=>rfl)
  exact sleFrom h0 hc (i + 1)
 refine X.regionRs [] tsKdl rdKdl [1,2,7] [(1,.int .i64 (i : Nat)),(2,.int .i64 (i + 1 : Nat)),(7,.int .i64 (L.length : Nat))] (valKdl b i L.length c (L.flatMap cI) ((L.take i).flatMap cI++(L.drop (i + 1)).flatMap cI++E)) (rowsKdl b i L.length c (L.flatMap cI) ((L.take i).flatMap cI++(L.drop (i + 1)).flatMap cI++E)) (fun _=>(0,0)) (H) rfl mixed (by repeat (first | exact uU _ | refine uV rfl ?_)) rfl (by kernel_rfl) (by kernel_rfl) (locKdl b i L.length c (L.flatMap cI) ((L.take i).flatMap cI++(L.drop (i + 1)).flatMap cI++E)) (fun i d hi=>by cases hi) (qR _) [(7,0,.slice (some ⟨b,0,none⟩) L.length c)] (by intro e he;simp only [List.mem_cons,List.not_mem_nil,or_false] at he;rcases he with rfl <;> exact ⟨rfl,Nat.le_of_ble_eq_true rfl⟩) (by intro e he;simp only [List.mem_cons,List.not_mem_nil,or_false] at he;rcases he with rfl <;> exact rfl) ?_ ?_
 ·repeat' (first | exact AllF.done rfl | (refine AllF.step rfl ?_ ?_;·(first | fail | (refine Ob.toR ?_;((first | refine Ob.ng rfl ?_);(first | exact ObK.pure (fun env R hR=>by exact ⟨_,uM rfl rfl,rfl⟩) rfl (fun _=>rfl) | exact ObK.pure (fun env R hR=>by exact ⟨_,uA rfl rfl,rfl⟩) rfl (fun _=>rfl)|(exact ObK.pure (fun env S hS=>⟨_,EvF.sliceTo (hh:=i) rfl rfl (te rfl) (te rfl) rfl (by omega),rfl⟩) rfl (fun _=>rfl))|(exact ObK.pure (fun env S hS=>⟨_,EvF.sliceFrom (lo:=i + 1) rfl rfl (te rfl) (te rfl) rfl (by omega) (by omega),rfl⟩) rfl (fun _=>rfl))|(exact fun env S hS=>(appendRoom (enc:=cI) (q:=0) (l:=L.drop (i + 1)) (xs:=(L.take i).flatMap cI) (old:=(L.drop i).flatMap cI) rfl el55 rfl (by rw [hlB];rfl) (by rw [← hsp];rfl) (hsl S) (fun _ _=>rfl) hfA (by decide) (by rw [hlB,hfD];omega)).op.mono (fun v H' ⟨hv,hH⟩=>⟨(0,0),fun _=>by rw [hv,hlB];rfl,by rw [hH, ← hE];exact List.Perm.refl _⟩))))))))
 ·intro env t ha2 hv;refine ⟨_,ha2.cons (hv 7 0 (Nat.le_of_ble_eq_true rfl) rfl),?_⟩;clear hv ha2
  show X _ _ _ [(0,.slice (some ⟨b,0,none⟩) (i + (L.length - (i + 1))) c),(1,.int .i64 (i : Nat)),(2,.int .i64 (i + 1 : Nat)),(7,.int .i64 L.length)] (⟨b,0,(L.take i).flatMap cI++(L.drop (i + 1)).flatMap cI++E,some 3,c * 1⟩::H) _
  clear env
  rw [← List.flatMap_append,show i + (L.length - (i + 1)) = L.length - 1 by omega]
  have hPl : ((L.take i++L.drop (i + 1)).flatMap cI).length = (L.length - 1) * 1:=by rw [lenI,List.length_append,hlA,hlB];omega
  have hPn : (L.take i++L.drop (i + 1)).length = L.length - 1:=by rw [List.length_append,hlA,hlB];omega
  rw [hPn]
  have e2 : ∀ zs : List Value,zs.length = (L.length - (L.length - 1)) * 1 → splice ((L.take i++L.drop (i + 1)).flatMap cI++E) (0 + (L.length - 1) * 1) zs = (L.take i++L.drop (i + 1)).flatMap cI++zs:=fun zs hzs=>by
   have:=splice_at (xs:=(L.take i++L.drop (i + 1)).flatMap cI) (ys:=E) (zs:=[]) (vs:=zs) (j:=0 + (L.length - 1) * 1) (by rw [hPl];omega) (by rw [hzs,hEl];omega)
   rwa [List.append_nil,List.append_nil] at this
  repeat' (first | (refine uP rfl ?_;(first | ((first | refine uN rfl ?_);(first | (refine uE (sliceLoHi (lo:=L.length - 1) (hh:=L.length) rfl rfl (te rfl) (te rfl) rfl rfl (by omega) (by omega) (by omega)) rfl rfl ?_)|(refine Xg.st0 (StF.clear (q:=0) rfl el55 rfl rfl (by rw [List.length_append,hPl,hEl];show 0 + (L.length - 1) * 1 + (L.length - (L.length - 1)) * 1 ≤ _;omega) honeInt) rfl ?_;rintro _ _ ⟨zs,hzs,rfl⟩;dsimp only [List.set];rw [e2 zs hzs];refine XO.forget (q:=0) rfl ?_;dsimp only [List.set])|(refine uE (uM rfl rfl) rfl rfl ?_)|(refine uE (uA rfl rfl) rfl rfl ?_)|(refine uE (EvF.lenSlice rfl rfl (te rfl)) rfl rfl ?_)))))|(refine uD rfl ?_;refine hK _ _ ?_;clear hK K) | refine uS rfl ?_ | refine uR rfl (fun K hK=>?_) | refine X.ret rfl ?_)
  exact ret_one (by simp) Tryz.results74 rfl (H' := ⟨b,0,(L.take i++L.drop (i + 1)).flatMap cI,some 3,c * 1⟩::H) (qR _) ⟨rfl,rfl⟩
end Go.Proofs.YtmfppdpkalelhaaGreat
end
section
set_option linter.unusedVariables false
set_option linter.unusedSimpArgs false
namespace Go.Proofs.YtmfppdpkalelhaaGreat
open Go Go.Fw
set_option maxRecDepth 10000
theorem numsSl (R : Rm) (p : Pl) (H : List Row) (hM : SlE H p.a3 cMt 6 R.mats) (hl : R.mats.length ≤ 1000000) : Fc Tryz.prog 54 [.slice p.a3 R.mats.length p.c3,.func (.func 55) #[] #[]] H (fun v H' => ∃ a c Z,v = .slice a (R.mats.map (·.number)).length c∧(∀ S,SlE (Z++S) a cI 1 (R.mats.map (·.number)))∧H' = Z++H) :=
 (numsMt R p H hM hl).mono fun v H' h=>by
  rcases h with ⟨h0,hv,hH⟩ | ⟨b,q,_,hv,hH⟩
  ·exact ⟨none,0,[],by rw [hv,h0];rfl,fun _=>by rw [h0];exact sleNil,hH⟩
  ·exact ⟨some ⟨b,0,none⟩,q,[_],hv,fun _=>SlE.ofRow (qH _) (fun _ _=>rfl),hH⟩
theorem numsRow (R : Rm) (p : Pl) (H : List Row) (hM : SlE H p.a3 cMt 6 R.mats) (hl : R.mats.length ≤ 1000000) (h0 : R.mats ≠ []) : Fc Tryz.prog 54 [.slice p.a3 R.mats.length p.c3,.func (.func 55) #[] #[]] H (fun v H' => ∃ b q,v = .slice (some ⟨b,0,none⟩) (R.mats.map (·.number)).length q∧H' = ⟨b,0,(R.mats.map (·.number)).flatMap cI,some 3,q * 1⟩::H) :=
 (numsMt R p H hM hl).mono fun v H' h=>by
  rcases h with ⟨h1,_,_⟩ | ⟨b,q,_,hv,hH⟩
  ·exact absurd h1 h0
  ·exact ⟨b,q,hv,hH⟩
theorem in_out {R : Rm} (hn : (R.mats.map (·.number)).Nodup) {k : Nat} {x : Mt} (hx : R.mats[k]? = some x) : inM R.mats ((R.mats.map (·.number)).take k++(R.mats.map (·.number)).drop (k + 1)) = outM R.mats [x.number]:=by
 obtain ⟨L,hL⟩ : ∃ L,L = R.mats.map (·.number):=⟨_,rfl⟩
 have hxL : L[k]? = some x.number:=by rw [hL,List.getElem?_map,hx];rfl
 have hmem : ∀ y ∈ R.mats,y.number ∈ L:=fun y hy=>by rw [hL];exact List.mem_map.2 ⟨y,hy,rfl⟩
 rw [← hL] at hn ⊢
 have hsp : L.take k++x.number::L.drop (k + 1)=L:=by rw [← drop_cons hxL];exact List.take_append_drop _ _
 obtain ⟨A,hA⟩ : ∃ A,A = L.take k:=⟨_,rfl⟩
 obtain ⟨B,hB⟩ : ∃ B,B = L.drop (k + 1):=⟨_,rfl⟩
 rw [← hA, ← hB] at hsp ⊢
 rw [← hsp] at hn hmem
 have hne : x.number ∉ A++B:=((List.perm_middle.nodup_iff).1 hn |> List.nodup_cons.1).1
 unfold inM outM
 refine List.filter_congr fun y hy=>?_
 have hy' := hmem y hy
 by_cases h : y.number = x.number
 ·rw [h,decide_eq_false hne]
  simp
 ·rw [decide_eq_true (p:=y.number ∈ A++B) ?_]
  ·simp [h]
  ·rcases List.mem_append.1 hy' with q | q
   ·exact List.mem_append_left _ q
   ·rcases List.mem_cons.1 q with q | q
    ·exact absurd q h
    ·exact List.mem_append_right _ q
set_option maxHeartbeats 8000000 in
theorem kRests_spec (R : Rm) (p : Pl) (x m : Int) (H : List Row) (hR : RmOk H R p) (h2 : R.boxes.length ≤ 1000000) : Fc Tryz.prog 35 [.agg (cRm R p).toArray,.int .i64 x,.int .i64 m] H (LstR (rstF R x m).1 (rstF R x m).2 H):=by
 obtain ⟨e,he⟩ : ∃ e,openE R [x] [m] = e:=⟨_,rfl⟩
 by_cases h0 : e = 0
 ·subst h0
  obtain ⟨hok,_,_,hT⟩:=openE_ok he
  have hml : R.mats.length ≤ 8:=hok.1.2.2.2.2.2.2
  have hnd:=hok.nums
  have hpq:=plcs_of he (List.mem_singleton.2 rfl) (List.mem_singleton.2 rfl)
  have hcm:=fun S hS=>claimedY R p x m S hS h2 he
  have hy : rstF R x m = (rsG (prvM R ⟨x,m⟩ (rng R R.mats ⟨x,m⟩ zp)) R R.mats,0):=by
   unfold rstF
   rw [if_pos he]
   rfl
  rw [hy]
  clear hy
  obtain ⟨s,hs⟩ : ∃ s,s = rng R R.mats ⟨x,m⟩ zp:=⟨_,rfl⟩
  rw [← hs] at hcm ⊢
  clear hs
  have hio : ∀ (k : Nat) (y : Mt),R.mats[k]? = some y → prvN R ⟨x,m⟩ s ((R.mats.map (·.number)).take k++(R.mats.map (·.number)).drop (k + 1)) = prvM R ⟨x,m⟩ s (outM R.mats [y.number]):=fun k y hy=>by
   unfold prvN
   rw [in_out hnd hy]
  have hns:=fun S hS=>numsSl R p S hS (by omega)
  have hnr:=fun S hS=>numsRow R p S hS (by omega)
  obtain ⟨L,hL⟩ : ∃ L,L = R.mats.map (·.number):=⟨_,rfl⟩
  have hLl : L.length = R.mats.length:=by rw [hL,List.length_map]
  have hLg : ∀ (k : Nat) (y : Mt),R.mats[k]? = some y → L[k]? = some y.number:=fun k y hy=>by rw [hL,List.getElem?_map,hy];rfl
  rw [← hL] at hns hnr
  simp only [← hL] at hio
  obtain ⟨ok,hok'⟩ : ∃ ok,ok = prvM R ⟨x,m⟩ s:=⟨_,rfl⟩
  rw [← hok']
  simp only [← hok'] at hio
  refine Fc.mk (callable Tryz.call35) Tryz.func35 rfl Tryz.ntmps35 rfl ?_;dsimp only [fr]
  repeat' (first | (refine uP rfl ?_;(first | ((first | refine uN rfl ?_);(first | (refine uE (uQ (b:=false) rfl rfl rfl (congrArg some (nd_f (by omega)))) rfl rfl ?_)|(refine uE (uL rfl rfl (uW (T:=32) (cs:=cRm R p) (te rfl) rfl (by repeat (first | exact qH _ | apply qT)) rfl)) rfl rfl ?_)|(refine uC (uT rfl (by (repeat (first | exact Args.nil | refine Args.cons rfl ?_));done)) rfl rfl (hcm _ (hR.sub (fun _ h=>by repeat (first | exact h | apply qT)))) ?_;rintro _ _ ⟨b,k,hbk,rfl,rfl⟩)|(refine uE (uX rfl rfl rfl) rfl rfl ?_)|(refine Xg.st (StF.alloc rfl Tryz.zeroValue95 rfl) rfl rfl ?_;rintro _ _ ⟨b8,rfl,rfl⟩)|(refine Xg.st0 (StF.storeAll (i:=0) (vs:=cCm R p (some ⟨b,0,none⟩) k ⟨x,m⟩ s) rfl rfl rfl (te rfl) rfl rfl rfl rfl) rfl ?_;rintro _ _ ⟨rfl,rfl⟩;dsimp only [List.set])|(refine uE (uL rfl rfl (uO (cs:=cRm R p) (te rfl) rfl (by repeat (first | exact qH _ | apply qT)) rfl)) rfl rfl ?_)|(refine uC (uT rfl (by (repeat (first | exact Args.nil | refine Args.cons rfl ?_));done)) rfl rfl (hns _ (hR.mats.sub (fun _ h=>by repeat (first | exact h | apply qT)))) ?_;rintro _ _ ⟨an,cn,Z0,rfl,hZ0,rfl⟩)|(refine uE (uM rfl rfl) rfl rfl ?_)|(refine uE (uA rfl rfl) rfl rfl ?_)|(refine uE (uF rfl rfl (te rfl) rfl (te rfl) (by decide)) rfl rfl ?_)|(refine uE (EvF.lenSlice rfl rfl (te rfl)) rfl rfl ?_)|(refine Xg.st (StF.boxAgg rfl rfl) rfl rfl ?_;rintro _ _ ⟨bx,rfl,rfl⟩)))))|(refine uD rfl ?_;refine hK _ _ ?_;clear hK K) | refine uS rfl ?_ | refine uR rfl (fun K hK=>?_) | refine X.block rfl ?_ | refine X.skip rfl ?_ | (refine X.ite rfl rfl (fun hc=>?_);(first | (with_reducible refine Xb.f hc ?_)) <;> clear hc))
  all_goals try (exfalso;contradiction)
  generalize bx = b3
  obtain ⟨G,hG⟩ : ∃ G : List Row,G = Z0++⟨b8,0,cCm R p (some ⟨b,0,none⟩) k ⟨x,m⟩ s,some 95,10⟩::⟨b,0,(plcs R).flatMap cPk,some 86,k * 2⟩::⟨b3,0,cRm R p,some 32,5⟩::H:=⟨_,rfl⟩
  have hg8 : (⟨b8,0,cCm R p (some ⟨b,0,none⟩) k ⟨x,m⟩ s,some 95,10⟩ : Row) ∈ G:=by rw [hG];exact List.mem_append_right _ (qH _)
  have hgb : (⟨b,0,(plcs R).flatMap cPk,some 86,k * 2⟩ : Row) ∈ G:=by rw [hG];exact List.mem_append_right _ (qT _ (qH _))
  have hg3 : (⟨b3,0,cRm R p,some 32,5⟩ : Row) ∈ G:=by rw [hG];exact List.mem_append_right _ (qT _ (qT _ (qH _)))
  have hHG : H.Sublist G:=by rw [hG];exact (qC _ (qC _ (qC _ (qR _)))).trans (List.sublist_append_right _ _)
  have hGl : SlE G an cI 1 L:=by rw [hG];exact hZ0 _
  have hGR : RmOk G R p:=hR.sub (fun r h=>hHG.subset h)
  have hCt : CtOk G R p (some ⟨b,0,none⟩):=⟨hGR,SlE.ofRow hgb (fun _ _=>rfl)⟩
  have hpr : ∀ (l : List Int) (al : Option Addr) (cl : Nat) (S : List Row),(∀ r ∈ G,r ∈ S) → SlE S al cI 1 l → l.length ≤ 1000000 → Fc Tryz.prog 56 [.agg (cCm R p (some ⟨b,0,none⟩) k ⟨x,m⟩ s).toArray,.slice al l.length cl] S (fun v H' => v = .bool (prvN R ⟨x,m⟩ s l)∧H' = S):=fun l al cl S hS hsl hl =>
   kproves_spec R p (some ⟨b,0,none⟩) k ⟨x,m⟩ s l al cl S hok.ok hok.mats (CtOk.sub hCt hS) hok.lens.ages hok.lens.mats hbk hT hpq hsl hl
  refine X.lp rfl (fun q F' H' => ∃ (i : Nat) (out : Value) (Z : List Row),q = R.mats.length - i∧i ≤ R.mats.length∧((rsG ok R (R.mats.take i) = []∧out = .slice none 0 0∧Z = []) ∨ ∃ bn kn,out = .slice (some ⟨bn,0,none⟩) (rsG ok R (R.mats.take i)).length kn∧Z = [⟨bn,0,(rsG ok R (R.mats.take i)).flatMap cI,some 3,kn * 1⟩])∧Z++G = H'∧F' = [(3,.pointer (some ⟨b3,0,none⟩)),(8,.pointer (some ⟨b8,0,none⟩)),(10,out),(26,.slice an L.length cn),(27,.int .i64 L.length),(28,.int .i64 (i : Nat))])
   R.mats.length [(3,.pointer (some ⟨b3,0,none⟩)),(8,.pointer (some ⟨b8,0,none⟩)),(10,.slice none 0 0),(26,.slice an L.length cn),(27,.int .i64 L.length),(28,.int .i64 (0 : Nat))] G (by repeat (first | exact uU _ | refine uV rfl ?_)) (by rw [hG];exact qR _) ⟨0,_,[],rfl,by omega,.inl ⟨rfl,rfl,rfl⟩,rfl,rfl⟩ ?_
  clear hG hZ0 hR hns
  rintro _ _ _ ⟨i,out,Z,rfl,hi,hTz,rfl,rfl⟩
  have hzl:=rsG_len ok R (R.mats.take i)
  have hlT:=List.length_take (i:=i) (l:=R.mats)
  by_cases hlt : i < R.mats.length
  ·obtain ⟨y,hyi⟩ : ∃ y,R.mats[i]? = some y:=⟨_,List.getElem?_eq_getElem hlt⟩
   have hyL:=hLg i y hyi
   obtain ⟨bl,off,_,hqa,_⟩:=hGl.elem (i:=i) (by omega)
   subst hqa
   have hsn:=rsG_snoc ok R hyi
   obtain ⟨G2,hG2⟩ : ∃ G2 : List Row,Z++G = G2:=⟨_,rfl⟩
   have hGS : ∀ r ∈ G,r ∈ G2:=fun r h=>by rw [← hG2];exact List.mem_append_right _ h
   have hg8' := hGS _ hg8
   have hg3' := hGS _ hg3
   have hGm' := hGR.mats.sub hGS
   have hGl' := hGl.sub hGS
   obtain ⟨Q,hQ⟩ : ∃ Q,Q = L.take i++L.drop (i + 1):=⟨_,rfl⟩
   have hQl : Q.length ≤ 1000000:=by rw [hQ,List.length_append,List.length_take,List.length_drop];omega
   have hprQ:=fun al cl S hS hsl=>hpr Q al cl S hS hsl hQl
   rw [show prvN R ⟨x,m⟩ s Q = ok (outM R.mats [y.number]) by rw [hQ];exact hio i y hyi] at hprQ
   have hdl:=fun b9 c9 S=>delete_spec L b9 c9 i S (by omega) (by omega)
   rw [← hQ] at hdl
   have hne : R.mats ≠ []:=fun h=>by rw [h] at hlt;simp at hlt
   obtain ⟨w,hw⟩ : ∃ w,w = ok (outM R.mats [y.number]):=⟨_,rfl⟩
   rw [← hw] at hprQ hsn
   rw [hG2]
   cases w with
   | true =>
    rw [if_pos rfl,List.append_nil] at hsn
    repeat' (first | (refine uP rfl ?_;(first | ((first | refine uN rfl ?_);(first | (refine uE (uQ (b:=true) rfl rfl rfl (congrArg some (decide_eq_true (by omega)))) rfl rfl ?_)|(refine uE (uL rfl rfl (LoadV.el0 (hGl') hyL (te rfl) rfl (fun _ hm=>hm) rfl)) rfl rfl ?_)|(refine uE (uL rfl rfl (uO (cs:=cRm R p) (te rfl) rfl hg3' rfl)) rfl rfl ?_)|(refine uC (uT rfl (by (repeat (first | exact Args.nil | refine Args.cons rfl ?_));done)) rfl rfl (hnr _ (hGm'.sub (fun _ h=>by repeat (first | exact h | apply qT))) hne) ?_;rintro _ _ ⟨b9,c9,rfl,rfl⟩)|(refine uC (uT rfl (Args.cons rfl (Args.cons rfl (Args.cons rfl Args.nil)))) rfl rfl (hdl b9 c9 _) ?_;rintro _ H9 ⟨rfl,hH9⟩;subst H9)|(refine uE (EvF.add64 (p:=(i : Int)) (q:=1) rfl rfl rfl (by omega) (by omega)) rfl rfl ?_)|(refine uE (uL rfl rfl (uW (T:=95) (cs:=cCm R p (some ⟨b,0,none⟩) k ⟨x,m⟩ s) (te rfl) rfl (qT _ hg8') rfl)) rfl rfl ?_)|(refine uC (uT rfl (Args.cons rfl (Args.cons rfl Args.nil))) rfl rfl (hprQ (some ⟨b9,0,none⟩) c9 _ (fun r h=>qT _ (hGS r h)) (SlE.ofRow (qH _) (fun _ _=>rfl))) ?_;rintro _ H9 ⟨rfl,hH9⟩;subst H9)|(refine uE (uM rfl rfl) rfl rfl ?_)|(refine uE (uA rfl rfl) rfl rfl ?_)|(refine uE (EvF.not rfl rfl) rfl rfl ?_)|(refine uE (uF rfl rfl (te rfl) rfl (te rfl) (by decide)) rfl rfl ?_)|(refine uE (EvF.indexSlice rfl rfl rfl (te rfl) (te rfl) (by omega) (by omega)) rfl rfl ?_)))))|(refine uD rfl ?_;refine hK _ _ ?_;clear hK K) | refine uS rfl ?_ | refine uR rfl (fun K hK=>?_) | refine X.block rfl ?_ | refine X.skip rfl ?_ | (refine X.ite rfl rfl (fun hc=>?_);(first | (with_reducible refine Xb.t hc ?_)|(with_reducible refine Xb.caseB hc (fun h=>?_) (fun h=>?_))) <;> clear hc))
    all_goals try (exfalso;contradiction)
    exact ⟨_,[(3,.pointer (some ⟨b3,0,none⟩)),(8,.pointer (some ⟨b8,0,none⟩)),(10,out),(26,.slice (some ⟨bl,off,none⟩) L.length cn),(27,.int .i64 L.length),(28,.int .i64 (i + 1 : Nat))],G2,(by repeat (first | exact uU _ | refine uV rfl ?_)),(by repeat (first | exact qR _ | apply qK | apply qC)),⟨i + 1,out,Z,rfl,by omega,by rw [hsn];exact hTz,hG2,rfl⟩,by omega⟩
   | false =>
    rw [if_neg (fun q=>by cases q)] at hsn
    rcases hTz with ⟨h9,rfl,rfl⟩ | ⟨bo,ko,rfl,rfl⟩
    ·rw [h9,List.nil_append] at hsn
     rw [List.nil_append] at hG2
     subst hG2
     repeat' (first | (refine uP rfl ?_;(first | ((first | refine uN rfl ?_);(first | (refine uE (uQ (b:=true) rfl rfl rfl (congrArg some (decide_eq_true (by omega)))) rfl rfl ?_)|(refine uE (uL rfl rfl (LoadV.el0 (hGl') hyL (te rfl) rfl (fun _ hm=>hm) rfl)) rfl rfl ?_)|(refine uE (uL rfl rfl (uO (cs:=cRm R p) (te rfl) rfl hg3' rfl)) rfl rfl ?_)|(refine uC (uT rfl (by (repeat (first | exact Args.nil | refine Args.cons rfl ?_));done)) rfl rfl (hnr _ (hGm'.sub (fun _ h=>by repeat (first | exact h | apply qT))) hne) ?_;rintro _ _ ⟨b9,c9,rfl,rfl⟩)|(refine uC (uT rfl (Args.cons rfl (Args.cons rfl (Args.cons rfl Args.nil)))) rfl rfl (hdl b9 c9 _) ?_;rintro _ H9 ⟨rfl,hH9⟩;subst H9)|(refine uE (EvF.add64 (p:=(i : Int)) (q:=1) rfl rfl rfl (by omega) (by omega)) rfl rfl ?_)|(refine uE (uL rfl rfl (uW (T:=95) (cs:=cCm R p (some ⟨b,0,none⟩) k ⟨x,m⟩ s) (te rfl) rfl (qT _ hg8') rfl)) rfl rfl ?_)|(refine uC (uT rfl (Args.cons rfl (Args.cons rfl Args.nil))) rfl rfl (hprQ (some ⟨b9,0,none⟩) c9 _ (fun r h=>qT _ (hGS r h)) (SlE.ofRow (qH _) (fun _ _=>rfl))) ?_;rintro _ H9 ⟨rfl,hH9⟩;subst H9)|(refine Xg.st (StF.buildOne rfl el55 rfl rfl rfl (by decide) (by decide)) rfl rfl ?_;rintro _ _ ⟨bs,rfl,rfl⟩)|(refine Xg.st (StF.appendNew rfl el55 rfl rfl (by decide) rfl (Rd.own (qH _)) (by decide)) rfl rfl ?_;rintro _ _ ⟨bn,kn,rfl,rfl⟩)|(refine uE (uM rfl rfl) rfl rfl ?_)|(refine uE (uA rfl rfl) rfl rfl ?_)|(refine uE (EvF.not rfl rfl) rfl rfl ?_)|(refine uE (uF rfl rfl (te rfl) rfl (te rfl) (by decide)) rfl rfl ?_)|(refine uE (EvF.indexSlice rfl rfl rfl (te rfl) (te rfl) (by omega) (by omega)) rfl rfl ?_)))))|(refine uD rfl ?_;refine hK _ _ ?_;clear hK K) | refine uS rfl ?_ | refine uR rfl (fun K hK=>?_) | refine X.block rfl ?_ | refine X.skip rfl ?_ | (refine X.ite rfl rfl (fun hc=>?_);(first | (with_reducible refine Xb.t hc ?_)|(with_reducible refine Xb.caseB hc (fun h=>?_) (fun h=>?_))) <;> clear hc))
     all_goals try (exfalso;contradiction)
     refine ⟨_,[(3,.pointer (some ⟨b3,0,none⟩)),(8,.pointer (some ⟨b8,0,none⟩)),(10,.slice (some ⟨bn,0,none⟩) 1 kn),(26,.slice (some ⟨bl,off,none⟩) L.length cn),(27,.int .i64 L.length),(28,.int .i64 (i + 1 : Nat))],⟨bn,0,(rsG ok R (R.mats.take (i + 1))).flatMap cI,some 3,kn * 1⟩::G,(by repeat (first | exact uU _ | refine uV rfl ?_)),?_,⟨i + 1,_,[_],rfl,by omega,.inr ⟨bn,kn,by rw [hsn];rfl,rfl⟩,rfl,rfl⟩,by omega⟩
     rw [hsn]
     exact (by repeat (first | exact qR _ | apply qK | apply qC))
    ·simp only [List.cons_append,List.nil_append] at hG2
     subst hG2
     have hlen9 : ((rsG ok R (R.mats.take i)).flatMap cI).length = (rsG ok R (R.mats.take i)).length * 1:=lenI _
     repeat' (first | (refine uP rfl ?_;(first | ((first | refine uN rfl ?_);(first | (refine uE (uQ (b:=true) rfl rfl rfl (congrArg some (decide_eq_true (by omega)))) rfl rfl ?_)|(refine uE (uL rfl rfl (LoadV.el0 (hGl') hyL (te rfl) rfl (fun _ hm=>hm) rfl)) rfl rfl ?_)|(refine uE (uL rfl rfl (uO (cs:=cRm R p) (te rfl) rfl hg3' rfl)) rfl rfl ?_)|(refine uC (uT rfl (by (repeat (first | exact Args.nil | refine Args.cons rfl ?_));done)) rfl rfl (hnr _ (hGm'.sub (fun _ h=>by repeat (first | exact h | apply qT))) hne) ?_;rintro _ _ ⟨b9,c9,rfl,rfl⟩)|(refine uC (uT rfl (Args.cons rfl (Args.cons rfl (Args.cons rfl Args.nil)))) rfl rfl (hdl b9 c9 _) ?_;rintro _ H9 ⟨rfl,hH9⟩;subst H9)|(refine uE (EvF.add64 (p:=(i : Int)) (q:=1) rfl rfl rfl (by omega) (by omega)) rfl rfl ?_)|(refine uE (uL rfl rfl (uW (T:=95) (cs:=cCm R p (some ⟨b,0,none⟩) k ⟨x,m⟩ s) (te rfl) rfl (qT _ hg8') rfl)) rfl rfl ?_)|(refine uC (uT rfl (Args.cons rfl (Args.cons rfl Args.nil))) rfl rfl (hprQ (some ⟨b9,0,none⟩) c9 _ (fun r h=>qT _ (hGS r h)) (SlE.ofRow (qH _) (fun _ _=>rfl))) ?_;rintro _ H9 ⟨rfl,hH9⟩;subst H9)|(refine Xg.st (StF.buildOne rfl el55 rfl rfl rfl (by decide) (by decide)) rfl rfl ?_;rintro _ _ ⟨bs,rfl,rfl⟩)|(refine Xg.st (StF.appendOwn (i:=2) rfl el55 rfl rfl rfl hlen9 rfl (Rd.own (qH _)) rfl (by omega)) rfl rfl ?_;rintro _ _ ⟨bn,kn,rfl,rfl⟩;dsimp only [List.eraseIdx])|(refine uE (uM rfl rfl) rfl rfl ?_)|(refine uE (uA rfl rfl) rfl rfl ?_)|(refine uE (EvF.not rfl rfl) rfl rfl ?_)|(refine uE (uF rfl rfl (te rfl) rfl (te rfl) (by decide)) rfl rfl ?_)|(refine uE (EvF.indexSlice rfl rfl rfl (te rfl) (te rfl) (by omega) (by omega)) rfl rfl ?_)))))|(refine uD rfl ?_;refine hK _ _ ?_;clear hK K) | refine uS rfl ?_ | refine uR rfl (fun K hK=>?_) | refine X.block rfl ?_ | refine X.skip rfl ?_ | (refine X.ite rfl rfl (fun hc=>?_);(first | (with_reducible refine Xb.t hc ?_)|(with_reducible refine Xb.caseB hc (fun h=>?_) (fun h=>?_))) <;> clear hc))
     all_goals try (exfalso;contradiction)
     refine ⟨_,[(3,.pointer (some ⟨b3,0,none⟩)),(8,.pointer (some ⟨b8,0,none⟩)),(10,.slice (some ⟨bn,0,none⟩) ((rsG ok R (R.mats.take i)).length + 1) kn),(26,.slice (some ⟨bl,off,none⟩) L.length cn),(27,.int .i64 L.length),(28,.int .i64 (i + 1 : Nat))],⟨bn,0,(rsG ok R (R.mats.take (i + 1))).flatMap cI,some 3,kn * 1⟩::G,(by repeat (first | exact uU _ | refine uV rfl ?_)),?_,⟨i + 1,_,[_],rfl,by omega,.inr ⟨bn,kn,by rw [hsn,List.length_append];rfl,rfl⟩,rfl,rfl⟩,by omega⟩
     rw [hsn,List.flatMap_append]
     exact (by repeat (first | exact qR _ | apply qK | apply qC))
  ·obtain rfl : i = R.mats.length:=by omega
   rw [List.take_length] at hTz
   repeat' (first | (refine uP rfl ?_;(first | ((first | refine uN rfl ?_);(first | (refine uE (uQ (b:=false) rfl rfl rfl (congrArg some (decide_eq_false (by omega)))) rfl rfl ?_)|(refine uE (uM rfl rfl) rfl rfl ?_)|(refine uE (uA rfl rfl) rfl rfl ?_)))))|(refine uD rfl ?_;refine hK _ _ ?_;clear hK K) | refine uS rfl ?_ | refine uR rfl (fun K hK=>?_)|(refine X.brk rfl ?_;repeat (first | refine blockX_hit rfl ?_ | refine blockX_miss (by decide) ?_)) | refine X.ret rfl ?_ | (refine X.ite rfl rfl (fun hc=>?_);(first | (with_reducible refine Xb.f hc ?_)) <;> clear hc))
   all_goals try (exfalso;contradiction)
   rcases hTz with ⟨h9,rfl,rfl⟩ | ⟨bo,ko,rfl,rfl⟩
   ·rw [h9]
    exact ret_two (by simp) Tryz.results35 rfl rfl (H' := H) hHG ⟨none,0,[],rfl,sleNil,rfl⟩
   ·exact ret_two (by simp) Tryz.results35 rfl rfl (H' := ⟨bo,0,(rsG ok R R.mats).flatMap cI,some 3,ko * 1⟩::H) (qK _ hHG) ⟨some ⟨bo,0,none⟩,ko,[⟨bo,0,(rsG ok R R.mats).flatMap cI,some 3,ko * 1⟩],rfl,SlE.ofRow (qH _) (fun _ _=>rfl),rfl⟩
 ·have hy : rstF R x m = ([],e):=by unfold rstF;rw [if_neg (by rw [he];exact h0),he]
  rw [hy]
  refine Fc.mk (callable Tryz.call35) Tryz.func35 rfl Tryz.ntmps35 rfl ?_;dsimp only [fr]
  repeat' (first | (refine uP rfl ?_;(first | ((first | refine uN rfl ?_);(first | (refine uE (uL rfl rfl (uW (T:=32) (cs:=cRm R p) (te rfl) rfl (by repeat (first | exact qH _ | apply qT)) rfl)) rfl rfl ?_)|(refine uC (uT rfl (Args.cons rfl (Args.cons rfl (Args.cons rfl Args.nil)))) rfl rfl (claimedN R p x m e _ (hR.sub (fun _ h=>by repeat (first | exact h | apply qT))) h2 he h0) ?_;rintro _ H9 ⟨rfl,hH9⟩;subst H9)|(refine uE (uX rfl rfl rfl) rfl rfl ?_)|(refine Xg.st (StF.alloc rfl Tryz.zeroValue95 rfl) rfl rfl ?_;rintro _ _ ⟨b8,rfl,rfl⟩)|(refine Xg.st0 (StF.storeAll (i:=0) (vs:=zCm) rfl rfl rfl (te rfl) rfl rfl rfl rfl) rfl ?_;rintro _ _ ⟨rfl,rfl⟩;dsimp only [List.set])|(refine uE (uM rfl rfl) rfl rfl ?_)|(refine uE (uA rfl rfl) rfl rfl ?_)|(refine uE (uQ rfl rfl rfl rfl) rfl rfl ?_)|(refine uE (uF rfl rfl (te rfl) rfl (te rfl) (by decide)) rfl rfl ?_)|(refine uE (uL rfl rfl (uO (te rfl) rfl (qT _ (qH _)) rfl)) rfl rfl ?_)|(refine Xg.st (StF.boxAgg rfl rfl) rfl rfl ?_;rintro _ _ ⟨bx,rfl,rfl⟩)))))|(refine uD rfl ?_;refine hK _ _ ?_;clear hK K) | refine uS rfl ?_ | refine uR rfl (fun K hK=>?_) | refine X.skip rfl ?_ | refine X.ret rfl ?_ | (refine X.ite rfl rfl (fun hc=>?_);(first | (with_reducible refine Xb.caseN hc (fun h=>?_) (fun h=>?_))) <;> clear hc))
  all_goals try (exfalso;simp_all;done)
  exact ret_two (by simp) Tryz.results35 rfl rfl (H' := H) (by (repeat (first | exact qR _ | apply qC));done) ⟨none,0,[],rfl,sleNil,rfl⟩
end Go.Proofs.YtmfppdpkalelhaaGreat
end
section
set_option linter.unusedVariables false
set_option linter.unusedSimpArgs false
namespace Go.Proofs.YtmfppdpkalelhaaGreat
open Go Go.Fw
set_option maxRecDepth 10000
theorem rng_bd {R : Rm} (hr : okRm R) (hm : matsThere R R.mats) (hT : hasT R R.mats) {a b : Pk} (ha : a ∈ plcs R) (hb : b ∈ plcs R) : -60 ≤ (rng R R.mats a b).lo∧(rng R R.mats a b).lo ≤ (rng R R.mats a b).hi∧(rng R R.mats a b).hi ≤ 60:=by
 have h:=ex_mem hr hm hT ha hb
 obtain ⟨z1,t1,e1⟩:=h.lo
 obtain ⟨z2,t2,e2⟩:=h.hi
 have h1:=h.all z1 t1
 have a1:=t1.in60 hr ha
 have a2:=t1.in60 hr hb
 have b1:=t2.in60 hr ha
 have b2:=t2.in60 hr hb
 omega
def tsAq : List TOp:=[⟨some 63,[],[],[]⟩,⟨some 64,[],[],[]⟩,⟨some 65,[],[],[]⟩,⟨some 66,[2],[2],[]⟩,⟨some 67,[],[],[]⟩,⟨some 68,[4],[4],[]⟩,⟨some 69,[2,3,4,5],[3,5],[]⟩,⟨some 4,[0],[0],[]⟩,⟨some 5,[0,1,7],[1],[]⟩,⟨some 6,[0,1,2,3,4,5,6,7,8],[6],[]⟩]
def valAq (b14 : Nat) (x y : Int) (s : Sp) (v1 v8 v9 v10 v32 v33 v34 v42 v43 v44 : Value) (k : Nat) (env : Env) : Value :=
 match k with
 | 0 => .int .i64 x
 | 1 => .int .i64 y
 | 2 => .pointer (some ⟨b14,1,none⟩)
 | 3 => .int .i64 s.hi
 | 4 => .pointer (some ⟨b14,0,none⟩)
 | 5 => .int .i64 s.lo
 | 6 => .int .i64 (s.hi - s.lo)
 | 7 => .int .i64 x
 | 8 => .int .i64 y
 | 9 => .int .i64 (s.hi - s.lo)
 | _=>undef
def rowsAq (b14 : Nat) (x y : Int) (s : Sp) (v1 v8 v9 v10 v32 v33 v34 v42 v43 v44 : Value) (k : Nat) (env : Env) : List Row :=
 match k with
 | _=>[]
theorem locAq (b14 : Nat) (x y : Int) (s : Sp) (v1 v8 v9 v10 v32 v33 v34 v42 v43 v44 : Value) : ∀ k env i q9,i ≠ k → (tAt tsAq k).sup.contains i = false → valAq b14 x y s v1 v8 v9 v10 v32 v33 v34 v42 v43 v44 k (upd env i q9)=valAq b14 x y s v1 v8 v9 v10 v32 v33 v34 v42 v43 v44 k env∧rowsAq b14 x y s v1 v8 v9 v10 v32 v33 v34 v42 v43 v44 k (upd env i q9)=rowsAq b14 x y s v1 v8 v9 v10 v32 v33 v34 v42 v43 v44 k env:=by
 intro k env i q hk hs
 have hu : ∀ j,j ≠ i → upd env i q j = env j:=fun j hj=>by unfold upd;rw [if_neg hj]
 match k,hk,hs with
 | 0,_,_=>exact ⟨rfl,rfl⟩
 | 1,_,_=>exact ⟨rfl,rfl⟩
 | 2,_,_=>exact ⟨rfl,rfl⟩
 | 3,_,_=>exact ⟨rfl,rfl⟩
 | 4,_,_=>exact ⟨rfl,rfl⟩
 | 5,_,_=>exact ⟨rfl,rfl⟩
 | 6,_,_=>exact ⟨rfl,rfl⟩
 | 7,_,_=>exact ⟨rfl,rfl⟩
 | 8,_,_=>exact ⟨rfl,rfl⟩
 | 9,_,_=>exact ⟨rfl,rfl⟩
 | _ + 10,_,_=>exact ⟨rfl,rfl⟩
set_option maxHeartbeats 16000000 in
theorem kAsk_spec (R : Rm) (p : Pl) (m : Int) (H : List Row) (hR : RmOk H R p) (h2 : R.boxes.length ≤ 1000000) : Fc Tryz.prog 23 [.agg (cRm R p).toArray,.int .i64 m] H (fun v H' => v = .tuple #[.int .i64 (askF R m).1.1,.int .i64 (askF R m).1.2.1,.int .i64 (askF R m).1.2.2,.int .i64 (askF R m).2]∧H' = H):=by
 obtain ⟨e,he⟩ : ∃ e,openE R [] [m] = e:=⟨_,rfl⟩
 have hbt : ∀ (H' : List Row) (b1 : Nat),⟨b1,0,[.int .i64 m],some 3,1 * 1⟩ ∈ H' → BtOk H' ⟨[],none,0,[m],some ⟨b1,0,none⟩,1⟩:=fun H' b1 q1=>⟨sleNil,SlE.ofRow (l:=[m]) q1 (fun _ _=>rfl),Nat.le_of_ble_eq_true rfl,Nat.le_of_ble_eq_true rfl⟩
 by_cases h0 : e = 0
 ·subst h0
  obtain ⟨hok,_,hin,hT⟩:=openE_ok he
  have hr:=hok.ok
  have hmm : m ≤ R.months - 1:=(hin m (List.mem_singleton.2 rfl)).1.2
  have htl:=thI_len hr m
  have hth:=fun H' b k hC hk=>thereI_spec R p b k m H' hr hmm hC hk
  have hLp : ∀ x ∈ thI R m,(⟨x,m⟩ : Pk) ∈ plcs R:=fun y hy=>by
   obtain ⟨b,hb,rfl⟩:=(mem_thI hmm).1 hy
   exact plcs_mem hb
  have hF : askF R m = if (thI R m).length < 2 then ((0,0,0),6) else (askO (wid2 R m) (thI R m) (0,0, -1),0):=by unfold askF;rw [if_pos he]
  rw [hF]
  clear hF
  obtain ⟨L,hL⟩ : ∃ L,L = thI R m:=⟨_,rfl⟩
  rw [← hL] at hth hLp htl ⊢
  by_cases hl2 : L.length < 2
  ·rw [if_pos hl2]
   refine Fc.mk (callable Tryz.call23) Tryz.func23 rfl Tryz.ntmps23 rfl ?_;dsimp only [fr]
   repeat' (first | (refine uP rfl ?_;(first | ((first | refine uN rfl ?_);(first | (refine uE (uQ (b:=true) rfl rfl rfl (congrArg some (decide_eq_true (by omega)))) rfl rfl ?_)|(refine uE (uQ (b:=false) rfl rfl rfl (congrArg some (nd_f (by omega)))) rfl rfl ?_)|(refine Xg.st (StF.buildOne (v0 := .int .i64 m) rfl el55 rfl rfl rfl (by decide) (by decide)) rfl rfl ?_;rintro _ _ ⟨b1,rfl,rfl⟩)|(refine uE (EvF.build (cs:=cBt ⟨[],none,0,[m],some ⟨b1,0,none⟩,1⟩) rfl (ArgsP.cons rfl ArgsP.nil) (te rfl) (Places.cons (te rfl) (Places.cons (te rfl) Places.nil)) Tryz.zeroValue83 rfl) rfl rfl ?_)|(refine uC (uT rfl (by (repeat (first | exact Args.nil | refine Args.cons rfl ?_));done)) rfl rfl (openY (hR.sub (fun _ h=>by repeat (first | exact h | apply qT))) (hbt _ b1 (qH _)) h2 he) ?_;rintro _ _ ⟨b,k,hbk,rfl,rfl⟩)|(refine Xg.st (StF.alloc rfl Tryz.zeroValue79 rfl) rfl rfl ?_;rintro _ _ ⟨b8,rfl,rfl⟩)|(refine Xg.st0 (StF.storeAll (i:=0) (vs:=cCt R p (some ⟨b,0,none⟩) k) rfl rfl rfl (te rfl) rfl rfl rfl rfl) rfl ?_;rintro _ _ ⟨rfl,rfl⟩;dsimp only [List.set])|(refine uE (uL rfl rfl (uW (T:=79) (cs:=cCt R p (some ⟨b,0,none⟩) k) (te rfl) rfl (by repeat (first | exact qH _ | apply qT)) rfl)) rfl rfl ?_)|(refine uC (uT rfl (by (repeat (first | exact Args.nil | refine Args.cons rfl ?_));done)) rfl rfl (hth _ b k ⟨hR.sub (fun _ h=>by repeat (first | exact h | apply qT)),SlE.ofRow (qT _ (qH _)) (fun _ _=>rfl)⟩ hbk) ?_;rintro _ _ (⟨ht,rfl,rfl⟩ | ⟨bt,kt,rfl,rfl⟩))|(refine uE (uM rfl rfl) rfl rfl ?_)|(refine uE (uA rfl rfl) rfl rfl ?_)|(refine uE (EvF.lenSlice rfl rfl (te rfl)) rfl rfl ?_)|(refine uE (uL rfl rfl (uW (te rfl) rfl (qH _) rfl)) rfl rfl ?_)|(refine uE (uX rfl rfl rfl) rfl rfl ?_)|(refine Xg.st (StF.boxAgg rfl rfl) rfl rfl ?_;rintro _ _ ⟨bx,rfl,rfl⟩)))))|(refine uD rfl ?_;refine hK _ _ ?_;clear hK K) | refine uS rfl ?_ | refine uR rfl (fun K hK=>?_) | refine X.skip rfl ?_ | refine X.ret rfl ?_ | (refine X.ite rfl rfl (fun hc=>?_);(first | (with_reducible refine Xb.t hc ?_)|(with_reducible refine Xb.f hc ?_)) <;> clear hc))
   all_goals try (exfalso;contradiction)
   all_goals exact ret_four (by simp) Tryz.results23 rfl rfl rfl rfl (H' := H) (by (repeat (first | exact qR _ | apply qC));done) ⟨rfl,rfl⟩
  ·rw [if_neg hl2]
   refine Fc.mk (callable Tryz.call23) Tryz.func23 rfl Tryz.ntmps23 rfl ?_;dsimp only [fr]
   repeat' (first | (exfalso;have:=congrArg List.length ht;simp only [List.length_nil] at this;omega)|(refine uP rfl ?_;(first | ((first | refine uN rfl ?_);(first | (refine uE (uQ (b:=false) rfl rfl rfl (congrArg some (decide_eq_false (by omega)))) rfl rfl ?_)|(refine uE (uQ (b:=false) rfl rfl rfl (congrArg some (nd_f (by omega)))) rfl rfl ?_)|(refine Xg.st (StF.buildOne (v0 := .int .i64 m) rfl el55 rfl rfl rfl (by decide) (by decide)) rfl rfl ?_;rintro _ _ ⟨b1,rfl,rfl⟩)|(refine uE (EvF.build (cs:=cBt ⟨[],none,0,[m],some ⟨b1,0,none⟩,1⟩) rfl (ArgsP.cons rfl ArgsP.nil) (te rfl) (Places.cons (te rfl) (Places.cons (te rfl) Places.nil)) Tryz.zeroValue83 rfl) rfl rfl ?_)|(refine uC (uT rfl (by (repeat (first | exact Args.nil | refine Args.cons rfl ?_));done)) rfl rfl (openY (hR.sub (fun _ h=>by repeat (first | exact h | apply qT))) (hbt _ b1 (qH _)) h2 he) ?_;rintro _ _ ⟨b,k,hbk,rfl,rfl⟩)|(refine Xg.st (StF.alloc rfl Tryz.zeroValue79 rfl) rfl rfl ?_;rintro _ _ ⟨b8,rfl,rfl⟩)|(refine Xg.st0 (StF.storeAll (i:=0) (vs:=cCt R p (some ⟨b,0,none⟩) k) rfl rfl rfl (te rfl) rfl rfl rfl rfl) rfl ?_;rintro _ _ ⟨rfl,rfl⟩;dsimp only [List.set])|(refine uE (uL rfl rfl (uW (T:=79) (cs:=cCt R p (some ⟨b,0,none⟩) k) (te rfl) rfl (by repeat (first | exact qH _ | apply qT)) rfl)) rfl rfl ?_)|(refine uC (uT rfl (by (repeat (first | exact Args.nil | refine Args.cons rfl ?_));done)) rfl rfl (hth _ b k ⟨hR.sub (fun _ h=>by repeat (first | exact h | apply qT)),SlE.ofRow (qT _ (qH _)) (fun _ _=>rfl)⟩ hbk) ?_;rintro _ _ (⟨ht,rfl,rfl⟩ | ⟨bt,kt,rfl,rfl⟩))|(refine uE (uM rfl rfl) rfl rfl ?_)|(refine uE (uA rfl rfl) rfl rfl ?_)|(refine uE (EvF.lenSlice rfl rfl (te rfl)) rfl rfl ?_)|(refine uE (uL rfl rfl (uW (te rfl) rfl (qH _) rfl)) rfl rfl ?_)|(refine uE (uX rfl rfl rfl) rfl rfl ?_)|(refine Xg.st (StF.boxAgg rfl rfl) rfl rfl ?_;rintro _ _ ⟨bx,rfl,rfl⟩)))))|(refine uD rfl ?_;refine hK _ _ ?_;clear hK K) | refine uS rfl ?_ | refine uR rfl (fun K hK=>?_) | refine X.block rfl ?_ | refine X.skip rfl ?_ | (refine X.ite rfl rfl (fun hc=>?_);(first | (with_reducible refine Xb.f hc ?_)) <;> clear hc))
   all_goals try (exfalso;contradiction)
   refine X.capLe (q:=0) rfl (fun hcap=>?_)
   rw [lenI] at hcap
   have hcap : L.length ≤ kt:=by omega
   obtain ⟨Fin,hFin⟩ : ∃ Fin,Fin = askO (wid2 R m) L (0,0, -1):=⟨_,rfl⟩
   rw [← hFin]
   have hC : ∀ S,(∀ r ∈ H,r ∈ S) → (⟨b,0,(plcs R).flatMap cPk,some 86,k * 2⟩ : Row) ∈ S → CtOk S R p (some ⟨b,0,none⟩):=fun S h1 h3=>⟨hR.sub h1,SlE.ofRow h3 (fun _ _=>rfl)⟩
   have hsl : ∀ S,(⟨bt,0,L.flatMap cI,some 3,kt * 1⟩ : Row) ∈ S → SlE S (some ⟨bt,0,none⟩) cI 1 L:=fun S h=>SlE.ofRow h (fun _ _=>rfl)
   refine X.lp rfl (fun q F' H' => ∃ (i : Nat) (a0 b0 w0 : Int),q = L.length - i∧i ≤ L.length∧askO (wid2 R m) (L.drop i) (a0,b0,w0)=Fin ∧ -1 ≤ w0∧w0 ≤ 120∧H' = ⟨bt,0,L.flatMap cI,some 3,kt * 1⟩::⟨b8,0,cCt R p (some ⟨b,0,none⟩) k,some 79,6⟩::⟨b,0,(plcs R).flatMap cPk,some 86,k * 2⟩::H∧F' = [(1,.int .i64 m),(4,.int .i64 a0),(5,.int .i64 b0),(6,.int .i64 w0),(8,.pointer (some ⟨b8,0,none⟩)),(9,.slice (some ⟨bt,0,none⟩) L.length kt),(32,.slice (some ⟨bt,0,none⟩) L.length kt),(33,.int .i64 L.length),(34,.int .i64 i)])
    L.length [(1,.int .i64 m),(4,.int .i64 0),(5,.int .i64 0),(6,.int .i64 (-1)),(8,.pointer (some ⟨b8,0,none⟩)),(9,.slice (some ⟨bt,0,none⟩) L.length kt),(32,.slice (some ⟨bt,0,none⟩) L.length kt),(33,.int .i64 L.length),(34,.int .i64 (0 : Nat))] (⟨bt,0,L.flatMap cI,some 3,kt * 1⟩::⟨b8,0,cCt R p (some ⟨b,0,none⟩) k,some 79,6⟩::⟨b,0,(plcs R).flatMap cPk,some 86,k * 2⟩::H) (by repeat (first | exact uU _ | refine uV rfl ?_)) (by repeat (first | exact qR _ | apply qK | apply qC)) ⟨0,0,0, -1,by omega,by omega,hFin.symm,by omega,by omega,rfl,rfl⟩ ?_
   rintro _ _ _ ⟨i,a0,b0,w0,rfl,hi,hI,hw1,hw2,rfl,rfl⟩
   by_cases hlt : i < L.length
   ·obtain ⟨x,hx⟩ : ∃ x,L[i]? = some x:=⟨_,List.getElem?_eq_getElem hlt⟩
    have hxp:=hLp x (List.mem_of_getElem? hx)
    obtain ⟨T,hTd⟩ : ∃ T,T = L.drop (i + 1):=⟨_,rfl⟩
    have hTl : T.length = L.length - (i + 1):=by rw [hTd,List.length_drop]
    obtain ⟨a9,ha9⟩ : ∃ a9,a9 = sfrom (some ⟨bt,0,none⟩) kt (i + 1) 1:=⟨_,rfl⟩
    have hS1 : ∀ S,(⟨bt,0,L.flatMap cI,some 3,kt * 1⟩ : Row) ∈ S → SlE S a9 cI 1 T:=fun S h=>by rw [ha9,hTd];exact sleFrom (hsl S h) hcap (i + 1)
    have hTm : ∀ y ∈ T,y ∈ L:=fun y hy=>by rw [hTd] at hy;exact List.mem_of_mem_drop hy
    rw [drop_cons hx, ← hTd] at hI
    change askO (wid2 R m) T (askI (wid2 R m) x T (a0,b0,w0)) = Fin at hI
    repeat' (first | (refine uP rfl ?_;(first | ((first | refine uN rfl ?_);(first | (refine uE (uQ (b:=true) rfl rfl rfl (congrArg some (decide_eq_true (by omega)))) rfl rfl ?_)|(refine uE (uL rfl rfl (LoadV.el0 (hsl _ (by repeat (first | exact qH _ | apply qT))) hx (te rfl) rfl (fun _ hm=>hm) rfl)) rfl rfl ?_)|(refine uE (EvF.sliceFrom (lo:=i + 1) rfl rfl (te rfl) (te rfl) rfl (by omega) hcap) rfl rfl ?_)|(refine uE (uM rfl rfl) rfl rfl ?_)|(refine uE (uA rfl rfl) rfl rfl ?_)|(refine uE (EvF.add64 rfl rfl rfl (by omega) (by omega)) rfl rfl ?_)|(refine uE (EvF.lenSlice rfl rfl (te rfl)) rfl rfl ?_)|(refine uE (EvF.indexSlice rfl rfl rfl (te rfl) (te rfl) (by omega) (by omega)) rfl rfl ?_)))))|(refine uD rfl ?_;refine hK _ _ ?_;clear hK K) | refine uS rfl ?_ | refine uR rfl (fun K hK=>?_) | refine X.block rfl ?_ | refine X.skip rfl ?_ | (refine X.ite rfl rfl (fun hc=>?_);(first | (with_reducible refine Xb.t hc ?_)) <;> clear hc))
    all_goals try (exfalso;contradiction)
    rw [← ha9, ← hTl]
    refine X.lp rfl (fun q F' H' => ∃ (j : Nat) (a0 b0 w0 : Int),q = T.length - j∧j ≤ T.length∧askO (wid2 R m) T (askI (wid2 R m) x (T.drop j) (a0,b0,w0)) = Fin ∧ -1 ≤ w0∧w0 ≤ 120∧H' = ⟨bt,0,L.flatMap cI,some 3,kt * 1⟩::⟨b8,0,cCt R p (some ⟨b,0,none⟩) k,some 79,6⟩::⟨b,0,(plcs R).flatMap cPk,some 86,k * 2⟩::H∧F' = [(1,.int .i64 m),(4,.int .i64 a0),(5,.int .i64 b0),(6,.int .i64 w0),(8,.pointer (some ⟨b8,0,none⟩)),(9,.slice (some ⟨bt,0,none⟩) L.length kt),(10,.int .i64 i),(11,.int .i64 x),(32,.slice (some ⟨bt,0,none⟩) L.length kt),(33,.int .i64 L.length),(34,.int .i64 i),(42,.slice a9 T.length (kt - (i + 1))),(43,.int .i64 T.length),(44,.int .i64 j)])
     T.length [(1,.int .i64 m),(4,.int .i64 a0),(5,.int .i64 b0),(6,.int .i64 w0),(8,.pointer (some ⟨b8,0,none⟩)),(9,.slice (some ⟨bt,0,none⟩) L.length kt),(10,.int .i64 i),(11,.int .i64 x),(32,.slice (some ⟨bt,0,none⟩) L.length kt),(33,.int .i64 L.length),(34,.int .i64 i),(42,.slice a9 T.length (kt - (i + 1))),(43,.int .i64 T.length),(44,.int .i64 (0 : Nat))] (⟨bt,0,L.flatMap cI,some 3,kt * 1⟩::⟨b8,0,cCt R p (some ⟨b,0,none⟩) k,some 79,6⟩::⟨b,0,(plcs R).flatMap cPk,some 86,k * 2⟩::H) (by repeat (first | exact uU _ | refine uV rfl ?_)) (by repeat (first | exact qR _ | apply qK | apply qC)) ⟨0,a0,b0,w0,by omega,by omega,hI,hw1,hw2,rfl,rfl⟩ ?_
    clear hI hw1 hw2 a0 b0 w0
    rintro _ _ _ ⟨j,a0,b0,w0,rfl,hj,hI,hw1,hw2,rfl,rfl⟩
    by_cases hlj : j < T.length
    ·obtain ⟨b9,o9,y,hq9,hy⟩:=(hS1 (⟨bt,0,L.flatMap cI,some 3,kt * 1⟩::⟨b8,0,cCt R p (some ⟨b,0,none⟩) k,some 79,6⟩::⟨b,0,(plcs R).flatMap cPk,some 86,k * 2⟩::H) (qH _)).elem (i:=j) hlj
     subst hq9
     have hyp:=hLp y (hTm y (List.mem_of_getElem? hy))
     have hdf:=fun S hS=>differ_spec R p (some ⟨b,0,none⟩) k ⟨x,m⟩ ⟨y,m⟩ S hr hok.mats hS hok.lens.ages hok.lens.mats hbk hxp hyp hT
     have hbd:=rng_bd hr hok.mats hT hxp hyp
     have hwd : wid2 R m x y = (rng R R.mats ⟨x,m⟩ ⟨y,m⟩).hi - (rng R R.mats ⟨x,m⟩ ⟨y,m⟩).lo:=rfl
     obtain ⟨s,hs⟩ : ∃ s,s = rng R R.mats ⟨x,m⟩ ⟨y,m⟩:=⟨_,rfl⟩
     rw [← hs] at hdf hbd hwd
     have hstep : askI (wid2 R m) x (y::T.drop (j + 1)) (a0,b0,w0)=askI (wid2 R m) x (T.drop (j + 1)) (if w0 < wid2 R m x y then (x,y,wid2 R m x y) else (a0,b0,w0)):=rfl
     rw [drop_cons hy,hstep,hwd] at hI
     by_cases hgt : w0 < s.hi - s.lo
     ·rw [if_pos hgt] at hI
      repeat' (first | (refine uP rfl ?_;(first | ((first | refine uN rfl ?_);(first | (refine uE (uQ (b:=true) rfl rfl rfl (congrArg some (decide_eq_true (by omega)))) rfl rfl ?_)|(refine uE (uL rfl rfl (LoadV.el0 (hS1 _ (by repeat (first | exact qH _ | apply qT))) hy (te rfl) rfl (fun _ hm=>hm) rfl)) rfl rfl ?_)|(refine uE (uL rfl rfl (uW (T:=79) (cs:=cCt R p (some ⟨b,0,none⟩) k) (te rfl) rfl (by repeat (first | exact qH _ | apply qT)) rfl)) rfl rfl ?_)|(refine uE (EvF.build (cs:=cPk ⟨x,m⟩) rfl (ArgsP.cons rfl (ArgsP.cons rfl ArgsP.nil)) (te rfl) (Places.cons (te rfl) (Places.cons (te rfl) Places.nil)) Tryz.zeroValue86 rfl) rfl rfl ?_)|(refine uE (EvF.build (cs:=cPk ⟨y,m⟩) rfl (ArgsP.cons rfl (ArgsP.cons rfl ArgsP.nil)) (te rfl) (Places.cons (te rfl) (Places.cons (te rfl) Places.nil)) Tryz.zeroValue86 rfl) rfl rfl ?_)|(refine uC (uT rfl (Args.cons rfl (Args.cons rfl (Args.cons rfl Args.nil)))) rfl rfl (hdf _ (hC _ (fun _ h=>by repeat (first | exact h | apply qT)) (by repeat (first | exact qH _ | apply qT)))) ?_;rintro _ H9 ⟨rfl,hH9⟩;subst H9)|(refine uE (uM rfl rfl) rfl rfl ?_)|(refine uE (uA rfl rfl) rfl rfl ?_)|(refine uE (EvF.sub64 rfl rfl rfl (by omega) (by omega)) rfl rfl ?_)|(refine uE (uF rfl rfl (te rfl) rfl (te rfl) (by decide)) rfl rfl ?_)|(refine uE (EvF.indexSlice rfl rfl rfl (te rfl) (te rfl) (by omega) (by omega)) rfl rfl ?_)|(refine uE (uL rfl rfl (uO (te rfl) rfl (qH _) rfl)) rfl rfl ?_)|(refine Xg.st (StF.alloc rfl Tryz.zeroValue24 rfl) rfl rfl ?_;rintro _ _ ⟨bx,rfl,rfl⟩)|(refine Xg.st0 (StF.storeAll (i:=0) rfl rfl rfl (te rfl) rfl rfl rfl rfl) rfl ?_;rintro _ _ ⟨rfl,rfl⟩;dsimp only [List.set])))))|(refine uD rfl ?_;refine hK _ _ ?_;clear hK K) | refine uS rfl ?_ | refine uR rfl (fun K hK=>?_) | refine X.block rfl ?_ | refine X.skip rfl ?_ | (refine X.ite rfl rfl (fun hc=>?_);(first | (with_reducible refine Xb.t hc ?_)) <;> clear hc))
      all_goals try (exfalso;contradiction)
      generalize bx = b14
      refine X.regionOb tsAq [1,8,9,10,11,13,14,32,33,34,42,43,44] [(1,(.int .i64 m)),(8,(.pointer (some ⟨b8,0,none⟩))),(9,(.slice (some ⟨bt,0,none⟩) L.length kt)),(10,(.int .i64 i)),(11,.int .i64 x),(13,.int .i64 y),(14,.pointer (some ⟨b14,0,none⟩)),(32,(.slice (some ⟨bt,0,none⟩) L.length kt)),(33,(.int .i64 L.length)),(34,(.int .i64 i)),(42,(.slice (some ⟨b9,o9,none⟩) T.length (kt - (i + 1)))),(43,(.int .i64 T.length)),(44,(.int .i64 j))] (valAq b14 x y s (.int .i64 m) (.pointer (some ⟨b8,0,none⟩)) (.slice (some ⟨bt,0,none⟩) L.length kt) (.int .i64 i) (.slice (some ⟨bt,0,none⟩) L.length kt) (.int .i64 L.length) (.int .i64 i) (.slice (some ⟨b9,o9,none⟩) T.length (kt - (i + 1))) (.int .i64 T.length) (.int .i64 j)) (rowsAq b14 x y s (.int .i64 m) (.pointer (some ⟨b8,0,none⟩)) (.slice (some ⟨bt,0,none⟩) L.length kt) (.int .i64 i) (.slice (some ⟨bt,0,none⟩) L.length kt) (.int .i64 L.length) (.int .i64 i) (.slice (some ⟨b9,o9,none⟩) T.length (kt - (i + 1))) (.int .i64 T.length) (.int .i64 j)) (fun _=>(0,0)) (⟨b14,0,cSp s,some 24,2⟩::⟨bt,0,L.flatMap cI,some 3,kt * 1⟩::⟨b8,0,cCt R p (some ⟨b,0,none⟩) k,some 79,6⟩::⟨b,0,(plcs R).flatMap cPk,some 86,k * 2⟩::H) rfl mixed (by repeat (first | exact uU _ | refine uV rfl ?_)) rfl (by kernel_rfl) (locAq b14 x y s (.int .i64 m) (.pointer (some ⟨b8,0,none⟩)) (.slice (some ⟨bt,0,none⟩) L.length kt) (.int .i64 i) (.slice (some ⟨bt,0,none⟩) L.length kt) (.int .i64 L.length) (.int .i64 i) (.slice (some ⟨b9,o9,none⟩) T.length (kt - (i + 1))) (.int .i64 T.length) (.int .i64 j)) (qR _) ?_ ?_
      ·repeat' (first | exact AllF.done rfl | (refine AllF.step rfl ?_ ?_;·(first | fail | ((first | refine Ob.ng rfl ?_);(first | exact ObK.pure (fun env R hR=>by exact ⟨_,uM rfl rfl,rfl⟩) rfl (fun _=>rfl) | exact ObK.pure (fun env R hR=>by exact ⟨_,uA rfl rfl,rfl⟩) rfl (fun _=>rfl) | exact ObK.pure (fun env R hR=>by exact ⟨_,uF rfl rfl (te rfl) rfl (te rfl) (by decide),rfl⟩) rfl (fun _=>rfl) | exact ObK.pure (fun env R hR=>by exact ⟨_,uL rfl rfl (uO (te rfl) rfl (hR _ (qH _)) rfl),rfl⟩) rfl (fun _=>rfl)|(exact ObK.pure (fun env S hS=>⟨_,EvF.sub64 rfl rfl rfl (by omega) (by omega),rfl⟩) rfl (fun _=>rfl)))))))
      intro env t ha2 hv;refine ⟨_,((ha2.cons (hv 7 4 (Nat.le_of_ble_eq_true rfl) rfl)).cons (hv 8 5 (Nat.le_of_ble_eq_true rfl) rfl)).cons (hv 9 6 (Nat.le_of_ble_eq_true rfl) rfl),?_⟩;clear hv ha2
      repeat' (first | (refine uP rfl ?_;(first | ((first | refine uN rfl ?_);(first | (refine uE (uM rfl rfl) rfl rfl ?_)|(refine uE (EvF.add64 rfl rfl rfl (by omega) (by omega)) rfl rfl ?_)))))|(refine uD rfl ?_;refine hK _ _ ?_;clear hK K) | refine uR rfl (fun K hK=>?_))
      exact ⟨_,_,⟨bt,0,L.flatMap cI,some 3,kt * 1⟩::⟨b8,0,cCt R p (some ⟨b,0,none⟩) k,some 79,6⟩::⟨b,0,(plcs R).flatMap cPk,some 86,k * 2⟩::H,(by repeat (first | exact uU _ | refine uV rfl ?_)),(by repeat (first | exact qR _ | apply qK | apply qC)),⟨j + 1,x,y,s.hi - s.lo,rfl,by omega,hI,by omega,by omega,rfl,rfl⟩,by omega⟩
     ·rw [if_neg hgt] at hI
      repeat' (first | (refine uP rfl ?_;(first | ((first | refine uN rfl ?_);(first | (refine uE (uQ (b:=true) rfl rfl rfl (congrArg some (decide_eq_true (by omega)))) rfl rfl ?_)|(refine uE (uQ (b:=false) rfl rfl rfl (congrArg some (decide_eq_false (by omega)))) rfl rfl ?_)|(refine uE (uL rfl rfl (LoadV.el0 (hS1 _ (by repeat (first | exact qH _ | apply qT))) hy (te rfl) rfl (fun _ hm=>hm) rfl)) rfl rfl ?_)|(refine uE (uL rfl rfl (uW (T:=79) (cs:=cCt R p (some ⟨b,0,none⟩) k) (te rfl) rfl (by repeat (first | exact qH _ | apply qT)) rfl)) rfl rfl ?_)|(refine uE (EvF.build (cs:=cPk ⟨x,m⟩) rfl (ArgsP.cons rfl (ArgsP.cons rfl ArgsP.nil)) (te rfl) (Places.cons (te rfl) (Places.cons (te rfl) Places.nil)) Tryz.zeroValue86 rfl) rfl rfl ?_)|(refine uE (EvF.build (cs:=cPk ⟨y,m⟩) rfl (ArgsP.cons rfl (ArgsP.cons rfl ArgsP.nil)) (te rfl) (Places.cons (te rfl) (Places.cons (te rfl) Places.nil)) Tryz.zeroValue86 rfl) rfl rfl ?_)|(refine uC (uT rfl (Args.cons rfl (Args.cons rfl (Args.cons rfl Args.nil)))) rfl rfl (hdf _ (hC _ (fun _ h=>by repeat (first | exact h | apply qT)) (by repeat (first | exact qH _ | apply qT)))) ?_;rintro _ H9 ⟨rfl,hH9⟩;subst H9)|(refine uE (uM rfl rfl) rfl rfl ?_)|(refine uE (uA rfl rfl) rfl rfl ?_)|(refine uE (EvF.add64 rfl rfl rfl (by omega) (by omega)) rfl rfl ?_)|(refine uE (EvF.sub64 rfl rfl rfl (by omega) (by omega)) rfl rfl ?_)|(refine uE (uF rfl rfl (te rfl) rfl (te rfl) (by decide)) rfl rfl ?_)|(refine uE (EvF.indexSlice rfl rfl rfl (te rfl) (te rfl) (by omega) (by omega)) rfl rfl ?_)|(refine uE (uL rfl rfl (uO (te rfl) rfl (qH _) rfl)) rfl rfl ?_)|(refine Xg.st (StF.alloc rfl Tryz.zeroValue24 rfl) rfl rfl ?_;rintro _ _ ⟨bx,rfl,rfl⟩)|(refine Xg.st0 (StF.storeAll (i:=0) rfl rfl rfl (te rfl) rfl rfl rfl rfl) rfl ?_;rintro _ _ ⟨rfl,rfl⟩;dsimp only [List.set])))))|(refine uD rfl ?_;refine hK _ _ ?_;clear hK K) | refine uS rfl ?_ | refine uR rfl (fun K hK=>?_) | refine X.block rfl ?_ | refine X.skip rfl ?_ | (refine X.ite rfl rfl (fun hc=>?_);(first | (with_reducible refine Xb.t hc ?_)|(with_reducible refine Xb.f hc ?_)) <;> clear hc))
      all_goals try (exfalso;contradiction)
      exact ⟨_,_,⟨bt,0,L.flatMap cI,some 3,kt * 1⟩::⟨b8,0,cCt R p (some ⟨b,0,none⟩) k,some 79,6⟩::⟨b,0,(plcs R).flatMap cPk,some 86,k * 2⟩::H,(by repeat (first | exact uU _ | refine uV rfl ?_)),(by repeat (first | exact qR _ | apply qK | apply qC)),⟨j + 1,a0,b0,w0,rfl,by omega,hI,by omega,by omega,rfl,rfl⟩,by omega⟩
    ·obtain rfl : j = T.length:=by omega
     rw [List.drop_length] at hI
     have hI : askO (wid2 R m) T (a0,b0,w0)=Fin:=hI
     rw [hTd] at hI
     repeat' (first | (refine uP rfl ?_;(first | ((first | refine uN rfl ?_);(first | (refine uE (uQ (b:=false) rfl rfl rfl (congrArg some (decide_eq_false (by omega)))) rfl rfl ?_)|(refine uE (uM rfl rfl) rfl rfl ?_)|(refine uE (EvF.add64 rfl rfl rfl (by omega) (by omega)) rfl rfl ?_)))))|(refine uD rfl ?_;refine hK _ _ ?_;clear hK K) | refine uS rfl ?_ | refine uR rfl (fun K hK=>?_)|(refine X.brk rfl ?_;repeat (first | refine blockX_hit rfl ?_ | refine blockX_miss (by decide) ?_))|(refine X.ite rfl rfl (fun hc=>?_);(first | (with_reducible refine Xb.f hc ?_)) <;> clear hc))
     all_goals try (exfalso;contradiction)
     exact ⟨_,_,⟨bt,0,L.flatMap cI,some 3,kt * 1⟩::⟨b8,0,cCt R p (some ⟨b,0,none⟩) k,some 79,6⟩::⟨b,0,(plcs R).flatMap cPk,some 86,k * 2⟩::H,(by repeat (first | exact uU _ | refine uV rfl ?_)),(by repeat (first | exact qR _ | apply qK | apply qC)),⟨i + 1,a0,b0,w0,rfl,by omega,hI,by omega,by omega,rfl,rfl⟩,by omega⟩
   ·obtain rfl : i = L.length:=by omega
    rw [List.drop_length] at hI
    have hI : (a0,b0,w0)=Fin:=hI
    repeat' (first | (refine uP rfl ?_;(first | ((first | refine uN rfl ?_);(first | (refine uE (uQ (b:=false) rfl rfl rfl (congrArg some (decide_eq_false (by omega)))) rfl rfl ?_)|(refine uE (uM rfl rfl) rfl rfl ?_)|(refine uE (uA rfl rfl) rfl rfl ?_)))))|(refine uD rfl ?_;refine hK _ _ ?_;clear hK K) | refine uS rfl ?_ | refine uR rfl (fun K hK=>?_)|(refine X.brk rfl ?_;repeat (first | refine blockX_hit rfl ?_ | refine blockX_miss (by decide) ?_)) | refine X.ret rfl ?_ | (refine X.ite rfl rfl (fun hc=>?_);(first | (with_reducible refine Xb.f hc ?_)) <;> clear hc))
    all_goals try (exfalso;contradiction)
    exact ret_four (by simp) Tryz.results23 rfl rfl rfl rfl (H' := H) (by (repeat (first | exact qR _ | apply qC));done) ⟨by rw [← hI],rfl⟩
 ·have hF : askF R m = ((0,0,0),e):=by unfold askF;rw [if_neg (by rw [he];exact h0),he]
  rw [hF]
  refine Fc.mk (callable Tryz.call23) Tryz.func23 rfl Tryz.ntmps23 rfl ?_;dsimp only [fr]
  repeat' (first | (refine uP rfl ?_;(first | ((first | refine uN rfl ?_);(first | (refine uE (uQ (b:=true) rfl rfl rfl (congrArg some (nd_t (by omega)))) rfl rfl ?_)|(refine Xg.st (StF.buildOne (v0 := .int .i64 m) rfl el55 rfl rfl rfl (by decide) (by decide)) rfl rfl ?_;rintro _ _ ⟨b1,rfl,rfl⟩)|(refine uE (EvF.build (cs:=cBt ⟨[],none,0,[m],some ⟨b1,0,none⟩,1⟩) rfl (ArgsP.cons rfl ArgsP.nil) (te rfl) (Places.cons (te rfl) (Places.cons (te rfl) Places.nil)) Tryz.zeroValue83 rfl) rfl rfl ?_)|(refine uC (uT rfl (Args.cons rfl (Args.cons rfl Args.nil))) rfl rfl (openN (hR.sub (fun _ h=>by repeat (first | exact h | apply qT))) (hbt _ b1 (qH _)) h2 he h0) ?_;rintro _ H9 ⟨rfl,hH9⟩;subst H9)|(refine Xg.st (StF.alloc rfl Tryz.zeroValue79 rfl) rfl rfl ?_;rintro _ _ ⟨b8,rfl,rfl⟩)|(refine Xg.st0 (StF.storeAll (i:=0) (vs:=zCt) rfl rfl rfl (te rfl) rfl rfl rfl rfl) rfl ?_;rintro _ _ ⟨rfl,rfl⟩;dsimp only [List.set])|(refine uE (uM rfl rfl) rfl rfl ?_)|(refine uE (uA rfl rfl) rfl rfl ?_)|(refine uE (uL rfl rfl (uW (te rfl) rfl (qH _) rfl)) rfl rfl ?_)|(refine uE (uX rfl rfl rfl) rfl rfl ?_)|(refine Xg.st (StF.boxAgg rfl rfl) rfl rfl ?_;rintro _ _ ⟨bx,rfl,rfl⟩)))))|(refine uD rfl ?_;refine hK _ _ ?_;clear hK K) | refine uS rfl ?_ | refine uR rfl (fun K hK=>?_) | refine X.ret rfl ?_ | (refine X.ite rfl rfl (fun hc=>?_);(first | (with_reducible refine Xb.t hc ?_)) <;> clear hc))
  all_goals try (exfalso;contradiction)
  exact ret_four (by simp) Tryz.results23 rfl rfl rfl rfl (H' := H) (by (repeat (first | exact qR _ | apply qC));done) ⟨rfl,rfl⟩
end Go.Proofs.YtmfppdpkalelhaaGreat
end
section
set_option linter.unusedVariables false
set_option linter.unusedSimpArgs false
namespace Go.Proofs.YtmfppdpkalelhaaGreat
open Go Go.Fw
set_option maxRecDepth 10000
theorem eqE (e : Sp) (w : World) : (Op.equalIn 10000 24 (.agg (cSp e).toArray) (.agg (cSp e).toArray)).run Tryz.prog w = .ok true w:=by
 rw [eqSp 9998,decide_eq_true rfl]
theorem aYel (po : Pl) (S : List Row) (h : RmOk S RE po) : Fc Tryz.prog 9 [.agg (cRm RE po).toArray,.int .i64 1,.int .i64 3] S (fun v H' => v = .tuple #[.agg (cSp ⟨4,12⟩).toArray,.int .i64 0]∧H' = S):=by
 have:=kYellow_spec RE po 1 3 S h (Nat.le_of_ble_eq_true rfl)
 rw [vYel] at this
 exact this
theorem aDif (po : Pl) (S : List Row) (h : RmOk S RE po) : Fc Tryz.prog 11 [.agg (cRm RE po).toArray,.int .i64 1,.int .i64 2,.int .i64 3] S (fun v H' => v = .tuple #[.agg (cSp ⟨-2,10⟩).toArray,.int .i64 0]∧H' = S):=by
 have:=kDiffer_spec RE po 1 2 3 S h (Nat.le_of_ble_eq_true rfl)
 rw [vDif] at this
 exact this
theorem aKno (po : Pl) (S : List Row) (h : RmOk S RE po) : Fc Tryz.prog 12 [.agg (cRm RE po).toArray,.int .i64 1,.int .i64 3,.int .i64 12] S (fun v H' => v = .tuple #[.int .u8 1,.int .i64 0]∧H' = S):=by
 have:=kKnown_spec RE po 1 3 12 S h (Nat.le_of_ble_eq_true rfl)
 rw [vKno] at this
 exact this
theorem aOrd (po : Pl) (S : List Row) (h : RmOk S RE po) : Fc Tryz.prog 14 [.agg (cRm RE po).toArray,.int .i64 2,.int .i64 1,.int .i64 2] S (fun v H' => v = .tuple #[.int .u8 0,.int .i64 0]∧H' = S):=by
 have:=kOrder_spec RE po 2 1 2 S h (Nat.le_of_ble_eq_true rfl)
 rw [vOrd] at this
 exact this
theorem aPer (po : Pl) (S : List Row) (h : RmOk S RE po) : Fc Tryz.prog 20 [.agg (cRm RE po).toArray,.int .i64 1,.int .i64 8] S (fun v H' => v = .tuple #[.int .i64 2,.int .i64 0]∧H' = S):=by
 have:=kPerhaps_spec RE po 1 8 S h (Nat.le_of_ble_eq_true rfl)
 rw [vPer] at this
 exact this
theorem aSur (po : Pl) (S : List Row) (h : RmOk S RE po) : Fc Tryz.prog 21 [.agg (cRm RE po).toArray,.int .i64 1,.int .i64 4] S (fun v H' => v = .tuple #[.int .i64 2,.int .i64 0]∧H' = S):=by
 have:=kSurely_spec RE po 1 4 S h (Nat.le_of_ble_eq_true rfl)
 rw [vSur] at this
 exact this
theorem aDue (po : Pl) (S : List Row) (h : RmOk S RE po) : Fc Tryz.prog 22 [.agg (cRm RE po).toArray,.int .i64 7] S (fun v H' => ∃ a c Z,v = .tuple #[.int .i64 2,.slice a 1 c,.int .i64 0]∧SlE (Z++S) a cI 1 [1]∧H' = Z++S):=by
 have:=kDue_spec RE po 7 S h (Nat.le_of_ble_eq_true rfl)
 rw [vDue] at this
 exact this
theorem aFre (po : Pl) (S : List Row) (h : RmOk S RE po) : Fc Tryz.prog 15 [.agg (cRm RE po).toArray,.int .i64 2] S (fun v H' => ∃ a c Z,v = .tuple #[.slice a 1 c,.int .i64 0]∧SlE (Z++S) a cI 1 [2]∧H' = Z++S):=by
 have:=kFresh_spec RE po 2 S h (Nat.le_of_ble_eq_true rfl)
 rw [vFre] at this
 exact this
theorem aAsk (po : Pl) (S : List Row) (h : RmOk S RE po) : Fc Tryz.prog 23 [.agg (cRm RE po).toArray,.int .i64 3] S (fun v H' => v = .tuple #[.int .i64 1,.int .i64 2,.int .i64 12,.int .i64 0]∧H' = S):=by
 have:=kAsk_spec RE po 3 S h (Nat.le_of_ble_eq_true rfl)
 rw [vAsk] at this
 exact this
theorem aWhy (po : Pl) (S : List Row) (h : RmOk S RE po) : Fc Tryz.prog 16 [.agg (cRm RE po).toArray,.int .i64 1,.int .i64 2] S (fun v H' => ∃ a c Z,v = .tuple #[.slice a 1 c,.int .i64 0]∧SlE (Z++S) a cI 1 [1]∧H' = Z++S):=by
 have:=kWhy_spec RE po 1 2 S h (Nat.le_of_ble_eq_true rfl)
 rw [vWhy] at this
 exact this
theorem aRst (po : Pl) (S : List Row) (h : RmOk S RE po) : Fc Tryz.prog 35 [.agg (cRm RE po).toArray,.int .i64 1,.int .i64 2] S (fun v H' => ∃ a c Z,v = .tuple #[.slice a 1 c,.int .i64 0]∧SlE (Z++S) a cI 1 [1]∧H' = Z++S):=by
 have:=kRests_spec RE po 1 2 S h (Nat.le_of_ble_eq_true rfl)
 rw [vRst] at this
 exact this
theorem aCan (po : Pl) (S : List Row) (h : RmOk S RO po) : Fc Tryz.prog 31 [.agg (cRm RO po).toArray] S (fun v H' => v = .tuple #[.bool false,.int .i64 0]∧H' = S):=by
 have:=kCan_spec RO po S h
 rw [vCan] at this
 exact this
theorem aWrg (po : Pl) (S : List Row) (h : RmOk S RO po) : Fc Tryz.prog 41 [.agg (cRm RO po).toArray] S (fun v H' => ∃ a c Z,v = .tuple #[.slice a 1 c,.int .i64 0]∧SlE (Z++S) a cI 1 [1]∧H' = Z++S):=by
 have:=kWrong_spec RO po S h (Nat.le_of_ble_eq_true rfl)
 rw [vWrg] at this
 exact this
def tsKal : List TOp:=[⟨some 54,[],[],[]⟩,⟨some 55,[0],[0],[]⟩,⟨some 56,[0,1],[1],[]⟩,⟨some 57,[0,1,2],[],[]⟩,⟨some 58,[0,1,2],[],[]⟩,⟨some 59,[0,1,2,3,4],[3,4],[]⟩,⟨some 60,[0,1,2,3,4,5],[2,5],[]⟩,⟨some 61,[0,1,2,3,4,5,6],[6],[]⟩,⟨some 62,[0,1,2,3,4,5,6,7],[],[]⟩,⟨some 63,[0,1,2,3,4,5,6,7,8],[8],[]⟩,⟨some 64,[0,1,2,3,4,5,6,7,8,9],[7,9],[]⟩,⟨some 65,[0,1,2,3,4,5,6,7,8,9,10],[10],[]⟩,⟨some 66,[0,1,2,3,4,5,6,7,8,9,10,11],[],[]⟩,⟨some 67,[0,1,2,3,4,5,6,7,8,9,10,11],[],[]⟩,⟨some 68,[0,1,2,3,4,5,6,7,8,9,10,11,12,13],[12,13],[]⟩,⟨some 69,[0,1,2,3,4,5,6,7,8,9,10,11,12,13,14],[11,14],[]⟩,⟨some 70,[0,1,2,3,4,5,6,7,8,9,10,11,12,13,14,15],[15],[]⟩,⟨some 71,[0,1,2,3,4,5,6,7,8,9,10,11,12,13,14,15,16],[],[]⟩,⟨some 72,[0,1,2,3,4,5,6,7,8,9,10,11,12,13,14,15,16,17],[17],[]⟩,⟨some 73,[0,1,2,3,4,5,6,7,8,9,10,11,12,13,14,15,16,17,18],[16,18],[]⟩,⟨some 74,[0,1,2,3,4,5,6,7,8,9,10,11,12,13,14,15,16,17,18,19],[19],[]⟩,⟨some 75,[0,1,2,3,4,5,6,7,8,9,10,11,12,13,14,15,16,17,18,19,20],[],[]⟩,⟨some 76,[0,1,2,3,4,5,6,7,8,9,10,11,12,13,14,15,16,17,18,19,20,21],[21],[]⟩,⟨some 77,[0,1,2,3,4,5,6,7,8,9,10,11,12,13,14,15,16,17,18,19,20,21,22],[20,22],[]⟩,⟨some 78,[0,1,2,3,4,5,6,7,8,9,10,11,12,13,14,15,16,17,18,19,20,21,22,23],[23],[]⟩,⟨some 79,[0,1,2,3,4,5,6,7,8,9,10,11,12,13,14,15,16,17,18,19,20,21,22,23,24],[],[]⟩,⟨some 80,[0,1,2,3,4,5,6,7,8,9,10,11,12,13,14,15,16,17,18,19,20,21,22,23,24,25],[25],[]⟩,⟨some 81,[0,1,2,3,4,5,6,7,8,9,10,11,12,13,14,15,16,17,18,19,20,21,22,23,24,25,26],[24,26],[]⟩,⟨some 82,[0,1,2,3,4,5,6,7,8,9,10,11,12,13,14,15,16,17,18,19,20,21,22,23,24,25,26,27],[27],[]⟩,⟨some 83,[0,1,2,3,4,5,6,7,8,9,10,11,12,13,14,15,16,17,18,19,20,21,22,23,24,25,26,27,28],[],[]⟩,⟨some 84,[0,1,2,3,4,5,6,7,8,9,10,11,12,13,14,15,16,17,18,19,20,21,22,23,24,25,26,27,28,29],[29],[]⟩,⟨some 85,[0,1,2,3,4,5,6,7,8,9,10,11,12,13,14,15,16,17,18,19,20,21,22,23,24,25,26,27,28,29,30],[28,30],[]⟩,⟨some 86,[0,1,2,3,4,5,6,7,8,9,10,11,12,13,14,15,16,17,18,19,20,21,22,23,24,25,26,27,28,29,30,31],[31],[]⟩,⟨some 87,[0,1,2,3,4,5,6,7,8,9,10,11,12,13,14,15,16,17,18,19,20,21,22,23,24,25,26,27,28,29,30,31,32],[],[]⟩,⟨some 88,[0,1,2,3,4,5,6,7,8,9,10,11,12,13,14,15,16,17,18,19,20,21,22,23,24,25,26,27,28,29,30,31,32,33],[33],[]⟩,⟨some 89,[0,1,2,3,4,5,6,7,8,9,10,11,12,13,14,15,16,17,18,19,20,21,22,23,24,25,26,27,28,29,30,31,32,33,34],[32,34],[]⟩,⟨some 90,[0,1,2,3,4,5,6,7,8,9,10,11,12,13,14,15,16,17,18,19,20,21,22,23,24,25,26,27,28,29,30,31,32,33,34,35],[35],[]⟩,⟨some 91,[0,1,2,3,4,5,6,7,8,9,10,11,12,13,14,15,16,17,18,19,20,21,22,23,24,25,26,27,28,29,30,31,32,33,34,35,36],[],[]⟩,⟨some 92,[0,1,2,3,4,5,6,7,8,9,10,11,12,13,14,15,16,17,18,19,20,21,22,23,24,25,26,27,28,29,30,31,32,33,34,35,36,37],[37],[]⟩,⟨some 93,[0,1,2,3,4,5,6,7,8,9,10,11,12,13,14,15,16,17,18,19,20,21,22,23,24,25,26,27,28,29,30,31,32,33,34,35,36,37,38],[36,38],[]⟩,⟨some 94,[0,1,2,3,4,5,6,7,8,9,10,11,12,13,14,15,16,17,18,19,20,21,22,23,24,25,26,27,28,29,30,31,32,33,34,35,36,37,38,39],[39],[]⟩,⟨some 95,[0,1,2,3,4,5,6,7,8,9,10,11,12,13,14,15,16,17,18,19,20,21,22,23,24,25,26,27,28,29,30,31,32,33,34,35,36,37,38,39,40],[],[]⟩,⟨some 96,[0,1,2,3,4,5,6,7,8,9,10,11,12,13,14,15,16,17,18,19,20,21,22,23,24,25,26,27,28,29,30,31,32,33,34,35,36,37,38,39,40,41],[41],[]⟩,⟨some 97,[0,1,2,3,4,5,6,7,8,9,10,11,12,13,14,15,16,17,18,19,20,21,22,23,24,25,26,27,28,29,30,31,32,33,34,35,36,37,38,39,40,41,42],[40,42],[]⟩,⟨some 98,[0,1,2,3,4,5,6,7,8,9,10,11,12,13,14,15,16,17,18,19,20,21,22,23,24,25,26,27,28,29,30,31,32,33,34,35,36,37,38,39,40,41,42,43],[43],[]⟩,⟨some 99,[0,1,2,3,4,5,6,7,8,9,10,11,12,13,14,15,16,17,18,19,20,21,22,23,24,25,26,27,28,29,30,31,32,33,34,35,36,37,38,39,40,41,42,43,44],[],[]⟩,⟨some 100,[0,1,2,3,4,5,6,7,8,9,10,11,12,13,14,15,16,17,18,19,20,21,22,23,24,25,26,27,28,29,30,31,32,33,34,35,36,37,38,39,40,41,42,43,44,45],[45],[]⟩,⟨some 101,[0,1,2,3,4,5,6,7,8,9,10,11,12,13,14,15,16,17,18,19,20,21,22,23,24,25,26,27,28,29,30,31,32,33,34,35,36,37,38,39,40,41,42,43,44,45,46],[44,46],[]⟩]
def valKal (b1 b3 : Nat) (k : Nat) (env : Env) : Value :=
 match k with
 | 0 => .int .i64 0
 | 1 => .bool false
 | 2 => .bool false
 | 3=>gt (false) (.agg (cSp ⟨4,12⟩).toArray)
 | 4=>gt (false) (.agg (cSp ⟨4,12⟩).toArray)
 | 5=>gt (false) (.bool false)
 | 6 => .bool false
 | 7 => .bool false
 | 8=>gt (false) (.int .i64 0)
 | 9=>gt (false) (.bool false)
 | 10 => .bool false
 | 11 => .bool false
 | 12=>gt (false) (.agg (cSp ⟨-2,10⟩).toArray)
 | 13=>gt (false) (.agg (cSp ⟨-2,10⟩).toArray)
 | 14=>gt (false) (.bool false)
 | 15 => .bool false
 | 16 => .bool false
 | 17=>gt (false) (.int .i64 0)
 | 18=>gt (false) (.bool false)
 | 19 => .bool false
 | 20 => .bool false
 | 21=>gt (false) (.int .u8 1)
 | 22=>gt (false) (.bool false)
 | 23 => .bool false
 | 24 => .bool false
 | 25=>gt (false) (.int .i64 0)
 | 26=>gt (false) (.bool false)
 | 27 => .bool false
 | 28 => .bool false
 | 29=>gt (false) (.int .u8 0)
 | 30=>gt (false) (.bool false)
 | 31 => .bool false
 | 32 => .bool false
 | 33=>gt (false) (.int .i64 0)
 | 34=>gt (false) (.bool false)
 | 35 => .bool false
 | 36 => .bool false
 | 37=>gt (false) (.int .i64 2)
 | 38=>gt (false) (.bool false)
 | 39 => .bool false
 | 40 => .bool false
 | 41=>gt (false) (.int .i64 0)
 | 42=>gt (false) (.bool false)
 | 43 => .bool false
 | 44 => .bool false
 | 45=>gt (false) (.int .i64 2)
 | 46=>gt (false) (.bool false)
 | 47 => .bool false
 | _=>undef
def rowsKal (b1 b3 : Nat) (k : Nat) (env : Env) : List Row :=
 match k with
 | _=>[]
theorem locKal (b1 b3 : Nat) : ∀ k env i q9,i ≠ k → (tAt tsKal k).sup.contains i = false → valKal b1 b3 k (upd env i q9)=valKal b1 b3 k env∧rowsKal b1 b3 k (upd env i q9)=rowsKal b1 b3 k env:=by
 intro k env i q hk hs
 have hu : ∀ j,j ≠ i → upd env i q j = env j:=fun j hj=>by unfold upd;rw [if_neg hj]
 match k,hk,hs with
 | 0,_,_=>exact ⟨rfl,rfl⟩
 | 1,_,_=>exact ⟨rfl,rfl⟩
 | 2,_,_=>exact ⟨rfl,rfl⟩
 | 3,_,_=>exact ⟨rfl,rfl⟩
 | 4,_,_=>exact ⟨rfl,rfl⟩
 | 5,_,_=>exact ⟨rfl,rfl⟩
 | 6,_,_=>exact ⟨rfl,rfl⟩
 | 7,_,_=>exact ⟨rfl,rfl⟩
 | 8,_,_=>exact ⟨rfl,rfl⟩
 | 9,_,_=>exact ⟨rfl,rfl⟩
 | 10,_,_=>exact ⟨rfl,rfl⟩
 | 11,_,_=>exact ⟨rfl,rfl⟩
 | 12,_,_=>exact ⟨rfl,rfl⟩
 | 13,_,_=>exact ⟨rfl,rfl⟩
 | 14,_,_=>exact ⟨rfl,rfl⟩
 | 15,_,_=>exact ⟨rfl,rfl⟩
 | 16,_,_=>exact ⟨rfl,rfl⟩
 | 17,_,_=>exact ⟨rfl,rfl⟩
 | 18,_,_=>exact ⟨rfl,rfl⟩
 | 19,_,_=>exact ⟨rfl,rfl⟩
 | 20,_,_=>exact ⟨rfl,rfl⟩
 | 21,_,_=>exact ⟨rfl,rfl⟩
 | 22,_,_=>exact ⟨rfl,rfl⟩
 | 23,_,_=>exact ⟨rfl,rfl⟩
 | 24,_,_=>exact ⟨rfl,rfl⟩
 | 25,_,_=>exact ⟨rfl,rfl⟩
 | 26,_,_=>exact ⟨rfl,rfl⟩
 | 27,_,_=>exact ⟨rfl,rfl⟩
 | 28,_,_=>exact ⟨rfl,rfl⟩
 | 29,_,_=>exact ⟨rfl,rfl⟩
 | 30,_,_=>exact ⟨rfl,rfl⟩
 | 31,_,_=>exact ⟨rfl,rfl⟩
 | 32,_,_=>exact ⟨rfl,rfl⟩
 | 33,_,_=>exact ⟨rfl,rfl⟩
 | 34,_,_=>exact ⟨rfl,rfl⟩
 | 35,_,_=>exact ⟨rfl,rfl⟩
 | 36,_,_=>exact ⟨rfl,rfl⟩
 | 37,_,_=>exact ⟨rfl,rfl⟩
 | 38,_,_=>exact ⟨rfl,rfl⟩
 | 39,_,_=>exact ⟨rfl,rfl⟩
 | 40,_,_=>exact ⟨rfl,rfl⟩
 | 41,_,_=>exact ⟨rfl,rfl⟩
 | 42,_,_=>exact ⟨rfl,rfl⟩
 | 43,_,_=>exact ⟨rfl,rfl⟩
 | 44,_,_=>exact ⟨rfl,rfl⟩
 | 45,_,_=>exact ⟨rfl,rfl⟩
 | 46,_,_=>exact ⟨rfl,rfl⟩
 | 47,_,_=>exact ⟨rfl,rfl⟩
 | _ + 48,_,_=>exact ⟨rfl,rfl⟩
set_option maxHeartbeats 8000000 in
theorem alive_spec (H : List Row) : Fc Tryz.prog 8 [] H (fun v H' => v = .bool true∧H' = H):=by
 refine Fc.mk (callable Tryz.call8) Tryz.func8 rfl Tryz.ntmps8 rfl ?_;dsimp only [fr]
 repeat' (first | (refine uP rfl ?_;(first | ((first | refine uN rfl ?_);(first | (refine uC (uT rfl (by (repeat (first | exact Args.nil | refine Args.cons rfl ?_));done)) rfl rfl (roomRE _) ?_;rintro _ _ ⟨po,Z,rfl,hpo,rfl⟩)|(refine uE (uX rfl rfl rfl) rfl rfl ?_)|(refine uC (uT rfl (Args.cons rfl (Args.cons rfl (Args.cons rfl Args.nil)))) rfl rfl (aYel po _ (hpo _)) ?_;rintro _ H9 ⟨rfl,hH9⟩;subst H9)|(refine uC (uT rfl (by (repeat (first | exact Args.nil | refine Args.cons rfl ?_));done)) rfl rfl (aDif po _ (hpo _)) ?_;rintro _ H9 ⟨rfl,hH9⟩;subst H9)|(refine uC (uT rfl (by (repeat (first | exact Args.nil | refine Args.cons rfl ?_));done)) rfl rfl (aKno po _ (hpo _)) ?_;rintro _ H9 ⟨rfl,hH9⟩;subst H9)|(refine uC (uT rfl (by (repeat (first | exact Args.nil | refine Args.cons rfl ?_));done)) rfl rfl (aOrd po _ (hpo _)) ?_;rintro _ H9 ⟨rfl,hH9⟩;subst H9)|(refine uC (uT rfl (Args.cons rfl (Args.cons rfl (Args.cons rfl Args.nil)))) rfl rfl (aPer po _ (hpo _)) ?_;rintro _ H9 ⟨rfl,hH9⟩;subst H9)|(refine uC (uT rfl (Args.cons rfl (Args.cons rfl (Args.cons rfl Args.nil)))) rfl rfl (aSur po _ (hpo _)) ?_;rintro _ H9 ⟨rfl,hH9⟩;subst H9)|(refine Xg.st (StF.alloc rfl Tryz.zeroValue24 rfl) rfl rfl ?_;rintro _ _ ⟨bx,rfl,rfl⟩)|(refine Xg.st0 (StF.storeAll (i:=0) (vs:=cSp ⟨4,12⟩) rfl rfl rfl (te rfl) rfl rfl rfl rfl) rfl ?_;rintro _ _ ⟨rfl,rfl⟩;dsimp only [List.set])|(refine Xg.st0 (StF.storeAll (i:=0) (vs:=cSp ⟨-2,10⟩) rfl rfl rfl (te rfl) rfl rfl rfl rfl) rfl ?_;rintro _ _ ⟨rfl,rfl⟩;dsimp only [List.set])|(refine uE (uM rfl rfl) rfl rfl ?_)|(refine uE (uA rfl rfl) rfl rfl ?_)))))|(refine uD rfl ?_;refine hK _ _ ?_;clear hK K) | refine uS rfl ?_ | refine uR rfl (fun K hK=>?_))
 generalize bx = b3
 rename_i b1 p1 Z1 h1 p2 Z2 h2 p3 Z3 h3 p4 Z4 h4
 refine X.weak (F' := [(1,.pointer (some ⟨b1,0,none⟩)),(2,.int .i64 0),(3,.pointer (some ⟨b3,0,none⟩)),(4,.int .i64 0),(5,.int .u8 1),(6,.int .i64 0),(7,.int .u8 0),(8,.int .i64 0),(9,.int .i64 2),(10,.int .i64 0),(11,.int .i64 2),(12,.int .i64 0)]) (H' := ⟨b3,0,cSp ⟨-2,10⟩,some 24,2⟩::⟨b1,0,cSp ⟨4,12⟩,some 24,2⟩::H) (by repeat (first | exact uU _ | refine uV rfl ?_)) (by repeat (first | exact qR _ | apply qK | apply qC | refine List.Sublist.trans ?_ (List.sublist_append_right _ _))) ?_
 clear hpo h1 h2 h3 h4
 refine X.regionOb tsKal [1,2,3,4,5,6,7,8,9,10,11,12] [(1,.pointer (some ⟨b1,0,none⟩)),(2,.int .i64 0),(3,.pointer (some ⟨b3,0,none⟩)),(4,.int .i64 0),(5,.int .u8 1),(6,.int .i64 0),(7,.int .u8 0),(8,.int .i64 0),(9,.int .i64 2),(10,.int .i64 0),(11,.int .i64 2),(12,.int .i64 0)] (valKal b1 b3) (rowsKal b1 b3) (fun _=>(0,0)) (⟨b3,0,cSp ⟨-2,10⟩,some 24,2⟩::⟨b1,0,cSp ⟨4,12⟩,some 24,2⟩::H) rfl mixed (by repeat (first | exact uU _ | refine uV rfl ?_)) rfl (by kernel_rfl) (locKal b1 b3) (qR _) ?_ ?_
 ·repeat' (first | exact AllF.done rfl | (refine AllF.step rfl ?_ ?_;·(first | fail | ((first | refine Ob.ng rfl ?_ | refine Ob.g rfl rfl (fun _=>rfl) ?_);(first | exact ObK.pure (fun env R hR=>by exact ⟨_,uM rfl rfl,rfl⟩) rfl (fun _=>rfl) | exact ObK.pure (fun env R hR=>by exact ⟨_,EvF.pickF rfl rfl rfl,rfl⟩) rfl (fun _=>rfl) | exact ObK.pure (fun env R hR=>by exact ⟨_,uQ rfl rfl rfl rfl,rfl⟩) rfl (fun _=>rfl) | exact ObK.pure (fun env R hR=>by exact ⟨_,uL rfl rfl (uW (te rfl) rfl (hR _ (qH _)) rfl),rfl⟩) rfl (fun _=>rfl) | exact ObK.pure (fun env R hR=>by exact ⟨_,uL rfl rfl (uW (te rfl) rfl (hR _ (qT _ (qH _))) rfl),rfl⟩) rfl (fun _=>rfl)|(exact fun env S hS=>OpF.callV (Z:=[]) (uT rfl (Args.cons rfl (Args.cons rfl Args.nil))) (lawSpan 4 12 S) rfl rfl)|(exact fun env S hS=>OpF.callV (Z:=[]) (uT rfl (Args.cons rfl (Args.cons rfl Args.nil))) (lawSpan (-2) 10 S) rfl rfl)|(exact ObK.pure (fun env S hS=>⟨.bool false,EvF.eqSt (r:=true) rfl rfl rfl (by kernel_rfl) (fun w=>eqE ⟨4,12⟩ w) rfl,rfl⟩) rfl (fun _=>rfl))|(exact ObK.pure (fun env S hS=>⟨.bool false,EvF.eqSt (r:=true) rfl rfl rfl (by kernel_rfl) (fun w=>eqE ⟨-2,10⟩ w) rfl,rfl⟩) rfl (fun _=>rfl)))))))
 intro env t ha2 hv;refine ⟨_,ha2.cons (hv 47 101 (Nat.le_of_ble_eq_true rfl) rfl),?_⟩;clear hv ha2
 refine X.weak (F' := [(101,.bool false)]) (H' := H) (by repeat (first | exact uU _ | refine uV rfl ?_)) (by repeat (first | exact qR _ | apply qK | apply qC | refine List.Sublist.trans ?_ (List.sublist_append_right _ _))) ?_
 clear env
 clear b1 b3 p1 p2 p3 p4 Z1 Z2 Z3 Z4
 repeat' (first | (refine uP rfl ?_;(first | ((first | refine uN rfl ?_ | (refine Xo.g rfl rfl ?_;with_reducible refine Xw.tt ?_));(first | (refine uE (uQ (b:=true) rfl rfl rfl (congrArg some (decide_eq_true (by omega)))) rfl rfl ?_)|(refine uC (uT rfl Args.nil) rfl rfl (oddRO _) ?_;rintro _ _ ⟨po,Z,rfl,hpo,rfl⟩)|(refine uC (uT rfl (by (repeat (first | exact Args.nil | refine Args.cons rfl ?_));done)) rfl rfl (roomRE _) ?_;rintro _ _ ⟨po,Z,rfl,hpo,rfl⟩)|(refine uE (uX rfl rfl rfl) rfl rfl ?_)|(refine uC (uT rfl (by (repeat (first | exact Args.nil | refine Args.cons rfl ?_));done)) rfl rfl (aDue po _ (hpo _)) ?_;rintro _ _ ⟨a1,c1,Z1,rfl,s1,rfl⟩)|(refine uC (uT rfl (by (repeat (first | exact Args.nil | refine Args.cons rfl ?_));done)) rfl rfl (aFre po _ (hpo _)) ?_;rintro _ _ ⟨a2,c2,Z2,rfl,s2,rfl⟩)|(refine uC (uT rfl (by (repeat (first | exact Args.nil | refine Args.cons rfl ?_));done)) rfl rfl (aAsk po _ (hpo _)) ?_;rintro _ H9 ⟨rfl,hH9⟩;subst H9)|(refine uC (uT rfl (by (repeat (first | exact Args.nil | refine Args.cons rfl ?_));done)) rfl rfl (aWhy po _ (hpo _)) ?_;rintro _ _ ⟨a3,c3,Z3,rfl,s3,rfl⟩)|(refine uC (uT rfl (by (repeat (first | exact Args.nil | refine Args.cons rfl ?_));done)) rfl rfl (aRst po _ (hpo _)) ?_;rintro _ _ ⟨a4,c4,Z4,rfl,s4,rfl⟩)|(refine uC (uT rfl (by (repeat (first | exact Args.nil | refine Args.cons rfl ?_));done)) rfl rfl (aCan po _ (hpo _)) ?_;rintro _ H9 ⟨rfl,hH9⟩;subst H9)|(refine uC (uT rfl (by (repeat (first | exact Args.nil | refine Args.cons rfl ?_));done)) rfl rfl (aWrg po _ (hpo _)) ?_;rintro _ _ ⟨a5,c5,Z5,rfl,s5,rfl⟩)|(refine Xg.st (StF.buildOne (cs:=[.int .i64 1]) rfl el55 rfl rfl rfl (by decide) (by decide)) rfl rfl ?_;rintro _ _ ⟨bq,rfl,rfl⟩)|(refine Xg.st (StF.buildOne (cs:=[.int .i64 2]) rfl el55 rfl rfl rfl (by decide) (by decide)) rfl rfl ?_;rintro _ _ ⟨bq,rfl,rfl⟩)|(refine uC (uT rfl (Args.cons rfl (Args.cons rfl (Args.cons rfl Args.nil)))) rfl rfl (ints_spec [1] a1 c1 bq [1] _ (s1.sub (fun _ h=>by repeat (first | exact h | apply List.mem_append_right | apply qT))) (SlE.ofRow (l:=[1]) (qH _) (fun _ _=>rfl)) rfl (by decide)) ?_;rintro _ H9 ⟨rfl,hH9⟩;subst H9)|(refine uC (uT rfl (Args.cons rfl (Args.cons rfl (Args.cons rfl Args.nil)))) rfl rfl (ints_spec [2] a2 c2 bq [2] _ (s2.sub (fun _ h=>by repeat (first | exact h | apply List.mem_append_right | apply qT))) (SlE.ofRow (l:=[2]) (qH _) (fun _ _=>rfl)) rfl (by decide)) ?_;rintro _ H9 ⟨rfl,hH9⟩;subst H9)|(refine uC (uT rfl (Args.cons rfl (Args.cons rfl (Args.cons rfl Args.nil)))) rfl rfl (ints_spec [1] a3 c3 bq [1] _ (s3.sub (fun _ h=>by repeat (first | exact h | apply List.mem_append_right | apply qT))) (SlE.ofRow (l:=[1]) (qH _) (fun _ _=>rfl)) rfl (by decide)) ?_;rintro _ H9 ⟨rfl,hH9⟩;subst H9)|(refine uC (uT rfl (Args.cons rfl (Args.cons rfl (Args.cons rfl Args.nil)))) rfl rfl (ints_spec [1] a4 c4 bq [1] _ (s4.sub (fun _ h=>by repeat (first | exact h | apply List.mem_append_right | apply qT))) (SlE.ofRow (l:=[1]) (qH _) (fun _ _=>rfl)) rfl (by decide)) ?_;rintro _ H9 ⟨rfl,hH9⟩;subst H9)|(refine uC (uT rfl (Args.cons rfl (Args.cons rfl (Args.cons rfl Args.nil)))) rfl rfl (ints_spec [1] a5 c5 bq [1] _ (s5.sub (fun _ h=>by repeat (first | exact h | apply List.mem_append_right | apply qT))) (SlE.ofRow (l:=[1]) (qH _) (fun _ _=>rfl)) rfl (by decide)) ?_;rintro _ H9 ⟨rfl,hH9⟩;subst H9)|(refine uE (uM rfl rfl) rfl rfl ?_)|(refine uE (uA rfl rfl) rfl rfl ?_)|(refine uE (EvF.pickT rfl rfl rfl) rfl rfl ?_)|(refine uE (EvF.pickF rfl rfl rfl) rfl rfl ?_)|(refine uE (EvF.not rfl rfl) rfl rfl ?_)))|(refine Xo.g rfl rfl ?_;(first | (with_reducible refine Xw.ft rfl rfl ?_)|(with_reducible refine Xw.caseB (fun h=>?_) (fun h=>?_) <;> simp only [h,decide_true,decide_false,Bool.not_true,Bool.not_false,and_self,and_true,true_and,and_false,false_and])))))|(refine uD rfl ?_;refine hK _ _ ?_;clear hK K) | refine uS rfl ?_ | refine uR rfl (fun K hK=>?_) | refine X.skip rfl ?_ | refine X.ret rfl ?_ | (refine X.ite rfl rfl (fun hc=>?_);(first | (with_reducible refine Xb.f hc ?_)) <;> clear hc))
 all_goals try (exfalso;contradiction)
 exact ret_one (by simp) Tryz.results8 rfl (H' := H) (by repeat (first | exact qR _ | apply qK | apply qC | refine List.Sublist.trans ?_ (List.sublist_append_right _ _))) ⟨rfl,rfl⟩
end Go.Proofs.YtmfppdpkalelhaaGreat
end
section
set_option linter.unusedVariables false
set_option linter.unusedSimpArgs false
namespace Go.Proofs.YtmfppdpkalelhaaGreat
open Go Go.Fw
set_option maxRecDepth 10000
structure Rdy (R : Rm) : Prop where
 g : ¬ great R
 ok : roomOk R
 t : hasT R R.mats
set_option maxHeartbeats 4000000 in
theorem ready_yes (R : Rm) (p : Pl) (H : List Row) (hR : RmOk H R p) (h : Rdy R) : Fc Tryz.prog 28 [.agg (cRm R p).toArray] H (fun v H' => v = .bool true∧H' = H):=by
 have hml : R.mats.length ≤ 8:=h.ok.1.2.2.2.2.2.2
 have hg:=fun S=>great_spec R p S
 have hr:=fun S hS=>room_spec R p S hS
 have ht:=fun S hS=>true_spec R p S h.ok.ok h.ok.mats (by omega) hS
 simp only [decide_eq_false h.g] at hg
 simp only [decide_eq_true h.ok] at hr
 simp only [decide_eq_true h.t] at ht
 refine Fc.mk (callable Tryz.call28) Tryz.func28 rfl Tryz.ntmps28 rfl ?_;dsimp only [fr]
 repeat' (first | (refine uP rfl ?_;(first | ((first | refine uN rfl ?_ | (refine Xo.g rfl rfl ?_;with_reducible refine Xw.tt ?_));(first | (refine uE (uL rfl rfl (uW (T:=32) (cs:=cRm R p) (te rfl) rfl (by repeat (first | exact qH _ | apply qT)) rfl)) rfl rfl ?_)|(refine uC (uT rfl (Args.cons rfl Args.nil)) rfl rfl (hg _) ?_;rintro _ H9 ⟨rfl,hH9⟩;subst H9)|(refine uC (uT rfl (Args.cons rfl Args.nil)) rfl rfl (hr _ (hR.sub (fun _ h=>by repeat (first | exact h | apply qT)))) ?_;rintro _ H9 ⟨rfl,hH9⟩;subst H9)|(refine uC (uT rfl (Args.cons rfl Args.nil)) rfl rfl (ht _ (hR.sub (fun _ h=>by repeat (first | exact h | apply qT)))) ?_;rintro _ H9 ⟨rfl,hH9⟩;subst H9)|(refine uE (uM rfl rfl) rfl rfl ?_)|(refine uE (uA rfl rfl) rfl rfl ?_)|(refine uE (EvF.pickT rfl rfl rfl) rfl rfl ?_)|(refine uE (EvF.pickF rfl rfl rfl) rfl rfl ?_)|(refine uE (EvF.not rfl rfl) rfl rfl ?_)|(refine Xg.st (StF.boxAgg rfl rfl) rfl rfl ?_;rintro _ _ ⟨bx,rfl,rfl⟩)))|(refine Xo.g rfl rfl ?_;(first | (with_reducible refine Xw.ft rfl rfl ?_)|(with_reducible refine Xw.caseB (fun h=>?_) (fun h=>?_) <;> simp only [h,decide_true,decide_false,Bool.not_true,Bool.not_false,and_self,and_true,true_and,and_false,false_and])))))|(refine uD rfl ?_;refine hK _ _ ?_;clear hK K) | refine uS rfl ?_ | refine uR rfl (fun K hK=>?_) | refine X.ret rfl ?_)
 all_goals try (exfalso;contradiction)
 exact ret_one (by simp) Tryz.results28 rfl (H' := H) (by repeat (first | exact qR _ | apply qK | apply qC)) ⟨rfl,rfl⟩
set_option maxHeartbeats 4000000 in
theorem ready_no (R : Rm) (p : Pl) (H : List Row) (hR : RmOk H R p) (h : ¬ Rdy R) : Fc Tryz.prog 28 [.agg (cRm R p).toArray] H (fun v H' => v = .bool false∧H' = H):=by
 have hg:=fun S=>great_spec R p S
 have hr:=fun S hS=>room_spec R p S hS
 by_cases h1 : great R
 ·simp only [decide_eq_true h1] at hg
  refine Fc.mk (callable Tryz.call28) Tryz.func28 rfl Tryz.ntmps28 rfl ?_;dsimp only [fr]
  repeat' (first | (refine uP rfl ?_;(first | ((first | refine uN rfl ?_ | (refine Xo.g rfl rfl ?_;with_reducible refine Xw.tt ?_));(first | (refine uE (uL rfl rfl (uW (T:=32) (cs:=cRm R p) (te rfl) rfl (by repeat (first | exact qH _ | apply qT)) rfl)) rfl rfl ?_)|(refine uC (uT rfl (Args.cons rfl Args.nil)) rfl rfl (hg _) ?_;rintro _ H9 ⟨rfl,hH9⟩;subst H9)|(refine uE (uM rfl rfl) rfl rfl ?_)|(refine uE (uA rfl rfl) rfl rfl ?_)|(refine uE (EvF.pickF rfl rfl rfl) rfl rfl ?_)|(refine uE (EvF.not rfl rfl) rfl rfl ?_)|(refine Xg.st (StF.boxAgg rfl rfl) rfl rfl ?_;rintro _ _ ⟨bx,rfl,rfl⟩)))|(refine Xo.g rfl rfl ?_;(first | (with_reducible refine Xw.ft rfl rfl ?_)|(with_reducible refine Xw.caseB (fun h=>?_) (fun h=>?_) <;> simp only [h,decide_true,decide_false,Bool.not_true,Bool.not_false,and_self,and_true,true_and,and_false,false_and])))))|(refine uD rfl ?_;refine hK _ _ ?_;clear hK K) | refine uS rfl ?_ | refine uR rfl (fun K hK=>?_) | refine X.ret rfl ?_)
  all_goals try (exfalso;contradiction)
  exact ret_one (by simp) Tryz.results28 rfl (H' := H) (by repeat (first | exact qR _ | apply qK | apply qC)) ⟨rfl,rfl⟩
 ·simp only [decide_eq_false h1] at hg
  by_cases h2 : roomOk R
  ·have hml : R.mats.length ≤ 8:=h2.1.2.2.2.2.2.2
   have ht:=fun S hS=>true_spec R p S h2.ok h2.mats (by omega) hS
   have h3 : ¬ hasT R R.mats:=fun q=>h ⟨h1,h2,q⟩
   simp only [decide_eq_true h2] at hr
   simp only [decide_eq_false h3] at ht
   refine Fc.mk (callable Tryz.call28) Tryz.func28 rfl Tryz.ntmps28 rfl ?_;dsimp only [fr]
   repeat' (first | (refine uP rfl ?_;(first | ((first | refine uN rfl ?_ | (refine Xo.g rfl rfl ?_;with_reducible refine Xw.tt ?_));(first | (refine uE (uL rfl rfl (uW (T:=32) (cs:=cRm R p) (te rfl) rfl (by repeat (first | exact qH _ | apply qT)) rfl)) rfl rfl ?_)|(refine uC (uT rfl (Args.cons rfl Args.nil)) rfl rfl (hg _) ?_;rintro _ H9 ⟨rfl,hH9⟩;subst H9)|(refine uC (uT rfl (Args.cons rfl Args.nil)) rfl rfl (hr _ (hR.sub (fun _ h=>by repeat (first | exact h | apply qT)))) ?_;rintro _ H9 ⟨rfl,hH9⟩;subst H9)|(refine uC (uT rfl (Args.cons rfl Args.nil)) rfl rfl (ht _ (hR.sub (fun _ h=>by repeat (first | exact h | apply qT)))) ?_;rintro _ H9 ⟨rfl,hH9⟩;subst H9)|(refine uE (uM rfl rfl) rfl rfl ?_)|(refine uE (uA rfl rfl) rfl rfl ?_)|(refine uE (EvF.pickT rfl rfl rfl) rfl rfl ?_)|(refine uE (EvF.pickF rfl rfl rfl) rfl rfl ?_)|(refine uE (EvF.not rfl rfl) rfl rfl ?_)|(refine Xg.st (StF.boxAgg rfl rfl) rfl rfl ?_;rintro _ _ ⟨bx,rfl,rfl⟩)))|(refine Xo.g rfl rfl ?_;(first | (with_reducible refine Xw.ft rfl rfl ?_)|(with_reducible refine Xw.caseB (fun h=>?_) (fun h=>?_) <;> simp only [h,decide_true,decide_false,Bool.not_true,Bool.not_false,and_self,and_true,true_and,and_false,false_and])))))|(refine uD rfl ?_;refine hK _ _ ?_;clear hK K) | refine uS rfl ?_ | refine uR rfl (fun K hK=>?_) | refine X.ret rfl ?_)
   all_goals try (exfalso;contradiction)
   exact ret_one (by simp) Tryz.results28 rfl (H' := H) (by repeat (first | exact qR _ | apply qK | apply qC)) ⟨rfl,rfl⟩
  ·simp only [decide_eq_false h2] at hr
   refine Fc.mk (callable Tryz.call28) Tryz.func28 rfl Tryz.ntmps28 rfl ?_;dsimp only [fr]
   repeat' (first | (refine uP rfl ?_;(first | ((first | refine uN rfl ?_ | (refine Xo.g rfl rfl ?_;with_reducible refine Xw.tt ?_));(first | (refine uE (uL rfl rfl (uW (T:=32) (cs:=cRm R p) (te rfl) rfl (by repeat (first | exact qH _ | apply qT)) rfl)) rfl rfl ?_)|(refine uC (uT rfl (Args.cons rfl Args.nil)) rfl rfl (hg _) ?_;rintro _ H9 ⟨rfl,hH9⟩;subst H9)|(refine uC (uT rfl (Args.cons rfl Args.nil)) rfl rfl (hr _ (hR.sub (fun _ h=>by repeat (first | exact h | apply qT)))) ?_;rintro _ H9 ⟨rfl,hH9⟩;subst H9)|(refine uE (uM rfl rfl) rfl rfl ?_)|(refine uE (uA rfl rfl) rfl rfl ?_)|(refine uE (EvF.pickT rfl rfl rfl) rfl rfl ?_)|(refine uE (EvF.pickF rfl rfl rfl) rfl rfl ?_)|(refine uE (EvF.not rfl rfl) rfl rfl ?_)|(refine Xg.st (StF.boxAgg rfl rfl) rfl rfl ?_;rintro _ _ ⟨bx,rfl,rfl⟩)))|(refine Xo.g rfl rfl ?_;(first | (with_reducible refine Xw.ft rfl rfl ?_)|(with_reducible refine Xw.caseB (fun h=>?_) (fun h=>?_) <;> simp only [h,decide_true,decide_false,Bool.not_true,Bool.not_false,and_self,and_true,true_and,and_false,false_and])))))|(refine uD rfl ?_;refine hK _ _ ?_;clear hK K) | refine uS rfl ?_ | refine uR rfl (fun K hK=>?_) | refine X.ret rfl ?_)
   all_goals try (exfalso;contradiction)
   exact ret_one (by simp) Tryz.results28 rfl (H' := H) (by repeat (first | exact qR _ | apply qK | apply qC)) ⟨rfl,rfl⟩
set_option maxHeartbeats 4000000 in
theorem lawHas (l : List Int) (a : Option Addr) (c : Nat) (n : Int) (H : List Row) (hl : SlE H a cI 1 l) (hb : l.length ≤ 1000000) : Fc Tryz.prog 34 [.slice a l.length c,.int .i64 n] H (fun v H' => v = .bool (decide (n ∈ l))∧H' = H):=by
 obtain ⟨w,hw⟩ : ∃ w,w = decide (n ∈ l):=⟨_,rfl⟩
 rw [← hw]
 refine Fc.mk (callable Tryz.call34) Tryz.func34 rfl Tryz.ntmps34 rfl ?_;dsimp only [fr]
 repeat' (first | (refine uP rfl ?_;(first | ((first | refine uN rfl ?_);(first | (refine uE (uM rfl rfl) rfl rfl ?_)|(refine uE (uA rfl rfl) rfl rfl ?_)|(refine uE (EvF.lenSlice rfl rfl (te rfl)) rfl rfl ?_)))))|(refine uD rfl ?_;refine hK _ _ ?_;clear hK K) | refine uS rfl ?_ | refine uR rfl (fun K hK=>?_) | refine X.block rfl ?_)
 refine X.lp rfl (fun q F' H' => ∃ k : Nat,q = l.length - k∧k ≤ l.length∧w = decide (n ∈ l.drop k)∧H = H'∧F' = [(1,.int .i64 n),(7,.slice a l.length c),(8,.int .i64 l.length),(9,.int .i64 k)])
  l.length [(1,.int .i64 n),(7,.slice a l.length c),(8,.int .i64 l.length),(9,.int .i64 (0 : Nat))] _ (by repeat (first | exact uU _ | refine uV rfl ?_)) (qR _) ⟨0,rfl,Nat.zero_le _,hw,rfl,rfl⟩ ?_
 clear hw
 rintro _ _ _ ⟨k,rfl,hk,hw,rfl,rfl⟩
 by_cases hlt : k < l.length
 ·obtain ⟨b,off,e,rfl,he⟩:=hl.elem (i:=k) hlt
  rw [drop_cons he] at hw
  by_cases heq : e = n
  ·rw [heq,decide_eq_true List.mem_cons_self] at hw
   subst hw
   repeat' (first | (refine uP rfl ?_;(first | ((first | refine uN rfl ?_);(first | (refine uE (uQ (b:=true) rfl rfl rfl (congrArg some (decide_eq_true (by omega)))) rfl rfl ?_)|(refine uE (uL rfl rfl (LoadV.el0 hl he (te rfl) rfl (fun _ hm=>hm) rfl)) rfl rfl ?_)|(refine uE (uM rfl rfl) rfl rfl ?_)|(refine uE (uA rfl rfl) rfl rfl ?_)|(refine uE (EvF.indexSlice rfl rfl rfl (te rfl) (te rfl) (by omega) (by omega)) rfl rfl ?_)))))|(refine uD rfl ?_;refine hK _ _ ?_;clear hK K) | refine uS rfl ?_ | refine uR rfl (fun K hK=>?_) | refine X.block rfl ?_ | refine X.skip rfl ?_ | refine X.ret rfl ?_ | (refine X.ite rfl rfl (fun hc=>?_);(first | (with_reducible refine Xb.t hc ?_)) <;> clear hc))
   all_goals try (exfalso;contradiction)
   exact ret_one (by simp) Tryz.results34 rfl (H' := H) (by repeat (first | exact qR _ | apply qK | apply qC)) ⟨rfl,rfl⟩
  ·repeat' (first | (refine uP rfl ?_;(first | ((first | refine uN rfl ?_);(first | (refine uE (uQ (b:=true) rfl rfl rfl (congrArg some (decide_eq_true (by omega)))) rfl rfl ?_)|(refine uE (uQ (b:=false) rfl rfl rfl (congrArg some (decide_eq_false (by omega)))) rfl rfl ?_)|(refine uE (uL rfl rfl (LoadV.el0 hl he (te rfl) rfl (fun _ hm=>hm) rfl)) rfl rfl ?_)|(refine uE (uM rfl rfl) rfl rfl ?_)|(refine uE (uA rfl rfl) rfl rfl ?_)|(refine uE (EvF.add64 rfl rfl rfl (by omega) (by omega)) rfl rfl ?_)|(refine uE (EvF.indexSlice rfl rfl rfl (te rfl) (te rfl) (by omega) (by omega)) rfl rfl ?_)))))|(refine uD rfl ?_;refine hK _ _ ?_;clear hK K) | refine uS rfl ?_ | refine uR rfl (fun K hK=>?_) | refine X.block rfl ?_ | refine X.skip rfl ?_ | (refine X.ite rfl rfl (fun hc=>?_);(first | (with_reducible refine Xb.t hc ?_)|(with_reducible refine Xb.f hc ?_)) <;> clear hc))
   all_goals try (exfalso;contradiction)
   refine ⟨_,_,H,(by repeat (first | exact uU _ | refine uV rfl ?_)),(by repeat (first | exact qR _ | apply qK | apply qC)),⟨k + 1,rfl,by omega,?_,rfl,rfl⟩,by omega⟩
   rw [hw]
   refine decide_eq_decide.2 ⟨fun h=>?_,fun h=>List.mem_cons_of_mem _ h⟩
   rcases List.mem_cons.1 h with h | h
   ·exact absurd h.symm heq
   ·exact h
 ·obtain rfl : k = l.length:=by omega
  rw [List.drop_length] at hw
  have hw : w = false:=hw
  subst hw
  repeat' (first | (refine uP rfl ?_;(first | ((first | refine uN rfl ?_);(first | (refine uE (uQ (b:=false) rfl rfl rfl (congrArg some (decide_eq_false (by omega)))) rfl rfl ?_)|(refine uE (uA rfl rfl) rfl rfl ?_)))))|(refine uD rfl ?_;refine hK _ _ ?_;clear hK K) | refine uS rfl ?_ | refine uR rfl (fun K hK=>?_)|(refine X.brk rfl ?_;repeat (first | refine blockX_hit rfl ?_ | refine blockX_miss (by decide) ?_)) | refine X.ret rfl ?_ | (refine X.ite rfl rfl (fun hc=>?_);(first | (with_reducible refine Xb.f hc ?_)) <;> clear hc))
  all_goals try (exfalso;contradiction)
  exact ret_one (by simp) Tryz.results34 rfl (H' := H) (by repeat (first | exact qR _ | apply qK | apply qC)) ⟨rfl,rfl⟩
end Go.Proofs.YtmfppdpkalelhaaGreat
end
section
set_option linter.unusedVariables false
set_option linter.unusedSimpArgs false
namespace Go.Proofs.YtmfppdpkalelhaaGreat
open Go Go.Fw
set_option maxRecDepth 10000
theorem byte_und : (Tryz.prog.underlying 5).isSome = true:=by kernel_rfl
theorem int_undI : Tryz.prog.underlying 3 = some (.int .i64):=by kernel_rfl
theorem rem_nat {a : Int} {n : Nat} (ha : 0 ≤ a) (hn : 0 < n) : ∃ i : Nat,i < n∧a % (n : Int)=(i : Int):=by
 have h1:=Int.emod_nonneg a (b:=(n : Int)) (by omega)
 have h2:=Int.emod_lt_of_pos a (b:=(n : Int)) (by omega)
 exact ⟨(a % (n : Int)).toNat,by omega,by omega⟩
end Go.Proofs.YtmfppdpkalelhaaGreat
end
section
set_option linter.unusedVariables false
set_option linter.unusedSimpArgs false
namespace Go.Proofs.YtmfppdpkalelhaaGreat
open Go Go.Fw
set_option maxRecDepth 10000
theorem bx_one {R : Rm} (hok : roomOk R) {b c : Bx} (hb : b ∈ R.boxes) (hc : c ∈ R.boxes) (h : b.id = c.id) : b = c:=by
 have hpw:=List.pairwise_iff_getElem.1 (okBoxes_pw R.months R.boxes 0 hok.2.2.1)
 obtain ⟨i,hi,rfl⟩:=List.mem_iff_getElem.1 hb
 obtain ⟨j,hj,rfl⟩:=List.mem_iff_getElem.1 hc
 rcases Nat.lt_trichotomy i j with q | q | q
 ·have:=hpw i j hi hj q;omega
 ·subst q;rfl
 ·have:=hpw j i hj hi q;omega
theorem rdy_there {R : Rm} {m a : Int} (hm : 0 ≤ m∧m ≤ R.months - 1) (ha : a ∈ thI R m) : ∃ b,there R b m∧b.id = a:=(mem_thI hm.2).1 ha
theorem rdy_pl {R : Rm} {m a : Int} (hm : 0 ≤ m∧m ≤ R.months - 1) (ha : a ∈ thI R m) : (⟨a,m⟩ : Pk) ∈ plcs R:=by
 obtain ⟨b,hb,rfl⟩:=rdy_there hm ha
 exact plcs_mem hb
theorem rdy_open {R : Rm} (h : Rdy R) {l : List Int} {m : Int} (hm : 0 ≤ m∧m ≤ R.months - 1) (hl : ∀ a ∈ l,a ∈ thI R m) : openE R l [m] = 0:=by
 unfold openE
 have h2 : allThere R l:=fun a ha=>by
  obtain ⟨b,hb,hba⟩:=rdy_there hm (hl a ha)
  exact ⟨b,hb.1,hba⟩
 have h3 : inTime R l [m]:=fun q hq=>by
  rw [List.mem_singleton.1 hq]
  refine ⟨hm,?_⟩
  rintro ⟨b,hb,hb1,hb2⟩
  obtain ⟨c,hc,hcb⟩:=rdy_there hm (hl _ hb2)
  have:=bx_one h.ok hc.1 hb hcb
  subst this
  have:=hc.2.1
  omega
 rw [if_pos h.ok,if_pos h2,if_pos h3,if_pos h.t]
theorem rdy_exz {R : Rm} (h : Rdy R) {m a : Int} (hm : 0 ≤ m∧m ≤ R.months - 1) (ha : a ∈ thI R m) : ExR R R.mats ⟨a,m⟩ zp (rng R R.mats ⟨a,m⟩ zp):=ex_mem h.ok.ok h.ok.mats h.t (rdy_pl hm ha) (zp_mem R)
theorem rdy_yel {R : Rm} (h : Rdy R) {m a : Int} (hm : 0 ≤ m∧m ≤ R.months - 1) (ha : a ∈ thI R m) : yelF R a m = (rng R R.mats ⟨a,m⟩ zp,0):=by
 unfold yelF
 rw [if_pos (rdy_open h hm (fun x hx=>by rw [List.mem_singleton.1 hx];exact ha))]
theorem thI_of {R : Rm} {m : Int} {b : Bx} (hb : b ∈ R.boxes) (hm : b.made ≤ m) : b.id ∈ thI R m:=by
 unfold thI
 exact List.mem_map.2 ⟨b,List.mem_filter.2 ⟨hb,decide_eq_true hm⟩,rfl⟩
end Go.Proofs.YtmfppdpkalelhaaGreat
end
section
set_option linter.unusedVariables false
set_option linter.unusedSimpArgs false
namespace Go.Proofs.YtmfppdpkalelhaaGreat
open Go Go.Fw
set_option maxRecDepth 10000
def Hold (p : Prop) : Prop:=p
theorem Hold.out {p : Prop} (h : Hold p) : p:=h
theorem Hold.mk {p : Prop} (h : p) : Hold p:=h
theorem rdy_bx {R : Rm} (h : Rdy R) {b : Bx} (hb : b ∈ R.boxes) {m : Int} (h1 : b.made ≤ m) (h2 : m ≤ R.months - 1) : there R b m∧(0 ≤ m∧m ≤ R.months - 1)∧b.id ∈ thI R m:=by
 have:=okBoxes_mem _ _ _ h.ok.2.2.1 b hb
 exact ⟨⟨hb,h1,h2⟩,⟨by omega,h2⟩,thI_of hb h1⟩
end Go.Proofs.YtmfppdpkalelhaaGreat
end
section
set_option linter.unusedVariables false
set_option linter.unusedSimpArgs false
namespace Go.Proofs.YtmfppdpkalelhaaGreat
open Go Go.Fw
set_option maxRecDepth 10000
def lexB : List Int → List Int → Bool
 | x::s,y::t=>if x = y then lexB s t else decide (x < y)
 | _,_=>false
def befF (a b : List Int) : Bool:=if a.length = b.length then lexB a b else decide (a.length < b.length)
theorem sub_cons {α : Type} {x : α} {s t : List α} (h : s.Sublist (x::t)) : (∃ s',s = x::s'∧s'.Sublist t)∨s.Sublist t:=by
 cases h with
 | cons _ h=>exact .inr h
 | cons_cons _ h=>exact .inl ⟨_,rfl,h⟩
theorem lonG_first (ok : List Int → Bool) : ∀ (t : List Int) (m : Nat) (acc : List Int),t.Pairwise (·< ·) → (∀ r,lonG ok t m acc = some r → ∃ r',r = acc++r'∧r'.Sublist t∧r'.length = m∧ok r = true ∧ ∀ s,s.Sublist t → s.length = m → ok (acc++s)=true → lexB s r' = false)∧(lonG ok t m acc = none → ∀ s,s.Sublist t → s.length = m → ok (acc++s)=false)
 | [],0,acc,_=>by
  simp only [lonG]
  constructor
  ·intro r h
   split at h
   ·cases h
    exact ⟨[],(List.append_nil _).symm,List.Sublist.slnil,rfl,by assumption,fun s h1 h2 _=>by rw [List.length_eq_zero_iff.1 h2];rfl⟩
   ·cases h
  ·intro h s h1 h2
   split at h
   ·cases h
   ·rename_i q
    rw [List.length_eq_zero_iff.1 h2,List.append_nil]
    exact Bool.eq_false_iff.2 q
 | [],m + 1,acc,_=>⟨fun r h=>by simp [lonG] at h,fun _ s h1 h2=>by have:=h1.length_le;simp at this;rw [this] at h2;simp at h2⟩
 | x::t,0,acc,_=>by
  simp only [lonG]
  constructor
  ·intro r h
   split at h
   ·cases h
    exact ⟨[],(List.append_nil _).symm,List.nil_sublist _,rfl,by assumption,fun s h1 h2 _=>by rw [List.length_eq_zero_iff.1 h2];rfl⟩
   ·cases h
  ·intro h s h1 h2
   split at h
   ·cases h
   ·rename_i q
    rw [List.length_eq_zero_iff.1 h2,List.append_nil]
    exact Bool.eq_false_iff.2 q
 | x::t,m + 1,acc,hp=>by
  have hp2:=List.pairwise_cons.1 hp
  have i1:=lonG_first ok t m (acc++[x]) hp2.2
  have i2:=lonG_first ok t (m + 1) acc hp2.2
  simp only [lonG]
  cases hc : lonG ok t m (acc++[x]) with
  | some r1 =>
   obtain ⟨r',h1,h2,h3,h4,h5⟩:=i1.1 r1 hc
   refine ⟨fun r h=>?_,fun h=>by cases h⟩
   cases h
   refine ⟨x::r',by rw [h1,List.append_assoc];rfl,h2.cons_cons x,by simp [h3],h4,fun s hs hl hok=>?_⟩
   rcases sub_cons hs with ⟨s',rfl,hs'⟩ | hs
   ·have:=h5 s' hs' (by simpa using hl) (by rw [List.append_assoc];exact hok)
    show (if x = x then lexB s' r' else _)=false
    rw [if_pos rfl];exact this
   ·cases s with
    | nil=>rfl
    | cons y s =>
     have hy:=hp2.1 y (hs.subset List.mem_cons_self)
     show (if y = x then _ else decide (y < x)) = false
     rw [if_neg (by omega),decide_eq_false (by omega)]
  | none =>
   have n1:=i1.2 hc
   dsimp only
   refine ⟨fun r h=>?_,fun h s hs hl=>?_⟩
   ·obtain ⟨r',h1,h2,h3,h4,h5⟩:=i2.1 r h
    refine ⟨r',h1,h2.cons x,h3,h4,fun s hs hl hok=>?_⟩
    rcases sub_cons hs with ⟨s',rfl,hs'⟩ | hs
    ·have:=n1 s' hs' (by simpa using hl)
     rw [List.append_assoc] at this
     rw [show acc++x::s' = acc++([x]++s') from rfl,this] at hok
     cases hok
    ·exact h5 s hs hl hok
   ·rcases sub_cons hs with ⟨s',rfl,hs'⟩ | hs
    ·have:=n1 s' hs' (by simpa using hl)
     rw [List.append_assoc] at this
     exact this
    ·exact i2.2 h s hs hl
theorem fewG_first (ok : List Int → Bool) (l : List Int) (hp : l.Pairwise (·< ·)) : ∀ (k n : Nat),(∀ r,fewG ok l k n = some r → r.Sublist l∧n ≤ r.length∧r.length < n + k∧ok r = true ∧ ∀ s,s.Sublist l → n ≤ s.length → ok s = true → befF s r = false)∧(fewG ok l k n = none → ∀ s,s.Sublist l → n ≤ s.length → s.length < n + k → ok s = false)
 | 0,n=>⟨fun r h=>by simp [fewG] at h,fun _ s _ h1 h2=>by omega⟩
 | k + 1,n=>by
  have i1:=lonG_first ok l n [] hp
  have i2:=fewG_first ok l hp k (n + 1)
  simp only [fewG]
  cases hc : lonG ok l n [] with
  | some r1 =>
   obtain ⟨r',h1,h2,h3,h4,h5⟩:=i1.1 r1 hc
   rw [List.nil_append] at h1
   subst h1
   refine ⟨fun r h=>?_,fun h=>by cases h⟩
   cases h
   refine ⟨h2,by omega,by omega,h4,fun s hs hl hok=>?_⟩
   unfold befF
   by_cases e : s.length = r1.length
   ·rw [if_pos e];exact h5 s hs (by omega) hok
   ·rw [if_neg e,decide_eq_false (by omega)]
  | none =>
   have n1:=i1.2 hc
   dsimp only
   refine ⟨fun r h=>?_,fun h s hs h1 h2=>?_⟩
   ·obtain ⟨g1,g2,g3,g4,g5⟩:=i2.1 r h
    refine ⟨g1,by omega,by omega,g4,fun s hs hl hok=>?_⟩
    by_cases e : s.length = n
    ·have q:=n1 s hs e
     rw [List.nil_append,hok] at q;cases q
    ·exact g5 s hs (by omega) hok
   ·by_cases e : s.length = n
    ·exact n1 s hs e
    ·exact i2.2 h s hs (by omega) (by omega)
theorem okMats_num (R : Rm) : ∀ (l : List Mt) (p : Int),okMats R p l → (∀ x ∈ l,p < x.number)∧(l.map (·.number)).Pairwise (·< ·)
 | [],_,_=>⟨fun x h=>absurd h List.not_mem_nil,List.Pairwise.nil⟩
 | x::l,p,h=>by
  obtain ⟨h1,h2⟩:=okMats_num R l x.number h.2.2.2
  have h0:=h.1
  refine ⟨fun y hy=>?_,?_⟩
  ·rcases List.mem_cons.1 hy with rfl | hy
   ·omega
   ·have:=h1 y hy;omega
  ·rw [List.map_cons]
   exact List.Pairwise.cons (fun b hb=>by obtain ⟨y,hy,rfl⟩:=List.mem_map.1 hb;exact h1 y hy) h2
end Go.Proofs.YtmfppdpkalelhaaGreat
end
section
set_option linter.unusedVariables false
namespace Go.Proofs.YtmfppdpkalelhaaGreat
open Go Go.Fw Go.ChangeShapes Go.WideShapes
set_option maxRecDepth 10000
instance : Inhabited Sp:=⟨⟨0,0⟩⟩
instance : Inhabited Bx:=⟨⟨0,0⟩⟩
instance : Inhabited Mt:=⟨⟨0,0,0,0,0,0⟩⟩
def w64 (n : Int) : Prop:=(Lit.int .i64 n).wf = true
section
variable {H : Type} {enc : TypeId × Value → H} {w : World} {base : Nat} {spare : Nat → Bool} {held : Bool} {fuel : Nat} {cs : List Value} {x : DataW H × List MemPlace}
theorem open_i (h : DataW.trod enc Tryz.prog w base spare held fuel 3 cs = some x) : ∃ q : Int,cs = cI q∧w64 q:=trod_i (te rfl) h
theorem open_sp (h : DataW.trod enc Tryz.prog w base spare held fuel 24 cs = some x) : ∃ q : Sp,cs = cSp q∧(w64 q.lo∧w64 q.hi):=by
 obtain ⟨hl,hf⟩:=trod_st (te rfl) h
 obtain ⟨n0,y0,h0⟩:=hf 0 0 3 _ rfl (te rfl)
 obtain ⟨n1,y1,h1⟩:=hf 1 1 3 _ rfl (te rfl)
 match cs,hl with
 | [a,b],_ =>
  obtain ⟨lo,e0,w0⟩:=open_i h0
  obtain ⟨hi,e1,w1⟩:=open_i h1
  simp [cI] at e0 e1
  subst e0 e1
  exact ⟨⟨lo,hi⟩,rfl,w0,w1⟩
theorem open_bx (h : DataW.trod enc Tryz.prog w base spare held fuel 47 cs = some x) : ∃ q : Bx,cs = cBx q∧(w64 q.id∧w64 q.made):=by
 obtain ⟨hl,hf⟩:=trod_st (te rfl) h
 obtain ⟨n0,y0,h0⟩:=hf 0 0 3 _ rfl (te rfl)
 obtain ⟨n1,y1,h1⟩:=hf 1 1 3 _ rfl (te rfl)
 match cs,hl with
 | [a,b],_ =>
  obtain ⟨lo,e0,w0⟩:=open_i h0
  obtain ⟨hi,e1,w1⟩:=open_i h1
  simp [cI] at e0 e1
  subst e0 e1
  exact ⟨⟨lo,hi⟩,rfl,w0,w1⟩
theorem open_mt (h : DataW.trod enc Tryz.prog w base spare held fuel 44 cs = some x) : ∃ q : Mt,cs = cMt q∧(w64 q.number∧w64 q.month∧w64 q.a∧w64 q.b∧w64 q.lo∧w64 q.hi):=by
 obtain ⟨hl,hf⟩:=trod_st (te rfl) h
 obtain ⟨n0,y0,h0⟩:=hf 0 0 3 _ rfl (te rfl)
 obtain ⟨n1,y1,h1⟩:=hf 1 1 3 _ rfl (te rfl)
 obtain ⟨n2,y2,h2⟩:=hf 2 2 3 _ rfl (te rfl)
 obtain ⟨n3,y3,h3⟩:=hf 3 3 3 _ rfl (te rfl)
 obtain ⟨n4,y4,h4⟩:=hf 4 4 24 _ rfl (te rfl)
 match cs,hl with
 | [a,b,c,d,e,f],_ =>
  obtain ⟨q0,e0,w0⟩:=open_i h0
  obtain ⟨q1,e1,w1⟩:=open_i h1
  obtain ⟨q2,e2,w2⟩:=open_i h2
  obtain ⟨q3,e3,w3⟩:=open_i h3
  obtain ⟨q4,e4,w4⟩:=open_sp h4
  simp [cI,cSp] at e0 e1 e2 e3 e4
  obtain ⟨e4,e5⟩:=e4
  subst e0 e1 e2 e3 e4 e5
  exact ⟨⟨q0,q1,q2,q3,q4.lo,q4.hi⟩,rfl,w0,w1,w2,w3,w4.1,w4.2⟩
end
structure InRm (w : World) (R : Rm) (p : Pl) : Prop where
 ages : InSl w p.a1 cSp 2 R.ages
 boxes : InSl w p.a2 cBx 2 R.boxes
 mats : InSl w p.a3 cMt 6 R.mats
 mo : w64 R.months
 st : w64 R.step
 k1 : R.ages.length ≤ p.c1
 k2 : R.boxes.length ≤ p.c2
 k3 : R.mats.length ≤ p.c3
def rowsRm (R : Rm) (p : Pl) : List Row:=rowsOf p.a1 cSp R.ages++(rowsOf p.a2 cBx R.boxes++rowsOf p.a3 cMt R.mats)
theorem InRm.rm {w : World} {R : Rm} {p : Pl} {H : List Row} (h : InRm w R p) (hs : ∀ r ∈ rowsRm R p,r ∈ H) : RmOk H R p where
 ages:=h.ages.sl fun r hr=>hs r (List.mem_append_left _ hr)
 boxes:=h.boxes.sl fun r hr=>hs r (List.mem_append_right _ (List.mem_append_left _ hr))
 mats:=h.mats.sl fun r hr=>hs r (List.mem_append_right _ (List.mem_append_right _ hr))
 l1:=by have:=h.ages.2.1;unfold maxLen at this;omega
 l2:=by have:=h.boxes.2.1;unfold maxLen at this;omega
 l3:=by have:=h.mats.2.1;unfold maxLen at this;omega
theorem InRm.ok {w : World} {R : Rm} {p : Pl} {B : Nat} (h : InRm w R p) : ∀ r ∈ rowsRm R p,r.own = none∧r.ok B w:=by
 intro r hr
 rcases List.mem_append.1 hr with hr | hr
 ·exact h.ages.ok r hr
 ·rcases List.mem_append.1 hr with hr | hr
  ·exact h.boxes.ok r hr
  ·exact h.mats.ok r hr
section
variable {H : Type} {enc : TypeId × Value → H} {w : World} {base : Nat} {spare : Nat → Bool} {held : Bool} {v : Value} {d : DataW H} {p : List MemPlace} {r : Reach} {b0 : Nat}
theorem open_room (hv : Value.okWide Tryz.prog w r b0 32 v) (h : DataW.Trod enc Tryz.prog w base spare held 32 v d p) : ∃ R pl,v = .agg (cRm R pl).toArray∧InRm w R pl:=by
 obtain ⟨fa,hu,_⟩:=ti_struct (te (T:=32) rfl)
 obtain ⟨⟨cs⟩,rfl,_⟩:=okWide_struct hu hv
 obtain ⟨fuel,hf⟩:=h
 obtain ⟨hl,hf⟩:=trod_st (te rfl) hf
 obtain ⟨n0,y0,h0⟩:=hf 0 0 3 _ rfl (te rfl)
 obtain ⟨n1,y1,h1⟩:=hf 1 1 3 _ rfl (te rfl)
 obtain ⟨n2,y2,h2⟩:=hf 2 2 28 _ rfl (te rfl)
 obtain ⟨n3,y3,h3⟩:=hf 3 3 29 _ rfl (te rfl)
 obtain ⟨n4,y4,h4⟩:=hf 4 4 30 _ rfl (te rfl)
 match cs,hl with
 | [a,b,c,d,e],_ =>
  obtain ⟨q0,e0,w0⟩:=open_i h0
  obtain ⟨q1,e1,w1⟩:=open_i h1
  simp [cI,Value.cells] at e0 e1
  obtain ⟨l2,a2,c2,e2,i2,_,k2⟩:=open_sl (te rfl) (te rfl) rfl (by decide) (fun _ _ _=>open_sp) (fun _=>rfl) h2
  obtain ⟨l3,a3,c3,e3,i3,_,k3⟩:=open_sl (te rfl) (te rfl) rfl (by decide) (fun _ _ _=>open_bx) (fun _=>rfl) h3
  obtain ⟨l4,a4,c4,e4,i4,_,k4⟩:=open_sl (te rfl) (te rfl) rfl (by decide) (fun _ _ _=>open_mt) (fun _=>rfl) h4
  subst e0 e1 e2 e3 e4
  exact ⟨⟨q0,q1,l2,l3,l4⟩,⟨a2,c2,a3,c3,a4,c4⟩,rfl,i2,i3,i4,w0,w1,k2,k3,k4⟩
end
end Go.Proofs.YtmfppdpkalelhaaGreat
end
section
set_option linter.unusedVariables false
namespace Go.Proofs.YtmfppdpkalelhaaGreat
open Go Go.Fw Go.ChangeShapes Go.WideShapes Go.ChangeAt Go.RowKit
set_option linter.unusedVariables false
set_option maxRecDepth 100000
theorem ownK : ownKnob Tryz.prog.godebug = none:=by kernel_rfl
theorem laidO : laidOutB Tryz.prog = true:=by kernel_rfl
def u8 (n : Int) : Prop:=0 ≤ n∧n ≤ 255
section
variable {H : Type} {enc : TypeId × Value → H} {w : World} {base : Nat} {spare : Nat → Bool} {held : Bool} {v : Value} {d : DataW H} {p : List MemPlace} {r : Reach} {b0 : Nat}
theorem u8_wf {n : Int} (h : (Lit.int .u8 n).wf = true) : u8 n:=by
 simp [Lit.wf,IntKind.min,IntKind.max,IntKind.signed,IntKind.bits] at h
 exact ⟨by omega,by omega⟩
theorem open_u8 (hv : Value.okWide Tryz.prog w r b0 5 v) (h : DataW.Trod enc Tryz.prog w base spare held 5 v d p) : ∃ n,v = .int .u8 n∧u8 n:=by
 obtain ⟨n,h1,_,_,h2⟩:=Go.ChangeShapes.open_int Tryz.underlying5 hv h
 exact ⟨n,h1,u8_wf h2⟩
end
end Go.Proofs.YtmfppdpkalelhaaGreat
end
