/- BoxExact: for every room and numbers the law returns true (a match that tells two boxes to differ by just so much leaves a truth if it is within what Differ tells, and none otherwise; the examples are as told), and each argument reads afterwards as before. No condition. -/
import Derived.Test.YtmfppdpkalelhaaGreatW08
section
set_option linter.unusedVariables false
set_option linter.unusedSimpArgs false
namespace Go.Proofs.YtmfppdpkalelhaaGreat
open Go Go.Fw
set_option maxRecDepth 10000
def tsKdr : List TOp:=[⟨some 85,[],[],[]⟩,⟨some 86,[0],[0],[]⟩,⟨some 87,[],[],[]⟩,⟨some 88,[2],[2],[]⟩,⟨some 89,[],[],[]⟩,⟨some 90,[4],[4],[]⟩,⟨some 91,[],[],[]⟩,⟨some 92,[6],[6],[]⟩,⟨some 93,[4,5,6,7],[5,7],[]⟩,⟨some 94,[4,5,6,7,8],[8],[]⟩,⟨some 95,[2,3,4,5,6,7,8,9],[3,9],[]⟩,⟨some 96,[0,1,2,3,4,5,6,7,8,9,10],[1,10],[]⟩,⟨some 18,[0,1,2,3,4,5,6,7,8,9,10,11],[11],[]⟩]
def valKdr (b5 b16 : Nat) (lo hi w a b m : Int) (k : Nat) (env : Env) : Value :=
 match k with
 | 0 => .pointer (some ⟨b16,0,none⟩)
 | 1 => .int .i64 lo
 | 2 => .int .u8 w
 | 3 => .int .i64 w
 | 4 => .pointer (some ⟨b16,1,none⟩)
 | 5 => .int .i64 hi
 | 6 => .pointer (some ⟨b16,0,none⟩)
 | 7 => .int .i64 lo
 | 8 => .int .i64 (hi - lo)
 | 9 => .int .i64 ((hi - lo) + 1)
 | 10 => .int .i64 (w % ((hi - lo) + 1))
 | 11 => .int .i64 (lo + (w % ((hi - lo) + 1)))
 | 12 => .int .i64 (lo + (w % ((hi - lo) + 1)))
 | _=>undef
def rowsKdr (b5 b16 : Nat) (lo hi w a b m : Int) (k : Nat) (env : Env) : List Row :=
 match k with
 | _=>[]
theorem locKdr (b5 b16 : Nat) (lo hi w a b m : Int) : ∀ k env i q9,i ≠ k → (tAt tsKdr k).sup.contains i = false → valKdr b5 b16 lo hi w a b m k (upd env i q9)=valKdr b5 b16 lo hi w a b m k env∧rowsKdr b5 b16 lo hi w a b m k (upd env i q9)=rowsKdr b5 b16 lo hi w a b m k env:=by
 intro k env i q hk hs
 have hu : ∀ j,j ≠ i → upd env i q j = env j:=fun j hj=>by unfold upd;rw [if_neg hj]
 match k,hk,hs with
 | 0,_,_=>exact ⟨rfl,rfl⟩
 | 1,_,_=>exact ⟨rfl,rfl⟩
 | 2,_,_=>exact ⟨rfl,rfl⟩
 | 3,_,_=>exact ⟨rfl,rfl⟩
 | 4,_,_=>exact ⟨rfl,rfl⟩
 | 5,_,_=>exact ⟨rfl,rfl⟩
 | 6,_,_=>exact ⟨rfl,rfl⟩
 | 7,_,_=>exact ⟨rfl,rfl⟩
 | 8,_,_=>exact ⟨rfl,rfl⟩
 | 9,_,_=>exact ⟨rfl,rfl⟩
 | 10,_,_=>exact ⟨rfl,rfl⟩
 | 11,_,_=>exact ⟨rfl,rfl⟩
 | 12,_,_=>exact ⟨rfl,rfl⟩
 | _ + 13,_,_=>exact ⟨rfl,rfl⟩
set_option maxHeartbeats 8000000 in
theorem boxExact_spec (R : Rm) (p : Pl) (mo i j w : Int) (h1 : 0 ≤ mo∧mo ≤ 255) (h2 : 0 ≤ i∧i ≤ 255) (h3 : 0 ≤ j∧j ≤ 255) (h4 : 0 ≤ w∧w ≤ 255) (H : List Row) (hR : RmOk H R p) :
  Fc Tryz.prog 4 [.agg (cRm R p).toArray,.int .u8 mo,.int .u8 i,.int .u8 j,.int .u8 w] H (fun v _=>v = .bool true):=by
 by_cases hrd : Rdy R
 ·have hm0:=mod_bd hrd.ok h1.1
  have hlm : R.mats.length ≤ 8:=hrd.ok.1.2.2.2.2.2.2
  have hlb : R.boxes.length ≤ 1000000:=by have:=hrd.ok.ok.b4;omega
  by_cases hl8 : R.mats.length = 8
  ·have hl8' : ((R.mats.length : Nat) : Int)=8:=by omega
   refine Fc.mk (callable Tryz.call4) Tryz.func4 rfl Tryz.ntmps4 rfl ?_;dsimp only [fr]
   repeat' (first | (refine uP rfl ?_;(first | ((first | refine uN rfl ?_ | (refine Xo.g rfl rfl ?_;with_reducible refine Xw.ff ?_));(first | (refine uC (uT rfl Args.nil) rfl rfl (alive_spec _) ?_;rintro _ _ ⟨rfl,rfl⟩)|(refine uE (uL rfl rfl (uW (te rfl) rfl (qH _) rfl)) rfl rfl ?_)|(refine uC (uT rfl (Args.cons rfl Args.nil)) rfl rfl (ready_yes R p _ (hR.sub (fun _ h=>by repeat (first | exact h | apply qT))) hrd) ?_;rintro _ _ ⟨rfl,rfl⟩)|(refine uE (EvF.lenSlice rfl rfl (te rfl)) rfl rfl ?_)|(refine uE (uQ (b:=true) rfl rfl rfl (congrArg some (decide_eq_true hl8'))) rfl rfl ?_)|(refine uE (uM rfl rfl) rfl rfl ?_)|(refine uE (uA rfl rfl) rfl rfl ?_)|(refine uE (EvF.pickT rfl rfl rfl) rfl rfl ?_)|(refine uE (EvF.pickF rfl rfl rfl) rfl rfl ?_)|(refine uE (EvF.not rfl rfl) rfl rfl ?_)|(refine uE (uF rfl rfl (te rfl) rfl (te rfl) (by decide)) rfl rfl ?_)|(refine uE (uL rfl rfl (uO (te rfl) rfl (qH _) rfl)) rfl rfl ?_)|(refine Xg.st (StF.boxAgg rfl rfl) rfl rfl ?_;rintro _ _ ⟨bx,rfl,rfl⟩)))|(refine Xo.g rfl rfl ?_;(first | (with_reducible refine Xw.tf rfl rfl ?_)|(with_reducible refine Xw.caseB (fun h=>?_) (fun h=>?_) <;> simp only [h,decide_true,decide_false,Bool.not_true,Bool.not_false,and_self,and_true,true_and,and_false,false_and])))))|(refine uD rfl ?_;refine hK _ _ ?_;clear hK K) | refine uS rfl ?_ | refine uR rfl (fun K hK=>?_) | refine X.ret rfl ?_ | (refine X.ite rfl rfl (fun hc=>?_);(first | (with_reducible refine Xb.t hc ?_)) <;> clear hc))
   all_goals try (exfalso;contradiction)
   exact ret_one (by simp) Tryz.results4 rfl (H' := _) (qR _) rfl
  ·have hl8' : ¬ ((R.mats.length : Nat) : Int)=8:=by omega
   refine Fc.mk (callable Tryz.call4) Tryz.func4 rfl Tryz.ntmps4 rfl ?_;dsimp only [fr]
   repeat' (first | (refine uP rfl ?_;(first | ((first | refine uN rfl ?_ | (refine Xo.g rfl rfl ?_;with_reducible refine Xw.ff ?_));(first | (refine uC (uT rfl Args.nil) rfl rfl (alive_spec _) ?_;rintro _ _ ⟨rfl,rfl⟩)|(refine uE (uL rfl rfl (uW (te rfl) rfl (qH _) rfl)) rfl rfl ?_)|(refine uC (uT rfl (Args.cons rfl Args.nil)) rfl rfl (ready_yes R p _ (hR.sub (fun _ h=>by repeat (first | exact h | apply qT))) hrd) ?_;rintro _ _ ⟨rfl,rfl⟩)|(refine uE (EvF.lenSlice rfl rfl (te rfl)) rfl rfl ?_)|(refine uE (uQ (b:=false) rfl rfl rfl (congrArg some (decide_eq_false hl8'))) rfl rfl ?_)|(refine uE (uX rfl rfl rfl) rfl rfl ?_)|(refine uC (uT rfl (Args.cons rfl (Args.cons rfl (Args.cons rfl (Args.cons rfl Args.nil))))) rfl rfl (two_spec R p mo i j _ (hR.sub (fun _ h=>by repeat (first | exact h | apply qT))) hrd.ok h1 h2 h3) ?_;rintro _ _ ⟨rfl,⟨hl2,rfl⟩ | ⟨a,b,ha,hb,hab,hl2,rfl⟩⟩)|(refine uE (uM rfl rfl) rfl rfl ?_)|(refine uE (uA rfl rfl) rfl rfl ?_)|(refine uE (EvF.pickT rfl rfl rfl) rfl rfl ?_)|(refine uE (EvF.pickF rfl rfl rfl) rfl rfl ?_)|(refine uE (EvF.not rfl rfl) rfl rfl ?_)|(refine uE (uF rfl rfl (te rfl) rfl (te rfl) (by decide)) rfl rfl ?_)|(refine uE (uL rfl rfl (uO (te rfl) rfl (qH _) rfl)) rfl rfl ?_)|(refine Xg.st (StF.boxAgg rfl rfl) rfl rfl ?_;rintro _ _ ⟨bx,rfl,rfl⟩)))|(refine Xo.g rfl rfl ?_;(first | (with_reducible refine Xw.tf rfl rfl ?_)|(with_reducible refine Xw.caseB (fun h=>?_) (fun h=>?_) <;> simp only [h,decide_true,decide_false,Bool.not_true,Bool.not_false,and_self,and_true,true_and,and_false,false_and])))))|(refine uD rfl ?_;refine hK _ _ ?_;clear hK K) | refine uS rfl ?_ | refine uR rfl (fun K hK=>?_) | refine X.skip rfl ?_ | refine X.ret rfl ?_ | (refine X.ite rfl rfl (fun hc=>?_);(first | (with_reducible refine Xb.t hc ?_)|(with_reducible refine Xb.caseB hc (fun h=>?_) (fun h=>?_))) <;> clear hc))
   all_goals try (exfalso;contradiction)
   ·repeat' (first | fail)
    all_goals try (exfalso;contradiction)
    exact ret_one (by simp) Tryz.results4 rfl (H' := _) (qR _) rfl
   ·generalize bx = b5
    obtain ⟨m,hmq⟩ : ∃ m,m = mo % R.months:=⟨_,rfl⟩
    rw [← hmq] at hm0 ha hb hl2 ⊢
    clear hmq
    obtain ⟨s,hs⟩ : ∃ s,s = rng R R.mats ⟨a,m⟩ ⟨b,m⟩:=⟨_,rfl⟩
    have hex:=rdy_ex hrd hm0 ha hb
    have hbd:=rdy_bd hrd hm0 ha hb
    have kd:=fun S hS=>kDiffer_spec R p a b m S hS hlb
    rw [rdy_dif hrd hm0 ha hb hab] at kd
    rw [← hs] at hex hbd kd
    clear hs
    have g1 : s.lo ≤ s.hi:=hbd.2.1
    have g2 : s.hi - s.lo ≤ 120:=by omega
    have hw0 : 0 ≤ w % 121 - 60 + 60∧w % 121 - 60 ≤ 60:=by omega
    repeat' (first | (refine uP rfl ?_;(first | ((first | refine uN rfl ?_);(first | (refine uE (uX rfl rfl rfl) rfl rfl ?_)|(refine uC (uT rfl (Args.cons rfl (Args.cons rfl (Args.cons rfl (Args.cons rfl Args.nil))))) rfl rfl (kd _ (hR.sub (fun _ h=>by repeat (first | exact h | apply qT)))) ?_;rintro _ _ ⟨rfl,rfl⟩)|(refine Xg.st (StF.alloc rfl Tryz.zeroValue24 rfl) rfl rfl ?_;rintro _ _ ⟨bx,rfl,rfl⟩)|(refine Xg.st0 (StF.storeAll (i:=0) (vs:=cSp s) rfl rfl rfl (te rfl) rfl rfl rfl rfl) rfl ?_;rintro _ _ ⟨rfl,rfl⟩;dsimp only [List.set])|(refine uE (uM rfl rfl) rfl rfl ?_)|(refine uE (uA rfl rfl) rfl rfl ?_)))))|(refine uD rfl ?_;refine hK _ _ ?_;clear hK K) | refine uS rfl ?_ | refine uR rfl (fun K hK=>?_))
    all_goals try (exfalso;contradiction)
    generalize bx = b16
    by_cases hwe : w % 2 = 0
    ·repeat' (first | (refine uP rfl ?_;(first | ((first | refine uN rfl ?_ | (refine Xo.g rfl rfl ?_;with_reducible refine Xw.tt ?_));(first | (refine uE (EvF.conv rfl rfl byte_und int_undI (by omega) (by omega)) rfl rfl ?_)|(refine uE (EvF.rem64 rfl rfl rfl (by omega) (by omega)) rfl rfl ?_)|(refine uE (EvF.remQ rfl rfl rfl (by omega) (by omega)) rfl rfl ?_)|(refine uE (EvF.sub64 rfl rfl rfl (by omega) (by omega)) rfl rfl ?_)|(refine uE (uL rfl rfl (uO (te rfl) rfl (by repeat (first | exact qH _ | apply qT)) rfl)) rfl rfl ?_)|(refine uE (uQ (b:=true) rfl rfl rfl (congrArg some (decide_eq_true hwe))) rfl rfl ?_)|(refine uE (uQ (b:=true) rfl rfl rfl (congrArg some (decide_eq_true (Eq.refl (0 : Int))))) rfl rfl ?_)|(refine uE (uQ (b:=true) rfl rfl rfl (congrArg some (decide_eq_true g1))) rfl rfl ?_)|(refine uE (uQ (b:=true) rfl rfl rfl (congrArg some (decide_eq_true g2))) rfl rfl ?_)|(refine uE (uM rfl rfl) rfl rfl ?_)|(refine uE (uA rfl rfl) rfl rfl ?_)|(refine uE (EvF.pickT rfl rfl rfl) rfl rfl ?_)|(refine uE (uF rfl rfl (te rfl) rfl (te rfl) (by decide)) rfl rfl ?_)))))|(refine uD rfl ?_;refine hK _ _ ?_;clear hK K) | refine uS rfl ?_ | refine uR rfl (fun K hK=>?_)|(refine X.ite rfl rfl (fun hc=>?_);(first | (with_reducible refine Xb.t hc ?_)) <;> clear hc))
     all_goals try (exfalso;contradiction)
     have q1 : 0 ≤ w % (s.hi - s.lo + 1):=Int.emod_nonneg w (by omega)
     have q2 : w % (s.hi - s.lo + 1)<s.hi - s.lo + 1:=Int.emod_lt_of_pos w (by omega)
     refine X.weak (F' := [(4,.int .u8 w),(5,.pointer (some ⟨b5,0,none⟩)),(11,.bool true),(12,.int .i64 a),(13,.int .i64 b),(14,.int .i64 m),(16,.pointer (some ⟨b16,0,none⟩)),(17,.int .i64 0)]) (H' := ⟨b16,0,cSp s,some 24,2⟩::⟨b5,0,cRm R p,some 32,5⟩::H) (by repeat (first | exact uU _ | refine uV rfl ?_)) (by repeat (first | exact qR _ | apply qK | apply qC)) ?_
     refine X.regionOb tsKdr [4,5,11,12,13,14,16,17] [(4,.int .u8 w),(5,.pointer (some ⟨b5,0,none⟩)),(11,.bool true),(12,.int .i64 a),(13,.int .i64 b),(14,.int .i64 m),(16,.pointer (some ⟨b16,0,none⟩)),(17,.int .i64 0)] (valKdr b5 b16 s.lo s.hi w a b m) (rowsKdr b5 b16 s.lo s.hi w a b m) (fun _=>(0,0)) (⟨b16,0,cSp s,some 24,2⟩::⟨b5,0,cRm R p,some 32,5⟩::H) rfl mixed (by repeat (first | exact uU _ | refine uV rfl ?_)) rfl (by kernel_rfl) (locKdr b5 b16 s.lo s.hi w a b m) (qR _) ?_ ?_
     ·repeat' (first | exact AllF.done rfl | (refine AllF.step rfl ?_ ?_;·(first | fail | ((first | refine Ob.ng rfl ?_);(first | exact ObK.pure (fun env R hR=>by exact ⟨_,uM rfl rfl,rfl⟩) rfl (fun _=>rfl) | exact ObK.pure (fun env R hR=>by exact ⟨_,uA rfl rfl,rfl⟩) rfl (fun _=>rfl) | exact ObK.pure (fun env R hR=>by exact ⟨_,uF rfl rfl (te rfl) rfl (te rfl) (by decide),rfl⟩) rfl (fun _=>rfl) | exact ObK.pure (fun env R hR=>by exact ⟨_,uL rfl rfl (uO (te rfl) rfl (hR _ (qH _)) rfl),rfl⟩) rfl (fun _=>rfl)|(exact ObK.pure (fun env S hS=>⟨_,EvF.conv rfl rfl byte_und int_undI (by omega) (by omega),rfl⟩) rfl (fun _=>rfl))|(exact ObK.pure (fun env S hS=>⟨_,EvF.rem64 rfl rfl rfl (by omega) (by omega),rfl⟩) rfl (fun _=>rfl))|(exact ObK.pure (fun env S hS=>⟨_,EvF.add64 rfl rfl rfl (by omega) (by omega),rfl⟩) rfl (fun _=>rfl))|(exact ObK.pure (fun env S hS=>⟨_,EvF.sub64 rfl rfl rfl (by omega) (by omega),rfl⟩) rfl (fun _=>rfl)))))))
     ·intro env t ha2 hv;refine ⟨_,ha2.cons (hv 12 18 (Nat.le_of_ble_eq_true rfl) rfl),?_⟩;clear hv ha2
      show X _ _ _ [(18,.int .i64 (s.lo + w % (s.hi - s.lo + 1))),(4,.int .u8 w),(5,.pointer (some ⟨b5,0,none⟩)),(11,.bool true),(12,.int .i64 a),(13,.int .i64 b),(14,.int .i64 m),(16,.pointer (some ⟨b16,0,none⟩)),(17,.int .i64 0)] (⟨b16,0,cSp s,some 24,2⟩::⟨b5,0,cRm R p,some 32,5⟩::H) _
      exact exact_rest R p a b m (s.lo + w % (s.hi - s.lo + 1)) s b5 b16 H hR hrd (by omega) hm0 ha hb hab hex (by omega) (by omega) _ _ (by repeat (first | exact uU _ | refine uV rfl ?_)) (by repeat (first | exact qR _ | apply qK | apply qC))
    ·repeat' (first | (refine exact_rest R p a b m (w % 121 - 60) s b5 b16 H hR hrd (by omega) hm0 ha hb hab hex (by omega) (by omega) _ _ ?_ ?_;exact (by repeat (first | exact uU _ | refine uV rfl ?_));exact (by repeat (first | exact qR _ | apply qK | apply qC)))|(refine uP rfl ?_;(first | ((first | refine uN rfl ?_ | (refine Xo.g rfl rfl ?_;with_reducible refine Xw.tt ?_));(first | (refine uE (EvF.conv rfl rfl byte_und int_undI (by omega) (by omega)) rfl rfl ?_)|(refine uE (EvF.rem64 rfl rfl rfl (by omega) (by omega)) rfl rfl ?_)|(refine uE (EvF.remQ rfl rfl rfl (by omega) (by omega)) rfl rfl ?_)|(refine uE (EvF.sub64 rfl rfl rfl (by omega) (by omega)) rfl rfl ?_)|(refine uE (uQ (b:=false) rfl rfl rfl (congrArg some (decide_eq_false hwe))) rfl rfl ?_)|(refine uE (uQ (b:=true) rfl rfl rfl (congrArg some (decide_eq_true (Eq.refl (0 : Int))))) rfl rfl ?_)|(refine uE (uM rfl rfl) rfl rfl ?_)|(refine uE (uA rfl rfl) rfl rfl ?_)|(refine uE (EvF.pickT rfl rfl rfl) rfl rfl ?_)|(refine uE (EvF.pickF rfl rfl rfl) rfl rfl ?_)))|(refine Xo.g rfl rfl ?_;(first | (with_reducible refine Xw.ft rfl rfl ?_)))))|(refine uD rfl ?_;refine hK _ _ ?_;clear hK K) | refine uS rfl ?_ | refine uR rfl (fun K hK=>?_) | refine X.skip rfl ?_ | (refine X.ite rfl rfl (fun hc=>?_);(first | (with_reducible refine Xb.f hc ?_)) <;> clear hc))
     all_goals try (exfalso;contradiction)
 ·refine Fc.mk (callable Tryz.call4) Tryz.func4 rfl Tryz.ntmps4 rfl ?_;dsimp only [fr]
  repeat' (first | (refine uP rfl ?_;(first | ((first | refine uN rfl ?_ | (refine Xo.g rfl rfl ?_;with_reducible refine Xw.ff ?_));(first | (refine uC (uT rfl Args.nil) rfl rfl (alive_spec _) ?_;rintro _ _ ⟨rfl,rfl⟩)|(refine uE (uL rfl rfl (uW (te rfl) rfl (qH _) rfl)) rfl rfl ?_)|(refine uC (uT rfl (Args.cons rfl Args.nil)) rfl rfl (ready_no R p _ (hR.sub (fun _ h=>by repeat (first | exact h | apply qT))) hrd) ?_;rintro _ _ ⟨rfl,rfl⟩)|(refine uE (uM rfl rfl) rfl rfl ?_)|(refine uE (uA rfl rfl) rfl rfl ?_)|(refine uE (EvF.pickT rfl rfl rfl) rfl rfl ?_)|(refine uE (EvF.pickF rfl rfl rfl) rfl rfl ?_)|(refine uE (uQ rfl rfl rfl rfl) rfl rfl ?_)|(refine uE (EvF.not rfl rfl) rfl rfl ?_)|(refine uE (uF rfl rfl (te rfl) rfl (te rfl) (by decide)) rfl rfl ?_)|(refine uE (EvF.lenSlice rfl rfl (te rfl)) rfl rfl ?_)|(refine uE (uL rfl rfl (uO (te rfl) rfl (qH _) rfl)) rfl rfl ?_)|(refine Xg.st (StF.boxAgg rfl rfl) rfl rfl ?_;rintro _ _ ⟨bx,rfl,rfl⟩)))|(refine Xo.g rfl rfl ?_;(first | (with_reducible refine Xw.tf rfl rfl ?_)|(with_reducible refine Xw.case (fun h=>?_) (fun h=>?_) <;> simp only [h,decide_true,decide_false,Bool.not_true,Bool.not_false,and_self,and_true,true_and,and_false,false_and])|(with_reducible refine Xw.caseB (fun h=>?_) (fun h=>?_) <;> simp only [h,decide_true,decide_false,Bool.not_true,Bool.not_false,and_self,and_true,true_and,and_false,false_and])))))|(refine uD rfl ?_;refine hK _ _ ?_;clear hK K) | refine uS rfl ?_ | refine uR rfl (fun K hK=>?_) | refine X.skip rfl ?_ | refine X.ret rfl ?_ | (refine X.ite rfl rfl (fun hc=>?_);(first | (with_reducible refine Xb.t hc ?_)|(with_reducible refine Xb.caseB hc (fun h=>?_) (fun h=>?_))) <;> clear hc))
  all_goals try (exfalso;contradiction)
  exact ret_one (by simp) Tryz.results4 rfl (H' := _) (qR _) rfl
end Go.Proofs.YtmfppdpkalelhaaGreat
end
section
set_option linter.unusedVariables false
namespace Go.Proofs.YtmfppdpkalelhaaGreat
open Go Go.Fw Go.ChangeShapes Go.WideShapes Go.ChangeAt Go.RowKit
set_option linter.unusedVariables false
set_option maxRecDepth 100000
theorem boxExact_run (R : Rm) (pR : Pl) (mo : Int) (i : Int) (j : Int) (z : Int) (w : World) (hmo : u8 mo) (hi : u8 i) (hj : u8 j) (hz : u8 z) (hR : InRm w R pR) :
  Calls Tryz.prog 4 #[.agg (cRm R pR).toArray,.int .u8 mo,.int .u8 i,.int .u8 j,.int .u8 z] w fun e w' => e = .returned (.bool true)∧Below w.heap.size w w' :=
 Fc.calls (H:=rowsRm R pR) (boxExact_spec R pR mo i j z hmo hi hj hz _ (hR.rm (fun _ h=>h))) (fun r hr=>by
  exact hR.ok r hr
 )
theorem boxExact_lifted (os : Os) (started : os.Started) (H : Type) (enc : TypeId × Value → H) :
  ReturnsInHanded {} Tryz.checked os 4 .any (Rows.boxExactSpec.pre6 enc Tryz.prog Tryz.f4 Rows.boxExactRow.domain false) (Rows.boxExactSpec.post enc Tryz.prog Tryz.f4 false true false false):=by
 refine returnsInHanded_of_change (C:=Tryz.checked) ownK started (by kernel_rfl) Tryz.func4
  (ChangeSpec.witness6 (enc:=enc) (C:=Tryz.checked) false ⟨#[], #[.agg (cRm ⟨0,0,[],[],[]⟩ ⟨none,0,none,0,none,0⟩).toArray,.int .u8 0,.int .u8 0,.int .u8 0,.int .u8 0],[]⟩ 8 (by kernel_rfl) (by kernel_rfl) (by kernel_rfl) (by kernel_rfl)) ?_
 intro W base args ds gs before hval0 hW hcnd _
 have hval : ∀ (j : Nat) t v,Tryz.f4.params[j]? = some t → args[j]? = some v → Value.okWide Tryz.prog W .any base t v:=hval0
 have hW' := hW
 obtain ⟨p,q,hA0,hV,rfl,hfz,hnd⟩:=hW
 have hA : DataW.TrodAll enc Tryz.prog W 0 (fun _=>true) true Tryz.f4.params.toList args.toList ds p:=hA0
 rw [Tryz.params4] at hA hval
 obtain ⟨v0,vs0,d0,ds0,p0,q0,hargs,rfl,rfl,h0,r0⟩:=trodAll_cons hA
 obtain ⟨v1,vs1,d1,ds1,p1,q1,rfl,rfl,rfl,h1,r1⟩:=trodAll_cons r0
 obtain ⟨v2,vs2,d2,ds2,p2,q2,rfl,rfl,rfl,h2,r2⟩:=trodAll_cons r1
 obtain ⟨v3,vs3,d3,ds3,p3,q3,rfl,rfl,rfl,h3,r3⟩:=trodAll_cons r2
 obtain ⟨v4,vs4,d4,ds4,p4,q4,rfl,rfl,rfl,h4,r4⟩:=trodAll_cons r3
 obtain ⟨rfl,rfl,rfl⟩:=trodAll_nil r4
 obtain rfl : args = #[v0,v1,v2,v3,v4]:=by cases args;simp_all
 obtain ⟨rfl,rfl⟩:=trodVars_none hV
 have lt : ∀ {t v d ps},DataW.Trod enc Tryz.prog W 0 (fun _=>true) true t v d ps → ∀ x ∈ ps,x.block < W.heap.size:=fun h=>by obtain ⟨m,hm⟩:=h;exact DataW.trod_lt m _ _ _ hm
 obtain ⟨R,pR,rfl,hR⟩:=open_room (hval 0 _ v0 rfl rfl) h0
 obtain ⟨mo,rfl,hmo⟩:=open_u8 (hval 1 _ v1 rfl rfl) h1
 obtain ⟨i,rfl,hi⟩:=open_u8 (hval 2 _ v2 rfl rfl) h2
 obtain ⟨j,rfl,hj⟩:=open_u8 (hval 3 _ v3 rfl rfl) h3
 obtain ⟨z,rfl,hz⟩:=open_u8 (hval 4 _ v4 rfl rfl) h4
 clear hA0 hval0
 refine (boxExact_run R pR mo i j z W hmo hi hj hz hR).mono fun e W' ⟨he,bel⟩=>?_
 subst he
 exact ⟨_,rfl,_,_,_,[],_,[],hW',trodAll_mk1 (shut_bool Tryz.underlying4 _),(trodAll_cons_mk (Below.trod laidO (by kernel_rfl) (of_decide_eq_true (by kernel_rfl)) h0 bel (lt h0)) (trodAll_cons_mk (Below.trod laidO (by kernel_rfl) (of_decide_eq_true (by kernel_rfl)) h1 bel (lt h1)) (trodAll_cons_mk (Below.trod laidO (by kernel_rfl) (of_decide_eq_true (by kernel_rfl)) h2 bel (lt h2)) (trodAll_cons_mk (Below.trod laidO (by kernel_rfl) (of_decide_eq_true (by kernel_rfl)) h3 bel (lt h3)) (trodAll_cons_mk (Below.trod laidO (by kernel_rfl) (of_decide_eq_true (by kernel_rfl)) h4 bel (lt h4)) trodAll_mk0))))),rfl,bel.frame _,fun h=>by cases h⟩
theorem boxExact_over : Rows.boxExactRow.holds Tryz.pinned (OpenSpec.ofChange Rows.boxExactSpec) :=
 OpenClaim.holds_of_wide 4 Tryz.f4 rfl rfl rfl rfl rfl rfl rfl ⟨rfl,rfl,rfl,rfl,rfl⟩ rfl rfl rfl rfl rfl (by kernel_rfl) Tryz.func4 (by kernel_rfl)
  (of_decide_eq_true (by kernel_rfl)) (by unfold Func.isWrapper;first | (rw [if_pos (by decide +kernel)];kernel_rfl)|(rw [if_neg (by decide +kernel)];exact ⟨rfl,rfl⟩))
  (fun os started H enc _=>boxExact_lifted os started H enc)
theorem boxExact_proved : Rows.BoxExactSaid:=boxExact_over
#print axioms boxExact_proved
end Go.Proofs.YtmfppdpkalelhaaGreat
end
