/- BoxMonths: for every room, a box by a number and points the law returns true (bounds never fall from month to month and grow by at most a step, since when it perhaps and surely has yellowed by so much agrees with what is known in each month; the examples are as told), and each argument reads afterwards as before. No condition. -/
import Derived.Test.YtmfppdpkalelhaaW58
import Derived.OpenShut
import Derived.Test.YtmfppdpkalelhaaRows
import Derived.WalkKit
import Derived.ChangeOld
import Derived.ShutString
section
set_option linter.unusedVariables false
set_option linter.unusedSimpArgs false
namespace Go.Proofs.Ytmfppdpkalelhaa
open Go Go.Fw
set_option maxRecDepth 10000
def tsKmo : List TOp:=[⟨some 36,[],[],[]⟩,⟨some 37,[0],[0],[]⟩,⟨some 38,[],[],[]⟩,⟨some 39,[2],[2],[]⟩,⟨some 40,[],[],[]⟩,⟨some 41,[4],[4],[]⟩,⟨some 42,[4,5],[5],[]⟩,⟨some 43,[2,3,4,5,6],[3,6],[]⟩,⟨some 44,[0,1,2,3,4,5,6,7],[1,7],[]⟩,⟨some 45,[0,1,2,3,4,5,6,7,8],[8],[]⟩,⟨some 46,[],[],[]⟩,⟨some 47,[10],[10],[]⟩,⟨some 48,[10,11],[11],[]⟩,⟨some 8,[],[],[]⟩,⟨none,[0,1,2,3,4,5,6,7,8,9,13],[13,9],[13]⟩,⟨some 9,[0,1,2,3,4,5,6,7,8,9,10,11,12,13,14],[12],[]⟩]
def valKmo (b3 bb off nn c2 kk : Nat) (z y : Int) (e : Bx) (k : Nat) (env : Env) : Value :=
 match k with
 | 0 => .pointer (some ⟨b3,3,none⟩)
 | 1 => .slice (some ⟨bb,off,none⟩) nn c2
 | 2 => .int .u8 z
 | 3 => .int .i64 z
 | 4 => .pointer (some ⟨b3,3,none⟩)
 | 5 => .slice (some ⟨bb,off,none⟩) nn c2
 | 6 => .int .i64 nn
 | 7 => .int .i64 (kk : Nat)
 | 8 => .pointer (some ⟨bb,off + kk * 2,none⟩)
 | 9 => .agg (cBx e).toArray
 | 10 => .int .u8 y
 | 11 => .int .i64 y
 | 12 => .int .i64 (y % 62)
 | 13 => .pointer (some ⟨(env 13).1,0,none⟩)
 | 14=>undef
 | 15 => .int .i64 (y % 62)
 | _=>undef
def rowsKmo (b3 bb off nn c2 kk : Nat) (z y : Int) (e : Bx) (k : Nat) (env : Env) : List Row :=
 match k with
 | 13=>[⟨(env 13).1,0,cBx ⟨0,0⟩,some 81,2⟩]
 | 14=>[⟨(env 13).1,0,cBx e,some 81,2⟩]
 | _=>[]
theorem locKmo (b3 bb off nn c2 kk : Nat) (z y : Int) (e : Bx) : ∀ k env i q9,i ≠ k → (tAt tsKmo k).sup.contains i = false → valKmo b3 bb off nn c2 kk z y e k (upd env i q9)=valKmo b3 bb off nn c2 kk z y e k env∧rowsKmo b3 bb off nn c2 kk z y e k (upd env i q9)=rowsKmo b3 bb off nn c2 kk z y e k env:=by
 intro k env i q hk hs
 have hu : ∀ j,j ≠ i → upd env i q j = env j:=fun j hj=>by unfold upd;rw [if_neg hj]
 match k,hk,hs with
 | 0,_,_=>exact ⟨rfl,rfl⟩
 | 1,_,_=>exact ⟨rfl,rfl⟩
 | 2,_,_=>exact ⟨rfl,rfl⟩
 | 3,_,_=>exact ⟨rfl,rfl⟩
 | 4,_,_=>exact ⟨rfl,rfl⟩
 | 5,_,_=>exact ⟨rfl,rfl⟩
 | 6,_,_=>exact ⟨rfl,rfl⟩
 | 7,_,_=>exact ⟨rfl,rfl⟩
 | 8,_,_=>exact ⟨rfl,rfl⟩
 | 9,_,_=>exact ⟨rfl,rfl⟩
 | 10,_,_=>exact ⟨rfl,rfl⟩
 | 11,_,_=>exact ⟨rfl,rfl⟩
 | 12,_,_=>exact ⟨rfl,rfl⟩
 | 13,hk,hs=>exact ⟨by simp only [valKmo,hu 13 (fun e=>hk e.symm)],by simp only [rowsKmo,hu 13 (fun e=>hk e.symm)]⟩
 | 14,hk,hs=>exact ⟨by simp only [valKmo,hu 13 (by rintro rfl;cases hs)],by simp only [rowsKmo,hu 13 (by rintro rfl;cases hs)]⟩
 | 15,_,_=>exact ⟨rfl,rfl⟩
 | _ + 16,_,_=>exact ⟨rfl,rfl⟩
/-- what the law asks of a box in a month -/
theorem mon_facts {R : Rm} (h : Rdy R) {x : Bx} (hx : x ∈ R.boxes) (n : Int) : ∃ a e b f,sinF R x.id (sinS false n)=(a,e)∧sinF R x.id (sinS true n)=(b,f)∧((e = 0∧f = 0∧a ≤ b ∧ ∀ m,there R x m → (b ≤ m∧toldF (rng R R.mats ⟨x.id,m⟩ zp) n = 2)∨(¬ b ≤ m∧a ≤ m∧toldF (rng R R.mats ⟨x.id,m⟩ zp) n = 1)∨(¬ b ≤ m ∧ ¬ a ≤ m∧toldF (rng R R.mats ⟨x.id,m⟩ zp) n = 0))∨(e = 0∧f = 6 ∧ ∀ m,there R x m → (a ≤ m∧toldF (rng R R.mats ⟨x.id,m⟩ zp) n = 1)∨(¬ a ≤ m∧toldF (rng R R.mats ⟨x.id,m⟩ zp) n = 0))∨(e = 6∧f = 6 ∧ ∀ m,there R x m → toldF (rng R R.mats ⟨x.id,m⟩ zp) n = 0)):=by
 obtain ⟨a,e,h1,h2⟩:=sin_facts h hx false n
 obtain ⟨b,f,h3,h4⟩:=sin_facts h hx true n
 simp only [Bool.false_eq_true,if_false] at h2
 simp only [if_true] at h4
 have bd : ∀ m,there R x m → (rng R R.mats ⟨x.id,m⟩ zp).lo ≤ (rng R R.mats ⟨x.id,m⟩ zp).hi:=fun m hm=>(rdy_bdz h (rdy_bx h hm.1 hm.2.1 hm.2.2).2.1 (thI_of hm.1 hm.2.1)).2.1
 refine ⟨a,e,b,f,h1,h3,?_⟩
 unfold toldF
 rcases h2 with ⟨he,a1,a2,a3⟩ | ⟨he,_,a3⟩ <;> rcases h4 with ⟨hf,b1,b2,b3⟩ | ⟨hf,_,b3⟩
 ·have hb : there R x b:=⟨hx,b1,b2⟩
  refine .inl ⟨he,hf,?_,fun m hm=>?_⟩
  ·have:=(b3 b hb).2 (Int.le_refl _)
   have:=bd b hb
   exact (a3 b hb).1 (by omega)
  ·have q1:=a3 m hm
   have q2:=b3 m hm
   by_cases c : n ≤ (rng R R.mats ⟨x.id,m⟩ zp).lo
   ·rw [if_pos c];exact .inl ⟨q2.1 c,rfl⟩
   ·rw [if_neg c]
    by_cases d : n ≤ (rng R R.mats ⟨x.id,m⟩ zp).hi
    ·rw [if_pos d];exact .inr (.inl ⟨fun q=>c (q2.2 q),q1.1 d,rfl⟩)
    ·rw [if_neg d];exact .inr (.inr ⟨fun q=>c (q2.2 q),fun q=>d (q1.2 q),rfl⟩)
 ·refine .inr (.inl ⟨he,hf,fun m hm=>?_⟩)
  have q1:=a3 m hm
  have q2:=b3 m hm
  rw [if_neg q2]
  by_cases d : n ≤ (rng R R.mats ⟨x.id,m⟩ zp).hi
  ·rw [if_pos d];exact .inl ⟨q1.1 d,rfl⟩
  ·rw [if_neg d];exact .inr ⟨fun q=>d (q1.2 q),rfl⟩
 ·have hb : there R x b:=⟨hx,b1,b2⟩
  have:=(b3 b hb).2 (Int.le_refl _)
  have:=bd b hb
  exact absurd (show n ≤ _ by omega) (a3 b hb)
 ·refine .inr (.inr ⟨he,hf,fun m hm=>?_⟩)
  rw [if_neg (b3 m hm),if_neg (a3 m hm)]
theorem mon_last {R : Rm} (h : Rdy R) {x : Bx} {m : Int} (hm : there R x m) (hl : x.made < m) : ((rng R R.mats ⟨x.id,m - 1⟩ zp).lo ≤ (rng R R.mats ⟨x.id,m⟩ zp).lo∧(rng R R.mats ⟨x.id,m - 1⟩ zp).hi ≤ (rng R R.mats ⟨x.id,m⟩ zp).hi)∧((rng R R.mats ⟨x.id,m⟩ zp).lo ≤ (rng R R.mats ⟨x.id,m - 1⟩ zp).lo + R.step∧(rng R R.mats ⟨x.id,m⟩ zp).hi ≤ (rng R R.mats ⟨x.id,m - 1⟩ zp).hi + R.step)∧(0 ≤ (rng R R.mats ⟨x.id,m - 1⟩ zp).lo∧(rng R R.mats ⟨x.id,m - 1⟩ zp).hi ≤ 60∧(rng R R.mats ⟨x.id,m - 1⟩ zp).lo ≤ 60∧0 ≤ (rng R R.mats ⟨x.id,m - 1⟩ zp).hi):=by
 have h1 : there R x (m - 1):=⟨hm.1,by omega,by have:=hm.2.2;omega⟩
 have:=mon_step h h1 (by rw [Int.sub_add_cancel];exact hm)
 rw [Int.sub_add_cancel] at this
 have b1:=rdy_bdz h (rdy_bx h h1.1 h1.2.1 h1.2.2).2.1 (thI_of h1.1 h1.2.1)
 have b2:=mon_zero h h1
 exact ⟨this.1,this.2,by omega⟩
set_option maxHeartbeats 16000000 in
theorem boxMonths_spec (R : Rm) (p : Pl) (z y : Int) (h1 : 0 ≤ z∧z ≤ 255) (h2 : 0 ≤ y∧y ≤ 255) (H : List Row) (hR : RmOk H R p) :
  Fc Try.prog 9 [.agg (cRm R p).toArray,.int .u8 z,.int .u8 y] H (fun v _=>v = .bool true):=by
 by_cases hrd : Rdy R
 ·have hlb4:=hrd.ok.ok.b4
  have hlb : R.boxes.length ≤ 1000000:=by omega
  by_cases hz : R.boxes.length = 0
  ·have hz' : ((R.boxes.length : Nat) : Int)=0:=by omega
   refine Fc.mk (callable Try.call9) Try.func9 rfl Try.ntmps9 rfl ?_;dsimp only [fr]
   repeat' (first | (refine uP rfl ?_;(first | ((first | refine uN rfl ?_ | (refine Xo.g rfl rfl ?_;with_reducible refine Xw.ff ?_));(first | (refine uC (uT rfl Args.nil) rfl rfl (alive_spec _) ?_;rintro _ _ ⟨rfl,rfl⟩)|(refine uE (uL rfl rfl (uW (te rfl) rfl (qH _) rfl)) rfl rfl ?_)|(refine uC (uT rfl (Args.cons rfl Args.nil)) rfl rfl (ready_yes R p _ (hR.sub (fun _ h=>by repeat (first | exact h | apply qT))) hrd) ?_;rintro _ _ ⟨rfl,rfl⟩)|(refine uE (uQ (b:=true) rfl rfl rfl (congrArg some (decide_eq_true hz'))) rfl rfl ?_)|(refine uE (EvF.lenSlice rfl rfl (te rfl)) rfl rfl ?_)|(refine uE (uM rfl rfl) rfl rfl ?_)|(refine uE (uA rfl rfl) rfl rfl ?_)|(refine uE (EvF.pickT rfl rfl rfl) rfl rfl ?_)|(refine uE (EvF.pickF rfl rfl rfl) rfl rfl ?_)|(refine uE (EvF.not rfl rfl) rfl rfl ?_)|(refine uE (uF rfl rfl (te rfl) rfl (te rfl) (by decide)) rfl rfl ?_)|(refine uE (uL rfl rfl (uO (te rfl) rfl (qH _) rfl)) rfl rfl ?_)|(refine Xg.st (StF.boxAgg rfl rfl) rfl rfl ?_;rintro _ _ ⟨bx,rfl,rfl⟩)))|(refine Xo.g rfl rfl ?_;(first | (with_reducible refine Xw.tf rfl rfl ?_)|(with_reducible refine Xw.caseB (fun h=>?_) (fun h=>?_) <;> simp only [h,decide_true,decide_false,Bool.not_true,Bool.not_false,and_self,and_true,true_and,and_false,false_and])))))|(refine uD rfl ?_;refine hK _ _ ?_;clear hK K) | refine uS rfl ?_ | refine uR rfl (fun K hK=>?_) | refine X.ret rfl ?_ | (refine X.ite rfl rfl (fun hc=>?_);(first | (with_reducible refine Xb.t hc ?_)) <;> clear hc))
   all_goals try (exfalso;contradiction)
   exact ret_one (by simp) Try.results9 rfl (H' := _) (qR _) rfl
  ·have hz' : ¬ ((R.boxes.length : Nat) : Int)=0:=by omega
   obtain ⟨kk,hk1,hk2⟩:=rem_nat h1.1 (n:=R.boxes.length) (by omega)
   obtain ⟨e,he⟩ : ∃ e,R.boxes[kk]? = some e:=⟨_,List.getElem?_eq_getElem hk1⟩
   have heb:=List.mem_of_getElem? he
   obtain ⟨q1,q2,q3,q4,q5,q6⟩:=p
   obtain ⟨bb,off,_,rfl,_⟩:=hR.boxes.elem (i:=kk) hk1
   have hbs:=hR.boxes
   refine Fc.mk (callable Try.call9) Try.func9 rfl Try.ntmps9 rfl ?_;dsimp only [fr]
   repeat' (first | (refine uP rfl ?_;(first | ((first | refine uN rfl ?_ | (refine Xo.g rfl rfl ?_;with_reducible refine Xw.ff ?_));(first | (refine uC (uT rfl Args.nil) rfl rfl (alive_spec _) ?_;rintro _ _ ⟨rfl,rfl⟩)|(refine uE (uL rfl rfl (uW (te rfl) rfl (qH _) rfl)) rfl rfl ?_)|(refine uC (uT rfl (Args.cons rfl Args.nil)) rfl rfl (ready_yes R _ _ (hR.sub (fun _ h=>by repeat (first | exact h | apply qT))) hrd) ?_;rintro _ _ ⟨rfl,rfl⟩)|(refine uE (uQ (b:=false) rfl rfl rfl (congrArg some (decide_eq_false hz'))) rfl rfl ?_)|(refine uE (EvF.lenSlice rfl rfl (te rfl)) rfl rfl ?_)|(refine uE (uM rfl rfl) rfl rfl ?_)|(refine uE (uA rfl rfl) rfl rfl ?_)|(refine uE (EvF.pickT rfl rfl rfl) rfl rfl ?_)|(refine uE (EvF.pickF rfl rfl rfl) rfl rfl ?_)|(refine uE (EvF.not rfl rfl) rfl rfl ?_)|(refine uE (uF rfl rfl (te rfl) rfl (te rfl) (by decide)) rfl rfl ?_)|(refine uE (uL rfl rfl (uO (te rfl) rfl (qH _) rfl)) rfl rfl ?_)|(refine Xg.st (StF.boxAgg rfl rfl) rfl rfl ?_;rintro _ _ ⟨bx,rfl,rfl⟩)))|(refine Xo.g rfl rfl ?_;(first | (with_reducible refine Xw.tf rfl rfl ?_)|(with_reducible refine Xw.caseB (fun h=>?_) (fun h=>?_) <;> simp only [h,decide_true,decide_false,Bool.not_true,Bool.not_false,and_self,and_true,true_and,and_false,false_and])))))|(refine uD rfl ?_;refine hK _ _ ?_;clear hK K) | refine uS rfl ?_ | refine uR rfl (fun K hK=>?_) | refine X.skip rfl ?_ | refine X.ret rfl ?_ | (refine X.ite rfl rfl (fun hc=>?_);(first | (with_reducible refine Xb.t hc ?_)|(with_reducible refine Xb.caseB hc (fun h=>?_) (fun h=>?_))) <;> clear hc))
   all_goals try (exfalso;contradiction)
   generalize bx = b3
   refine X.weak (F' := [(1,.int .u8 z),(2,.int .u8 y),(3,.pointer (some ⟨b3,0,none⟩)),(7,.bool true)]) (H' := ⟨b3,0,cRm R ⟨q1,q2,some ⟨bb,off,none⟩,q4,q5,q6⟩,some 26,5⟩::H) (by repeat (first | exact uU _ | refine uV rfl ?_)) (by repeat (first | exact qR _ | apply qK | apply qC)) ?_
   refine X.regionOb tsKmo [1,2,3,7] [(1,.int .u8 z),(2,.int .u8 y),(3,.pointer (some ⟨b3,0,none⟩)),(7,.bool true)] (valKmo b3 bb off R.boxes.length q4 kk z y e) (rowsKmo b3 bb off R.boxes.length q4 kk z y e) (fun _=>(0,0)) (⟨b3,0,cRm R ⟨q1,q2,some ⟨bb,off,none⟩,q4,q5,q6⟩,some 26,5⟩::H) rfl mixed (by repeat (first | exact uU _ | refine uV rfl ?_)) rfl (by kernel_rfl) (locKmo b3 bb off R.boxes.length q4 kk z y e) (qR _) ?_ ?_
   ·repeat' (first | exact AllF.done rfl | (refine AllF.step rfl ?_ ?_;·(first | fail | ((first | refine Ob.ng rfl ?_);(first | exact ObK.pure (fun env R hR=>by exact ⟨_,uM rfl rfl,rfl⟩) rfl (fun _=>rfl) | exact ObK.pure (fun env R hR=>by exact ⟨_,uA rfl rfl,rfl⟩) rfl (fun _=>rfl) | exact ObK.pure (fun env R hR=>by exact ⟨_,uF rfl rfl (te rfl) rfl (te rfl) (by decide),rfl⟩) rfl (fun _=>rfl) | exact ObK.pure (fun env R hR=>by exact ⟨_,EvF.lenSlice rfl rfl (te rfl),rfl⟩) rfl (fun _=>rfl) | exact ObK.pure (fun env R hR=>by exact ⟨_,uL rfl rfl (uO (te rfl) rfl (hR _ (qH _)) rfl),rfl⟩) rfl (fun _=>rfl)|(exact ObK.pure (fun env S hS=>⟨_,EvF.conv rfl rfl byte_und int_undI (by omega) (by omega),rfl⟩) rfl (fun _=>rfl))|((refine ObK.pure (fun env S hS=>⟨.int .i64 (kk : Nat),?_,rfl⟩) rfl (fun _=>rfl);rw [← hk2];exact EvF.rem64 (p:=z) rfl rfl rfl (by omega) (by omega)))|((refine ObK.pure (fun env S hS=>⟨.pointer (some ⟨bb,off + kk * 2,none⟩),?_,rfl⟩) rfl (fun _=>rfl);exact EvF.indexSlice (i:=(kk : Int)) (off:=off) (b:=bb) (T:=23) (e:=81) (len:=R.boxes.length) rfl rfl rfl (te rfl) (te rfl) (by omega) (by omega)))|(exact ObK.pure (fun env S hS=>⟨.agg (cBx e).toArray,uL rfl rfl (LoadV.elA0 (n:=kk) (hbs.sub (fun r h=>hS r (qT _ h))) he (te rfl) rfl (fun _ h=>h) rfl),rfl⟩) rfl (fun _=>rfl))|(exact fun env S hS=>(StF.alloc rfl Try.zeroValue81 rfl).op.mono (fun v H' ⟨b,hv,hH⟩=>⟨(b,0),fun _=>hv,by rw [hH];exact List.Perm.refl _⟩))|(exact fun env S hS=>(StF.storeAll (i:=0) (vs:=cBx e) (cs:=cBx ⟨0,0⟩) rfl rfl rfl (te rfl) rfl rfl rfl rfl).op.mono (fun v H' ⟨hv,hH⟩=>⟨(0,0),fun h=>absurd rfl h,by rw [hH];exact List.Perm.refl _⟩))|(exact ObK.pure (fun env S hS=>⟨_,EvF.rem64 rfl rfl rfl (by omega) (by omega),rfl⟩) rfl (fun _=>rfl)))))))
   ·intro env t ha2 hv;refine ⟨_,(ha2.cons (hv 13 8 (Nat.le_of_ble_eq_true rfl) rfl)).cons (hv 15 9 (Nat.le_of_ble_eq_true rfl) rfl),?_⟩;clear hv ha2
    show X _ _ _ [(9,.int .i64 (y % 62)),(8,.pointer (some ⟨(env 13).1,0,none⟩)),(1,.int .u8 z),(2,.int .u8 y),(3,.pointer (some ⟨b3,0,none⟩)),(7,.bool true)] (⟨(env 13).1,0,cBx e,some 81,2⟩::⟨b3,0,cRm R ⟨q1,q2,some ⟨bb,off,none⟩,q4,q5,q6⟩,some 26,5⟩::H) _
    generalize (env 13).1 = b8
    clear env
    have hn0 : 0 ≤ y % 62∧y % 62 ≤ 61:=by omega
    obtain ⟨n,hn⟩ : ∃ n,n = y % 62:=⟨_,rfl⟩
    rw [← hn] at hn0 ⊢
    clear hn hk2 hz hz'
    obtain ⟨a,ee,b,ff,e1,e2,hcase⟩:=mon_facts hrd heb n
    have kp:=fun S hS=>kPerhaps_spec R ⟨q1,q2,some ⟨bb,off,none⟩,q4,q5,q6⟩ e.id n S hS hlb
    have ks:=fun S hS=>kSurely_spec R ⟨q1,q2,some ⟨bb,off,none⟩,q4,q5,q6⟩ e.id n S hS hlb
    rw [e1] at kp
    rw [e2] at ks
    clear e1 e2
    have hbm:=okBoxes_mem _ _ _ hrd.ok.2.2.1 e heb
    have hm12:=hrd.ok.ok.m12
    have hs0:=hrd.ok.ok.s0
    have hs60:=hrd.ok.ok.s60
    rcases hcase with ⟨rfl,rfl,hab,hk⟩ | ⟨rfl,rfl,hk⟩ | ⟨rfl,rfl,hk⟩
    ·have hab' : ¬ a > b:=by omega
     repeat' (first | (refine uP rfl ?_;(first | ((first | refine uN rfl ?_ | (refine Xo.g rfl rfl ?_;with_reducible refine Xw.tt ?_)|(refine Xo.g rfl rfl ?_;with_reducible refine Xw.ff ?_));(first | (refine uC (uT rfl (Args.cons rfl (Args.cons rfl (Args.cons rfl Args.nil)))) rfl rfl (kp _ (hR.sub (fun _ h=>by repeat (first | exact h | apply qT)))) ?_;rintro _ _ ⟨rfl,rfl⟩)|(refine uC (uT rfl (Args.cons rfl (Args.cons rfl (Args.cons rfl Args.nil)))) rfl rfl (ks _ (hR.sub (fun _ h=>by repeat (first | exact h | apply qT)))) ?_;rintro _ _ ⟨rfl,rfl⟩)|(refine uE (uQ (b:=false) rfl rfl rfl (congrArg some (nd_f (Eq.refl (0 : Int))))) rfl rfl ?_)|(refine uE (uQ (b:=true) rfl rfl rfl (congrArg some (nd_t (show ¬ (6 : Int)=0 by decide)))) rfl rfl ?_)|(refine uE (uQ (b:=false) rfl rfl rfl (congrArg some (decide_eq_false hab'))) rfl rfl ?_)|(refine Xg.st (StF.alloc rfl Try.zeroValue35 rfl) rfl rfl ?_;rintro _ _ ⟨bx,rfl,rfl⟩)|(refine Xg.st0 (StF.storeAll (i:=0) (vs:=cSp ⟨0,0⟩) rfl rfl rfl (te rfl) rfl rfl rfl rfl) rfl ?_;rintro _ _ ⟨rfl,rfl⟩;dsimp only [List.set])|(refine uE (EvF.build (cs:=cSp ⟨0,0⟩) rfl ArgsP.nil (te rfl) (Places.cons (te rfl) (Places.cons (te rfl) Places.nil)) Try.zeroValue35 rfl) rfl rfl ?_)|(refine uE (uM rfl rfl) rfl rfl ?_)|(refine uE (uA rfl rfl) rfl rfl ?_)|(refine uE (EvF.pickT rfl rfl rfl) rfl rfl ?_)|(refine uE (EvF.pickF rfl rfl rfl) rfl rfl ?_)|(refine uE (uF rfl rfl (te rfl) rfl (te rfl) (by decide)) rfl rfl ?_)|(refine uE (uL rfl rfl (uO (te rfl) rfl (qH _) rfl)) rfl rfl ?_)|(refine uE (uL rfl rfl (uO (te rfl) rfl (qT _ (qH _)) rfl)) rfl rfl ?_)|(refine uE (uL rfl rfl (uW (te rfl) rfl (qT _ (qH _)) rfl)) rfl rfl ?_)|(refine uE (uX rfl rfl rfl) rfl rfl ?_)))|(refine Xo.g rfl rfl ?_;(first | (with_reducible refine Xw.ft rfl rfl ?_)))))|(refine uD rfl ?_;refine hK _ _ ?_;clear hK K) | refine uS rfl ?_ | refine uR rfl (fun K hK=>?_) | refine X.block rfl ?_ | refine X.skip rfl ?_ | (refine X.ite rfl rfl (fun hc=>?_);(first | (with_reducible refine Xb.f hc ?_)) <;> clear hc))
     all_goals try (exfalso;contradiction)
     generalize bx = b14
     refine X.lp rfl (fun r F' H' => ∃ (m : Int) (L : Sp),r = (R.months - m).toNat∧e.made ≤ m∧m ≤ R.months∧(e.made < m → L = rng R R.mats ⟨e.id,m - 1⟩ zp)∧⟨b14,0,cSp L,some 35,2⟩::⟨b8,0,cBx e,some 81,2⟩::⟨b3,0,cRm R ⟨q1,q2,some ⟨bb,off,none⟩,q4,q5,q6⟩,some 26,5⟩::H = H'∧F' = [(3,.pointer (some ⟨b3,0,none⟩)),(7,.bool true),(8,.pointer (some ⟨b8,0,none⟩)),(9,.int .i64 n),(10,.int .i64 a),(11,.int .i64 0),(12,.int .i64 b),(13,.int .i64 0),(14,.pointer (some ⟨b14,0,none⟩)),(15,.int .i64 m)])
      (R.months - e.made).toNat [(3,.pointer (some ⟨b3,0,none⟩)),(7,.bool true),(8,.pointer (some ⟨b8,0,none⟩)),(9,.int .i64 n),(10,.int .i64 a),(11,.int .i64 0),(12,.int .i64 b),(13,.int .i64 0),(14,.pointer (some ⟨b14,0,none⟩)),(15,.int .i64 e.made)] (⟨b14,0,cSp ⟨0,0⟩,some 35,2⟩::⟨b8,0,cBx e,some 81,2⟩::⟨b3,0,cRm R ⟨q1,q2,some ⟨bb,off,none⟩,q4,q5,q6⟩,some 26,5⟩::H) (by repeat (first | exact uU _ | refine uV rfl ?_)) (qR _) ⟨e.made,⟨0,0⟩,rfl,Int.le_refl _,by omega,(fun h=>by omega),rfl,rfl⟩ ?_
     rintro _ _ _ ⟨m,L,rfl,hm1,hm2,hL,rfl,rfl⟩
     by_cases hlt : m < R.months
     ·have hth : there R e m:=⟨heb,hm1,by omega⟩
      have hrb:=rdy_bx hrd heb hm1 (show m ≤ R.months - 1 by omega)
      have ky:=fun S hS=>kYellow_spec R ⟨q1,q2,some ⟨bb,off,none⟩,q4,q5,q6⟩ e.id m S hS hlb
      have kk:=fun S hS=>kKnown_spec R ⟨q1,q2,some ⟨bb,off,none⟩,q4,q5,q6⟩ e.id m n S hS hlb
      rw [rdy_yel hrd hrb.2.1 hrb.2.2] at ky kk
      have g0:=mon_zero hrd hth
      have g1:=rdy_bdz hrd hrb.2.1 hrb.2.2
      have g2:=hk m hth
      have g3:=mon_last hrd hth
      obtain ⟨s,hs⟩ : ∃ s,s = rng R R.mats ⟨e.id,m⟩ zp:=⟨_,rfl⟩
      rw [← hs] at ky kk g0 g1 g2 g3
      obtain ⟨t,ht⟩ : ∃ t,t = toldF s n:=⟨_,rfl⟩
      rw [show knP (s,0) n = (t,0) by rw [ht];rfl] at kk
      rw [← ht] at g2
      clear ht
      have n0 : ¬ s.lo < 0:=by omega
      have n1 : ¬ s.lo > s.hi:=by omega
      have n2 : ¬ s.hi > 60:=by omega
      have hgo : s = rng R R.mats ⟨e.id,m + 1 - 1⟩ zp:=by rw [Int.add_sub_cancel];exact hs
      by_cases hml : m > e.made
      ·obtain rfl:=hL hml
       obtain ⟨⟨y1,y2⟩,⟨y3,y4⟩,y5,y6,y7,y8⟩:=g3 hml
       obtain ⟨L,hLL⟩ : ∃ L,L = rng R R.mats ⟨e.id,m - 1⟩ zp:=⟨_,rfl⟩
       rw [← hLL] at y1 y2 y3 y4 y5 y6 y7 y8 ⊢
       clear hLL
       have y1' : ¬ s.lo < L.lo:=by omega
       have y2' : ¬ s.hi < L.hi:=by omega
       have y3' : ¬ s.lo > L.lo + R.step:=by omega
       have y4' : ¬ s.hi > L.hi + R.step:=by omega
       repeat' (first | (refine uP rfl ?_;(first | ((first | refine uN rfl ?_ | (refine Xo.g rfl rfl ?_;with_reducible refine Xw.tt ?_)|(refine Xo.g rfl rfl ?_;with_reducible refine Xw.ff ?_));(first | (refine uE (uL rfl rfl (uW (te rfl) rfl (qH _) rfl)) rfl rfl ?_)|(refine uE (uQ (b:=true) rfl rfl rfl (congrArg some (decide_eq_true hlt))) rfl rfl ?_)|(refine uC (uT rfl (Args.cons rfl (Args.cons rfl (Args.cons rfl Args.nil)))) rfl rfl (ky _ (hR.sub (fun _ h=>by repeat (first | exact h | apply qT)))) ?_;rintro _ _ ⟨rfl,rfl⟩)|(refine uC (uT rfl (Args.cons rfl (Args.cons rfl (Args.cons rfl (Args.cons rfl Args.nil))))) rfl rfl (kk _ (hR.sub (fun _ h=>by repeat (first | exact h | apply qT)))) ?_;rintro _ _ ⟨rfl,rfl⟩)|(refine uE (uQ (b:=false) rfl rfl rfl (congrArg some (nd_f (Eq.refl (0 : Int))))) rfl rfl ?_)|(refine uE (uQ (b:=true) rfl rfl rfl (congrArg some (decide_eq_true (Eq.refl (0 : Int))))) rfl rfl ?_)|(refine Xg.st (StF.alloc rfl Try.zeroValue35 rfl) rfl rfl ?_;rintro _ _ ⟨bx,rfl,rfl⟩)|(refine Xg.st0 (StF.storeAll (i:=0) (vs:=cSp s) rfl rfl rfl (te rfl) rfl rfl rfl rfl) rfl ?_;rintro _ _ ⟨rfl,rfl⟩;dsimp only [List.set])|(refine Xg.st0 (StF.storeAll (i:=1) (vs:=cSp s) (cs:=cSp L) rfl rfl rfl (te rfl) rfl rfl rfl rfl) rfl ?_;rintro _ _ ⟨rfl,rfl⟩;dsimp only [List.set])|(refine uE (uQ (b:=false) rfl rfl rfl (congrArg some (decide_eq_false n0))) rfl rfl ?_)|(refine uE (uQ (b:=false) rfl rfl rfl (congrArg some (decide_eq_false n1))) rfl rfl ?_)|(refine uE (uQ (b:=false) rfl rfl rfl (congrArg some (decide_eq_false n2))) rfl rfl ?_)|(refine uE (uQ (b:=true) rfl rfl rfl (congrArg some (decide_eq_true hml))) rfl rfl ?_)|(refine uE (uQ (b:=false) rfl rfl rfl (congrArg some (decide_eq_false y1'))) rfl rfl ?_)|(refine uE (uQ (b:=false) rfl rfl rfl (congrArg some (decide_eq_false y2'))) rfl rfl ?_)|(refine uE (uQ (b:=false) rfl rfl rfl (congrArg some (decide_eq_false y3'))) rfl rfl ?_)|(refine uE (uQ (b:=false) rfl rfl rfl (congrArg some (decide_eq_false y4'))) rfl rfl ?_)|(refine uE (EvF.add64 (p:=L.lo) (q:=R.step) rfl rfl rfl (by omega) (by omega)) rfl rfl ?_)|(refine uE (EvF.add64 (p:=L.hi) (q:=R.step) rfl rfl rfl (by omega) (by omega)) rfl rfl ?_)|(refine uE (uM rfl rfl) rfl rfl ?_)|(refine uE (uA rfl rfl) rfl rfl ?_)|(refine uE (EvF.pickT rfl rfl rfl) rfl rfl ?_)|(refine uE (EvF.pickF rfl rfl rfl) rfl rfl ?_)|(refine uE (uQ rfl rfl rfl rfl) rfl rfl ?_)|(refine uE (uF rfl rfl (te rfl) rfl (te rfl) (by decide)) rfl rfl ?_)|(refine uE (uL rfl rfl (uO (te rfl) rfl (qH _) rfl)) rfl rfl ?_)|(refine uE (uL rfl rfl (uO (te rfl) rfl (qT _ (qH _)) rfl)) rfl rfl ?_)|(refine uE (uL rfl rfl (uO (te rfl) rfl (qT _ (qT _ (qH _))) rfl)) rfl rfl ?_)|(refine uE (uL rfl rfl (uO (te rfl) rfl (qT _ (qT _ (qT _ (qH _)))) rfl)) rfl rfl ?_)|(refine uE (uL rfl rfl (uW (te rfl) rfl (qT _ (qT _ (qH _))) rfl)) rfl rfl ?_)|(refine uE (uL rfl rfl (uW (te rfl) rfl (qT _ (qT _ (qT _ (qH _)))) rfl)) rfl rfl ?_)|(refine uE (uX rfl rfl rfl) rfl rfl ?_)))))|(refine uD rfl ?_;refine hK _ _ ?_;clear hK K) | refine uS rfl ?_ | refine uR rfl (fun K hK=>?_) | refine X.block rfl ?_ | refine X.skip rfl ?_ | (refine X.ite rfl rfl (fun hc=>?_);(first | (with_reducible refine Xb.t hc ?_)|(with_reducible refine Xb.f hc ?_)|(with_reducible refine Xb.case hc (fun h=>?_) (fun h=>?_))) <;> clear hc))
       all_goals try (exfalso;contradiction)
       all_goals (rcases g2 with ⟨x1,rfl⟩ | ⟨x1,x2,rfl⟩ | ⟨x1,x2,rfl⟩)
       all_goals try (exfalso;omega)
       all_goals (repeat' (first | (refine uP rfl ?_;(first | ((first | refine uN rfl ?_);(first | (refine uE (EvF.conv rfl rfl byte_und int_undI (by omega) (by omega)) rfl rfl ?_)|(refine uE (uQ (b:=false) rfl rfl rfl (congrArg some (nd_f (Eq.refl (2 : Int))))) rfl rfl ?_)|(refine uE (uQ (b:=false) rfl rfl rfl (congrArg some (nd_f (Eq.refl (1 : Int))))) rfl rfl ?_)|(refine uE (uQ (b:=false) rfl rfl rfl (congrArg some (nd_f (Eq.refl (0 : Int))))) rfl rfl ?_)|(refine uE (EvF.add64 rfl rfl rfl (by omega) (by omega)) rfl rfl ?_)|(refine uE (uM rfl rfl) rfl rfl ?_)|(refine uE (uA rfl rfl) rfl rfl ?_)))))|(refine uD rfl ?_;refine hK _ _ ?_;clear hK K) | refine uR rfl (fun K hK=>?_) | refine X.skip rfl ?_ | (refine X.ite rfl rfl (fun hc=>?_);(first | (with_reducible refine Xb.f hc ?_)) <;> clear hc)))
       all_goals try (exfalso;contradiction)
       all_goals exact ⟨_,_,⟨b14,0,cSp s,some 35,2⟩::⟨b8,0,cBx e,some 81,2⟩::⟨b3,0,cRm R ⟨q1,q2,some ⟨bb,off,none⟩,q4,q5,q6⟩,some 26,5⟩::H,(by repeat (first | exact uU _ | refine uV rfl ?_)),(by repeat (first | exact qR _ | apply qK | apply qC)),⟨m + 1,s,rfl,by omega,by omega,(fun _=>hgo),rfl,rfl⟩,by omega⟩
      ·repeat' (first | (refine uP rfl ?_;(first | ((first | refine uN rfl ?_ | (refine Xo.g rfl rfl ?_;with_reducible refine Xw.tt ?_)|(refine Xo.g rfl rfl ?_;with_reducible refine Xw.ff ?_));(first | (refine uE (uL rfl rfl (uW (te rfl) rfl (qH _) rfl)) rfl rfl ?_)|(refine uE (uQ (b:=true) rfl rfl rfl (congrArg some (decide_eq_true hlt))) rfl rfl ?_)|(refine uC (uT rfl (Args.cons rfl (Args.cons rfl (Args.cons rfl Args.nil)))) rfl rfl (ky _ (hR.sub (fun _ h=>by repeat (first | exact h | apply qT)))) ?_;rintro _ _ ⟨rfl,rfl⟩)|(refine uC (uT rfl (Args.cons rfl (Args.cons rfl (Args.cons rfl (Args.cons rfl Args.nil))))) rfl rfl (kk _ (hR.sub (fun _ h=>by repeat (first | exact h | apply qT)))) ?_;rintro _ _ ⟨rfl,rfl⟩)|(refine uE (uQ (b:=false) rfl rfl rfl (congrArg some (nd_f (Eq.refl (0 : Int))))) rfl rfl ?_)|(refine uE (uQ (b:=true) rfl rfl rfl (congrArg some (decide_eq_true (Eq.refl (0 : Int))))) rfl rfl ?_)|(refine Xg.st (StF.alloc rfl Try.zeroValue35 rfl) rfl rfl ?_;rintro _ _ ⟨bx,rfl,rfl⟩)|(refine Xg.st0 (StF.storeAll (i:=0) (vs:=cSp s) rfl rfl rfl (te rfl) rfl rfl rfl rfl) rfl ?_;rintro _ _ ⟨rfl,rfl⟩;dsimp only [List.set])|(refine Xg.st0 (StF.storeAll (i:=1) (vs:=cSp s) (cs:=cSp L) rfl rfl rfl (te rfl) rfl rfl rfl rfl) rfl ?_;rintro _ _ ⟨rfl,rfl⟩;dsimp only [List.set])|(refine uE (uQ (b:=false) rfl rfl rfl (congrArg some (decide_eq_false n0))) rfl rfl ?_)|(refine uE (uQ (b:=false) rfl rfl rfl (congrArg some (decide_eq_false n1))) rfl rfl ?_)|(refine uE (uQ (b:=false) rfl rfl rfl (congrArg some (decide_eq_false n2))) rfl rfl ?_)|(refine uE (uQ (b:=false) rfl rfl rfl (congrArg some (decide_eq_false hml))) rfl rfl ?_)|(refine uE (uM rfl rfl) rfl rfl ?_)|(refine uE (uA rfl rfl) rfl rfl ?_)|(refine uE (EvF.pickT rfl rfl rfl) rfl rfl ?_)|(refine uE (EvF.pickF rfl rfl rfl) rfl rfl ?_)|(refine uE (uQ rfl rfl rfl rfl) rfl rfl ?_)|(refine uE (uF rfl rfl (te rfl) rfl (te rfl) (by decide)) rfl rfl ?_)|(refine uE (uL rfl rfl (uO (te rfl) rfl (qH _) rfl)) rfl rfl ?_)|(refine uE (uL rfl rfl (uO (te rfl) rfl (qT _ (qH _)) rfl)) rfl rfl ?_)|(refine uE (uL rfl rfl (uO (te rfl) rfl (qT _ (qT _ (qH _))) rfl)) rfl rfl ?_)|(refine uE (uL rfl rfl (uW (te rfl) rfl (qT _ (qT _ (qH _))) rfl)) rfl rfl ?_)|(refine uE (uL rfl rfl (uW (te rfl) rfl (qT _ (qT _ (qT _ (qH _)))) rfl)) rfl rfl ?_)|(refine uE (uX rfl rfl rfl) rfl rfl ?_)))|(refine Xo.g rfl rfl ?_;(first | (with_reducible refine Xw.ft rfl rfl ?_)))|(refine Xo.sk rfl rfl rfl rfl ?_)))|(refine uD rfl ?_;refine hK _ _ ?_;clear hK K) | refine uS rfl ?_ | refine uR rfl (fun K hK=>?_) | refine X.block rfl ?_ | refine X.skip rfl ?_ | (refine X.ite rfl rfl (fun hc=>?_);(first | (with_reducible refine Xb.t hc ?_)|(with_reducible refine Xb.f hc ?_)|(with_reducible refine Xb.case hc (fun h=>?_) (fun h=>?_))) <;> clear hc))
       all_goals try (exfalso;contradiction)
       all_goals (rcases g2 with ⟨x1,rfl⟩ | ⟨x1,x2,rfl⟩ | ⟨x1,x2,rfl⟩)
       all_goals try (exfalso;omega)
       all_goals (repeat' (first | (refine uP rfl ?_;(first | ((first | refine uN rfl ?_);(first | (refine uE (EvF.conv rfl rfl byte_und int_undI (by omega) (by omega)) rfl rfl ?_)|(refine uE (uQ (b:=false) rfl rfl rfl (congrArg some (nd_f (Eq.refl (2 : Int))))) rfl rfl ?_)|(refine uE (uQ (b:=false) rfl rfl rfl (congrArg some (nd_f (Eq.refl (1 : Int))))) rfl rfl ?_)|(refine uE (uQ (b:=false) rfl rfl rfl (congrArg some (nd_f (Eq.refl (0 : Int))))) rfl rfl ?_)|(refine uE (EvF.add64 rfl rfl rfl (by omega) (by omega)) rfl rfl ?_)|(refine uE (uM rfl rfl) rfl rfl ?_)|(refine uE (uA rfl rfl) rfl rfl ?_)))))|(refine uD rfl ?_;refine hK _ _ ?_;clear hK K) | refine uR rfl (fun K hK=>?_) | refine X.skip rfl ?_ | (refine X.ite rfl rfl (fun hc=>?_);(first | (with_reducible refine Xb.f hc ?_)) <;> clear hc)))
       all_goals try (exfalso;contradiction)
       all_goals exact ⟨_,_,⟨b14,0,cSp s,some 35,2⟩::⟨b8,0,cBx e,some 81,2⟩::⟨b3,0,cRm R ⟨q1,q2,some ⟨bb,off,none⟩,q4,q5,q6⟩,some 26,5⟩::H,(by repeat (first | exact uU _ | refine uV rfl ?_)),(by repeat (first | exact qR _ | apply qK | apply qC)),⟨m + 1,s,rfl,by omega,by omega,(fun _=>hgo),rfl,rfl⟩,by omega⟩
     ·repeat' (first | (refine uP rfl ?_;(first | ((first | refine uN rfl ?_);(first | (refine uE (uQ (b:=false) rfl rfl rfl (congrArg some (decide_eq_false hlt))) rfl rfl ?_)|(refine uE (uM rfl rfl) rfl rfl ?_)|(refine uE (uA rfl rfl) rfl rfl ?_)|(refine uE (uF rfl rfl (te rfl) rfl (te rfl) (by decide)) rfl rfl ?_)|(refine uE (uL rfl rfl (uO (te rfl) rfl (qT _ (qT _ (qH _))) rfl)) rfl rfl ?_)))))|(refine uD rfl ?_;refine hK _ _ ?_;clear hK K) | refine uS rfl ?_ | refine uR rfl (fun K hK=>?_)|(refine X.brk rfl ?_;repeat (first | refine blockX_hit rfl ?_ | refine blockX_miss (by decide) ?_)) | refine X.ret rfl ?_ | (refine X.ite rfl rfl (fun hc=>?_);(first | (with_reducible refine Xb.f hc ?_)) <;> clear hc))
      all_goals try (exfalso;contradiction)
      exact ret_one (by simp) Try.results9 rfl (H' := _) (qR _) rfl
    ·repeat' (first | (refine uP rfl ?_;(first | ((first | refine uN rfl ?_ | (refine Xo.g rfl rfl ?_;with_reducible refine Xw.tt ?_)|(refine Xo.g rfl rfl ?_;with_reducible refine Xw.ff ?_));(first | (refine uC (uT rfl (Args.cons rfl (Args.cons rfl (Args.cons rfl Args.nil)))) rfl rfl (kp _ (hR.sub (fun _ h=>by repeat (first | exact h | apply qT)))) ?_;rintro _ _ ⟨rfl,rfl⟩)|(refine uC (uT rfl (Args.cons rfl (Args.cons rfl (Args.cons rfl Args.nil)))) rfl rfl (ks _ (hR.sub (fun _ h=>by repeat (first | exact h | apply qT)))) ?_;rintro _ _ ⟨rfl,rfl⟩)|(refine uE (uQ (b:=false) rfl rfl rfl (congrArg some (nd_f (Eq.refl (0 : Int))))) rfl rfl ?_)|(refine uE (uQ (b:=false) rfl rfl rfl (congrArg some (nd_f (Eq.refl (6 : Int))))) rfl rfl ?_)|(refine uE (uQ (b:=true) rfl rfl rfl (congrArg some (nd_t (show ¬ (6 : Int)=0 by decide)))) rfl rfl ?_)|(refine Xg.st (StF.alloc rfl Try.zeroValue35 rfl) rfl rfl ?_;rintro _ _ ⟨bx,rfl,rfl⟩)|(refine Xg.st0 (StF.storeAll (i:=0) (vs:=cSp ⟨0,0⟩) rfl rfl rfl (te rfl) rfl rfl rfl rfl) rfl ?_;rintro _ _ ⟨rfl,rfl⟩;dsimp only [List.set])|(refine uE (EvF.build (cs:=cSp ⟨0,0⟩) rfl ArgsP.nil (te rfl) (Places.cons (te rfl) (Places.cons (te rfl) Places.nil)) Try.zeroValue35 rfl) rfl rfl ?_)|(refine uE (uM rfl rfl) rfl rfl ?_)|(refine uE (uA rfl rfl) rfl rfl ?_)|(refine uE (EvF.pickT rfl rfl rfl) rfl rfl ?_)|(refine uE (EvF.pickF rfl rfl rfl) rfl rfl ?_)|(refine uE (uF rfl rfl (te rfl) rfl (te rfl) (by decide)) rfl rfl ?_)|(refine uE (uL rfl rfl (uO (te rfl) rfl (qH _) rfl)) rfl rfl ?_)|(refine uE (uL rfl rfl (uO (te rfl) rfl (qT _ (qH _)) rfl)) rfl rfl ?_)|(refine uE (uL rfl rfl (uW (te rfl) rfl (qT _ (qH _)) rfl)) rfl rfl ?_)|(refine uE (uX rfl rfl rfl) rfl rfl ?_)))|(refine Xo.g rfl rfl ?_;(first | (with_reducible refine Xw.ft rfl rfl ?_)))|(refine Xo.sk rfl rfl rfl rfl ?_)))|(refine uD rfl ?_;refine hK _ _ ?_;clear hK K) | refine uS rfl ?_ | refine uR rfl (fun K hK=>?_) | refine X.block rfl ?_ | refine X.skip rfl ?_ | (refine X.ite rfl rfl (fun hc=>?_);(first | (with_reducible refine Xb.f hc ?_)) <;> clear hc))
     all_goals try (exfalso;contradiction)
     generalize bx = b14
     refine X.lp rfl (fun r F' H' => ∃ (m : Int) (L : Sp),r = (R.months - m).toNat∧e.made ≤ m∧m ≤ R.months∧(e.made < m → L = rng R R.mats ⟨e.id,m - 1⟩ zp)∧⟨b14,0,cSp L,some 35,2⟩::⟨b8,0,cBx e,some 81,2⟩::⟨b3,0,cRm R ⟨q1,q2,some ⟨bb,off,none⟩,q4,q5,q6⟩,some 26,5⟩::H = H'∧F' = [(3,.pointer (some ⟨b3,0,none⟩)),(7,.bool true),(8,.pointer (some ⟨b8,0,none⟩)),(9,.int .i64 n),(10,.int .i64 a),(11,.int .i64 0),(12,.int .i64 b),(13,.int .i64 6),(14,.pointer (some ⟨b14,0,none⟩)),(15,.int .i64 m)])
      (R.months - e.made).toNat [(3,.pointer (some ⟨b3,0,none⟩)),(7,.bool true),(8,.pointer (some ⟨b8,0,none⟩)),(9,.int .i64 n),(10,.int .i64 a),(11,.int .i64 0),(12,.int .i64 b),(13,.int .i64 6),(14,.pointer (some ⟨b14,0,none⟩)),(15,.int .i64 e.made)] (⟨b14,0,cSp ⟨0,0⟩,some 35,2⟩::⟨b8,0,cBx e,some 81,2⟩::⟨b3,0,cRm R ⟨q1,q2,some ⟨bb,off,none⟩,q4,q5,q6⟩,some 26,5⟩::H) (by repeat (first | exact uU _ | refine uV rfl ?_)) (qR _) ⟨e.made,⟨0,0⟩,rfl,Int.le_refl _,by omega,(fun h=>by omega),rfl,rfl⟩ ?_
     rintro _ _ _ ⟨m,L,rfl,hm1,hm2,hL,rfl,rfl⟩
     by_cases hlt : m < R.months
     ·have hth : there R e m:=⟨heb,hm1,by omega⟩
      have hrb:=rdy_bx hrd heb hm1 (show m ≤ R.months - 1 by omega)
      have ky:=fun S hS=>kYellow_spec R ⟨q1,q2,some ⟨bb,off,none⟩,q4,q5,q6⟩ e.id m S hS hlb
      have kk:=fun S hS=>kKnown_spec R ⟨q1,q2,some ⟨bb,off,none⟩,q4,q5,q6⟩ e.id m n S hS hlb
      rw [rdy_yel hrd hrb.2.1 hrb.2.2] at ky kk
      have g0:=mon_zero hrd hth
      have g1:=rdy_bdz hrd hrb.2.1 hrb.2.2
      have g2:=hk m hth
      have g3:=mon_last hrd hth
      obtain ⟨s,hs⟩ : ∃ s,s = rng R R.mats ⟨e.id,m⟩ zp:=⟨_,rfl⟩
      rw [← hs] at ky kk g0 g1 g2 g3
      obtain ⟨t,ht⟩ : ∃ t,t = toldF s n:=⟨_,rfl⟩
      rw [show knP (s,0) n = (t,0) by rw [ht];rfl] at kk
      rw [← ht] at g2
      clear ht
      have n0 : ¬ s.lo < 0:=by omega
      have n1 : ¬ s.lo > s.hi:=by omega
      have n2 : ¬ s.hi > 60:=by omega
      have hgo : s = rng R R.mats ⟨e.id,m + 1 - 1⟩ zp:=by rw [Int.add_sub_cancel];exact hs
      by_cases hml : m > e.made
      ·obtain rfl:=hL hml
       obtain ⟨⟨y1,y2⟩,⟨y3,y4⟩,y5,y6,y7,y8⟩:=g3 hml
       obtain ⟨L,hLL⟩ : ∃ L,L = rng R R.mats ⟨e.id,m - 1⟩ zp:=⟨_,rfl⟩
       rw [← hLL] at y1 y2 y3 y4 y5 y6 y7 y8 ⊢
       clear hLL
       have y1' : ¬ s.lo < L.lo:=by omega
       have y2' : ¬ s.hi < L.hi:=by omega
       have y3' : ¬ s.lo > L.lo + R.step:=by omega
       have y4' : ¬ s.hi > L.hi + R.step:=by omega
       repeat' (first | (refine uP rfl ?_;(first | ((first | refine uN rfl ?_ | (refine Xo.g rfl rfl ?_;with_reducible refine Xw.tt ?_)|(refine Xo.g rfl rfl ?_;with_reducible refine Xw.ff ?_));(first | (refine uE (uL rfl rfl (uW (te rfl) rfl (qH _) rfl)) rfl rfl ?_)|(refine uE (uQ (b:=true) rfl rfl rfl (congrArg some (decide_eq_true hlt))) rfl rfl ?_)|(refine uC (uT rfl (Args.cons rfl (Args.cons rfl (Args.cons rfl Args.nil)))) rfl rfl (ky _ (hR.sub (fun _ h=>by repeat (first | exact h | apply qT)))) ?_;rintro _ _ ⟨rfl,rfl⟩)|(refine uC (uT rfl (Args.cons rfl (Args.cons rfl (Args.cons rfl (Args.cons rfl Args.nil))))) rfl rfl (kk _ (hR.sub (fun _ h=>by repeat (first | exact h | apply qT)))) ?_;rintro _ _ ⟨rfl,rfl⟩)|(refine uE (uQ (b:=false) rfl rfl rfl (congrArg some (nd_f (Eq.refl (0 : Int))))) rfl rfl ?_)|(refine uE (uQ (b:=true) rfl rfl rfl (congrArg some (decide_eq_true (Eq.refl (0 : Int))))) rfl rfl ?_)|(refine Xg.st (StF.alloc rfl Try.zeroValue35 rfl) rfl rfl ?_;rintro _ _ ⟨bx,rfl,rfl⟩)|(refine Xg.st0 (StF.storeAll (i:=0) (vs:=cSp s) rfl rfl rfl (te rfl) rfl rfl rfl rfl) rfl ?_;rintro _ _ ⟨rfl,rfl⟩;dsimp only [List.set])|(refine Xg.st0 (StF.storeAll (i:=1) (vs:=cSp s) (cs:=cSp L) rfl rfl rfl (te rfl) rfl rfl rfl rfl) rfl ?_;rintro _ _ ⟨rfl,rfl⟩;dsimp only [List.set])|(refine uE (uQ (b:=false) rfl rfl rfl (congrArg some (decide_eq_false n0))) rfl rfl ?_)|(refine uE (uQ (b:=false) rfl rfl rfl (congrArg some (decide_eq_false n1))) rfl rfl ?_)|(refine uE (uQ (b:=false) rfl rfl rfl (congrArg some (decide_eq_false n2))) rfl rfl ?_)|(refine uE (uQ (b:=true) rfl rfl rfl (congrArg some (decide_eq_true hml))) rfl rfl ?_)|(refine uE (uQ (b:=false) rfl rfl rfl (congrArg some (decide_eq_false y1'))) rfl rfl ?_)|(refine uE (uQ (b:=false) rfl rfl rfl (congrArg some (decide_eq_false y2'))) rfl rfl ?_)|(refine uE (uQ (b:=false) rfl rfl rfl (congrArg some (decide_eq_false y3'))) rfl rfl ?_)|(refine uE (uQ (b:=false) rfl rfl rfl (congrArg some (decide_eq_false y4'))) rfl rfl ?_)|(refine uE (EvF.add64 (p:=L.lo) (q:=R.step) rfl rfl rfl (by omega) (by omega)) rfl rfl ?_)|(refine uE (EvF.add64 (p:=L.hi) (q:=R.step) rfl rfl rfl (by omega) (by omega)) rfl rfl ?_)|(refine uE (uM rfl rfl) rfl rfl ?_)|(refine uE (uA rfl rfl) rfl rfl ?_)|(refine uE (EvF.pickT rfl rfl rfl) rfl rfl ?_)|(refine uE (EvF.pickF rfl rfl rfl) rfl rfl ?_)|(refine uE (uQ rfl rfl rfl rfl) rfl rfl ?_)|(refine uE (uF rfl rfl (te rfl) rfl (te rfl) (by decide)) rfl rfl ?_)|(refine uE (uL rfl rfl (uO (te rfl) rfl (qH _) rfl)) rfl rfl ?_)|(refine uE (uL rfl rfl (uO (te rfl) rfl (qT _ (qH _)) rfl)) rfl rfl ?_)|(refine uE (uL rfl rfl (uO (te rfl) rfl (qT _ (qT _ (qH _))) rfl)) rfl rfl ?_)|(refine uE (uL rfl rfl (uO (te rfl) rfl (qT _ (qT _ (qT _ (qH _)))) rfl)) rfl rfl ?_)|(refine uE (uL rfl rfl (uW (te rfl) rfl (qT _ (qT _ (qH _))) rfl)) rfl rfl ?_)|(refine uE (uL rfl rfl (uW (te rfl) rfl (qT _ (qT _ (qT _ (qH _)))) rfl)) rfl rfl ?_)|(refine uE (uX rfl rfl rfl) rfl rfl ?_)))|(refine Xo.g rfl rfl ?_;(first | (with_reducible refine Xw.ft rfl rfl ?_)))))|(refine uD rfl ?_;refine hK _ _ ?_;clear hK K) | refine uS rfl ?_ | refine uR rfl (fun K hK=>?_) | refine X.block rfl ?_ | refine X.skip rfl ?_ | (refine X.ite rfl rfl (fun hc=>?_);(first | (with_reducible refine Xb.t hc ?_)|(with_reducible refine Xb.f hc ?_)|(with_reducible refine Xb.case hc (fun h=>?_) (fun h=>?_))) <;> clear hc))
       all_goals try (exfalso;contradiction)
       all_goals (rcases g2 with ⟨x1,rfl⟩ | ⟨x1,rfl⟩)
       all_goals try (exfalso;omega)
       all_goals (repeat' (first | (refine uP rfl ?_;(first | ((first | refine uN rfl ?_);(first | (refine uE (EvF.conv rfl rfl byte_und int_undI (by omega) (by omega)) rfl rfl ?_)|(refine uE (uQ (b:=false) rfl rfl rfl (congrArg some (nd_f (Eq.refl (1 : Int))))) rfl rfl ?_)|(refine uE (uQ (b:=false) rfl rfl rfl (congrArg some (nd_f (Eq.refl (0 : Int))))) rfl rfl ?_)|(refine uE (EvF.add64 rfl rfl rfl (by omega) (by omega)) rfl rfl ?_)|(refine uE (uM rfl rfl) rfl rfl ?_)|(refine uE (uA rfl rfl) rfl rfl ?_)))))|(refine uD rfl ?_;refine hK _ _ ?_;clear hK K) | refine uR rfl (fun K hK=>?_) | refine X.skip rfl ?_ | (refine X.ite rfl rfl (fun hc=>?_);(first | (with_reducible refine Xb.f hc ?_)) <;> clear hc)))
       all_goals try (exfalso;contradiction)
       all_goals exact ⟨_,_,⟨b14,0,cSp s,some 35,2⟩::⟨b8,0,cBx e,some 81,2⟩::⟨b3,0,cRm R ⟨q1,q2,some ⟨bb,off,none⟩,q4,q5,q6⟩,some 26,5⟩::H,(by repeat (first | exact uU _ | refine uV rfl ?_)),(by repeat (first | exact qR _ | apply qK | apply qC)),⟨m + 1,s,rfl,by omega,by omega,(fun _=>hgo),rfl,rfl⟩,by omega⟩
      ·repeat' (first | (refine uP rfl ?_;(first | ((first | refine uN rfl ?_ | (refine Xo.g rfl rfl ?_;with_reducible refine Xw.tt ?_)|(refine Xo.g rfl rfl ?_;with_reducible refine Xw.ff ?_));(first | (refine uE (uL rfl rfl (uW (te rfl) rfl (qH _) rfl)) rfl rfl ?_)|(refine uE (uQ (b:=true) rfl rfl rfl (congrArg some (decide_eq_true hlt))) rfl rfl ?_)|(refine uC (uT rfl (Args.cons rfl (Args.cons rfl (Args.cons rfl Args.nil)))) rfl rfl (ky _ (hR.sub (fun _ h=>by repeat (first | exact h | apply qT)))) ?_;rintro _ _ ⟨rfl,rfl⟩)|(refine uC (uT rfl (Args.cons rfl (Args.cons rfl (Args.cons rfl (Args.cons rfl Args.nil))))) rfl rfl (kk _ (hR.sub (fun _ h=>by repeat (first | exact h | apply qT)))) ?_;rintro _ _ ⟨rfl,rfl⟩)|(refine uE (uQ (b:=false) rfl rfl rfl (congrArg some (nd_f (Eq.refl (0 : Int))))) rfl rfl ?_)|(refine uE (uQ (b:=true) rfl rfl rfl (congrArg some (decide_eq_true (Eq.refl (0 : Int))))) rfl rfl ?_)|(refine Xg.st (StF.alloc rfl Try.zeroValue35 rfl) rfl rfl ?_;rintro _ _ ⟨bx,rfl,rfl⟩)|(refine Xg.st0 (StF.storeAll (i:=0) (vs:=cSp s) rfl rfl rfl (te rfl) rfl rfl rfl rfl) rfl ?_;rintro _ _ ⟨rfl,rfl⟩;dsimp only [List.set])|(refine Xg.st0 (StF.storeAll (i:=1) (vs:=cSp s) (cs:=cSp L) rfl rfl rfl (te rfl) rfl rfl rfl rfl) rfl ?_;rintro _ _ ⟨rfl,rfl⟩;dsimp only [List.set])|(refine uE (uQ (b:=false) rfl rfl rfl (congrArg some (decide_eq_false n0))) rfl rfl ?_)|(refine uE (uQ (b:=false) rfl rfl rfl (congrArg some (decide_eq_false n1))) rfl rfl ?_)|(refine uE (uQ (b:=false) rfl rfl rfl (congrArg some (decide_eq_false n2))) rfl rfl ?_)|(refine uE (uQ (b:=false) rfl rfl rfl (congrArg some (decide_eq_false hml))) rfl rfl ?_)|(refine uE (uM rfl rfl) rfl rfl ?_)|(refine uE (uA rfl rfl) rfl rfl ?_)|(refine uE (EvF.pickT rfl rfl rfl) rfl rfl ?_)|(refine uE (EvF.pickF rfl rfl rfl) rfl rfl ?_)|(refine uE (uQ rfl rfl rfl rfl) rfl rfl ?_)|(refine uE (uF rfl rfl (te rfl) rfl (te rfl) (by decide)) rfl rfl ?_)|(refine uE (uL rfl rfl (uO (te rfl) rfl (qH _) rfl)) rfl rfl ?_)|(refine uE (uL rfl rfl (uO (te rfl) rfl (qT _ (qH _)) rfl)) rfl rfl ?_)|(refine uE (uL rfl rfl (uO (te rfl) rfl (qT _ (qT _ (qH _))) rfl)) rfl rfl ?_)|(refine uE (uL rfl rfl (uW (te rfl) rfl (qT _ (qT _ (qH _))) rfl)) rfl rfl ?_)|(refine uE (uL rfl rfl (uW (te rfl) rfl (qT _ (qT _ (qT _ (qH _)))) rfl)) rfl rfl ?_)|(refine uE (uX rfl rfl rfl) rfl rfl ?_)))|(refine Xo.g rfl rfl ?_;(first | (with_reducible refine Xw.ft rfl rfl ?_)))|(refine Xo.sk rfl rfl rfl rfl ?_)))|(refine uD rfl ?_;refine hK _ _ ?_;clear hK K) | refine uS rfl ?_ | refine uR rfl (fun K hK=>?_) | refine X.block rfl ?_ | refine X.skip rfl ?_ | (refine X.ite rfl rfl (fun hc=>?_);(first | (with_reducible refine Xb.t hc ?_)|(with_reducible refine Xb.f hc ?_)|(with_reducible refine Xb.case hc (fun h=>?_) (fun h=>?_))) <;> clear hc))
       all_goals try (exfalso;contradiction)
       all_goals (rcases g2 with ⟨x1,rfl⟩ | ⟨x1,rfl⟩)
       all_goals try (exfalso;omega)
       all_goals (repeat' (first | (refine uP rfl ?_;(first | ((first | refine uN rfl ?_);(first | (refine uE (EvF.conv rfl rfl byte_und int_undI (by omega) (by omega)) rfl rfl ?_)|(refine uE (uQ (b:=false) rfl rfl rfl (congrArg some (nd_f (Eq.refl (1 : Int))))) rfl rfl ?_)|(refine uE (uQ (b:=false) rfl rfl rfl (congrArg some (nd_f (Eq.refl (0 : Int))))) rfl rfl ?_)|(refine uE (EvF.add64 rfl rfl rfl (by omega) (by omega)) rfl rfl ?_)|(refine uE (uM rfl rfl) rfl rfl ?_)|(refine uE (uA rfl rfl) rfl rfl ?_)))))|(refine uD rfl ?_;refine hK _ _ ?_;clear hK K) | refine uR rfl (fun K hK=>?_) | refine X.skip rfl ?_ | (refine X.ite rfl rfl (fun hc=>?_);(first | (with_reducible refine Xb.f hc ?_)) <;> clear hc)))
       all_goals try (exfalso;contradiction)
       all_goals exact ⟨_,_,⟨b14,0,cSp s,some 35,2⟩::⟨b8,0,cBx e,some 81,2⟩::⟨b3,0,cRm R ⟨q1,q2,some ⟨bb,off,none⟩,q4,q5,q6⟩,some 26,5⟩::H,(by repeat (first | exact uU _ | refine uV rfl ?_)),(by repeat (first | exact qR _ | apply qK | apply qC)),⟨m + 1,s,rfl,by omega,by omega,(fun _=>hgo),rfl,rfl⟩,by omega⟩
     ·repeat' (first | (refine uP rfl ?_;(first | ((first | refine uN rfl ?_);(first | (refine uE (uQ (b:=false) rfl rfl rfl (congrArg some (decide_eq_false hlt))) rfl rfl ?_)|(refine uE (uM rfl rfl) rfl rfl ?_)|(refine uE (uA rfl rfl) rfl rfl ?_)|(refine uE (uF rfl rfl (te rfl) rfl (te rfl) (by decide)) rfl rfl ?_)|(refine uE (uL rfl rfl (uO (te rfl) rfl (qT _ (qT _ (qH _))) rfl)) rfl rfl ?_)))))|(refine uD rfl ?_;refine hK _ _ ?_;clear hK K) | refine uS rfl ?_ | refine uR rfl (fun K hK=>?_)|(refine X.brk rfl ?_;repeat (first | refine blockX_hit rfl ?_ | refine blockX_miss (by decide) ?_)) | refine X.ret rfl ?_ | (refine X.ite rfl rfl (fun hc=>?_);(first | (with_reducible refine Xb.f hc ?_)) <;> clear hc))
      all_goals try (exfalso;contradiction)
      exact ret_one (by simp) Try.results9 rfl (H' := _) (qR _) rfl
    ·repeat' (first | (refine uP rfl ?_;(first | ((first | refine uN rfl ?_ | (refine Xo.g rfl rfl ?_;with_reducible refine Xw.tt ?_)|(refine Xo.g rfl rfl ?_;with_reducible refine Xw.ff ?_));(first | (refine uC (uT rfl (Args.cons rfl (Args.cons rfl (Args.cons rfl Args.nil)))) rfl rfl (kp _ (hR.sub (fun _ h=>by repeat (first | exact h | apply qT)))) ?_;rintro _ _ ⟨rfl,rfl⟩)|(refine uC (uT rfl (Args.cons rfl (Args.cons rfl (Args.cons rfl Args.nil)))) rfl rfl (ks _ (hR.sub (fun _ h=>by repeat (first | exact h | apply qT)))) ?_;rintro _ _ ⟨rfl,rfl⟩)|(refine uE (uQ (b:=false) rfl rfl rfl (congrArg some (nd_f (Eq.refl (0 : Int))))) rfl rfl ?_)|(refine uE (uQ (b:=false) rfl rfl rfl (congrArg some (nd_f (Eq.refl (6 : Int))))) rfl rfl ?_)|(refine uE (uQ (b:=true) rfl rfl rfl (congrArg some (nd_t (show ¬ (6 : Int)=0 by decide)))) rfl rfl ?_)|(refine Xg.st (StF.alloc rfl Try.zeroValue35 rfl) rfl rfl ?_;rintro _ _ ⟨bx,rfl,rfl⟩)|(refine Xg.st0 (StF.storeAll (i:=0) (vs:=cSp ⟨0,0⟩) rfl rfl rfl (te rfl) rfl rfl rfl rfl) rfl ?_;rintro _ _ ⟨rfl,rfl⟩;dsimp only [List.set])|(refine uE (EvF.build (cs:=cSp ⟨0,0⟩) rfl ArgsP.nil (te rfl) (Places.cons (te rfl) (Places.cons (te rfl) Places.nil)) Try.zeroValue35 rfl) rfl rfl ?_)|(refine uE (uM rfl rfl) rfl rfl ?_)|(refine uE (uA rfl rfl) rfl rfl ?_)|(refine uE (EvF.pickT rfl rfl rfl) rfl rfl ?_)|(refine uE (EvF.pickF rfl rfl rfl) rfl rfl ?_)|(refine uE (uF rfl rfl (te rfl) rfl (te rfl) (by decide)) rfl rfl ?_)|(refine uE (uL rfl rfl (uO (te rfl) rfl (qH _) rfl)) rfl rfl ?_)|(refine uE (uL rfl rfl (uO (te rfl) rfl (qT _ (qH _)) rfl)) rfl rfl ?_)|(refine uE (uL rfl rfl (uW (te rfl) rfl (qT _ (qH _)) rfl)) rfl rfl ?_)|(refine uE (uX rfl rfl rfl) rfl rfl ?_)))|(refine Xo.g rfl rfl ?_;(first | (with_reducible refine Xw.ft rfl rfl ?_)))|(refine Xo.sk rfl rfl rfl rfl ?_)))|(refine uD rfl ?_;refine hK _ _ ?_;clear hK K) | refine uS rfl ?_ | refine uR rfl (fun K hK=>?_) | refine X.block rfl ?_ | refine X.skip rfl ?_ | (refine X.ite rfl rfl (fun hc=>?_);(first | (with_reducible refine Xb.f hc ?_)) <;> clear hc))
     all_goals try (exfalso;contradiction)
     generalize bx = b14
     refine X.lp rfl (fun r F' H' => ∃ (m : Int) (L : Sp),r = (R.months - m).toNat∧e.made ≤ m∧m ≤ R.months∧(e.made < m → L = rng R R.mats ⟨e.id,m - 1⟩ zp)∧⟨b14,0,cSp L,some 35,2⟩::⟨b8,0,cBx e,some 81,2⟩::⟨b3,0,cRm R ⟨q1,q2,some ⟨bb,off,none⟩,q4,q5,q6⟩,some 26,5⟩::H = H'∧F' = [(3,.pointer (some ⟨b3,0,none⟩)),(7,.bool true),(8,.pointer (some ⟨b8,0,none⟩)),(9,.int .i64 n),(10,.int .i64 a),(11,.int .i64 6),(12,.int .i64 b),(13,.int .i64 6),(14,.pointer (some ⟨b14,0,none⟩)),(15,.int .i64 m)])
      (R.months - e.made).toNat [(3,.pointer (some ⟨b3,0,none⟩)),(7,.bool true),(8,.pointer (some ⟨b8,0,none⟩)),(9,.int .i64 n),(10,.int .i64 a),(11,.int .i64 6),(12,.int .i64 b),(13,.int .i64 6),(14,.pointer (some ⟨b14,0,none⟩)),(15,.int .i64 e.made)] (⟨b14,0,cSp ⟨0,0⟩,some 35,2⟩::⟨b8,0,cBx e,some 81,2⟩::⟨b3,0,cRm R ⟨q1,q2,some ⟨bb,off,none⟩,q4,q5,q6⟩,some 26,5⟩::H) (by repeat (first | exact uU _ | refine uV rfl ?_)) (qR _) ⟨e.made,⟨0,0⟩,rfl,Int.le_refl _,by omega,(fun h=>by omega),rfl,rfl⟩ ?_
     rintro _ _ _ ⟨m,L,rfl,hm1,hm2,hL,rfl,rfl⟩
     by_cases hlt : m < R.months
     ·have hth : there R e m:=⟨heb,hm1,by omega⟩
      have hrb:=rdy_bx hrd heb hm1 (show m ≤ R.months - 1 by omega)
      have ky:=fun S hS=>kYellow_spec R ⟨q1,q2,some ⟨bb,off,none⟩,q4,q5,q6⟩ e.id m S hS hlb
      have kk:=fun S hS=>kKnown_spec R ⟨q1,q2,some ⟨bb,off,none⟩,q4,q5,q6⟩ e.id m n S hS hlb
      rw [rdy_yel hrd hrb.2.1 hrb.2.2] at ky kk
      have g0:=mon_zero hrd hth
      have g1:=rdy_bdz hrd hrb.2.1 hrb.2.2
      have g2:=hk m hth
      have g3:=mon_last hrd hth
      obtain ⟨s,hs⟩ : ∃ s,s = rng R R.mats ⟨e.id,m⟩ zp:=⟨_,rfl⟩
      rw [← hs] at ky kk g0 g1 g2 g3
      obtain ⟨t,ht⟩ : ∃ t,t = toldF s n:=⟨_,rfl⟩
      rw [show knP (s,0) n = (t,0) by rw [ht];rfl] at kk
      rw [← ht] at g2
      clear ht
      have n0 : ¬ s.lo < 0:=by omega
      have n1 : ¬ s.lo > s.hi:=by omega
      have n2 : ¬ s.hi > 60:=by omega
      have hgo : s = rng R R.mats ⟨e.id,m + 1 - 1⟩ zp:=by rw [Int.add_sub_cancel];exact hs
      by_cases hml : m > e.made
      ·obtain rfl:=hL hml
       obtain ⟨⟨y1,y2⟩,⟨y3,y4⟩,y5,y6,y7,y8⟩:=g3 hml
       obtain ⟨L,hLL⟩ : ∃ L,L = rng R R.mats ⟨e.id,m - 1⟩ zp:=⟨_,rfl⟩
       rw [← hLL] at y1 y2 y3 y4 y5 y6 y7 y8 ⊢
       clear hLL
       have y1' : ¬ s.lo < L.lo:=by omega
       have y2' : ¬ s.hi < L.hi:=by omega
       have y3' : ¬ s.lo > L.lo + R.step:=by omega
       have y4' : ¬ s.hi > L.hi + R.step:=by omega
       repeat' (first | (refine uP rfl ?_;(first | ((first | refine uN rfl ?_ | (refine Xo.g rfl rfl ?_;with_reducible refine Xw.tt ?_)|(refine Xo.g rfl rfl ?_;with_reducible refine Xw.ff ?_));(first | (refine uE (uL rfl rfl (uW (te rfl) rfl (qH _) rfl)) rfl rfl ?_)|(refine uE (uQ (b:=true) rfl rfl rfl (congrArg some (decide_eq_true hlt))) rfl rfl ?_)|(refine uC (uT rfl (Args.cons rfl (Args.cons rfl (Args.cons rfl Args.nil)))) rfl rfl (ky _ (hR.sub (fun _ h=>by repeat (first | exact h | apply qT)))) ?_;rintro _ _ ⟨rfl,rfl⟩)|(refine uC (uT rfl (Args.cons rfl (Args.cons rfl (Args.cons rfl (Args.cons rfl Args.nil))))) rfl rfl (kk _ (hR.sub (fun _ h=>by repeat (first | exact h | apply qT)))) ?_;rintro _ _ ⟨rfl,rfl⟩)|(refine uE (uQ (b:=false) rfl rfl rfl (congrArg some (nd_f (Eq.refl (0 : Int))))) rfl rfl ?_)|(refine Xg.st (StF.alloc rfl Try.zeroValue35 rfl) rfl rfl ?_;rintro _ _ ⟨bx,rfl,rfl⟩)|(refine Xg.st0 (StF.storeAll (i:=0) (vs:=cSp s) rfl rfl rfl (te rfl) rfl rfl rfl rfl) rfl ?_;rintro _ _ ⟨rfl,rfl⟩;dsimp only [List.set])|(refine Xg.st0 (StF.storeAll (i:=1) (vs:=cSp s) (cs:=cSp L) rfl rfl rfl (te rfl) rfl rfl rfl rfl) rfl ?_;rintro _ _ ⟨rfl,rfl⟩;dsimp only [List.set])|(refine uE (uQ (b:=false) rfl rfl rfl (congrArg some (decide_eq_false n0))) rfl rfl ?_)|(refine uE (uQ (b:=false) rfl rfl rfl (congrArg some (decide_eq_false n1))) rfl rfl ?_)|(refine uE (uQ (b:=false) rfl rfl rfl (congrArg some (decide_eq_false n2))) rfl rfl ?_)|(refine uE (uQ (b:=true) rfl rfl rfl (congrArg some (decide_eq_true hml))) rfl rfl ?_)|(refine uE (uQ (b:=false) rfl rfl rfl (congrArg some (decide_eq_false y1'))) rfl rfl ?_)|(refine uE (uQ (b:=false) rfl rfl rfl (congrArg some (decide_eq_false y2'))) rfl rfl ?_)|(refine uE (uQ (b:=false) rfl rfl rfl (congrArg some (decide_eq_false y3'))) rfl rfl ?_)|(refine uE (uQ (b:=false) rfl rfl rfl (congrArg some (decide_eq_false y4'))) rfl rfl ?_)|(refine uE (EvF.add64 (p:=L.lo) (q:=R.step) rfl rfl rfl (by omega) (by omega)) rfl rfl ?_)|(refine uE (EvF.add64 (p:=L.hi) (q:=R.step) rfl rfl rfl (by omega) (by omega)) rfl rfl ?_)|(refine uE (uM rfl rfl) rfl rfl ?_)|(refine uE (uA rfl rfl) rfl rfl ?_)|(refine uE (EvF.pickT rfl rfl rfl) rfl rfl ?_)|(refine uE (EvF.pickF rfl rfl rfl) rfl rfl ?_)|(refine uE (uF rfl rfl (te rfl) rfl (te rfl) (by decide)) rfl rfl ?_)|(refine uE (uL rfl rfl (uO (te rfl) rfl (qH _) rfl)) rfl rfl ?_)|(refine uE (uL rfl rfl (uO (te rfl) rfl (qT _ (qH _)) rfl)) rfl rfl ?_)|(refine uE (uL rfl rfl (uO (te rfl) rfl (qT _ (qT _ (qH _))) rfl)) rfl rfl ?_)|(refine uE (uL rfl rfl (uO (te rfl) rfl (qT _ (qT _ (qT _ (qH _)))) rfl)) rfl rfl ?_)|(refine uE (uL rfl rfl (uW (te rfl) rfl (qT _ (qT _ (qH _))) rfl)) rfl rfl ?_)|(refine uE (uL rfl rfl (uW (te rfl) rfl (qT _ (qT _ (qT _ (qH _)))) rfl)) rfl rfl ?_)|(refine uE (uX rfl rfl rfl) rfl rfl ?_)))|(refine Xo.g rfl rfl ?_;(first | (with_reducible refine Xw.ft rfl rfl ?_)))))|(refine uD rfl ?_;refine hK _ _ ?_;clear hK K) | refine uS rfl ?_ | refine uR rfl (fun K hK=>?_) | refine X.block rfl ?_ | refine X.skip rfl ?_ | (refine X.ite rfl rfl (fun hc=>?_);(first | (with_reducible refine Xb.t hc ?_)|(with_reducible refine Xb.f hc ?_)) <;> clear hc))
       all_goals try (exfalso;contradiction)
       all_goals (rcases g2 with rfl)
       all_goals try (exfalso;omega)
       all_goals (repeat' (first | (refine uP rfl ?_;(first | ((first | refine uN rfl ?_);(first | (refine uE (EvF.conv rfl rfl byte_und int_undI (by omega) (by omega)) rfl rfl ?_)|(refine uE (uQ (b:=false) rfl rfl rfl (congrArg some (nd_f (Eq.refl (0 : Int))))) rfl rfl ?_)|(refine uE (EvF.add64 rfl rfl rfl (by omega) (by omega)) rfl rfl ?_)|(refine uE (uM rfl rfl) rfl rfl ?_)|(refine uE (uA rfl rfl) rfl rfl ?_)))))|(refine uD rfl ?_;refine hK _ _ ?_;clear hK K) | refine uR rfl (fun K hK=>?_) | refine X.skip rfl ?_ | (refine X.ite rfl rfl (fun hc=>?_);(first | (with_reducible refine Xb.f hc ?_)) <;> clear hc)))
       all_goals try (exfalso;contradiction)
       all_goals exact ⟨_,_,⟨b14,0,cSp s,some 35,2⟩::⟨b8,0,cBx e,some 81,2⟩::⟨b3,0,cRm R ⟨q1,q2,some ⟨bb,off,none⟩,q4,q5,q6⟩,some 26,5⟩::H,(by repeat (first | exact uU _ | refine uV rfl ?_)),(by repeat (first | exact qR _ | apply qK | apply qC)),⟨m + 1,s,rfl,by omega,by omega,(fun _=>hgo),rfl,rfl⟩,by omega⟩
      ·repeat' (first | (refine uP rfl ?_;(first | ((first | refine uN rfl ?_ | (refine Xo.g rfl rfl ?_;with_reducible refine Xw.ff ?_));(first | (refine uE (uL rfl rfl (uW (te rfl) rfl (qH _) rfl)) rfl rfl ?_)|(refine uE (uQ (b:=true) rfl rfl rfl (congrArg some (decide_eq_true hlt))) rfl rfl ?_)|(refine uC (uT rfl (Args.cons rfl (Args.cons rfl (Args.cons rfl Args.nil)))) rfl rfl (ky _ (hR.sub (fun _ h=>by repeat (first | exact h | apply qT)))) ?_;rintro _ _ ⟨rfl,rfl⟩)|(refine uC (uT rfl (Args.cons rfl (Args.cons rfl (Args.cons rfl (Args.cons rfl Args.nil))))) rfl rfl (kk _ (hR.sub (fun _ h=>by repeat (first | exact h | apply qT)))) ?_;rintro _ _ ⟨rfl,rfl⟩)|(refine uE (uQ (b:=false) rfl rfl rfl (congrArg some (nd_f (Eq.refl (0 : Int))))) rfl rfl ?_)|(refine Xg.st (StF.alloc rfl Try.zeroValue35 rfl) rfl rfl ?_;rintro _ _ ⟨bx,rfl,rfl⟩)|(refine Xg.st0 (StF.storeAll (i:=0) (vs:=cSp s) rfl rfl rfl (te rfl) rfl rfl rfl rfl) rfl ?_;rintro _ _ ⟨rfl,rfl⟩;dsimp only [List.set])|(refine Xg.st0 (StF.storeAll (i:=1) (vs:=cSp s) (cs:=cSp L) rfl rfl rfl (te rfl) rfl rfl rfl rfl) rfl ?_;rintro _ _ ⟨rfl,rfl⟩;dsimp only [List.set])|(refine uE (uQ (b:=false) rfl rfl rfl (congrArg some (decide_eq_false n0))) rfl rfl ?_)|(refine uE (uQ (b:=false) rfl rfl rfl (congrArg some (decide_eq_false n1))) rfl rfl ?_)|(refine uE (uQ (b:=false) rfl rfl rfl (congrArg some (decide_eq_false n2))) rfl rfl ?_)|(refine uE (uQ (b:=false) rfl rfl rfl (congrArg some (decide_eq_false hml))) rfl rfl ?_)|(refine uE (uM rfl rfl) rfl rfl ?_)|(refine uE (uA rfl rfl) rfl rfl ?_)|(refine uE (EvF.pickF rfl rfl rfl) rfl rfl ?_)|(refine uE (uF rfl rfl (te rfl) rfl (te rfl) (by decide)) rfl rfl ?_)|(refine uE (uL rfl rfl (uO (te rfl) rfl (qH _) rfl)) rfl rfl ?_)|(refine uE (uL rfl rfl (uO (te rfl) rfl (qT _ (qH _)) rfl)) rfl rfl ?_)|(refine uE (uL rfl rfl (uO (te rfl) rfl (qT _ (qT _ (qH _))) rfl)) rfl rfl ?_)|(refine uE (uL rfl rfl (uW (te rfl) rfl (qT _ (qT _ (qH _))) rfl)) rfl rfl ?_)|(refine uE (uL rfl rfl (uW (te rfl) rfl (qT _ (qT _ (qT _ (qH _)))) rfl)) rfl rfl ?_)|(refine uE (uX rfl rfl rfl) rfl rfl ?_)))|(refine Xo.g rfl rfl ?_;(first | (with_reducible refine Xw.ft rfl rfl ?_)))|(refine Xo.sk rfl rfl rfl rfl ?_)))|(refine uD rfl ?_;refine hK _ _ ?_;clear hK K) | refine uS rfl ?_ | refine uR rfl (fun K hK=>?_) | refine X.block rfl ?_ | refine X.skip rfl ?_ | (refine X.ite rfl rfl (fun hc=>?_);(first | (with_reducible refine Xb.t hc ?_)|(with_reducible refine Xb.f hc ?_)) <;> clear hc))
       all_goals try (exfalso;contradiction)
       all_goals (rcases g2 with rfl)
       all_goals try (exfalso;omega)
       all_goals (repeat' (first | (refine uP rfl ?_;(first | ((first | refine uN rfl ?_);(first | (refine uE (EvF.conv rfl rfl byte_und int_undI (by omega) (by omega)) rfl rfl ?_)|(refine uE (uQ (b:=false) rfl rfl rfl (congrArg some (nd_f (Eq.refl (0 : Int))))) rfl rfl ?_)|(refine uE (EvF.add64 rfl rfl rfl (by omega) (by omega)) rfl rfl ?_)|(refine uE (uM rfl rfl) rfl rfl ?_)|(refine uE (uA rfl rfl) rfl rfl ?_)))))|(refine uD rfl ?_;refine hK _ _ ?_;clear hK K) | refine uR rfl (fun K hK=>?_) | refine X.skip rfl ?_ | (refine X.ite rfl rfl (fun hc=>?_);(first | (with_reducible refine Xb.f hc ?_)) <;> clear hc)))
       all_goals try (exfalso;contradiction)
       all_goals exact ⟨_,_,⟨b14,0,cSp s,some 35,2⟩::⟨b8,0,cBx e,some 81,2⟩::⟨b3,0,cRm R ⟨q1,q2,some ⟨bb,off,none⟩,q4,q5,q6⟩,some 26,5⟩::H,(by repeat (first | exact uU _ | refine uV rfl ?_)),(by repeat (first | exact qR _ | apply qK | apply qC)),⟨m + 1,s,rfl,by omega,by omega,(fun _=>hgo),rfl,rfl⟩,by omega⟩
     ·repeat' (first | (refine uP rfl ?_;(first | ((first | refine uN rfl ?_);(first | (refine uE (uQ (b:=false) rfl rfl rfl (congrArg some (decide_eq_false hlt))) rfl rfl ?_)|(refine uE (uM rfl rfl) rfl rfl ?_)|(refine uE (uA rfl rfl) rfl rfl ?_)|(refine uE (uF rfl rfl (te rfl) rfl (te rfl) (by decide)) rfl rfl ?_)|(refine uE (uL rfl rfl (uO (te rfl) rfl (qT _ (qT _ (qH _))) rfl)) rfl rfl ?_)))))|(refine uD rfl ?_;refine hK _ _ ?_;clear hK K) | refine uS rfl ?_ | refine uR rfl (fun K hK=>?_)|(refine X.brk rfl ?_;repeat (first | refine blockX_hit rfl ?_ | refine blockX_miss (by decide) ?_)) | refine X.ret rfl ?_ | (refine X.ite rfl rfl (fun hc=>?_);(first | (with_reducible refine Xb.f hc ?_)) <;> clear hc))
      all_goals try (exfalso;contradiction)
      exact ret_one (by simp) Try.results9 rfl (H' := _) (qR _) rfl
 ·refine Fc.mk (callable Try.call9) Try.func9 rfl Try.ntmps9 rfl ?_;dsimp only [fr]
  repeat' (first | (refine uP rfl ?_;(first | ((first | refine uN rfl ?_ | (refine Xo.g rfl rfl ?_;with_reducible refine Xw.ff ?_));(first | (refine uC (uT rfl Args.nil) rfl rfl (alive_spec _) ?_;rintro _ _ ⟨rfl,rfl⟩)|(refine uE (uL rfl rfl (uW (te rfl) rfl (qH _) rfl)) rfl rfl ?_)|(refine uC (uT rfl (Args.cons rfl Args.nil)) rfl rfl (ready_no R p _ (hR.sub (fun _ h=>by repeat (first | exact h | apply qT))) hrd) ?_;rintro _ _ ⟨rfl,rfl⟩)|(refine uE (uM rfl rfl) rfl rfl ?_)|(refine uE (uA rfl rfl) rfl rfl ?_)|(refine uE (EvF.pickT rfl rfl rfl) rfl rfl ?_)|(refine uE (EvF.pickF rfl rfl rfl) rfl rfl ?_)|(refine uE (uQ rfl rfl rfl rfl) rfl rfl ?_)|(refine uE (EvF.not rfl rfl) rfl rfl ?_)|(refine uE (uF rfl rfl (te rfl) rfl (te rfl) (by decide)) rfl rfl ?_)|(refine uE (EvF.lenSlice rfl rfl (te rfl)) rfl rfl ?_)|(refine uE (uL rfl rfl (uO (te rfl) rfl (qH _) rfl)) rfl rfl ?_)|(refine Xg.st (StF.boxAgg rfl rfl) rfl rfl ?_;rintro _ _ ⟨bx,rfl,rfl⟩)))|(refine Xo.g rfl rfl ?_;(first | (with_reducible refine Xw.tf rfl rfl ?_)|(with_reducible refine Xw.case (fun h=>?_) (fun h=>?_) <;> simp only [h,decide_true,decide_false,Bool.not_true,Bool.not_false,and_self,and_true,true_and,and_false,false_and])|(with_reducible refine Xw.caseB (fun h=>?_) (fun h=>?_) <;> simp only [h,decide_true,decide_false,Bool.not_true,Bool.not_false,and_self,and_true,true_and,and_false,false_and])))))|(refine uD rfl ?_;refine hK _ _ ?_;clear hK K) | refine uS rfl ?_ | refine uR rfl (fun K hK=>?_) | refine X.skip rfl ?_ | refine X.ret rfl ?_ | (refine X.ite rfl rfl (fun hc=>?_);(first | (with_reducible refine Xb.t hc ?_)|(with_reducible refine Xb.caseB hc (fun h=>?_) (fun h=>?_))) <;> clear hc))
  all_goals try (exfalso;contradiction)
  exact ret_one (by simp) Try.results9 rfl (H' := _) (qR _) rfl
end Go.Proofs.Ytmfppdpkalelhaa
end
section
set_option linter.unusedVariables false
namespace Go.Proofs.Ytmfppdpkalelhaa
open Go Go.Fw Go.ChangeShapes Go.WideShapes Go.ChangeAt Go.RowKit
set_option linter.unusedVariables false
set_option maxRecDepth 10000
def u8 (n : Int) : Prop:=0 ≤ n∧n ≤ 255
section
variable {H : Type} {enc : TypeId × Value → H} {w : World} {base : Nat} {spare : Nat → Bool} {held : Bool} {v : Value} {d : DataW H} {p : List MemPlace} {r : Reach} {b0 : Nat}
theorem u8_wf {n : Int} (h : (Lit.int .u8 n).wf = true) : u8 n:=by
 simp [Lit.wf,IntKind.min,IntKind.max,IntKind.signed,IntKind.bits] at h
 exact ⟨by omega,by omega⟩
theorem open_u8 (hv : Value.okWide Try.prog w r b0 5 v) (h : DataW.Trod enc Try.prog w base spare held 5 v d p) : ∃ n,v = .int .u8 n∧u8 n:=by
 obtain ⟨n,h1,_,_,h2⟩:=Go.ChangeShapes.open_int Try.underlying5 hv h
 exact ⟨n,h1,u8_wf h2⟩
end
end Go.Proofs.Ytmfppdpkalelhaa
end
section
set_option linter.unusedVariables false
namespace Go.Proofs.Ytmfppdpkalelhaa
open Go Go.Fw Go.ChangeShapes Go.WideShapes Go.ChangeAt Go.RowKit
set_option linter.unusedVariables false
set_option maxRecDepth 100000
theorem boxMonths_run (R : Rm) (pR : Pl) (z : Int) (y : Int) (w : World) (hz : u8 z) (hy : u8 y) (hR : InRm w R pR) :
  Calls Try.prog 9 #[.agg (cRm R pR).toArray,.int .u8 z,.int .u8 y] w fun e w' => e = .returned (.bool true)∧Below w.heap.size w w' :=
 Fc.calls (H:=rowsRm R pR) (boxMonths_spec R pR z y hz hy _ (hR.rm (fun _ h=>h))) (fun r hr=>by
  exact hR.ok r hr
 )
theorem boxMonths_lifted (os : Os) (started : os.Started) (H : Type) (enc : TypeId × Value → H) :
  ReturnsInHanded {} Try.checked os 9 .any (Rows.boxMonthsSpec.pre6 enc Try.prog Try.f9 Rows.boxMonthsRow.domain false) (Rows.boxMonthsSpec.post enc Try.prog Try.f9 false true false false):=by
 refine returnsInHanded_of_change (C:=Try.checked) ownK started (by kernel_rfl) Try.func9
  (ChangeSpec.witness6 (enc:=enc) (C:=Try.checked) false ⟨#[], #[.agg (cRm ⟨0,0,[],[],[]⟩ ⟨none,0,none,0,none,0⟩).toArray,.int .u8 0,.int .u8 0],[]⟩ 8 (by kernel_rfl) (by kernel_rfl) (by kernel_rfl) (by kernel_rfl)) ?_
 intro W base args ds gs before hval0 hW hcnd _
 have hval : ∀ (j : Nat) t v,Try.f9.params[j]? = some t → args[j]? = some v → Value.okWide Try.prog W .any base t v:=hval0
 have hW' := hW
 obtain ⟨p,q,hA0,hV,rfl,hfz,hnd⟩:=hW
 have hA : DataW.TrodAll enc Try.prog W 0 (fun _=>true) true Try.f9.params.toList args.toList ds p:=hA0
 rw [Try.params9] at hA hval
 obtain ⟨v0,vs0,d0,ds0,p0,q0,hargs,rfl,rfl,h0,r0⟩:=trodAll_cons hA
 obtain ⟨v1,vs1,d1,ds1,p1,q1,rfl,rfl,rfl,h1,r1⟩:=trodAll_cons r0
 obtain ⟨v2,vs2,d2,ds2,p2,q2,rfl,rfl,rfl,h2,r2⟩:=trodAll_cons r1
 obtain ⟨rfl,rfl,rfl⟩:=trodAll_nil r2
 obtain rfl : args = #[v0,v1,v2]:=by cases args;simp_all
 obtain ⟨rfl,rfl⟩:=trodVars_none hV
 have lt : ∀ {t v d ps},DataW.Trod enc Try.prog W 0 (fun _=>true) true t v d ps → ∀ x ∈ ps,x.block < W.heap.size:=fun h=>by obtain ⟨m,hm⟩:=h;exact DataW.trod_lt m _ _ _ hm
 obtain ⟨R,pR,rfl,hR⟩:=open_room (hval 0 _ v0 rfl rfl) h0
 obtain ⟨z,rfl,hz⟩:=open_u8 (hval 1 _ v1 rfl rfl) h1
 obtain ⟨y,rfl,hy⟩:=open_u8 (hval 2 _ v2 rfl rfl) h2
 clear hA0 hval0
 refine (boxMonths_run R pR z y W hz hy hR).mono fun e W' ⟨he,bel⟩=>?_
 subst he
 exact ⟨_,rfl,_,_,_,[],_,[],hW',trodAll_mk1 (shut_bool Try.underlying4 _),(trodAll_cons_mk (Below.trod laidO (by kernel_rfl) (of_decide_eq_true (by kernel_rfl)) h0 bel (lt h0)) (trodAll_cons_mk (Below.trod laidO (by kernel_rfl) (of_decide_eq_true (by kernel_rfl)) h1 bel (lt h1)) (trodAll_cons_mk (Below.trod laidO (by kernel_rfl) (of_decide_eq_true (by kernel_rfl)) h2 bel (lt h2)) trodAll_mk0))),rfl,bel.frame _,fun h=>by cases h⟩
theorem boxMonths_over : Rows.boxMonthsRow.holds Try.pinned (OpenSpec.ofChange Rows.boxMonthsSpec) :=
 OpenClaim.holds_of_wide 9 Try.f9 rfl rfl rfl rfl rfl rfl rfl ⟨rfl,rfl,rfl,rfl,rfl⟩ rfl rfl rfl rfl rfl (by kernel_rfl) Try.func9 (by kernel_rfl)
  (of_decide_eq_true (by kernel_rfl)) (by unfold Func.isWrapper;first | (rw [if_pos (by decide +kernel)];kernel_rfl)|(rw [if_neg (by decide +kernel)];exact ⟨rfl,rfl⟩))
  (fun os started H enc _=>boxMonths_lifted os started H enc)
theorem boxMonths_proved : Rows.BoxMonthsSaid:=boxMonths_over
#print axioms boxMonths_proved
end Go.Proofs.Ytmfppdpkalelhaa
end
