/- BoxExamples: the law returns true (what the examples of the chapter tell of rooms, the limits, and the errors in their order, are as told). No condition. -/
import Derived.Test.YtmfppdpkalelhaaGreatW08
section
set_option linter.unusedVariables false
set_option linter.unusedSimpArgs false
namespace Go.Proofs.YtmfppdpkalelhaaGreat
open Go Go.Fw
set_option maxRecDepth 10000
def RT : Rm:={ RE with step := -1 }
def mtk (k : Nat) : Mt:=⟨(k : Int) + 1,3,1,2, -60,60⟩
def mmL (n : Nat) : List Mt:=mt1::(List.range n).map (fun i=>mtk (i + 1))
def RM : Rm:=roomE (mmL 7)
def bxF : List Bx:=[⟨1,0⟩,⟨2,1⟩,⟨3,0⟩,⟨4,0⟩]
def RF : Rm:={ RE with boxes:=bxF }
theorem okRF : roomOk RF:=by decide
theorem okRM : roomOk RM:=by decide
theorem noRT : ¬ roomOk RT:=by decide
theorem f22 (L : List Mt) : rng (roomE L) [] ⟨2,2⟩ zp = ⟨1,4⟩:=rng_eq ⟨fun z hz=>by have:=(veE hz).b2;have:=hz.zero;dsimp only;omega,⟨_,loF L,rfl⟩,⟨_,hiF L,rfl⟩⟩
theorem yE {a m : Int} {s : Sp} (h : openE RE [a] [m] = 0) (hr : rng RE [mt1] ⟨a,m⟩ zp = s) : yelF RE a m = (s,0):=by
 unfold yelF
 rw [if_pos h]
 exact congrArg (fun q=>(q,(0 : Int))) hr
theorem dfE {a b m : Int} {s : Sp} (h : openE RE [a,b] [m] = 0) (hn : a ≠ b) (hr : rng RE [mt1] ⟨a,m⟩ ⟨b,m⟩ = s) : difF RE a b m = (s,0):=by
 unfold difF
 rw [if_pos h,if_neg hn]
 exact congrArg (fun q=>(q,(0 : Int))) hr
theorem w1 : yelF RE 1 2 = (⟨4,8⟩,0):=yE (eE1 2 (by omega)) (r12 [mt1])
theorem w2 : yelF RE 2 2 = (⟨1,4⟩,0):=yE (eE12 [2] (by decide) 2 (by omega)) (r22 [mt1])
theorem w3 : yelF RE 2 1 = (⟨0,0⟩,0):=yE (eE12 [2] (by decide) 1 (by omega)) (r21 [mt1])
theorem w4 : difF RE 1 2 2 = (⟨3,5⟩,0):=dfE (eE12 _ two12 2 (by omega)) (by decide) (d2 [mt1])
theorem w5 : difF RE 2 1 2 = (⟨-5, -3⟩,0):=dfE (eE12 _ two21 2 (by omega)) (by decide) (d2' [mt1])
theorem w6 : knP (yelF RE 1 3) 4 = (2,0):=by rw [vYel];rfl
theorem w7 : knP (yelF RE 2 2) 5 = (0,0):=by rw [w2];rfl
theorem w8 : knP (difF RE 1 2 2) 0 = (2,0):=by rw [w4];rfl
theorem w9 : knP (difF RE 1 2 3) 0 = (1,0):=by rw [vDif];rfl
theorem w10 : freF RE 3 = ([1,2],0):=by
 unfold freF
 rw [if_pos (eE (fun a ha=>absurd ha List.not_mem_nil) (fun m hm=>by rw [List.mem_singleton.1 hm];exact ⟨by omega,by omega,fun h=>absurd h List.not_mem_nil⟩))]
 have s1 : stale RE 3 1 = false:=by
  unfold stale
  rw [thE (by omega),show RE.mats = [mt1] from rfl]
  simp [selfE,show rng RE [mt1] ⟨1,3⟩ ⟨2,3⟩ = ⟨-2,10⟩ from d3 [mt1]]
 have s2 : stale RE 3 2 = false:=by
  unfold stale
  rw [thE (by omega),show RE.mats = [mt1] from rfl]
  simp [selfE,show rng RE [mt1] ⟨2,3⟩ ⟨1,3⟩ = ⟨-10,2⟩ from d3' [mt1]]
 unfold freL
 rw [thE (by omega)]
 simp [List.filter,s1,s2]
theorem w11 : whyF RE 2 2 = ([],0):=by
 unfold whyF
 rw [if_pos (eE12 [2] (by decide) 2 (by omega))]
 have h0 : prvN RE ⟨2,2⟩ ⟨1,4⟩ [] = true:=by
  show prvM RE ⟨2,2⟩ ⟨1,4⟩ [] = true
  unfold prvM
  rw [show rng RE [] ⟨2,2⟩ zp = ⟨1,4⟩ from f22 [mt1]]
  exact decide_eq_true rfl
 unfold whyL
 rw [show rng RE RE.mats ⟨2,2⟩ zp = ⟨1,4⟩ from r22 [mt1],show RE.mats.map (·.number) = [1] from rfl,show RE.mats.length + 1 = 2 from rfl]
 simp [fewG,lonG,h0]
theorem at12 {L : List Mt} {l : List Int} (hl : ∀ a ∈ l,a = 1∨a = 2) : allThere (roomE L) l:=fun a ha=>by
 rcases hl a ha with rfl | rfl
 ·exact ⟨⟨1,0⟩,List.mem_cons_self,rfl⟩
 ·exact ⟨⟨2,1⟩,List.mem_cons_of_mem _ List.mem_cons_self,rfl⟩
theorem o10 (l t : List Int) : openE RT l t = 10:=by
 unfold openE;rw [if_neg noRT]
theorem o6 : openE RO [9] [9] = 6:=by
 unfold openE
 rw [if_pos okRO,if_neg]
 intro h
 obtain ⟨b,hb,e⟩:=h 9 List.mem_cons_self
 rcases List.mem_cons.1 hb with rfl | hb
 ·cases e
 ·rcases List.mem_cons.1 hb with rfl | hb
  ·cases e
  ·exact absurd hb List.not_mem_nil
theorem o11 {R : Rm} (hok : roomOk R) {l : List Int} {m : Int} (h1 : allThere R l) (h2 : ¬ inTime R l [m]) : openE R l [m] = 11:=by
 unfold openE;rw [if_pos hok,if_pos h1,if_neg h2]
theorem o8 {l : List Int} {m : Int} (h1 : allThere RO l) (h2 : inTime RO l [m]) : openE RO l [m] = 8:=by
 unfold openE;rw [if_pos okRO,if_pos h1,if_pos h2,if_neg (show ¬ hasT RO RO.mats from oddE [mt1,mt2])]
theorem it3 (l : List Int) : inTime RO l [3]:=fun q hq=>by
 rw [List.mem_singleton.1 hq]
 refine ⟨⟨by omega,by show (3 : Int)≤4 - 1;omega⟩,?_⟩
 rintro ⟨b,hb,hb1,_⟩
 rcases List.mem_cons.1 hb with rfl | hb
 ·have : (0 : Int) > 3:=hb1;omega
 ·rcases List.mem_cons.1 hb with rfl | hb
  ·have : (1 : Int) > 3:=hb1;omega
  ·exact absurd hb List.not_mem_nil
theorem x1 : yelF RT 9 9 = (⟨0,0⟩,10):=by unfold yelF;rw [if_neg (by rw [o10];decide),o10]
theorem x2 : yelF RO 9 9 = (⟨0,0⟩,6):=by unfold yelF;rw [if_neg (by rw [o6];decide),o6]
theorem o20 : openE RO [2] [0] = 11:=o11 okRO (at12 (by decide)) (fun h=>(h 0 List.mem_cons_self).2 ⟨⟨2,1⟩,List.mem_cons_of_mem _ List.mem_cons_self,by show (1 : Int) > 0;omega,List.mem_cons_self⟩)
theorem o14 : openE RO [1] [4] = 11:=o11 okRO (at12 (by decide)) (fun h=>by have : (4 : Int)≤4 - 1:=(h 4 List.mem_cons_self).1.2;omega)
theorem x3 : yelF RO 2 0 = (⟨0,0⟩,11):=by unfold yelF;rw [if_neg (by rw [o20];decide),o20]
theorem x4 : yelF RO 1 4 = (⟨0,0⟩,11):=by unfold yelF;rw [if_neg (by rw [o14];decide),o14]
theorem o13 : openE RO [1] [3] = 8:=o8 (at12 (by decide)) (it3 _)
theorem o113 : openE RO [1,1] [3] = 8:=o8 (at12 (by decide)) (it3 _)
theorem x5 : yelF RO 1 3 = (⟨0,0⟩,8):=by unfold yelF;rw [if_neg (by rw [o13];decide),o13]
theorem x6 : difF RE 1 1 3 = (⟨0,0⟩,2):=by unfold difF;rw [if_pos (eE12 [1,1] (by decide) 3 (by omega)),if_pos rfl]
theorem x7 : knP (difF RO 1 1 3) 0 = (0,8):=by
 have : difF RO 1 1 3 = (⟨0,0⟩,8):=by unfold difF;rw [if_neg (by rw [o113];decide),o113]
 rw [this];rfl
theorem vSin6 {f : Sp → Bool} (h0 : f ⟨0,0⟩ = false) (h1 : f ⟨1,4⟩ = false) (h2 : f ⟨4,8⟩ = false) (h3 : f ⟨4,12⟩ = false) : sinF RE 1 f = (0,6):=by
 have e0 : sinP RE 1 f 0 = false:=(sE (k:=0) (by omega) (r10 [mt1])).trans h0
 have e1 : sinP RE 1 f 1 = false:=(sE (k:=1) (by omega) (r11 [mt1])).trans h1
 have e2 : sinP RE 1 f 2 = false:=(sE (k:=2) (by omega) (r12 [mt1])).trans h2
 have e3 : sinP RE 1 f 3 = false:=(sE (k:=3) (by omega) (r13 [mt1])).trans h3
 unfold sinF
 rw [if_pos (eE (fun a ha => .inl (List.mem_singleton.1 ha)) (fun m hm=>absurd hm List.not_mem_nil))]
 have : fstM (sinP RE 1 f) 0 4 = none:=by simp [fstM,e0,e1,e2,e3]
 rw [show RE.months.toNat = 4 from rfl,this]
 rfl
theorem x8 : sinF RE 1 (sinS false 13)=(0,6):=vSin6 (by decide) (by decide) (by decide) (by decide)
theorem x9 : sinF RE 1 (sinS true 5)=(0,6):=vSin6 (by decide) (by decide) (by decide) (by decide)
theorem dE12 {k : Nat} {s t : Sp} (h1 : rng RE [mt1] ⟨1,(k : Int)⟩ zp = s) (h2 : 1 ≤ k → rng RE [mt1] ⟨2,(k : Int)⟩ zp = t) : dueL RE 12 k = (if 12 < s.hi then [1] else [])++(if 1 ≤ k∧12 < t.hi then [2] else []):=by
 unfold dueL
 show (([⟨1,0⟩,⟨2,1⟩] : List Bx).filter _).map _ = _
 rw [filt2]
 dsimp only
 rw [show RE.mats = [mt1] from rfl,h1]
 congr 1
 ·simp
 ·by_cases hk : 1 ≤ k
  ·rw [h2 hk]
   have : (1 : Int)≤k:=by omega
   simp [hk,this]
  ·have : ¬ (1 : Int)≤k:=by omega
   simp [hk,this]
theorem x10 : dueF RE 12 = (0,[],6):=by
 unfold dueF
 rw [if_pos (eE (fun a ha=>absurd ha List.not_mem_nil) (fun m hm=>absurd hm List.not_mem_nil))]
 have e0 : dueL RE 12 0 = []:=(dE12 (k:=0) (t:=⟨0,0⟩) (r10 [mt1]) (fun h=>by omega)).trans (by decide)
 have e1 : dueL RE 12 1 = []:=(dE12 (k:=1) (r11 [mt1]) (fun _=>r21 [mt1])).trans (by decide)
 have e2 : dueL RE 12 2 = []:=(dE12 (k:=2) (r12 [mt1]) (fun _=>r22 [mt1])).trans (by decide)
 have e3 : dueL RE 12 3 = []:=(dE12 (k:=3) (r13 [mt1]) (fun _=>r23 [mt1])).trans (by decide)
 show dueS (dueL RE 12) 0 4 = _
 simp [dueS,e0,e1,e2,e3]
theorem x11 : askF RE 0 = ((0,0,0),6):=by
 unfold askF
 rw [if_pos (eE (fun a ha=>absurd ha List.not_mem_nil) (fun m hm=>by rw [List.mem_singleton.1 hm];exact ⟨by omega,by omega,fun h=>absurd h List.not_mem_nil⟩)),if_pos]
 unfold thI
 show ((([⟨1,0⟩,⟨2,1⟩] : List Bx).filter _).map _).length < 2
 rw [filt2]
 decide
theorem x12 : freF RE (-1)=([],11):=by
 have h : openE RE [] [-1] = 11:=o11 okRE (fun a ha=>absurd ha List.not_mem_nil) (fun h=>by have:=(h (-1) List.mem_cons_self).1.1;omega)
 unfold freF;rw [if_neg (by rw [h];decide),h]
theorem x13 : putF RM ⟨0,0,0,0,0,0⟩ = (Rz,9):=by unfold putF;rw [if_pos okRM,if_pos (by decide)]
theorem x14 : putF RE ⟨1,2,1,2,0,0⟩ = (Rz,12):=by unfold putF;rw [if_pos okRE,if_neg (by decide),if_neg (by decide)]
theorem x15 : strF RE [2] = (Rz,12):=by unfold strF;rw [if_pos okRE,if_neg (fun h=>by have:=h.2;revert this;decide)]
theorem x16 : addF RF ⟨0,0⟩ = (Rz,9):=by unfold addF;rw [if_pos okRF,if_pos (by decide)]
theorem x17 : addF RE ⟨2,0⟩ = (Rz,13):=by unfold addF;rw [if_pos okRE,if_neg (by decide),if_neg (by decide)]
theorem b1 (po : Pl) (S : List Row) (h : RmOk S RE po) : Fc Tryz.prog 9 [.agg (cRm RE po).toArray,.int .i64 1,.int .i64 2] S (fun v H' => v = .tuple #[.agg (cSp ⟨4,8⟩).toArray,.int .i64 0]∧H' = S):=by
 have:=kYellow_spec RE po 1 2 S h (Nat.le_of_ble_eq_true rfl)
 rw [w1] at this
 exact this
theorem b2 (po : Pl) (S : List Row) (h : RmOk S RE po) : Fc Tryz.prog 9 [.agg (cRm RE po).toArray,.int .i64 2,.int .i64 2] S (fun v H' => v = .tuple #[.agg (cSp ⟨1,4⟩).toArray,.int .i64 0]∧H' = S):=by
 have:=kYellow_spec RE po 2 2 S h (Nat.le_of_ble_eq_true rfl)
 rw [w2] at this
 exact this
theorem b3 (po : Pl) (S : List Row) (h : RmOk S RE po) : Fc Tryz.prog 9 [.agg (cRm RE po).toArray,.int .i64 2,.int .i64 1] S (fun v H' => v = .tuple #[.agg (cSp ⟨0,0⟩).toArray,.int .i64 0]∧H' = S):=by
 have:=kYellow_spec RE po 2 1 S h (Nat.le_of_ble_eq_true rfl)
 rw [w3] at this
 exact this
theorem b4 (po : Pl) (S : List Row) (h : RmOk S RE po) : Fc Tryz.prog 11 [.agg (cRm RE po).toArray,.int .i64 1,.int .i64 2,.int .i64 2] S (fun v H' => v = .tuple #[.agg (cSp ⟨3,5⟩).toArray,.int .i64 0]∧H' = S):=by
 have:=kDiffer_spec RE po 1 2 2 S h (Nat.le_of_ble_eq_true rfl)
 rw [w4] at this
 exact this
theorem b5 (po : Pl) (S : List Row) (h : RmOk S RE po) : Fc Tryz.prog 11 [.agg (cRm RE po).toArray,.int .i64 2,.int .i64 1,.int .i64 2] S (fun v H' => v = .tuple #[.agg (cSp ⟨-5, -3⟩).toArray,.int .i64 0]∧H' = S):=by
 have:=kDiffer_spec RE po 2 1 2 S h (Nat.le_of_ble_eq_true rfl)
 rw [w5] at this
 exact this
theorem b6 (po : Pl) (S : List Row) (h : RmOk S RE po) : Fc Tryz.prog 12 [.agg (cRm RE po).toArray,.int .i64 1,.int .i64 3,.int .i64 4] S (fun v H' => v = .tuple #[.int .u8 2,.int .i64 0]∧H' = S):=by
 have:=kKnown_spec RE po 1 3 4 S h (Nat.le_of_ble_eq_true rfl)
 rw [w6] at this
 exact this
theorem b7 (po : Pl) (S : List Row) (h : RmOk S RE po) : Fc Tryz.prog 12 [.agg (cRm RE po).toArray,.int .i64 2,.int .i64 2,.int .i64 5] S (fun v H' => v = .tuple #[.int .u8 0,.int .i64 0]∧H' = S):=by
 have:=kKnown_spec RE po 2 2 5 S h (Nat.le_of_ble_eq_true rfl)
 rw [w7] at this
 exact this
theorem b8 (po : Pl) (S : List Row) (h : RmOk S RE po) : Fc Tryz.prog 14 [.agg (cRm RE po).toArray,.int .i64 1,.int .i64 2,.int .i64 2] S (fun v H' => v = .tuple #[.int .u8 2,.int .i64 0]∧H' = S):=by
 have:=kOrder_spec RE po 1 2 2 S h (Nat.le_of_ble_eq_true rfl)
 rw [w8] at this
 exact this
theorem b9 (po : Pl) (S : List Row) (h : RmOk S RE po) : Fc Tryz.prog 14 [.agg (cRm RE po).toArray,.int .i64 1,.int .i64 2,.int .i64 3] S (fun v H' => v = .tuple #[.int .u8 1,.int .i64 0]∧H' = S):=by
 have:=kOrder_spec RE po 1 2 3 S h (Nat.le_of_ble_eq_true rfl)
 rw [w9] at this
 exact this
theorem b10 (po : Pl) (S : List Row) (h : RmOk S RE po) : Fc Tryz.prog 15 [.agg (cRm RE po).toArray,.int .i64 3] S (fun v H' => ∃ a c Z,v = .tuple #[.slice a 2 c,.int .i64 0]∧SlE (Z++S) a cI 1 [1,2]∧H' = Z++S):=by
 have:=kFresh_spec RE po 3 S h (Nat.le_of_ble_eq_true rfl)
 rw [w10] at this
 exact this
theorem b11 (po : Pl) (S : List Row) (h : RmOk S RE po) : Fc Tryz.prog 16 [.agg (cRm RE po).toArray,.int .i64 2,.int .i64 2] S (fun v H' => ∃ a c Z,v = .tuple #[.slice a 0 c,.int .i64 0]∧SlE (Z++S) a cI 1 []∧H' = Z++S):=by
 have:=kWhy_spec RE po 2 2 S h (Nat.le_of_ble_eq_true rfl)
 rw [w11] at this
 exact this
theorem c1 (po : Pl) (S : List Row) (h : RmOk S RT po) : Fc Tryz.prog 9 [.agg (cRm RT po).toArray,.int .i64 9,.int .i64 9] S (fun v H' => v = .tuple #[.agg (cSp ⟨0,0⟩).toArray,.int .i64 10]∧H' = S):=by
 have:=kYellow_spec RT po 9 9 S h (Nat.le_of_ble_eq_true rfl)
 rw [x1] at this
 exact this
theorem c2 (po : Pl) (S : List Row) (h : RmOk S RO po) : Fc Tryz.prog 9 [.agg (cRm RO po).toArray,.int .i64 9,.int .i64 9] S (fun v H' => v = .tuple #[.agg (cSp ⟨0,0⟩).toArray,.int .i64 6]∧H' = S):=by
 have:=kYellow_spec RO po 9 9 S h (Nat.le_of_ble_eq_true rfl)
 rw [x2] at this
 exact this
theorem c3 (po : Pl) (S : List Row) (h : RmOk S RO po) : Fc Tryz.prog 9 [.agg (cRm RO po).toArray,.int .i64 2,.int .i64 0] S (fun v H' => v = .tuple #[.agg (cSp ⟨0,0⟩).toArray,.int .i64 11]∧H' = S):=by
 have:=kYellow_spec RO po 2 0 S h (Nat.le_of_ble_eq_true rfl)
 rw [x3] at this
 exact this
theorem c4 (po : Pl) (S : List Row) (h : RmOk S RO po) : Fc Tryz.prog 9 [.agg (cRm RO po).toArray,.int .i64 1,.int .i64 4] S (fun v H' => v = .tuple #[.agg (cSp ⟨0,0⟩).toArray,.int .i64 11]∧H' = S):=by
 have:=kYellow_spec RO po 1 4 S h (Nat.le_of_ble_eq_true rfl)
 rw [x4] at this
 exact this
theorem c5 (po : Pl) (S : List Row) (h : RmOk S RO po) : Fc Tryz.prog 9 [.agg (cRm RO po).toArray,.int .i64 1,.int .i64 3] S (fun v H' => v = .tuple #[.agg (cSp ⟨0,0⟩).toArray,.int .i64 8]∧H' = S):=by
 have:=kYellow_spec RO po 1 3 S h (Nat.le_of_ble_eq_true rfl)
 rw [x5] at this
 exact this
theorem c6 (po : Pl) (S : List Row) (h : RmOk S RE po) : Fc Tryz.prog 11 [.agg (cRm RE po).toArray,.int .i64 1,.int .i64 1,.int .i64 3] S (fun v H' => v = .tuple #[.agg (cSp ⟨0,0⟩).toArray,.int .i64 2]∧H' = S):=by
 have:=kDiffer_spec RE po 1 1 3 S h (Nat.le_of_ble_eq_true rfl)
 rw [x6] at this
 exact this
theorem c7 (po : Pl) (S : List Row) (h : RmOk S RO po) : Fc Tryz.prog 14 [.agg (cRm RO po).toArray,.int .i64 1,.int .i64 1,.int .i64 3] S (fun v H' => v = .tuple #[.int .u8 0,.int .i64 8]∧H' = S):=by
 have:=kOrder_spec RO po 1 1 3 S h (Nat.le_of_ble_eq_true rfl)
 rw [x7] at this
 exact this
theorem c8 (po : Pl) (S : List Row) (h : RmOk S RE po) : Fc Tryz.prog 20 [.agg (cRm RE po).toArray,.int .i64 1,.int .i64 13] S (fun v H' => v = .tuple #[.int .i64 0,.int .i64 6]∧H' = S):=by
 have:=kPerhaps_spec RE po 1 13 S h (Nat.le_of_ble_eq_true rfl)
 rw [x8] at this
 exact this
theorem c9 (po : Pl) (S : List Row) (h : RmOk S RE po) : Fc Tryz.prog 21 [.agg (cRm RE po).toArray,.int .i64 1,.int .i64 5] S (fun v H' => v = .tuple #[.int .i64 0,.int .i64 6]∧H' = S):=by
 have:=kSurely_spec RE po 1 5 S h (Nat.le_of_ble_eq_true rfl)
 rw [x9] at this
 exact this
theorem c10 (po : Pl) (S : List Row) (h : RmOk S RE po) : Fc Tryz.prog 22 [.agg (cRm RE po).toArray,.int .i64 12] S (fun v H' => ∃ a c Z,v = .tuple #[.int .i64 0,.slice a 0 c,.int .i64 6]∧SlE (Z++S) a cI 1 []∧H' = Z++S):=by
 have:=kDue_spec RE po 12 S h (Nat.le_of_ble_eq_true rfl)
 rw [x10] at this
 exact this
theorem c11 (po : Pl) (S : List Row) (h : RmOk S RE po) : Fc Tryz.prog 23 [.agg (cRm RE po).toArray,.int .i64 0] S (fun v H' => v = .tuple #[.int .i64 0,.int .i64 0,.int .i64 0,.int .i64 6]∧H' = S):=by
 have:=kAsk_spec RE po 0 S h (Nat.le_of_ble_eq_true rfl)
 rw [x11] at this
 exact this
theorem c12 (po : Pl) (S : List Row) (h : RmOk S RE po) : Fc Tryz.prog 15 [.agg (cRm RE po).toArray,.int .i64 (-1)] S (fun v H' => ∃ a c Z,v = .tuple #[.slice a 0 c,.int .i64 11]∧SlE (Z++S) a cI 1 []∧H' = Z++S):=by
 have:=kFresh_spec RE po (-1) S h (Nat.le_of_ble_eq_true rfl)
 rw [x12] at this
 exact this
theorem plE {R : Rm} {po : Pl} {S : List Row} (h : RmOk S R po) (h1 : 0 < R.ages.length) (h2 : 0 < R.boxes.length) (h3 : 0 < R.mats.length) : ∃ d1 c1 d2 c2 d3 c3,po = ⟨some d1,c1,some d2,c2,some d3,c3⟩:=by
 obtain ⟨a1,c1,a2,c2,a3,c3⟩:=po
 obtain ⟨_,_,_,rfl,_⟩:=h.ages.elem (i:=0) h1
 obtain ⟨_,_,_,rfl,_⟩:=h.boxes.elem (i:=0) h2
 obtain ⟨_,_,_,rfl,_⟩:=h.mats.elem (i:=0) h3
 exact ⟨_,_,_,_,_,_,rfl⟩
theorem c13 (po : Pl) (S : List Row) (h : RmOk S RM po) : Fc Tryz.prog 24 [.agg (cRm RM po).toArray,.agg (cMt ⟨0,0,0,0,0,0⟩).toArray] S (fun v H' => ∃ p Z,v = .tuple #[.agg (cRm Rz p).toArray,.int .i64 9]∧H' = Z++S):=by
 obtain ⟨d1,c1,d2,c2,d3,c3,rfl⟩:=plE h (by decide) (by decide) (by decide)
 have:=putB_spec RM ⟨0,0,0,0,0,0⟩ d1 c1 d2 c2 d3 c3 S h (Nat.le_of_ble_eq_true rfl) (Nat.le_of_ble_eq_true rfl) (Nat.le_of_ble_eq_true rfl)
 unfold ProgR at this
 rw [x13] at this
 exact this.mono (fun v H' ⟨p,Z,h1,h2,_⟩=>⟨p,Z,h1,h2⟩)
theorem c14 (po : Pl) (S : List Row) (h : RmOk S RE po) : Fc Tryz.prog 24 [.agg (cRm RE po).toArray,.agg (cMt ⟨1,2,1,2,0,0⟩).toArray] S (fun v H' => ∃ p Z,v = .tuple #[.agg (cRm Rz p).toArray,.int .i64 12]∧H' = Z++S):=by
 obtain ⟨d1,c1,d2,c2,d3,c3,rfl⟩:=plE h (by decide) (by decide) (by decide)
 have:=putB_spec RE ⟨1,2,1,2,0,0⟩ d1 c1 d2 c2 d3 c3 S h (Nat.le_of_ble_eq_true rfl) (Nat.le_of_ble_eq_true rfl) (Nat.le_of_ble_eq_true rfl)
 unfold ProgR at this
 rw [x14] at this
 exact this.mono (fun v H' ⟨p,Z,h1,h2,_⟩=>⟨p,Z,h1,h2⟩)
theorem c15 (po : Pl) (S : List Row) (h : RmOk S RE po) (al : Option Addr) (cl : Nat) (hl : SlE S al cI 1 [2]) : Fc Tryz.prog 25 [.agg (cRm RE po).toArray,.slice al 1 cl] S (fun v H' => ∃ p Z,v = .tuple #[.agg (cRm Rz p).toArray,.int .i64 12]∧H' = Z++S):=by
 obtain ⟨d1,c1,d2,c2,d3,c3,rfl⟩:=plE h (by decide) (by decide) (by decide)
 have:=strB_spec RE [2] al cl d1 c1 d2 c2 d3 c3 S h (Nat.le_of_ble_eq_true rfl) (Nat.le_of_ble_eq_true rfl) (Nat.le_of_ble_eq_true rfl) hl (Nat.le_of_ble_eq_true rfl)
 unfold ProgR at this
 rw [x15] at this
 exact this.mono (fun v H' ⟨p,Z,h1,h2,_⟩=>⟨p,Z,h1,h2⟩)
theorem c16 (po : Pl) (S : List Row) (h : RmOk S RF po) : Fc Tryz.prog 26 [.agg (cRm RF po).toArray,.agg (cBx ⟨0,0⟩).toArray] S (fun v H' => ∃ p Z,v = .tuple #[.agg (cRm Rz p).toArray,.int .i64 9]∧H' = Z++S):=by
 obtain ⟨d1,c1,d2,c2,d3,c3,rfl⟩:=plE h (by decide) (by decide) (by decide)
 have:=addB_spec RF ⟨0,0⟩ d1 c1 d2 c2 d3 c3 S h (Nat.le_of_ble_eq_true rfl) (Nat.le_of_ble_eq_true rfl) (Nat.le_of_ble_eq_true rfl)
 unfold ProgR at this
 rw [x16] at this
 exact this.mono (fun v H' ⟨p,Z,h1,h2,_⟩=>⟨p,Z,h1,h2⟩)
theorem c17 (po : Pl) (S : List Row) (h : RmOk S RE po) : Fc Tryz.prog 26 [.agg (cRm RE po).toArray,.agg (cBx ⟨2,0⟩).toArray] S (fun v H' => ∃ p Z,v = .tuple #[.agg (cRm Rz p).toArray,.int .i64 13]∧H' = Z++S):=by
 obtain ⟨d1,c1,d2,c2,d3,c3,rfl⟩:=plE h (by decide) (by decide) (by decide)
 have:=addB_spec RE ⟨2,0⟩ d1 c1 d2 c2 d3 c3 S h (Nat.le_of_ble_eq_true rfl) (Nat.le_of_ble_eq_true rfl) (Nat.le_of_ble_eq_true rfl)
 unfold ProgR at this
 rw [x17] at this
 exact this.mono (fun v H' ⟨p,Z,h1,h2,_⟩=>⟨p,Z,h1,h2⟩)
theorem c18 (po : Pl) (S : List Row) (h : RmOk S RT po) : Fc Tryz.prog 27 [.agg (cRm RT po).toArray] S (fun v H' => v = .int .i64 10∧H' = S) :=
 (check_spec RT po S h).mono (fun v H' ⟨h1,h2⟩=>⟨h1.elim (fun q=>absurd q.1 noRT) (fun q=>q.2),h2⟩)
theorem c19 (po : Pl) (S : List Row) (h : RmOk S RO po) : Fc Tryz.prog 27 [.agg (cRm RO po).toArray] S (fun v H' => v = .int .i64 0∧H' = S) :=
 (check_spec RO po S h).mono (fun v H' ⟨h1,h2⟩=>⟨h1.elim (fun q=>q.2) (fun q=>absurd okRO q.1),h2⟩)
end Go.Proofs.YtmfppdpkalelhaaGreat
end
section
set_option linter.unusedVariables false
set_option linter.unusedSimpArgs false
namespace Go.Proofs.YtmfppdpkalelhaaGreat
open Go Go.Fw
set_option maxRecDepth 10000
set_option maxHeartbeats 4000000 in
theorem room_specW (l : List Mt) (a : Option Addr) (c : Nat) (H : List Row) (hl : SlE H a cMt 6 l) (hb : l.length ≤ 100) : Fc Tryz.prog 10 [.slice a l.length c] H (fun v H' => ∃ ba bb bn kn,v = .agg (cRm (roomE (mt1::l)) ⟨some ⟨ba,0,none⟩,4,some ⟨bb,0,none⟩,2,some ⟨bn,0,none⟩,kn⟩).toArray∧H' = ⟨bn,0,(mt1::l).flatMap cMt,some 44,kn * 6⟩::⟨bb,0,cBx ⟨1,0⟩++cBx ⟨2,1⟩,some 47,2 * 2⟩::⟨ba,0,agesE.flatMap cSp,some 24,4 * 2⟩::H):=by
 refine Fc.mk (callable Tryz.call10) Tryz.func10 rfl Tryz.ntmps10 rfl ?_;dsimp only [fr]
 repeat' (first | (refine uP rfl ?_;(first | ((first | refine uN rfl ?_);(first | (refine Xg.st (StF.alloc rfl Tryz.zeroValue32 rfl) rfl rfl ?_;rintro _ _ ⟨b2,rfl,rfl⟩)|(refine uC (uT rfl (Args.cons rfl (Args.cons rfl Args.nil))) rfl rfl (lawSpan 0 0 _) ?_;rintro _ H9 ⟨rfl,hH9⟩;subst H9)|(refine uC (uT rfl (Args.cons rfl (Args.cons rfl Args.nil))) rfl rfl (lawSpan 1 4 _) ?_;rintro _ H9 ⟨rfl,hH9⟩;subst H9)|(refine uC (uT rfl (Args.cons rfl (Args.cons rfl Args.nil))) rfl rfl (lawSpan 2 8 _) ?_;rintro _ H9 ⟨rfl,hH9⟩;subst H9)|(refine uC (uT rfl (Args.cons rfl (Args.cons rfl Args.nil))) rfl rfl (lawSpan 3 12 _) ?_;rintro _ H9 ⟨rfl,hH9⟩;subst H9)|(refine uC (uT rfl (by (repeat (first | exact Args.nil | refine Args.cons rfl ?_));done)) rfl rfl (lawMatch 1 2 1 2 3 5 _) ?_;rintro _ H9 ⟨rfl,hH9⟩;subst H9)|(refine Xg.st (StF.buildLit (len:=4) (vs:=[(0,.agg (cSp ⟨0,0⟩).toArray),(1,.agg (cSp ⟨1,4⟩).toArray),(2,.agg (cSp ⟨2,8⟩).toArray),(3,.agg (cSp ⟨3,12⟩).toArray)]) (cs:=agesE.flatMap cSp) rfl el22 Tryz.zeroValue24 (ArgsP.cons rfl (ArgsP.cons rfl (ArgsP.cons rfl (ArgsP.cons rfl ArgsP.nil)))) litAges rfl rfl rfl) rfl rfl ?_;rintro _ _ ⟨ba,rfl,rfl⟩)|(refine uE (EvF.build (cs:=cBx ⟨1,0⟩) rfl (ArgsP.cons rfl ArgsP.nil) (te rfl) (Places.cons (te rfl) (Places.cons (te rfl) Places.nil)) Tryz.zeroValue47 rfl) rfl rfl ?_)|(refine uE (EvF.build (cs:=cBx ⟨2,1⟩) rfl (ArgsP.cons rfl (ArgsP.cons rfl ArgsP.nil)) (te rfl) (Places.cons (te rfl) (Places.cons (te rfl) Places.nil)) Tryz.zeroValue47 rfl) rfl rfl ?_)|(refine Xg.st (StF.buildTwo (cs:=cBx ⟨1,0⟩) (ds:=cBx ⟨2,1⟩) rfl el23 rfl rfl rfl rfl rfl rfl (by decide) (by decide)) rfl rfl ?_;rintro _ _ ⟨bb,rfl,rfl⟩)|(refine Xg.st (StF.buildOne (cs:=cMt mt1) rfl el24 rfl rfl rfl (by decide) (by decide)) rfl rfl ?_;rintro _ _ ⟨bm,rfl,rfl⟩)|(refine Xg.st (StF.appendSl (i:=0) (l:=l) rfl el24 rfl rfl rfl (hl.sub (fun _ h=>by repeat (first | exact h | apply qT))) (fun e _=>one_mt e) rfl (by decide) (by omega)) rfl rfl ?_;rintro _ _ ⟨bn,kn,rfl,rfl⟩;dsimp only [List.eraseIdx])|(refine uE (EvF.build (cs:=cRm (roomE (mt1::l)) ⟨some ⟨ba,0,none⟩,4,some ⟨bb,0,none⟩,2,some ⟨bn,0,none⟩,kn⟩) rfl (ArgsP.cons rfl (ArgsP.cons rfl (ArgsP.cons rfl (ArgsP.cons rfl (ArgsP.cons rfl ArgsP.nil))))) (te rfl) (Places.cons (te rfl) (Places.cons (te rfl) (Places.cons (te rfl) (Places.cons (te rfl) (Places.cons (te rfl) Places.nil))))) Tryz.zeroValue32 (by simp only [Nat.add_comm 1];rfl)) rfl rfl ?_)|(refine Xg.st0 (StF.storeAll (i:=3) (vs:=cRm (roomE (mt1::l)) ⟨some ⟨ba,0,none⟩,4,some ⟨bb,0,none⟩,2,some ⟨bn,0,none⟩,kn⟩) rfl rfl rfl (te rfl) rfl rfl rfl rfl) rfl ?_;rintro _ _ ⟨rfl,rfl⟩;dsimp only [List.set])|(refine uE (uM rfl rfl) rfl rfl ?_)))))|(refine uD rfl ?_;refine hK _ _ ?_;clear hK K) | refine uS rfl ?_ | refine uR rfl (fun K hK=>?_) | refine X.ret rfl ?_)
 exact ret_one (v := .agg (cRm (roomE (mt1::l)) ⟨some ⟨ba,0,none⟩,4,some ⟨bb,0,none⟩,2,some ⟨bn,0,none⟩,kn⟩).toArray) (by simp) Tryz.results10 ⟨_,rfl,uW (te rfl) rfl (by repeat (first | exact qH _ | apply qT)) rfl⟩ (H' := [⟨bn,0,(mt1::l).flatMap cMt,some 44,kn * 6⟩,⟨bb,0,cBx ⟨1,0⟩++cBx ⟨2,1⟩,some 47,2 * 2⟩,⟨ba,0,agesE.flatMap cSp,some 24,4 * 2⟩]++H) (by repeat (first | exact qR _ | apply qK | apply qC)) ⟨_,_,_,_,rfl,rfl⟩
theorem room_specX (H : List Row) : Fc Tryz.prog 10 [.slice none 0 0] H (fun v H' => ∃ ba bb bn kn,v = .agg (cRm RE ⟨some ⟨ba,0,none⟩,4,some ⟨bb,0,none⟩,2,some ⟨bn,0,none⟩,kn⟩).toArray∧H' = ⟨bn,0,(mmL 0).flatMap cMt,some 44,kn * 6⟩::⟨bb,0,cBx ⟨1,0⟩++cBx ⟨2,1⟩,some 47,2 * 2⟩::⟨ba,0,agesE.flatMap cSp,some 24,4 * 2⟩::H):=room_specW [] none 0 H sleNil (Nat.zero_le _)
theorem XO.weakG {P : Program} {n : Nat} {ops : Array Oper} {i : Nat} {F : FS} {H H' : List Row} {N : FS → List Row → Prop} (hp : H'.Sublist H) (k : XO P n ops i F H' N) : XO P n ops i F H N:=by
 unfold XO WO at *
 intro t ha ρ ds B w0 w hS
 exact k t ha ρ ds B w0 w (hS.sub hp)
theorem ints_nil (a : Option Addr) (c : Nat) (H : List Row) (hl : SlE H a cI 1 []) : Fc Tryz.prog 17 [.slice a 0 c,.int .i64 0,.slice none 0 0] H (fun v H' => v = .bool true∧H' = H):=by
 have hs:=sameInts_spec [] [] a none c 0 H hl sleNil (Nat.zero_le _)
 rw [decide_eq_true rfl] at hs
 refine Fc.mk (callable Tryz.call17) Tryz.func17 rfl Tryz.ntmps17 rfl ?_;dsimp only [fr]
 repeat' (first | (refine uP rfl ?_;(first | ((first | refine uN rfl ?_ | (refine Xo.g rfl rfl ?_;with_reducible refine Xw.tt ?_));(first | (refine uE (uQ (b:=true) rfl rfl rfl (congrArg some (decide_eq_true (Eq.refl (0 : Int))))) rfl rfl ?_)|(refine uC (uT rfl (Args.cons rfl (Args.cons rfl Args.nil))) rfl rfl (hs) ?_;rintro _ H9 ⟨rfl,hH9⟩;subst H9)|(refine uE (uM rfl rfl) rfl rfl ?_)|(refine uE (uA rfl rfl) rfl rfl ?_)|(refine uE (EvF.pickT rfl rfl rfl) rfl rfl ?_)))))|(refine uD rfl ?_;refine hK _ _ ?_;clear hK K) | refine uS rfl ?_ | refine uR rfl (fun K hK=>?_) | refine X.ret rfl ?_)
 all_goals try (exfalso;contradiction)
 exact ret_one (by simp) Tryz.results17 rfl (H' := H) (by repeat (first | exact qR _ | apply qK | apply qC)) ⟨rfl,rfl⟩
def tsKxa : List TOp:=[⟨some 83,[],[],[]⟩,⟨some 84,[0],[0],[]⟩,⟨some 85,[0,1],[1],[]⟩,⟨some 86,[0,1,2],[],[]⟩,⟨some 87,[0,1,2],[],[]⟩,⟨some 88,[0,1,2,3,4],[3,4],[]⟩,⟨some 89,[0,1,2,3,4,5],[2,5],[]⟩,⟨some 90,[0,1,2,3,4,5,6],[6],[]⟩,⟨some 91,[0,1,2,3,4,5,6,7],[],[]⟩,⟨some 92,[0,1,2,3,4,5,6,7,8],[8],[]⟩,⟨some 93,[0,1,2,3,4,5,6,7,8,9],[7,9],[]⟩,⟨some 94,[0,1,2,3,4,5,6,7,8,9,10],[10],[]⟩,⟨some 95,[0,1,2,3,4,5,6,7,8,9,10,11],[],[]⟩,⟨some 96,[0,1,2,3,4,5,6,7,8,9,10,11],[],[]⟩,⟨some 97,[0,1,2,3,4,5,6,7,8,9,10,11,12,13],[12,13],[]⟩,⟨some 98,[0,1,2,3,4,5,6,7,8,9,10,11,12,13,14],[11,14],[]⟩,⟨some 99,[0,1,2,3,4,5,6,7,8,9,10,11,12,13,14,15],[15],[]⟩,⟨some 100,[0,1,2,3,4,5,6,7,8,9,10,11,12,13,14,15,16],[],[]⟩,⟨some 101,[0,1,2,3,4,5,6,7,8,9,10,11,12,13,14,15,16,17],[17],[]⟩,⟨some 102,[0,1,2,3,4,5,6,7,8,9,10,11,12,13,14,15,16,17,18],[16,18],[]⟩,⟨some 103,[0,1,2,3,4,5,6,7,8,9,10,11,12,13,14,15,16,17,18,19],[19],[]⟩,⟨some 104,[0,1,2,3,4,5,6,7,8,9,10,11,12,13,14,15,16,17,18,19,20],[],[]⟩,⟨some 105,[0,1,2,3,4,5,6,7,8,9,10,11,12,13,14,15,16,17,18,19,20],[],[]⟩,⟨some 106,[0,1,2,3,4,5,6,7,8,9,10,11,12,13,14,15,16,17,18,19,20,21,22],[21,22],[]⟩,⟨some 107,[0,1,2,3,4,5,6,7,8,9,10,11,12,13,14,15,16,17,18,19,20,21,22,23],[20,23],[]⟩,⟨some 108,[0,1,2,3,4,5,6,7,8,9,10,11,12,13,14,15,16,17,18,19,20,21,22,23,24],[24],[]⟩,⟨some 109,[0,1,2,3,4,5,6,7,8,9,10,11,12,13,14,15,16,17,18,19,20,21,22,23,24,25],[],[]⟩,⟨some 110,[0,1,2,3,4,5,6,7,8,9,10,11,12,13,14,15,16,17,18,19,20,21,22,23,24,25,26],[26],[]⟩,⟨some 111,[0,1,2,3,4,5,6,7,8,9,10,11,12,13,14,15,16,17,18,19,20,21,22,23,24,25,26,27],[25,27],[]⟩,⟨some 112,[0,1,2,3,4,5,6,7,8,9,10,11,12,13,14,15,16,17,18,19,20,21,22,23,24,25,26,27,28],[28],[]⟩,⟨some 113,[0,1,2,3,4,5,6,7,8,9,10,11,12,13,14,15,16,17,18,19,20,21,22,23,24,25,26,27,28,29],[],[]⟩,⟨some 114,[0,1,2,3,4,5,6,7,8,9,10,11,12,13,14,15,16,17,18,19,20,21,22,23,24,25,26,27,28,29],[],[]⟩,⟨some 115,[0,1,2,3,4,5,6,7,8,9,10,11,12,13,14,15,16,17,18,19,20,21,22,23,24,25,26,27,28,29,30,31],[30,31],[]⟩,⟨some 116,[0,1,2,3,4,5,6,7,8,9,10,11,12,13,14,15,16,17,18,19,20,21,22,23,24,25,26,27,28,29,30,31,32],[29,32],[]⟩,⟨some 117,[0,1,2,3,4,5,6,7,8,9,10,11,12,13,14,15,16,17,18,19,20,21,22,23,24,25,26,27,28,29,30,31,32,33],[33],[]⟩,⟨some 118,[0,1,2,3,4,5,6,7,8,9,10,11,12,13,14,15,16,17,18,19,20,21,22,23,24,25,26,27,28,29,30,31,32,33,34],[],[]⟩,⟨some 119,[0,1,2,3,4,5,6,7,8,9,10,11,12,13,14,15,16,17,18,19,20,21,22,23,24,25,26,27,28,29,30,31,32,33,34,35],[35],[]⟩,⟨some 120,[0,1,2,3,4,5,6,7,8,9,10,11,12,13,14,15,16,17,18,19,20,21,22,23,24,25,26,27,28,29,30,31,32,33,34,35,36],[34,36],[]⟩,⟨some 121,[0,1,2,3,4,5,6,7,8,9,10,11,12,13,14,15,16,17,18,19,20,21,22,23,24,25,26,27,28,29,30,31,32,33,34,35,36,37],[37],[]⟩,⟨some 122,[0,1,2,3,4,5,6,7,8,9,10,11,12,13,14,15,16,17,18,19,20,21,22,23,24,25,26,27,28,29,30,31,32,33,34,35,36,37,38],[],[]⟩,⟨some 123,[0,1,2,3,4,5,6,7,8,9,10,11,12,13,14,15,16,17,18,19,20,21,22,23,24,25,26,27,28,29,30,31,32,33,34,35,36,37,38],[],[]⟩,⟨some 124,[0,1,2,3,4,5,6,7,8,9,10,11,12,13,14,15,16,17,18,19,20,21,22,23,24,25,26,27,28,29,30,31,32,33,34,35,36,37,38,39,40],[39,40],[]⟩,⟨some 125,[0,1,2,3,4,5,6,7,8,9,10,11,12,13,14,15,16,17,18,19,20,21,22,23,24,25,26,27,28,29,30,31,32,33,34,35,36,37,38,39,40,41],[38,41],[]⟩,⟨some 126,[0,1,2,3,4,5,6,7,8,9,10,11,12,13,14,15,16,17,18,19,20,21,22,23,24,25,26,27,28,29,30,31,32,33,34,35,36,37,38,39,40,41,42],[42],[]⟩,⟨some 127,[0,1,2,3,4,5,6,7,8,9,10,11,12,13,14,15,16,17,18,19,20,21,22,23,24,25,26,27,28,29,30,31,32,33,34,35,36,37,38,39,40,41,42,43],[],[]⟩,⟨some 128,[0,1,2,3,4,5,6,7,8,9,10,11,12,13,14,15,16,17,18,19,20,21,22,23,24,25,26,27,28,29,30,31,32,33,34,35,36,37,38,39,40,41,42,43,44],[44],[]⟩,⟨some 129,[0,1,2,3,4,5,6,7,8,9,10,11,12,13,14,15,16,17,18,19,20,21,22,23,24,25,26,27,28,29,30,31,32,33,34,35,36,37,38,39,40,41,42,43,44,45],[43,45],[]⟩,⟨some 130,[0,1,2,3,4,5,6,7,8,9,10,11,12,13,14,15,16,17,18,19,20,21,22,23,24,25,26,27,28,29,30,31,32,33,34,35,36,37,38,39,40,41,42,43,44,45,46],[46],[]⟩,⟨some 131,[0,1,2,3,4,5,6,7,8,9,10,11,12,13,14,15,16,17,18,19,20,21,22,23,24,25,26,27,28,29,30,31,32,33,34,35,36,37,38,39,40,41,42,43,44,45,46,47],[],[]⟩,⟨some 132,[0,1,2,3,4,5,6,7,8,9,10,11,12,13,14,15,16,17,18,19,20,21,22,23,24,25,26,27,28,29,30,31,32,33,34,35,36,37,38,39,40,41,42,43,44,45,46,47,48],[48],[]⟩,⟨some 133,[0,1,2,3,4,5,6,7,8,9,10,11,12,13,14,15,16,17,18,19,20,21,22,23,24,25,26,27,28,29,30,31,32,33,34,35,36,37,38,39,40,41,42,43,44,45,46,47,48,49],[47,49],[]⟩,⟨some 134,[0,1,2,3,4,5,6,7,8,9,10,11,12,13,14,15,16,17,18,19,20,21,22,23,24,25,26,27,28,29,30,31,32,33,34,35,36,37,38,39,40,41,42,43,44,45,46,47,48,49,50],[50],[]⟩,⟨some 135,[0,1,2,3,4,5,6,7,8,9,10,11,12,13,14,15,16,17,18,19,20,21,22,23,24,25,26,27,28,29,30,31,32,33,34,35,36,37,38,39,40,41,42,43,44,45,46,47,48,49,50,51],[],[]⟩,⟨some 136,[0,1,2,3,4,5,6,7,8,9,10,11,12,13,14,15,16,17,18,19,20,21,22,23,24,25,26,27,28,29,30,31,32,33,34,35,36,37,38,39,40,41,42,43,44,45,46,47,48,49,50,51,52],[52],[]⟩,⟨some 137,[0,1,2,3,4,5,6,7,8,9,10,11,12,13,14,15,16,17,18,19,20,21,22,23,24,25,26,27,28,29,30,31,32,33,34,35,36,37,38,39,40,41,42,43,44,45,46,47,48,49,50,51,52,53],[51,53],[]⟩,⟨some 138,[0,1,2,3,4,5,6,7,8,9,10,11,12,13,14,15,16,17,18,19,20,21,22,23,24,25,26,27,28,29,30,31,32,33,34,35,36,37,38,39,40,41,42,43,44,45,46,47,48,49,50,51,52,53,54],[54],[]⟩,⟨some 139,[0,1,2,3,4,5,6,7,8,9,10,11,12,13,14,15,16,17,18,19,20,21,22,23,24,25,26,27,28,29,30,31,32,33,34,35,36,37,38,39,40,41,42,43,44,45,46,47,48,49,50,51,52,53,54,55],[],[]⟩,⟨some 140,[0,1,2,3,4,5,6,7,8,9,10,11,12,13,14,15,16,17,18,19,20,21,22,23,24,25,26,27,28,29,30,31,32,33,34,35,36,37,38,39,40,41,42,43,44,45,46,47,48,49,50,51,52,53,54,55,56],[56],[]⟩,⟨some 141,[0,1,2,3,4,5,6,7,8,9,10,11,12,13,14,15,16,17,18,19,20,21,22,23,24,25,26,27,28,29,30,31,32,33,34,35,36,37,38,39,40,41,42,43,44,45,46,47,48,49,50,51,52,53,54,55,56,57],[55,57],[]⟩]
def valKxa (b1 b3 b5 b7 b9 : Nat) (k : Nat) (env : Env) : Value :=
 match k with
 | 0 => .int .i64 0
 | 1 => .bool false
 | 2 => .bool false
 | 3=>gt (false) (.agg (cSp ⟨4,8⟩).toArray)
 | 4=>gt (false) (.agg (cSp ⟨4,8⟩).toArray)
 | 5=>gt (false) (.bool false)
 | 6 => .bool (false && true)
 | 7 => .bool (false && true)
 | 8=>gt (false && true) (.int .i64 0)
 | 9=>gt (false && true) (.bool false)
 | 10 => .bool ((false && true) && true)
 | 11 => .bool ((false && true) && true)
 | 12=>gt ((false && true) && true) (.agg (cSp ⟨1,4⟩).toArray)
 | 13=>gt ((false && true) && true) (.agg (cSp ⟨1,4⟩).toArray)
 | 14=>gt ((false && true) && true) (.bool false)
 | 15 => .bool (((false && true) && true) && true)
 | 16 => .bool (((false && true) && true) && true)
 | 17=>gt (((false && true) && true) && true) (.int .i64 0)
 | 18=>gt (((false && true) && true) && true) (.bool false)
 | 19 => .bool ((((false && true) && true) && true) && true)
 | 20 => .bool ((((false && true) && true) && true) && true)
 | 21=>gt ((((false && true) && true) && true) && true) (.agg (cSp ⟨0,0⟩).toArray)
 | 22=>gt ((((false && true) && true) && true) && true) (.agg (cSp ⟨0,0⟩).toArray)
 | 23=>gt ((((false && true) && true) && true) && true) (.bool false)
 | 24 => .bool (((((false && true) && true) && true) && true) && true)
 | 25 => .bool (((((false && true) && true) && true) && true) && true)
 | 26=>gt (((((false && true) && true) && true) && true) && true) (.int .i64 0)
 | 27=>gt (((((false && true) && true) && true) && true) && true) (.bool false)
 | 28 => .bool ((((((false && true) && true) && true) && true) && true) && true)
 | 29 => .bool ((((((false && true) && true) && true) && true) && true) && true)
 | 30=>gt ((((((false && true) && true) && true) && true) && true) && true) (.agg (cSp ⟨3,5⟩).toArray)
 | 31=>gt ((((((false && true) && true) && true) && true) && true) && true) (.agg (cSp ⟨3,5⟩).toArray)
 | 32=>gt ((((((false && true) && true) && true) && true) && true) && true) (.bool false)
 | 33 => .bool (((((((false && true) && true) && true) && true) && true) && true) && true)
 | 34 => .bool (((((((false && true) && true) && true) && true) && true) && true) && true)
 | 35=>gt (((((((false && true) && true) && true) && true) && true) && true) && true) (.int .i64 0)
 | 36=>gt (((((((false && true) && true) && true) && true) && true) && true) && true) (.bool false)
 | 37 => .bool ((((((((false && true) && true) && true) && true) && true) && true) && true) && true)
 | 38 => .bool ((((((((false && true) && true) && true) && true) && true) && true) && true) && true)
 | 39=>gt ((((((((false && true) && true) && true) && true) && true) && true) && true) && true) (.agg (cSp ⟨-5, -3⟩).toArray)
 | 40=>gt ((((((((false && true) && true) && true) && true) && true) && true) && true) && true) (.agg (cSp ⟨-5, -3⟩).toArray)
 | 41=>gt ((((((((false && true) && true) && true) && true) && true) && true) && true) && true) (.bool false)
 | 42 => .bool (((((((((false && true) && true) && true) && true) && true) && true) && true) && true) && true)
 | 43 => .bool (((((((((false && true) && true) && true) && true) && true) && true) && true) && true) && true)
 | 44=>gt (((((((((false && true) && true) && true) && true) && true) && true) && true) && true) && true) (.int .i64 0)
 | 45=>gt (((((((((false && true) && true) && true) && true) && true) && true) && true) && true) && true) (.bool false)
 | 46 => .bool ((((((((((false && true) && true) && true) && true) && true) && true) && true) && true) && true) && true)
 | 47 => .bool ((((((((((false && true) && true) && true) && true) && true) && true) && true) && true) && true) && true)
 | 48=>gt ((((((((((false && true) && true) && true) && true) && true) && true) && true) && true) && true) && true) (.int .u8 2)
 | 49=>gt ((((((((((false && true) && true) && true) && true) && true) && true) && true) && true) && true) && true) (.bool false)
 | 50 => .bool (((((((((((false && true) && true) && true) && true) && true) && true) && true) && true) && true) && true) && true)
 | 51 => .bool (((((((((((false && true) && true) && true) && true) && true) && true) && true) && true) && true) && true) && true)
 | 52=>gt (((((((((((false && true) && true) && true) && true) && true) && true) && true) && true) && true) && true) && true) (.int .i64 0)
 | 53=>gt (((((((((((false && true) && true) && true) && true) && true) && true) && true) && true) && true) && true) && true) (.bool false)
 | 54 => .bool ((((((((((((false && true) && true) && true) && true) && true) && true) && true) && true) && true) && true) && true) && true)
 | 55 => .bool ((((((((((((false && true) && true) && true) && true) && true) && true) && true) && true) && true) && true) && true) && true)
 | 56=>gt ((((((((((((false && true) && true) && true) && true) && true) && true) && true) && true) && true) && true) && true) && true) (.int .u8 0)
 | 57=>gt ((((((((((((false && true) && true) && true) && true) && true) && true) && true) && true) && true) && true) && true) && true) (.bool false)
 | 58 => .bool (((((((((((((false && true) && true) && true) && true) && true) && true) && true) && true) && true) && true) && true) && true) && true)
 | _=>undef
def rowsKxa (b1 b3 b5 b7 b9 : Nat) (k : Nat) (env : Env) : List Row :=
 match k with
 | _=>[]
theorem locKxa (b1 b3 b5 b7 b9 : Nat) : ∀ k env i q9,i ≠ k → (tAt tsKxa k).sup.contains i = false → valKxa b1 b3 b5 b7 b9 k (upd env i q9)=valKxa b1 b3 b5 b7 b9 k env∧rowsKxa b1 b3 b5 b7 b9 k (upd env i q9)=rowsKxa b1 b3 b5 b7 b9 k env:=by
 intro k env i q hk hs
 have hu : ∀ j,j ≠ i → upd env i q j = env j:=fun j hj=>by unfold upd;rw [if_neg hj]
 match k,hk,hs with
 | 0,_,_=>exact ⟨rfl,rfl⟩
 | 1,_,_=>exact ⟨rfl,rfl⟩
 | 2,_,_=>exact ⟨rfl,rfl⟩
 | 3,_,_=>exact ⟨rfl,rfl⟩
 | 4,_,_=>exact ⟨rfl,rfl⟩
 | 5,_,_=>exact ⟨rfl,rfl⟩
 | 6,_,_=>exact ⟨rfl,rfl⟩
 | 7,_,_=>exact ⟨rfl,rfl⟩
 | 8,_,_=>exact ⟨rfl,rfl⟩
 | 9,_,_=>exact ⟨rfl,rfl⟩
 | 10,_,_=>exact ⟨rfl,rfl⟩
 | 11,_,_=>exact ⟨rfl,rfl⟩
 | 12,_,_=>exact ⟨rfl,rfl⟩
 | 13,_,_=>exact ⟨rfl,rfl⟩
 | 14,_,_=>exact ⟨rfl,rfl⟩
 | 15,_,_=>exact ⟨rfl,rfl⟩
 | 16,_,_=>exact ⟨rfl,rfl⟩
 | 17,_,_=>exact ⟨rfl,rfl⟩
 | 18,_,_=>exact ⟨rfl,rfl⟩
 | 19,_,_=>exact ⟨rfl,rfl⟩
 | 20,_,_=>exact ⟨rfl,rfl⟩
 | 21,_,_=>exact ⟨rfl,rfl⟩
 | 22,_,_=>exact ⟨rfl,rfl⟩
 | 23,_,_=>exact ⟨rfl,rfl⟩
 | 24,_,_=>exact ⟨rfl,rfl⟩
 | 25,_,_=>exact ⟨rfl,rfl⟩
 | 26,_,_=>exact ⟨rfl,rfl⟩
 | 27,_,_=>exact ⟨rfl,rfl⟩
 | 28,_,_=>exact ⟨rfl,rfl⟩
 | 29,_,_=>exact ⟨rfl,rfl⟩
 | 30,_,_=>exact ⟨rfl,rfl⟩
 | 31,_,_=>exact ⟨rfl,rfl⟩
 | 32,_,_=>exact ⟨rfl,rfl⟩
 | 33,_,_=>exact ⟨rfl,rfl⟩
 | 34,_,_=>exact ⟨rfl,rfl⟩
 | 35,_,_=>exact ⟨rfl,rfl⟩
 | 36,_,_=>exact ⟨rfl,rfl⟩
 | 37,_,_=>exact ⟨rfl,rfl⟩
 | 38,_,_=>exact ⟨rfl,rfl⟩
 | 39,_,_=>exact ⟨rfl,rfl⟩
 | 40,_,_=>exact ⟨rfl,rfl⟩
 | 41,_,_=>exact ⟨rfl,rfl⟩
 | 42,_,_=>exact ⟨rfl,rfl⟩
 | 43,_,_=>exact ⟨rfl,rfl⟩
 | 44,_,_=>exact ⟨rfl,rfl⟩
 | 45,_,_=>exact ⟨rfl,rfl⟩
 | 46,_,_=>exact ⟨rfl,rfl⟩
 | 47,_,_=>exact ⟨rfl,rfl⟩
 | 48,_,_=>exact ⟨rfl,rfl⟩
 | 49,_,_=>exact ⟨rfl,rfl⟩
 | 50,_,_=>exact ⟨rfl,rfl⟩
 | 51,_,_=>exact ⟨rfl,rfl⟩
 | 52,_,_=>exact ⟨rfl,rfl⟩
 | 53,_,_=>exact ⟨rfl,rfl⟩
 | 54,_,_=>exact ⟨rfl,rfl⟩
 | 55,_,_=>exact ⟨rfl,rfl⟩
 | 56,_,_=>exact ⟨rfl,rfl⟩
 | 57,_,_=>exact ⟨rfl,rfl⟩
 | 58,_,_=>exact ⟨rfl,rfl⟩
 | _ + 59,_,_=>exact ⟨rfl,rfl⟩
theorem rmX (ba bb bn kn : Nat) (S : List Row) (h1 : (⟨bn,0,(mmL 0).flatMap cMt,some 44,kn * 6⟩ : Row) ∈ S) (h2 : (⟨bb,0,cBx ⟨1,0⟩++cBx ⟨2,1⟩,some 47,2 * 2⟩ : Row) ∈ S) (h3 : (⟨ba,0,agesE.flatMap cSp,some 24,4 * 2⟩ : Row) ∈ S) : RmOk S RE ⟨some ⟨ba,0,none⟩,4,some ⟨bb,0,none⟩,2,some ⟨bn,0,none⟩,kn⟩ :=
 ⟨SlE.ofRow h3 (fun _ _=>rfl),SlE.ofRow (l:=([⟨1,0⟩,⟨2,1⟩] : List Bx)) h2 (fun _ _=>rfl),SlE.ofRow (l:=mmL 0) h1 (fun _ _=>rfl),Nat.le_of_ble_eq_true rfl,Nat.le_of_ble_eq_true rfl,Nat.le_of_ble_eq_true rfl⟩
theorem mmL_snoc (k : Nat) : mmL (k + 1)=mmL k++[⟨((mmL k).length : Int) + 1,3,1,2, -60,60⟩]:=by
 unfold mmL
 rw [List.range_succ,List.map_append]
 simp [mtk]
theorem mmL_len (k : Nat) : (mmL k).length = k + 1:=by unfold mmL;simp
def tsKap : List TOp:=[⟨some 196,[],[],[]⟩,⟨some 197,[0],[0],[]⟩,⟨some 198,[],[],[]⟩,⟨some 199,[2],[2],[]⟩,⟨some 200,[2,3],[3],[]⟩,⟨some 201,[2,3,4],[4],[]⟩,⟨some 202,[2,3,4,5],[5],[]⟩,⟨some 203,[2,3,4,5,6],[6],[]⟩,⟨some 204,[0,1,2,3,4,5,6,7],[1,7],[11]⟩,⟨some 205,[0,1,2,3,4,5,6,7,8],[],[]⟩,⟨none,[0,1,2,3,4,5,6,7,8,9],[9,8],[12]⟩,⟨none,[],[],[]⟩,⟨none,[],[],[]⟩]
def valKap (b18 b19 ba bb bn kn : Nat) (L : List Mt) (k : Nat) (env : Env) : Value :=
 match k with
 | 0 => .pointer (some ⟨b19,4,none⟩)
 | 1 => .slice (some ⟨bn,0,none⟩) L.length kn
 | 2 => .pointer (some ⟨b19,4,none⟩)
 | 3 => .slice (some ⟨bn,0,none⟩) L.length kn
 | 4 => .int .i64 L.length
 | 5 => .int .i64 (L.length + 1)
 | 6 => .agg (cMt ⟨(L.length : Int) + 1,3,1,2, -60,60⟩).toArray
 | 7 => .slice (some ⟨(env 7).1,0,none⟩) 1 1
 | 8 => .slice (some ⟨(env 8).1,0,none⟩) (L.length + 1) (env 8).2
 | 9 => .pointer (some ⟨b19,4,none⟩)
 | 10=>undef
 | _=>undef
def rowsKap (b18 b19 ba bb bn kn : Nat) (L : List Mt) (k : Nat) (env : Env) : List Row :=
 match k with
 | 7=>[⟨(env 7).1,0,cMt ⟨(L.length : Int) + 1,3,1,2, -60,60⟩,some 44,1 * 6⟩]
 | 8=>[⟨(env 8).1,0,L.flatMap cMt++cMt ⟨(L.length : Int) + 1,3,1,2, -60,60⟩,some 44,(env 8).2 * 6⟩]
 | 10=>[⟨b19,0,[.int .i64 4,.int .i64 5,.slice (some ⟨ba,0,none⟩) 4 4,.slice (some ⟨bb,0,none⟩) 2 2,.slice (some ⟨(env 8).1,0,none⟩) (L.length + 1) (env 8).2],some 32,5⟩]
 | 11=>[⟨bn,0,L.flatMap cMt,some 44,kn * 6⟩]
 | 12=>[⟨b19,0,[.int .i64 4,.int .i64 5,.slice (some ⟨ba,0,none⟩) 4 4,.slice (some ⟨bb,0,none⟩) 2 2,.slice (some ⟨bn,0,none⟩) L.length kn],some 32,5⟩]
 | _=>[]
theorem locKap (b18 b19 ba bb bn kn : Nat) (L : List Mt) : ∀ k env i q9,i ≠ k → (tAt tsKap k).sup.contains i = false → valKap b18 b19 ba bb bn kn L k (upd env i q9)=valKap b18 b19 ba bb bn kn L k env∧rowsKap b18 b19 ba bb bn kn L k (upd env i q9)=rowsKap b18 b19 ba bb bn kn L k env:=by
 intro k env i q hk hs
 have hu : ∀ j,j ≠ i → upd env i q j = env j:=fun j hj=>by unfold upd;rw [if_neg hj]
 match k,hk,hs with
 | 0,_,_=>exact ⟨rfl,rfl⟩
 | 1,_,_=>exact ⟨rfl,rfl⟩
 | 2,_,_=>exact ⟨rfl,rfl⟩
 | 3,_,_=>exact ⟨rfl,rfl⟩
 | 4,_,_=>exact ⟨rfl,rfl⟩
 | 5,_,_=>exact ⟨rfl,rfl⟩
 | 6,_,_=>exact ⟨rfl,rfl⟩
 | 7,hk,hs=>exact ⟨by simp only [valKap,hu 7 (fun e=>hk e.symm)],by simp only [rowsKap,hu 7 (fun e=>hk e.symm)]⟩
 | 8,hk,hs=>exact ⟨by simp only [valKap,hu 8 (fun e=>hk e.symm)],by simp only [rowsKap,hu 8 (fun e=>hk e.symm)]⟩
 | 9,_,_=>exact ⟨rfl,rfl⟩
 | 10,hk,hs=>exact ⟨by simp only [valKap,hu 8 (by rintro rfl;cases hs)],by simp only [rowsKap,hu 8 (by rintro rfl;cases hs)]⟩
 | 11,_,_=>exact ⟨rfl,rfl⟩
 | 12,_,_=>exact ⟨rfl,rfl⟩
 | _ + 13,_,_=>exact ⟨rfl,rfl⟩
def rdKap (k : Nat) : List Nat:=match k with
 | 1=>[12]
 | 3=>[12]
 | 8=>[7]
 | _=>[]
set_option maxHeartbeats 16000000 in
theorem boxExamples_spec (H : List Row) : Fc Tryz.prog 3 [] H (fun v _=>v = .bool true):=by
 refine Fc.mk (callable Tryz.call3) Tryz.func3 rfl Tryz.ntmps3 rfl ?_;dsimp only [fr]
 repeat' (first | (refine uP rfl ?_;(first | ((first | refine uN rfl ?_ | (refine Xo.g rfl rfl ?_;with_reducible refine Xw.ff ?_));(first | (refine uC (uT rfl Args.nil) rfl rfl (alive_spec _) ?_;rintro _ H9 ⟨rfl,hH9⟩;subst H9)|(refine uE (uX rfl rfl rfl) rfl rfl ?_)|(refine uC (uT rfl (Args.cons rfl Args.nil)) rfl rfl (roomRE _) ?_;rintro _ _ ⟨po,Z,rfl,hpo,rfl⟩)|(refine uC (uT rfl (Args.cons rfl (Args.cons rfl (Args.cons rfl Args.nil)))) rfl rfl (b1 po _ (hpo _)) ?_;rintro _ H9 ⟨rfl,hH9⟩;subst H9)|(refine uC (uT rfl (Args.cons rfl (Args.cons rfl (Args.cons rfl Args.nil)))) rfl rfl (b2 po _ (hpo _)) ?_;rintro _ H9 ⟨rfl,hH9⟩;subst H9)|(refine uC (uT rfl (Args.cons rfl (Args.cons rfl (Args.cons rfl Args.nil)))) rfl rfl (b3 po _ (hpo _)) ?_;rintro _ H9 ⟨rfl,hH9⟩;subst H9)|(refine uC (uT rfl (Args.cons rfl (Args.cons rfl (Args.cons rfl (Args.cons rfl Args.nil))))) rfl rfl (b4 po _ (hpo _)) ?_;rintro _ H9 ⟨rfl,hH9⟩;subst H9)|(refine uC (uT rfl (Args.cons rfl (Args.cons rfl (Args.cons rfl (Args.cons rfl Args.nil))))) rfl rfl (b5 po _ (hpo _)) ?_;rintro _ H9 ⟨rfl,hH9⟩;subst H9)|(refine uC (uT rfl (Args.cons rfl (Args.cons rfl (Args.cons rfl (Args.cons rfl Args.nil))))) rfl rfl (b6 po _ (hpo _)) ?_;rintro _ H9 ⟨rfl,hH9⟩;subst H9)|(refine uC (uT rfl (Args.cons rfl (Args.cons rfl (Args.cons rfl (Args.cons rfl Args.nil))))) rfl rfl (b7 po _ (hpo _)) ?_;rintro _ H9 ⟨rfl,hH9⟩;subst H9)|(refine Xg.st (StF.alloc rfl Tryz.zeroValue24 rfl) rfl rfl ?_;rintro _ _ ⟨bx,rfl,rfl⟩)|(refine Xg.st0 (StF.storeAll (i:=0) (vs:=cSp ⟨4,8⟩) rfl rfl rfl (te rfl) rfl rfl rfl rfl) rfl ?_;rintro _ _ ⟨rfl,rfl⟩;dsimp only [List.set])|(refine Xg.st0 (StF.storeAll (i:=0) (vs:=cSp ⟨1,4⟩) rfl rfl rfl (te rfl) rfl rfl rfl rfl) rfl ?_;rintro _ _ ⟨rfl,rfl⟩;dsimp only [List.set])|(refine Xg.st0 (StF.storeAll (i:=0) (vs:=cSp ⟨0,0⟩) rfl rfl rfl (te rfl) rfl rfl rfl rfl) rfl ?_;rintro _ _ ⟨rfl,rfl⟩;dsimp only [List.set])|(refine Xg.st0 (StF.storeAll (i:=0) (vs:=cSp ⟨3,5⟩) rfl rfl rfl (te rfl) rfl rfl rfl rfl) rfl ?_;rintro _ _ ⟨rfl,rfl⟩;dsimp only [List.set])|(refine Xg.st0 (StF.storeAll (i:=0) (vs:=cSp ⟨-5, -3⟩) rfl rfl rfl (te rfl) rfl rfl rfl rfl) rfl ?_;rintro _ _ ⟨rfl,rfl⟩;dsimp only [List.set])|(refine uE (uM rfl rfl) rfl rfl ?_)|(refine uE (uA rfl rfl) rfl rfl ?_)|(refine uE (EvF.pickF rfl rfl rfl) rfl rfl ?_)|(refine uE (EvF.not rfl rfl) rfl rfl ?_)))))|(refine uD rfl ?_;refine hK _ _ ?_;clear hK K) | refine uS rfl ?_ | refine uR rfl (fun K hK=>?_) | refine X.skip rfl ?_ | refine X.ret rfl ?_ | (refine X.ite rfl rfl (fun hc=>?_);(first | (with_reducible refine Xb.caseB hc (fun h=>?_) (fun h=>?_))) <;> clear hc))
 all_goals try (exfalso;contradiction)
 generalize bx = b9
 rename_i b1 p2 Z2 h2 b3 p3 Z3 h3 b5 p4 Z4 h4 b7 p5 Z5 h5 p6 Z6 h6
 refine X.weak (F' := [(1,.pointer (some ⟨b1,0,none⟩)),(2,.int .i64 0),(3,.pointer (some ⟨b3,0,none⟩)),(4,.int .i64 0),(5,.pointer (some ⟨b5,0,none⟩)),(6,.int .i64 0),(7,.pointer (some ⟨b7,0,none⟩)),(8,.int .i64 0),(9,.pointer (some ⟨b9,0,none⟩)),(10,.int .i64 0),(11,.int .u8 2),(12,.int .i64 0),(13,.int .u8 0),(14,.int .i64 0)]) (H' := ⟨b9,0,cSp ⟨-5, -3⟩,some 24,2⟩::⟨b7,0,cSp ⟨3,5⟩,some 24,2⟩::⟨b5,0,cSp ⟨0,0⟩,some 24,2⟩::⟨b3,0,cSp ⟨1,4⟩,some 24,2⟩::⟨b1,0,cSp ⟨4,8⟩,some 24,2⟩::H) (by repeat (first | exact uU _ | refine uV rfl ?_)) (by repeat (first | exact qR _ | apply qK | apply qC | refine List.Sublist.trans ?_ (List.sublist_append_right _ _))) ?_
 clear hpo h2 h3 h4 h5 h6
 refine X.regionOb tsKxa [1,2,3,4,5,6,7,8,9,10,11,12,13,14] [(1,.pointer (some ⟨b1,0,none⟩)),(2,.int .i64 0),(3,.pointer (some ⟨b3,0,none⟩)),(4,.int .i64 0),(5,.pointer (some ⟨b5,0,none⟩)),(6,.int .i64 0),(7,.pointer (some ⟨b7,0,none⟩)),(8,.int .i64 0),(9,.pointer (some ⟨b9,0,none⟩)),(10,.int .i64 0),(11,.int .u8 2),(12,.int .i64 0),(13,.int .u8 0),(14,.int .i64 0)] (valKxa b1 b3 b5 b7 b9) (rowsKxa b1 b3 b5 b7 b9) (fun _=>(0,0)) (⟨b9,0,cSp ⟨-5, -3⟩,some 24,2⟩::⟨b7,0,cSp ⟨3,5⟩,some 24,2⟩::⟨b5,0,cSp ⟨0,0⟩,some 24,2⟩::⟨b3,0,cSp ⟨1,4⟩,some 24,2⟩::⟨b1,0,cSp ⟨4,8⟩,some 24,2⟩::H) rfl mixed (by repeat (first | exact uU _ | refine uV rfl ?_)) rfl (by kernel_rfl) (locKxa b1 b3 b5 b7 b9) (qR _) ?_ ?_
 ·repeat' (first | exact AllF.done rfl | (refine AllF.step rfl ?_ ?_;·(first | fail | ((first | refine Ob.ng rfl ?_ | refine Ob.g rfl rfl (fun _=>rfl) ?_);(first | exact ObK.pure (fun env R hR=>by exact ⟨_,uM rfl rfl,rfl⟩) rfl (fun _=>rfl) | exact ObK.pure (fun env R hR=>by exact ⟨_,EvF.pickF rfl rfl rfl,rfl⟩) rfl (fun _=>rfl) | exact ObK.pure (fun env R hR=>by exact ⟨_,uQ rfl rfl rfl rfl,rfl⟩) rfl (fun _=>rfl) | exact ObK.pure (fun env R hR=>by exact ⟨_,uL rfl rfl (uW (te rfl) rfl (hR _ (qH _)) rfl),rfl⟩) rfl (fun _=>rfl) | exact ObK.pure (fun env R hR=>by exact ⟨_,uL rfl rfl (uW (te rfl) rfl (hR _ (qT _ (qH _))) rfl),rfl⟩) rfl (fun _=>rfl) | exact ObK.pure (fun env R hR=>by exact ⟨_,uL rfl rfl (uW (te rfl) rfl (hR _ (qT _ (qT _ (qH _)))) rfl),rfl⟩) rfl (fun _=>rfl) | exact ObK.pure (fun env R hR=>by exact ⟨_,uL rfl rfl (uW (te rfl) rfl (hR _ (qT _ (qT _ (qT _ (qH _))))) rfl),rfl⟩) rfl (fun _=>rfl)|(exact fun env S hS=>OpF.callV (Z:=[]) (uT rfl (Args.cons rfl (Args.cons rfl Args.nil))) (lawSpan 4 8 S) rfl rfl)|(exact fun env S hS=>OpF.callV (Z:=[]) (uT rfl (Args.cons rfl (Args.cons rfl Args.nil))) (lawSpan 1 4 S) rfl rfl)|(exact fun env S hS=>OpF.callV (Z:=[]) (uT rfl (Args.cons rfl (Args.cons rfl Args.nil))) (lawSpan 0 0 S) rfl rfl)|(exact fun env S hS=>OpF.callV (Z:=[]) (uT rfl (Args.cons rfl (Args.cons rfl Args.nil))) (lawSpan 3 5 S) rfl rfl)|(exact fun env S hS=>OpF.callV (Z:=[]) (uT rfl (Args.cons rfl (Args.cons rfl Args.nil))) (lawSpan (-5) (-3) S) rfl rfl)|(exact ObK.pure (fun env S hS=>⟨_,uL rfl rfl (uW (te rfl) rfl (hS _ (qT _ (qT _ (qT _ (qT _ (qH _)))))) rfl),rfl⟩) rfl (fun _=>rfl))|(exact ObK.pure (fun env S hS=>⟨.bool false,EvF.eqSt (r:=true) rfl rfl rfl (by kernel_rfl) (fun w=>eqE ⟨4,8⟩ w) rfl,rfl⟩) rfl (fun _=>rfl))|(exact ObK.pure (fun env S hS=>⟨.bool false,EvF.eqSt (r:=true) rfl rfl rfl (by kernel_rfl) (fun w=>eqE ⟨1,4⟩ w) rfl,rfl⟩) rfl (fun _=>rfl))|(exact ObK.pure (fun env S hS=>⟨.bool false,EvF.eqSt (r:=true) rfl rfl rfl (by kernel_rfl) (fun w=>eqE ⟨0,0⟩ w) rfl,rfl⟩) rfl (fun _=>rfl))|(exact ObK.pure (fun env S hS=>⟨.bool false,EvF.eqSt (r:=true) rfl rfl rfl (by kernel_rfl) (fun w=>eqE ⟨3,5⟩ w) rfl,rfl⟩) rfl (fun _=>rfl))|(exact ObK.pure (fun env S hS=>⟨.bool false,EvF.eqSt (r:=true) rfl rfl rfl (by kernel_rfl) (fun w=>eqE ⟨-5, -3⟩ w) rfl,rfl⟩) rfl (fun _=>rfl)))))))
 intro env t ha2 hv;refine ⟨_,ha2.cons (hv 58 141 (Nat.le_of_ble_eq_true rfl) rfl),?_⟩;clear hv ha2
 refine X.weak (F' := [(141,.bool false)]) (H' := H) (by repeat (first | exact uU _ | refine uV rfl ?_)) (by repeat (first | exact qR _ | apply qK | apply qC | refine List.Sublist.trans ?_ (List.sublist_append_right _ _))) ?_
 clear env
 clear b1 b3 b5 b7 b9 p2 p3 p4 p5 p6 Z2 Z3 Z4 Z5 Z6 po Z
 repeat' (first | (refine uP rfl ?_;(first | ((first | refine uN rfl ?_ | (refine Xo.g rfl rfl ?_;with_reducible refine Xw.ff ?_));(first | (refine uE (uX rfl rfl rfl) rfl rfl ?_)|(refine uC (uT rfl (Args.cons rfl Args.nil)) rfl rfl (room_specX _) ?_;rintro _ _ ⟨ba,bb,bn,kn,rfl,rfl⟩)|(refine uC (uT rfl (Args.cons rfl (Args.cons rfl (Args.cons rfl (Args.cons rfl Args.nil))))) rfl rfl (b8 _ _ (rmX ba bb bn kn _ (by repeat (first | exact qH _ | apply qT)) (by repeat (first | exact qH _ | apply qT)) (by repeat (first | exact qH _ | apply qT)))) ?_;rintro _ H9 ⟨rfl,hH9⟩;subst H9)|(refine uC (uT rfl (Args.cons rfl (Args.cons rfl (Args.cons rfl (Args.cons rfl Args.nil))))) rfl rfl (b9 _ _ (rmX ba bb bn kn _ (by repeat (first | exact qH _ | apply qT)) (by repeat (first | exact qH _ | apply qT)) (by repeat (first | exact qH _ | apply qT)))) ?_;rintro _ H9 ⟨rfl,hH9⟩;subst H9)|(refine uC (uT rfl (Args.cons rfl (Args.cons rfl Args.nil))) rfl rfl (b10 _ _ (rmX ba bb bn kn _ (by repeat (first | exact qH _ | apply qT)) (by repeat (first | exact qH _ | apply qT)) (by repeat (first | exact qH _ | apply qT)))) ?_;rintro _ _ ⟨u1,k1,Z1,rfl,s1,rfl⟩)|(refine uC (uT rfl (Args.cons rfl (Args.cons rfl (Args.cons rfl Args.nil)))) rfl rfl (b11 _ _ (rmX ba bb bn kn _ (by repeat (first | exact qH _ | apply qT)) (by repeat (first | exact qH _ | apply qT)) (by repeat (first | exact qH _ | apply qT)))) ?_;rintro _ _ ⟨u2,k2,Z2,rfl,s2,rfl⟩)|(refine uE (uQ (b:=false) rfl rfl rfl (congrArg some (nd_f (Eq.refl (0 : Int))))) rfl rfl ?_)|(refine uE (uQ (b:=false) rfl rfl rfl (congrArg some (nd_f (Eq.refl (2 : Int))))) rfl rfl ?_)|(refine uE (uQ (b:=false) rfl rfl rfl (congrArg some (nd_f (Eq.refl (1 : Int))))) rfl rfl ?_)|(refine Xg.st (StF.buildTwo (cs:=[.int .i64 1]) (ds:=[.int .i64 2]) rfl el55 rfl rfl rfl rfl rfl rfl (by decide) (by decide)) rfl rfl ?_;rintro _ _ ⟨bq,rfl,rfl⟩)|(refine uC (uT rfl (Args.cons rfl (Args.cons rfl (Args.cons rfl Args.nil)))) rfl rfl (ints_spec [1,2] u1 k1 bq [1,2] _ (s1.sub (fun _ h=>by repeat (first | exact h | apply List.mem_append_right | apply qT))) (SlE.ofRow (l:=[1,2]) (qH _) (fun _ _=>rfl)) rfl (by decide)) ?_;rintro _ H9 ⟨rfl,hH9⟩;subst H9)|(refine uC (uT rfl (Args.cons rfl (Args.cons rfl (Args.cons rfl Args.nil)))) rfl rfl (ints_nil u2 k2 _ (s2.sub (fun _ h=>by repeat (first | exact h | apply List.mem_append_right | apply qT)))) ?_;rintro _ H9 ⟨rfl,hH9⟩;subst H9)|(refine uE (uM rfl rfl) rfl rfl ?_)|(refine uE (uA rfl rfl) rfl rfl ?_)|(refine uE (EvF.pickT rfl rfl rfl) rfl rfl ?_)|(refine uE (EvF.pickF rfl rfl rfl) rfl rfl ?_)|(refine uE (EvF.not rfl rfl) rfl rfl ?_)|(refine uE (uF rfl rfl (te rfl) rfl (te rfl) (by decide)) rfl rfl ?_)|(refine Xg.st (StF.alloc rfl Tryz.zeroValue32 rfl) rfl rfl ?_;rintro _ _ ⟨bx,rfl,rfl⟩)|(refine Xg.st0 (StF.storeAll (i:=0) rfl rfl rfl (te rfl) rfl rfl rfl rfl) rfl ?_;rintro _ _ ⟨rfl,rfl⟩;dsimp only [List.set])|(refine Xg.st0 (StF.storeOne (i:=1) rfl rfl rfl rfl (te rfl) rfl rfl (Nat.le_of_ble_eq_true rfl)) rfl ?_;rintro _ _ ⟨rfl,rfl⟩;dsimp only [List.set])|(refine Xg.st0 (StF.storeAll (i:=1) rfl rfl rfl (te rfl) rfl rfl rfl rfl) rfl ?_;rintro _ _ ⟨rfl,rfl⟩;dsimp only [List.set])))|(refine Xo.g rfl rfl ?_;(first | (with_reducible refine Xw.tf rfl rfl ?_)|(with_reducible refine Xw.caseB (fun h=>?_) (fun h=>?_) <;> simp only [h,decide_true,decide_false,Bool.not_true,Bool.not_false,and_self,and_true,true_and,and_false,false_and])))))|(refine uD rfl ?_;refine hK _ _ ?_;clear hK K) | refine uS rfl ?_ | refine uR rfl (fun K hK=>?_) | refine X.block rfl ?_ | refine X.skip rfl ?_ | refine X.ret rfl ?_ | (refine X.ite rfl rfl (fun hc=>?_);(first | (with_reducible refine Xb.t hc ?_)|(with_reducible refine Xb.f hc ?_)|(with_reducible refine Xb.caseB hc (fun h=>?_) (fun h=>?_))) <;> clear hc))
 all_goals try (exfalso;contradiction)
 generalize bx = b19
 rename_i ta tb tn tk b18
 refine X.weak (F' := [(18,.pointer (some ⟨b18,0,none⟩)),(19,.pointer (some ⟨b19,0,none⟩))]) (H' := ⟨b19,0,cRm RE ⟨some ⟨ba,0,none⟩,4,some ⟨bb,0,none⟩,2,some ⟨bn,0,none⟩,kn⟩,some 32,5⟩::⟨b18,0,cRm RT ⟨some ⟨ta,0,none⟩,4,some ⟨tb,0,none⟩,2,some ⟨tn,0,none⟩,tk⟩,some 32,5⟩::⟨bn,0,(mmL 0).flatMap cMt,some 44,kn * 6⟩::⟨bb,0,cBx ⟨1,0⟩++cBx ⟨2,1⟩,some 47,2 * 2⟩::⟨ba,0,agesE.flatMap cSp,some 24,4 * 2⟩::⟨tn,0,(mmL 0).flatMap cMt,some 44,tk * 6⟩::⟨tb,0,cBx ⟨1,0⟩++cBx ⟨2,1⟩,some 47,2 * 2⟩::⟨ta,0,agesE.flatMap cSp,some 24,4 * 2⟩::H) (by repeat (first | exact uU _ | refine uV rfl ?_)) (by repeat (first | exact qR _ | apply qK | apply qC | refine List.Sublist.trans ?_ (List.sublist_append_right _ _))) ?_
 obtain ⟨R0,hR0⟩ : ∃ R0 : List Row,R0 = ⟨b18,0,cRm RT ⟨some ⟨ta,0,none⟩,4,some ⟨tb,0,none⟩,2,some ⟨tn,0,none⟩,tk⟩,some 32,5⟩::⟨bb,0,cBx ⟨1,0⟩++cBx ⟨2,1⟩,some 47,2 * 2⟩::⟨ba,0,agesE.flatMap cSp,some 24,4 * 2⟩::⟨tn,0,(mmL 0).flatMap cMt,some 44,tk * 6⟩::⟨tb,0,cBx ⟨1,0⟩++cBx ⟨2,1⟩,some 47,2 * 2⟩::⟨ta,0,agesE.flatMap cSp,some 24,4 * 2⟩::H:=⟨_,rfl⟩
 have m18 : (⟨b18,0,cRm RT ⟨some ⟨ta,0,none⟩,4,some ⟨tb,0,none⟩,2,some ⟨tn,0,none⟩,tk⟩,some 32,5⟩ : Row) ∈ R0:=by rw [hR0];exact (by repeat (first | exact qH _ | apply qT))
 have mB : (⟨bb,0,cBx ⟨1,0⟩++cBx ⟨2,1⟩,some 47,2 * 2⟩ : Row) ∈ R0:=by rw [hR0];exact (by repeat (first | exact qH _ | apply qT))
 have mA : (⟨ba,0,agesE.flatMap cSp,some 24,4 * 2⟩ : Row) ∈ R0:=by rw [hR0];exact (by repeat (first | exact qH _ | apply qT))
 have oT : RmOk R0 RT ⟨some ⟨ta,0,none⟩,4,some ⟨tb,0,none⟩,2,some ⟨tn,0,none⟩,tk⟩:=by
  have:=rmX ta tb tn tk R0 (by rw [hR0];exact (by repeat (first | exact qH _ | apply qT))) (by rw [hR0];exact (by repeat (first | exact qH _ | apply qT))) (by rw [hR0];exact (by repeat (first | exact qH _ | apply qT)))
  exact ⟨this.ages,this.boxes,this.mats,this.l1,this.l2,this.l3⟩
 refine X.permH (H' := ⟨bn,0,(mmL 0).flatMap cMt,some 44,kn * 6⟩::⟨b19,0,cRm RE ⟨some ⟨ba,0,none⟩,4,some ⟨bb,0,none⟩,2,some ⟨bn,0,none⟩,kn⟩,some 32,5⟩::R0) (by rw [hR0];exact (List.perm_middle (l₁:=[_,_])).symm) ?_
 refine X.lp rfl (fun q F' H' => ∃ (k bn kn : Nat),q = 7 - k∧k ≤ 7∧⟨bn,0,(mmL k).flatMap cMt,some 44,kn * 6⟩::⟨b19,0,cRm (roomE (mmL k)) ⟨some ⟨ba,0,none⟩,4,some ⟨bb,0,none⟩,2,some ⟨bn,0,none⟩,kn⟩,some 32,5⟩::R0 = H'∧F' = [(18,.pointer (some ⟨b18,0,none⟩)),(19,.pointer (some ⟨b19,0,none⟩))])
  7 [(18,.pointer (some ⟨b18,0,none⟩)),(19,.pointer (some ⟨b19,0,none⟩))] _ (by repeat (first | exact uU _ | refine uV rfl ?_)) (qR _) ⟨0,bn,kn,rfl,by omega,rfl,rfl⟩ ?_
 clear hR0 s1 s2
 clear bn kn
 rintro _ _ _ ⟨k,bn,kn,rfl,hk,rfl,rfl⟩
 have hml:=mmL_len k
 by_cases hlt : k < 7
 ·have hlt' : (((mmL k).length : Nat) : Int)<8:=by omega
  repeat' (first | (refine uP rfl ?_;(first | ((first | refine uN rfl ?_);(first | (refine uE (uQ (b:=true) rfl rfl rfl (congrArg some (decide_eq_true hlt'))) rfl rfl ?_)|(refine uE (EvF.lenSlice rfl rfl (te rfl)) rfl rfl ?_)|(refine uE (uF rfl rfl (te rfl) rfl (te rfl) (by decide)) rfl rfl ?_)|(refine uE (uL rfl rfl (uO (te rfl) rfl (qT _ (qH _)) rfl)) rfl rfl ?_)))))|(refine uD rfl ?_;refine hK _ _ ?_;clear hK K) | refine uS rfl ?_ | refine uR rfl (fun K hK=>?_) | refine X.block rfl ?_ | refine X.skip rfl ?_ | (refine X.ite rfl rfl (fun hc=>?_);(first | (with_reducible refine Xb.t hc ?_)) <;> clear hc))
  all_goals try (exfalso;contradiction)
  refine X.weak (F' := [(18,.pointer (some ⟨b18,0,none⟩)),(19,.pointer (some ⟨b19,0,none⟩))]) (H' := ⟨bn,0,(mmL k).flatMap cMt,some 44,kn * 6⟩::⟨b19,0,[.int .i64 4,.int .i64 5,.slice (some ⟨ba,0,none⟩) 4 4,.slice (some ⟨bb,0,none⟩) 2 2,.slice (some ⟨bn,0,none⟩) (mmL k).length kn],some 32,5⟩::R0) (by repeat (first | exact uU _ | refine uV rfl ?_)) (qR _) ?_
  have hsn:=mmL_snoc k
  have hfm : ((mmL k).flatMap cMt).length = (mmL k).length * 6:=by
   clear hsn hml hlt'
   generalize mmL k = l
   induction l with
   | nil=>rfl
   | cons x t ih=>rw [List.flatMap_cons,List.length_append,ih,List.length_cons];show 6 + t.length * 6 = _;omega
  generalize mmL k = L at hml hsn hfm ⊢
  refine X.regionRd tsKap rdKap [18,19] [(18,.pointer (some ⟨b18,0,none⟩)),(19,.pointer (some ⟨b19,0,none⟩))] (valKap b18 b19 ba bb bn kn L) (rowsKap b18 b19 ba bb bn kn L) (fun _=>(0,0)) (R0) rfl mixed (by repeat (first | exact uU _ | refine uV rfl ?_)) rfl (by kernel_rfl) (by kernel_rfl) (locKap b18 b19 ba bb bn kn L) (qR _) ?_ ?_
  ·repeat' (first | exact AllF.done rfl | (refine AllF.step rfl ?_ ?_;·(first | exact (Ob.ng rfl (ObK.pure (fun env R hR=>by exact ⟨_,uF rfl rfl (te rfl) rfl (te rfl) (by decide),rfl⟩) rfl (fun _=>rfl))).toR | exact (Ob.ng rfl (ObK.pure (fun env R hR=>by exact ⟨_,EvF.lenSlice rfl rfl (te rfl),rfl⟩) rfl (fun _=>rfl))).toR | (refine ObR.ng rfl ?_;(first | (exact fun env S hS hrd=>(StF.ofEv (uL rfl rfl (uO (te rfl) rfl (hrd 12 (qH _) _ (qH _)) rfl))).op.mono (fun v H' ⟨hv,hH⟩=>⟨(0,0),fun _=>hv,by rw [hH];exact List.Perm.refl _⟩))|(exact fun env S hS hrd=>(StF.ofEv (EvF.add64 rfl rfl rfl (by omega) (by omega))).op.mono (fun v H' ⟨hv,hH⟩=>⟨(0,0),fun _=>hv,by rw [hH];exact List.Perm.refl _⟩))|(exact fun env S hS hrd=>(OpF.call (uT rfl (Args.cons rfl (Args.cons rfl (Args.cons rfl (Args.cons rfl (Args.cons rfl (Args.cons rfl Args.nil))))))) (lawMatch ((L.length : Int) + 1) 3 1 2 (-60) 60 _)).mono (fun v H' ⟨hv,hH⟩=>⟨(0,0),fun _=>hv,by rw [hH];exact List.Perm.refl _⟩))|(exact fun env S hS hrd=>(StF.buildOne (cs:=cMt ⟨(L.length : Int) + 1,3,1,2, -60,60⟩) rfl el24 rfl rfl rfl (by decide) (by decide)).op.mono (fun v H' ⟨b,hv,hH⟩=>⟨(b,0),fun _=>hv,by rw [hH];exact List.Perm.refl _⟩))|(exact fun env S hS hrd=>(StF.appendOwn (i:=0) (news:=cMt ⟨(L.length : Int) + 1,3,1,2, -60,60⟩) rfl el24 rfl rfl rfl hfm rfl (Rd.own (qT _ (hrd 7 (qH _) _ (qH _)))) rfl (by omega)).op.mono (fun v H' ⟨b,c,hv,hH⟩=>⟨(b,c),fun _=>hv,by rw [hH];exact List.Perm.refl _⟩))|(exact fun env S hS hrd=>(StF.storeOne (i:=0) rfl rfl rfl rfl (te rfl) rfl rfl (Nat.le_of_ble_eq_true rfl)).op.mono (fun v H' ⟨hv,hH⟩=>⟨(0,0),fun h=>absurd rfl h,by rw [hH];exact List.Perm.refl _⟩)))))))
  ·intro env t ha hv
   refine ⟨[(18,.pointer (some ⟨b18,0,none⟩)),(19,.pointer (some ⟨b19,0,none⟩))],ha,?_⟩
   have e1 : cRm (roomE (mmL (k + 1))) ⟨some ⟨ba,0,none⟩,4,some ⟨bb,0,none⟩,2,some ⟨(env 8).1,0,none⟩,(env 8).2⟩ = [.int .i64 4,.int .i64 5,.slice (some ⟨ba,0,none⟩) 4 4,.slice (some ⟨bb,0,none⟩) 2 2,.slice (some ⟨(env 8).1,0,none⟩) (L.length + 1) (env 8).2]:=by
    rw [hsn]
    show [_,_,_,_,Value.slice _ (L++[_]).length _] = _
    rw [List.length_append]
    rfl
   have e2 : (mmL (k + 1)).flatMap cMt = L.flatMap cMt++cMt ⟨(L.length : Int) + 1,3,1,2, -60,60⟩:=by
    rw [hsn,List.flatMap_append];rfl
   show ∃ (m' : Nat) (F'' : FS) (H'' : List Row),_
   refine ⟨_,[(18,.pointer (some ⟨b18,0,none⟩)),(19,.pointer (some ⟨b19,0,none⟩))],_,(by repeat (first | exact uU _ | refine uV rfl ?_)),?_,⟨k + 1,(env 8).1,(env 8).2,rfl,by omega,rfl,rfl⟩,by omega⟩
   rw [e1,e2]
   exact (List.sublist_cons_self (⟨(env 7).1,0,cMt ⟨(L.length : Int) + 1,3,1,2, -60,60⟩,some 44,1 * 6⟩ : Row) (⟨(env 8).1,0,L.flatMap cMt++cMt ⟨(L.length : Int) + 1,3,1,2, -60,60⟩,some 44,(env 8).2 * 6⟩::⟨b19,0,[.int .i64 4,.int .i64 5,.slice (some ⟨ba,0,none⟩) 4 4,.slice (some ⟨bb,0,none⟩) 2 2,.slice (some ⟨(env 8).1,0,none⟩) (L.length + 1) (env 8).2],some 32,5⟩::R0))
 ·obtain rfl : k = 7:=by omega
  have hlt' : ¬ (((mmL 7).length : Nat) : Int)<8:=by omega
  repeat' (first | (refine uP rfl ?_;(first | ((first | refine uN rfl ?_);(first | (refine uE (uQ (b:=false) rfl rfl rfl (congrArg some (decide_eq_false hlt'))) rfl rfl ?_)|(refine uE (EvF.lenSlice rfl rfl (te rfl)) rfl rfl ?_)|(refine uC (uT rfl (Args.cons rfl Args.nil)) rfl rfl (room_specX _) ?_;rintro _ _ ⟨fa,fb,fn9,fk,rfl,rfl⟩)|(refine Xg.st (StF.alloc rfl Tryz.zeroValue32 rfl) rfl rfl ?_;rintro _ _ ⟨bx,rfl,rfl⟩)|(refine Xg.st0 (StF.storeAll (i:=0) (vs:=cRm RE ⟨some ⟨fa,0,none⟩,4,some ⟨fb,0,none⟩,2,some ⟨fn9,0,none⟩,fk⟩) rfl rfl rfl (te rfl) rfl rfl rfl rfl) rfl ?_;rintro _ _ ⟨rfl,rfl⟩;dsimp only [List.set])|(refine uE (EvF.build (cs:=cBx ⟨3,0⟩) rfl (ArgsP.cons rfl ArgsP.nil) (te rfl) (Places.cons (te rfl) (Places.cons (te rfl) Places.nil)) Tryz.zeroValue47 rfl) rfl rfl ?_)|(refine uE (EvF.build (cs:=cBx ⟨4,0⟩) rfl (ArgsP.cons rfl ArgsP.nil) (te rfl) (Places.cons (te rfl) (Places.cons (te rfl) Places.nil)) Tryz.zeroValue47 rfl) rfl rfl ?_)|(refine Xg.st (StF.buildTwo (cs:=cBx ⟨3,0⟩) (ds:=cBx ⟨4,0⟩) rfl el23 rfl rfl rfl rfl rfl rfl (by decide) (by decide)) rfl rfl ?_;rintro _ _ ⟨bt,rfl,rfl⟩)|(refine Xg.st (StF.appendOwn (i:=3) (news:=cBx ⟨3,0⟩++cBx ⟨4,0⟩) rfl el23 rfl rfl rfl rfl rfl (Rd.own (qH _)) rfl (by decide)) rfl rfl ?_;rintro _ _ ⟨bw,kw,rfl,rfl⟩;dsimp only [List.eraseIdx])|(refine uE (uF rfl rfl (te rfl) rfl (te rfl) (by decide)) rfl rfl ?_)|(refine uE (uL rfl rfl (uO (te rfl) rfl (qH _) rfl)) rfl rfl ?_)|(refine uE (uL rfl rfl (uO (te rfl) rfl (qT _ (qH _)) rfl)) rfl rfl ?_)|(refine Xg.st0 (StF.storeOne (i:=2) rfl rfl rfl rfl (te rfl) rfl rfl (Nat.le_of_ble_eq_true rfl)) rfl ?_;rintro _ _ ⟨rfl,rfl⟩;dsimp only [List.set])))))|(refine uD rfl ?_;refine hK _ _ ?_;clear hK K) | refine uS rfl ?_ | refine uR rfl (fun K hK=>?_)|(refine X.brk rfl ?_;repeat (first | refine blockX_hit rfl ?_ | refine blockX_miss (by decide) ?_))|(refine X.ite rfl rfl (fun hc=>?_);(first | (with_reducible refine Xb.f hc ?_)) <;> clear hc))
  all_goals try (exfalso;contradiction)
  generalize bx = b20
  obtain ⟨G,hG⟩ : ∃ G : List Row,G = ⟨bw,0,bxF.flatMap cBx,some 47,kw * 2⟩::⟨b20,0,cRm RF ⟨some ⟨fa,0,none⟩,4,some ⟨bw,0,none⟩,kw,some ⟨fn9,0,none⟩,fk⟩,some 32,5⟩::⟨fn9,0,(mmL 0).flatMap cMt,some 44,fk * 6⟩::⟨fa,0,agesE.flatMap cSp,some 24,4 * 2⟩::⟨bn,0,(mmL 7).flatMap cMt,some 44,kn * 6⟩::⟨b19,0,cRm RM ⟨some ⟨ba,0,none⟩,4,some ⟨bb,0,none⟩,2,some ⟨bn,0,none⟩,kn⟩,some 32,5⟩::R0:=⟨_,rfl⟩
  refine XO.weakG (H' := G) (by rw [hG];exact (by repeat (first | exact qR _ | apply qK | apply qC))) ?_
  have n18 : (⟨b18,0,cRm RT ⟨some ⟨ta,0,none⟩,4,some ⟨tb,0,none⟩,2,some ⟨tn,0,none⟩,tk⟩,some 32,5⟩ : Row) ∈ G:=by rw [hG];exact qT _ (qT _ (qT _ (qT _ (qT _ (qT _ m18)))))
  have n19 : (⟨b19,0,cRm RM ⟨some ⟨ba,0,none⟩,4,some ⟨bb,0,none⟩,2,some ⟨bn,0,none⟩,kn⟩,some 32,5⟩ : Row) ∈ G:=by rw [hG];exact (by repeat (first | exact qH _ | apply qT))
  have n20 : (⟨b20,0,cRm RF ⟨some ⟨fa,0,none⟩,4,some ⟨bw,0,none⟩,kw,some ⟨fn9,0,none⟩,fk⟩,some 32,5⟩ : Row) ∈ G:=by rw [hG];exact (by repeat (first | exact qH _ | apply qT))
  have hsb : ∀ r ∈ R0,r ∈ G:=fun r h=>by rw [hG];exact qT _ (qT _ (qT _ (qT _ (qT _ (qT _ h)))))
  have qTT : RmOk G RT ⟨some ⟨ta,0,none⟩,4,some ⟨tb,0,none⟩,2,some ⟨tn,0,none⟩,tk⟩:=oT.sub hsb
  have qM : RmOk G RM ⟨some ⟨ba,0,none⟩,4,some ⟨bb,0,none⟩,2,some ⟨bn,0,none⟩,kn⟩:=⟨SlE.ofRow (l:=agesE) (hsb _ mA) (fun _ _=>rfl),SlE.ofRow (l:=([⟨1,0⟩,⟨2,1⟩] : List Bx)) (hsb _ mB) (fun _ _=>rfl),SlE.ofRow (l:=mmL 7) (by rw [hG];exact (by repeat (first | exact qH _ | apply qT))) (fun _ _=>rfl),Nat.le_of_ble_eq_true rfl,Nat.le_of_ble_eq_true rfl,Nat.le_of_ble_eq_true rfl⟩
  have qF : RmOk G RF ⟨some ⟨fa,0,none⟩,4,some ⟨bw,0,none⟩,kw,some ⟨fn9,0,none⟩,fk⟩:=⟨SlE.ofRow (l:=agesE) (by rw [hG];exact (by repeat (first | exact qH _ | apply qT))) (fun _ _=>rfl),SlE.ofRow (l:=bxF) (by rw [hG];exact (by repeat (first | exact qH _ | apply qT))) (fun _ _=>rfl),SlE.ofRow (l:=mmL 0) (by rw [hG];exact (by repeat (first | exact qH _ | apply qT))) (fun _ _=>rfl),Nat.le_of_ble_eq_true rfl,Nat.le_of_ble_eq_true rfl,Nat.le_of_ble_eq_true rfl⟩
  clear hG m18 mB mA oT hsb
  repeat' (first | (refine uP rfl ?_;(first | ((first | refine uN rfl ?_ | (refine Xo.g rfl rfl ?_;with_reducible refine Xw.tt ?_));(first | (refine uE (uX rfl rfl rfl) rfl rfl ?_)|(refine uE (uQ (b:=true) rfl rfl rfl (congrArg some (decide_eq_true (Eq.refl (10 : Int))))) rfl rfl ?_)|(refine uE (uQ (b:=true) rfl rfl rfl (congrArg some (decide_eq_true (Eq.refl (6 : Int))))) rfl rfl ?_)|(refine uE (uQ (b:=true) rfl rfl rfl (congrArg some (decide_eq_true (Eq.refl (11 : Int))))) rfl rfl ?_)|(refine uE (uQ (b:=true) rfl rfl rfl (congrArg some (decide_eq_true (Eq.refl (8 : Int))))) rfl rfl ?_)|(refine uE (uQ (b:=true) rfl rfl rfl (congrArg some (decide_eq_true (Eq.refl (2 : Int))))) rfl rfl ?_)|(refine uE (uQ (b:=true) rfl rfl rfl (congrArg some (decide_eq_true (Eq.refl (9 : Int))))) rfl rfl ?_)|(refine uE (uQ (b:=true) rfl rfl rfl (congrArg some (decide_eq_true (Eq.refl (12 : Int))))) rfl rfl ?_)|(refine uE (uQ (b:=true) rfl rfl rfl (congrArg some (decide_eq_true (Eq.refl (13 : Int))))) rfl rfl ?_)|(refine uE (uQ (b:=true) rfl rfl rfl (congrArg some (decide_eq_true (Eq.refl (0 : Int))))) rfl rfl ?_)|(refine uE (uL rfl rfl (uW (b:=b18) (cs:=cRm RT ⟨some ⟨ta,0,none⟩,4,some ⟨tb,0,none⟩,2,some ⟨tn,0,none⟩,tk⟩) (te rfl) rfl (by (repeat (first | exact n18 | apply List.mem_append_right | apply qT));done) rfl)) rfl rfl ?_)|(refine uE (uL rfl rfl (uW (b:=b19) (cs:=cRm RM ⟨some ⟨ba,0,none⟩,4,some ⟨bb,0,none⟩,2,some ⟨bn,0,none⟩,kn⟩) (te rfl) rfl (by (repeat (first | exact n19 | apply List.mem_append_right | apply qT));done) rfl)) rfl rfl ?_)|(refine uE (uL rfl rfl (uW (b:=b20) (cs:=cRm RF ⟨some ⟨fa,0,none⟩,4,some ⟨bw,0,none⟩,kw,some ⟨fn9,0,none⟩,fk⟩) (te rfl) rfl (by (repeat (first | exact n20 | apply List.mem_append_right | apply qT));done) rfl)) rfl rfl ?_)|(refine uC (uT rfl (Args.cons rfl (Args.cons rfl (Args.cons rfl Args.nil)))) rfl rfl (c1 ⟨some ⟨ta,0,none⟩,4,some ⟨tb,0,none⟩,2,some ⟨tn,0,none⟩,tk⟩ _ (qTT.sub (fun _ h=>by repeat (first | exact h | apply List.mem_append_right | apply qT)))) ?_;rintro _ H9 ⟨rfl,hH9⟩;subst H9)|(refine uC (uT rfl Args.nil) rfl rfl (oddRO _) ?_;rintro _ _ ⟨po,Z,rfl,hpo,rfl⟩)|(refine uC (uT rfl (Args.cons rfl Args.nil)) rfl rfl (roomRE _) ?_;rintro _ _ ⟨po,Z,rfl,hpo,rfl⟩)|(refine uC (uT rfl (Args.cons rfl (Args.cons rfl (Args.cons rfl Args.nil)))) rfl rfl (c2 po _ (hpo _)) ?_;rintro _ H9 ⟨rfl,hH9⟩;subst H9)|(refine uC (uT rfl (Args.cons rfl (Args.cons rfl (Args.cons rfl Args.nil)))) rfl rfl (c3 po _ (hpo _)) ?_;rintro _ H9 ⟨rfl,hH9⟩;subst H9)|(refine uC (uT rfl (Args.cons rfl (Args.cons rfl (Args.cons rfl Args.nil)))) rfl rfl (c4 po _ (hpo _)) ?_;rintro _ H9 ⟨rfl,hH9⟩;subst H9)|(refine uC (uT rfl (Args.cons rfl (Args.cons rfl (Args.cons rfl Args.nil)))) rfl rfl (c5 po _ (hpo _)) ?_;rintro _ H9 ⟨rfl,hH9⟩;subst H9)|(refine uC (uT rfl (Args.cons rfl (Args.cons rfl (Args.cons rfl (Args.cons rfl Args.nil))))) rfl rfl (c6 po _ (hpo _)) ?_;rintro _ H9 ⟨rfl,hH9⟩;subst H9)|(refine uC (uT rfl (Args.cons rfl (Args.cons rfl (Args.cons rfl (Args.cons rfl Args.nil))))) rfl rfl (c7 po _ (hpo _)) ?_;rintro _ H9 ⟨rfl,hH9⟩;subst H9)|(refine uC (uT rfl (Args.cons rfl (Args.cons rfl (Args.cons rfl Args.nil)))) rfl rfl (c8 po _ (hpo _)) ?_;rintro _ H9 ⟨rfl,hH9⟩;subst H9)|(refine uC (uT rfl (Args.cons rfl (Args.cons rfl (Args.cons rfl Args.nil)))) rfl rfl (c9 po _ (hpo _)) ?_;rintro _ H9 ⟨rfl,hH9⟩;subst H9)|(refine uC (uT rfl (Args.cons rfl (Args.cons rfl Args.nil))) rfl rfl (c10 po _ (hpo _)) ?_;rintro _ _ ⟨u1,k1,Z1,rfl,s1,rfl⟩)|(refine uC (uT rfl (Args.cons rfl (Args.cons rfl Args.nil))) rfl rfl (c11 po _ (hpo _)) ?_;rintro _ H9 ⟨rfl,hH9⟩;subst H9)|(refine uC (uT rfl (Args.cons rfl (Args.cons rfl Args.nil))) rfl rfl (c12 po _ (hpo _)) ?_;rintro _ _ ⟨u2,k2,Z2,rfl,s2,rfl⟩)|(refine uC (uT rfl (Args.cons rfl (Args.cons rfl Args.nil))) rfl rfl (c13 ⟨some ⟨ba,0,none⟩,4,some ⟨bb,0,none⟩,2,some ⟨bn,0,none⟩,kn⟩ _ (qM.sub (fun _ h=>by repeat (first | exact h | apply List.mem_append_right | apply qT)))) ?_;rintro _ _ ⟨p5,Z5,rfl,rfl⟩)|(refine uC (uT rfl (Args.cons rfl (Args.cons rfl Args.nil))) rfl rfl (c14 po _ (hpo _)) ?_;rintro _ _ ⟨p5,Z5,rfl,rfl⟩)|(refine uC (uT rfl (Args.cons rfl (Args.cons rfl Args.nil))) rfl rfl (c15 po _ ((hpo _).sub (fun _ h=>qT _ h)) (some ⟨bq,0,none⟩) 1 (SlE.ofRow (l:=[2]) (qH _) (fun _ _=>rfl))) ?_;rintro _ _ ⟨p5,Z5,rfl,rfl⟩)|(refine uC (uT rfl (Args.cons rfl (Args.cons rfl Args.nil))) rfl rfl (c16 ⟨some ⟨fa,0,none⟩,4,some ⟨bw,0,none⟩,kw,some ⟨fn9,0,none⟩,fk⟩ _ (qF.sub (fun _ h=>by repeat (first | exact h | apply List.mem_append_right | apply qT)))) ?_;rintro _ _ ⟨p5,Z5,rfl,rfl⟩)|(refine uC (uT rfl (Args.cons rfl (Args.cons rfl Args.nil))) rfl rfl (c17 po _ (hpo _)) ?_;rintro _ _ ⟨p5,Z5,rfl,rfl⟩)|(refine uC (uT rfl (Args.cons rfl Args.nil)) rfl rfl (c18 ⟨some ⟨ta,0,none⟩,4,some ⟨tb,0,none⟩,2,some ⟨tn,0,none⟩,tk⟩ _ (qTT.sub (fun _ h=>by repeat (first | exact h | apply List.mem_append_right | apply qT)))) ?_;rintro _ H9 ⟨rfl,hH9⟩;subst H9)|(refine uC (uT rfl (Args.cons rfl Args.nil)) rfl rfl (c19 po _ (hpo _)) ?_;rintro _ H9 ⟨rfl,hH9⟩;subst H9)|(refine uC (uT rfl (Args.cons rfl (Args.cons rfl (Args.cons rfl (Args.cons rfl (Args.cons rfl (Args.cons rfl Args.nil))))))) rfl rfl (lawMatch 1 2 1 2 0 0 _) ?_;rintro _ H9 ⟨rfl,hH9⟩;subst H9)|(refine uE (EvF.build (cs:=cMt ⟨0,0,0,0,0,0⟩) rfl ArgsP.nil (te rfl) (Places.cons (te rfl) (Places.cons (te rfl) (Places.cons (te rfl) (Places.cons (te rfl) (Places.cons (te rfl) Places.nil))))) Tryz.zeroValue44 rfl) rfl rfl ?_)|(refine uE (EvF.build (cs:=cBx ⟨0,0⟩) rfl ArgsP.nil (te rfl) (Places.cons (te rfl) (Places.cons (te rfl) Places.nil)) Tryz.zeroValue47 rfl) rfl rfl ?_)|(refine uE (EvF.build (cs:=cBx ⟨2,0⟩) rfl (ArgsP.cons rfl ArgsP.nil) (te rfl) (Places.cons (te rfl) (Places.cons (te rfl) Places.nil)) Tryz.zeroValue47 rfl) rfl rfl ?_)|(refine Xg.st (StF.buildOne (cs:=[.int .i64 2]) rfl el55 rfl rfl rfl (by decide) (by decide)) rfl rfl ?_;rintro _ _ ⟨bq,rfl,rfl⟩)|(refine Xg.st (StF.alloc rfl Tryz.zeroValue32 rfl) rfl rfl ?_;rintro _ _ ⟨bx,rfl,rfl⟩)|(refine Xg.st0 (StF.storeAll (i:=0) (vs:=cRm Rz p5) rfl rfl rfl (te rfl) rfl rfl rfl rfl) rfl ?_;rintro _ _ ⟨rfl,rfl⟩;dsimp only [List.set])|(refine uE (uM rfl rfl) rfl rfl ?_)|(refine uE (uA rfl rfl) rfl rfl ?_)|(refine uE (EvF.pickT rfl rfl rfl) rfl rfl ?_)))))|(refine uD rfl ?_;refine hK _ _ ?_;clear hK K) | refine uS rfl ?_ | refine uR rfl (fun K hK=>?_) | refine X.ret rfl ?_)
  all_goals try (exfalso;contradiction)
  exact ret_one (by simp) Tryz.results3 rfl (H' := _) (qR _) rfl
end Go.Proofs.YtmfppdpkalelhaaGreat
end
section
set_option linter.unusedVariables false
namespace Go.Proofs.YtmfppdpkalelhaaGreat
open Go Go.Fw Go.ChangeShapes Go.WideShapes Go.ChangeAt Go.RowKit
set_option linter.unusedVariables false
set_option maxRecDepth 100000
theorem boxExamples_run  (w : World)   :
  Calls Tryz.prog 3 #[] w fun e w' => e = .returned (.bool true)∧Below w.heap.size w w' :=
 Fc.calls (H:=[]) (boxExamples_spec _) (fun r hr=>by cases hr)
theorem boxExamples_lifted (os : Os) (started : os.Started) (H : Type) (enc : TypeId × Value → H) :
  ReturnsInHanded {} Tryz.checked os 3 .any (Rows.boxExamplesSpec.pre6 enc Tryz.prog Tryz.f3 Rows.boxExamplesRow.domain false) (Rows.boxExamplesSpec.post enc Tryz.prog Tryz.f3 false true false false):=by
 refine returnsInHanded_of_change (C:=Tryz.checked) ownK started (by kernel_rfl) Tryz.func3
  (ChangeSpec.witness6 (enc:=enc) (C:=Tryz.checked) false ⟨#[], #[],[]⟩ 8 (by kernel_rfl) (by kernel_rfl) (by kernel_rfl) (by kernel_rfl)) ?_
 intro W base args ds gs before hval0 hW hcnd _
 have hval : ∀ (j : Nat) t v,Tryz.f3.params[j]? = some t → args[j]? = some v → Value.okWide Tryz.prog W .any base t v:=hval0
 have hW' := hW
 obtain ⟨p,q,hA0,hV,rfl,hfz,hnd⟩:=hW
 have hA : DataW.TrodAll enc Tryz.prog W 0 (fun _=>true) true Tryz.f3.params.toList args.toList ds p:=hA0
 rw [Tryz.params3] at hA hval
 obtain ⟨hargs,rfl,rfl⟩:=trodAll_nil hA
 obtain rfl : args = #[]:=by cases args;simp_all
 obtain ⟨rfl,rfl⟩:=trodVars_none hV
 have lt : ∀ {t v d ps},DataW.Trod enc Tryz.prog W 0 (fun _=>true) true t v d ps → ∀ x ∈ ps,x.block < W.heap.size:=fun h=>by obtain ⟨m,hm⟩:=h;exact DataW.trod_lt m _ _ _ hm
 clear hA0 hval0
 refine (boxExamples_run  W ).mono fun e W' ⟨he,bel⟩=>?_
 subst he
 exact ⟨_,rfl,_,_,_,[],_,[],hW',trodAll_mk1 (shut_bool Tryz.underlying4 _),trodAll_mk0,rfl,bel.frame _,fun h=>by cases h⟩
theorem boxExamples_over : Rows.boxExamplesRow.holds Tryz.pinned (OpenSpec.ofChange Rows.boxExamplesSpec) :=
 OpenClaim.holds_of_wide 3 Tryz.f3 rfl rfl rfl rfl rfl rfl rfl ⟨rfl,rfl,rfl,rfl,rfl⟩ rfl rfl rfl rfl rfl (by kernel_rfl) Tryz.func3 (by kernel_rfl)
  (of_decide_eq_true (by kernel_rfl)) (by unfold Func.isWrapper;first | (rw [if_pos (by decide +kernel)];kernel_rfl)|(rw [if_neg (by decide +kernel)];exact ⟨rfl,rfl⟩))
  (fun os started H enc _=>boxExamples_lifted os started H enc)
theorem boxExamples_proved : Rows.BoxExamplesSaid:=boxExamples_over
#print axioms boxExamples_proved
end Go.Proofs.YtmfppdpkalelhaaGreat
end
