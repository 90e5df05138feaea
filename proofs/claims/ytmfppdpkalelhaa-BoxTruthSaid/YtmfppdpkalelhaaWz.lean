/- BoxTruth: for every room, choices and points the law returns true (of each truth that is chosen, the points of each box in each month, the differences, since when a box has yellowed by so much, and who is the freshest, are within what is told), and each argument reads afterwards as before. No condition. -/
import Derived.Test.YtmfppdpkalelhaaW08
import Derived.OpenShut
import Derived.ProofKit
import Derived.Test.YtmfppdpkalelhaaRows
import Derived.WalkKit
import Derived.ChangeOld
import Derived.ShutString
set_option linter.unusedVariables false
set_option linter.unusedSimpArgs false
namespace Go.Proofs.Ytmfppdpkalelhaa
open Go Go.Fw
set_option maxRecDepth 10000
/-- a table of numbers that is a truth of a room -/
structure TruY (R : Rm) (Y : List Int) : Prop where
 rdy : Rdy R
 bd : ∀ (j : Nat) (m : Int),0 ≤ yat Y j m∧yat Y j m ≤ 60
 len : Y.length = 48
 all : ∃ z,Tru R R.mats z ∧ ∀ j b m,R.boxes[j]? = some b → there R b m → z ⟨b.id,m⟩ = yat Y j m
theorem tr_cell {R : Rm} {Y : List Int} (h : TruY R Y) {j : Nat} {m : Int} (hj : j < 4) (hm : 0 ≤ m∧m ≤ 11) : (Y.flatMap cI)[0 + (j : Int).toNat * 12 + m.toNat * 1]? = some (.int .i64 (yat Y j m)):=by
 have hl:=h.len
 rw [show 0 + (j : Int).toNat * 12 + m.toNat * 1 = j * 12 + m.toNat by omega,get_cell]
 unfold yat
 rw [List.getD_eq_getElem?_getD,List.getElem?_eq_getElem (by omega)]
 rfl
theorem tr_box {R : Rm} {Y : List Int} (h : TruY R Y) {j : Nat} {b : Bx} {m : Int} (hb : R.boxes[j]? = some b) (h1 : b.made ≤ m) (h2 : m ≤ R.months - 1) : (0 ≤ m∧m ≤ R.months - 1)∧b.id ∈ thI R m∧(rng R R.mats ⟨b.id,m⟩ zp).lo ≤ yat Y j m∧yat Y j m ≤ (rng R R.mats ⟨b.id,m⟩ zp).hi:=by
 obtain ⟨ht,hm,hi⟩:=rdy_bx h.rdy (List.mem_of_getElem? hb) h1 h2
 obtain ⟨z,hz,hzy⟩:=h.all
 have:=(rdy_exz h.rdy hm hi).all z hz
 rw [hzy j b m hb ht,hz.zero] at this
 exact ⟨hm,hi,by omega,by omega⟩
theorem tr_dif {R : Rm} {Y : List Int} (h : TruY R Y) {i j : Nat} {a b : Bx} {m : Int} (ha : R.boxes[i]? = some a) (hb : R.boxes[j]? = some b) (h1 : a.made ≤ m) (h2 : b.made ≤ m) (h3 : m ≤ R.months - 1) : (rng R R.mats ⟨a.id,m⟩ ⟨b.id,m⟩).lo ≤ yat Y i m - yat Y j m∧yat Y i m - yat Y j m ≤ (rng R R.mats ⟨a.id,m⟩ ⟨b.id,m⟩).hi:=by
 obtain ⟨ht1,hm,hi1⟩:=rdy_bx h.rdy (List.mem_of_getElem? ha) h1 h3
 obtain ⟨ht2,_,hi2⟩:=rdy_bx h.rdy (List.mem_of_getElem? hb) h2 h3
 obtain ⟨z,hz,hzy⟩:=h.all
 have:=(rdy_ex h.rdy hm hi1 hi2).all z hz
 rw [hzy i a m ha ht1,hzy j b m hb ht2] at this
 exact this
theorem tr_fre {R : Rm} {Y : List Int} (h : TruY R Y) {i : Nat} {a : Bx} {m : Int} (ha : R.boxes[i]? = some a) (h1 : a.made ≤ m) (h3 : m ≤ R.months - 1) (hl : ∀ (j : Nat) z,R.boxes[j]? = some z → z.made ≤ m → yat Y i m ≤ yat Y j m) : a.id ∈ freL R m:=by
 obtain ⟨ht1,hm,hi1⟩:=rdy_bx h.rdy (List.mem_of_getElem? ha) h1 h3
 refine mem_fre.2 ⟨hi1,fun b hb=>?_⟩
 obtain ⟨c,hc,rfl⟩:=rdy_there hm hb
 obtain ⟨j,hj⟩:=List.mem_iff_getElem?.1 hc.1
 have e1:=tr_dif h ha hj h1 hc.2.1 h3
 have e2:=hl j c hj hc.2.1
 omega
def tsKt5 : List TOp:=[⟨some 333,[],[],[]⟩,⟨some 334,[0],[0],[]⟩,⟨some 335,[0,1],[],[]⟩,⟨some 336,[0,1,2],[2],[]⟩,⟨some 337,[0,1],[],[]⟩,⟨some 338,[0,1,2,3,4],[3,4],[]⟩,⟨some 339,[0,1,2,3,4,5],[5],[]⟩,⟨some 340,[0,1,2,3,4,5,6],[],[]⟩,⟨some 341,[0,1,2,3,4,5,6],[],[]⟩,⟨some 342,[0,1,2,3,4,5,6,7],[7],[]⟩,⟨some 343,[0,1,2,3,4,5,6,7,8,9],[9,8],[]⟩,⟨some 344,[0,1,2,3,4,5,6,7,8,9,10],[10],[]⟩,⟨some 345,[0,1,2,3,4,5,6],[],[]⟩,⟨some 346,[0,1,2,3,4,5,6],[],[]⟩,⟨some 347,[0,1,2,3,4,5,6,12],[12],[]⟩,⟨some 348,[0,1,2,3,4,5,6,12,13,14],[14,13],[]⟩,⟨some 349,[0,1,2,3,4,5,6,12,13,14,15],[15],[]⟩,⟨some 350,[0,1,2,3,4,5,6,7,8,9,10,11,12,13,14,15,16],[11,16],[]⟩,⟨some 351,[0,1,2,3,4,5,6,7,8,9,10,11,12,13,14,15,16,17],[6,17],[]⟩,⟨some 352,[0,1,2,3,4,5,6,7,8,9,10,11,12,13,14,15,16,17,18],[1,18],[]⟩,⟨some 36,[0,1,2,3,4,5,6,7,8,9,10,11,12,13,14,15,16,17,18,19],[19],[]⟩]
noncomputable def valKt5 (b3 b8 b35 b38 ii jj mm : Nat) (R : Rm) (z : Bx) (q3 : Option Addr) (q4 : Nat) (a1 : Option Addr) (c1 : Nat) (w gz le : Bool) (ya yb : Int) (k : Nat) (env : Env) : Value :=
 match k with
 | 0 => .bool w
 | 1 => .bool w
 | 2=>gt (!w) (.pointer (some ⟨b38,1,none⟩))
 | 3=>gt (!w) (.int .i64 z.made)
 | 4=>gt (!w) (.int .i64 (mm : Nat))
 | 5=>gt (!w) (.bool gz)
 | 6=>gt (!w) (.bool gz)
 | 7=>gt (!w || gz) (.int .i64 (ii : Nat))
 | 8=>gt (!w || gz) (.int .i64 (mm : Nat))
 | 9=>gt (!w || gz) (.pointer (some ⟨b8,0 + (ii : Int).toNat * 12,none⟩))
 | 10=>gt (!w || gz) (.pointer (some ⟨b8,0 + (ii : Int).toNat * 12 + ((mm : Int)).toNat * 1,none⟩))
 | 11=>gt (!w || gz) (.int .i64 ya)
 | 12=>gt (!w || gz) (.int .i64 (jj : Nat))
 | 13=>gt (!w || gz) (.int .i64 (mm : Nat))
 | 14=>gt (!w || gz) (.pointer (some ⟨b8,0 + (jj : Int).toNat * 12,none⟩))
 | 15=>gt (!w || gz) (.pointer (some ⟨b8,0 + (jj : Int).toNat * 12 + ((mm : Int)).toNat * 1,none⟩))
 | 16=>gt (!w || gz) (.int .i64 yb)
 | 17=>gt (!w || gz) (.bool le)
 | 18=>gt (!w) (.bool (gz || le))
 | 19 => .bool (w && (gz || le))
 | 20 => .bool (w && (gz || le))
 | _=>undef
noncomputable def rowsKt5 (b3 b8 b35 b38 ii jj mm : Nat) (R : Rm) (z : Bx) (q3 : Option Addr) (q4 : Nat) (a1 : Option Addr) (c1 : Nat) (w gz le : Bool) (ya yb : Int) (k : Nat) (env : Env) : List Row :=
 match k with
 | _=>[]
theorem locKt5 (b3 b8 b35 b38 ii jj mm : Nat) (R : Rm) (z : Bx) (q3 : Option Addr) (q4 : Nat) (a1 : Option Addr) (c1 : Nat) (w gz le : Bool) (ya yb : Int) : ∀ k env i q9,i ≠ k → (tAt tsKt5 k).sup.contains i = false → valKt5 b3 b8 b35 b38 ii jj mm R z q3 q4 a1 c1 w gz le ya yb k (upd env i q9)=valKt5 b3 b8 b35 b38 ii jj mm R z q3 q4 a1 c1 w gz le ya yb k env∧rowsKt5 b3 b8 b35 b38 ii jj mm R z q3 q4 a1 c1 w gz le ya yb k (upd env i q9)=rowsKt5 b3 b8 b35 b38 ii jj mm R z q3 q4 a1 c1 w gz le ya yb k env:=by
 intro k env i q hk hs
 have hu : ∀ j,j ≠ i → upd env i q j = env j:=fun j hj=>by unfold upd;rw [if_neg hj]
 match k,hk,hs with
 | 0,_,_=>exact ⟨rfl,rfl⟩
 | 1,_,_=>exact ⟨rfl,rfl⟩
 | 2,_,_=>exact ⟨rfl,rfl⟩
 | 3,_,_=>exact ⟨rfl,rfl⟩
 | 4,_,_=>exact ⟨rfl,rfl⟩
 | 5,_,_=>exact ⟨rfl,rfl⟩
 | 6,_,_=>exact ⟨rfl,rfl⟩
 | 7,_,_=>exact ⟨rfl,rfl⟩
 | 8,_,_=>exact ⟨rfl,rfl⟩
 | 9,_,_=>exact ⟨rfl,rfl⟩
 | 10,_,_=>exact ⟨rfl,rfl⟩
 | 11,_,_=>exact ⟨rfl,rfl⟩
 | 12,_,_=>exact ⟨rfl,rfl⟩
 | 13,_,_=>exact ⟨rfl,rfl⟩
 | 14,_,_=>exact ⟨rfl,rfl⟩
 | 15,_,_=>exact ⟨rfl,rfl⟩
 | 16,_,_=>exact ⟨rfl,rfl⟩
 | 17,_,_=>exact ⟨rfl,rfl⟩
 | 18,_,_=>exact ⟨rfl,rfl⟩
 | 19,_,_=>exact ⟨rfl,rfl⟩
 | 20,_,_=>exact ⟨rfl,rfl⟩
 | _ + 21,_,_=>exact ⟨rfl,rfl⟩
def rdKt5 (_ : Nat) : List Nat:=[]
set_option maxHeartbeats 16000000 in
theorem truth_lB (R : Rm) (q1 : Option Addr) (q2 : Nat) (q3 : Option Addr) (q4 : Nat) (q5 : Option Addr) (q6 : Nat) (Y : List Int) (b3 b8 : Nat) (G : List Row) (h3 : (⟨b3,0,cRm R ⟨q1,q2,q3,q4,q5,q6⟩,some 26,5⟩ : Row) ∈ G) (h8 : (⟨b8,0,Y.flatMap cI,some 77,48⟩ : Row) ∈ G) (hR : RmOk G R ⟨q1,q2,q3,q4,q5,q6⟩) (hT : TruY R Y) (F : FS) (hF : Sub [(3,.pointer (some ⟨b3,0,none⟩)),(7,.bool true),(8,.pointer (some ⟨b8,0,none⟩))] F) :
  X Try.prog 365 (csnd (csnd (csnd (csnd (csnd (csnd (csnd (csnd (csnd (cof Try.f7)))))))))) F G (retX Try.prog Try.f7 (fun v _=>v = .bool true)):=by
 have hok:=hT.rdy.ok
 have hm1:=hok.ok.m1
 have hm12:=hok.ok.m12
 have hb4:=hok.ok.b4
 have hbxs:=hR.boxes
 refine X.weak hF (qR _) ?_
 repeat' (first | (refine uP rfl ?_;(first | ((first | refine uN rfl ?_);(first | (refine uE (uL rfl rfl (uO (te rfl) rfl h3 rfl)) rfl rfl ?_)|(refine uE (uM rfl rfl) rfl rfl ?_)|(refine uE (uF rfl rfl (te rfl) rfl (te rfl) (by decide)) rfl rfl ?_)))))|(refine uD rfl ?_;refine hK _ _ ?_;clear hK K) | refine uS rfl ?_ | refine uR rfl (fun K hK=>?_) | refine X.block rfl ?_)
 all_goals try (exfalso;contradiction)
 refine X.lp rfl (fun q F' H' => ∃ mm : Nat,q = (R.months - mm).toNat∧(mm : Int)≤R.months∧G = H'∧F' = [(3,.pointer (some ⟨b3,0,none⟩)),(7,.bool true),(8,.pointer (some ⟨b8,0,none⟩)),(301,.int .i64 R.months),(302,.int .i64 (mm : Nat))])
  R.months.toNat [(3,.pointer (some ⟨b3,0,none⟩)),(7,.bool true),(8,.pointer (some ⟨b8,0,none⟩)),(301,.int .i64 R.months),(302,.int .i64 (0 : Nat))] G (by repeat (first | exact uU _ | refine uV rfl ?_)) (qR _) ⟨0,by omega,by omega,rfl,rfl⟩ ?_
 rintro _ _ _ ⟨mm,rfl,hk,rfl,rfl⟩
 by_cases hlt : (mm : Int)<R.months
 ·have hfe:=fre_eq hT.rdy (m:=(mm : Int)) (by omega)
  have kf : ∀ S,RmOk S R ⟨q1,q2,q3,q4,q5,q6⟩ → Fc Try.prog 34 [.agg (cRm R ⟨q1,q2,q3,q4,q5,q6⟩).toArray,.int .i64 (mm : Int)] S (LstR (freL R mm) 0 S):=fun S hS=>by
   have:=kFresh_spec R ⟨q1,q2,q3,q4,q5,q6⟩ mm S hS (by omega)
   rw [hfe] at this
   exact this
  clear hfe
  have hfl : (freL R mm).length ≤ 1000:=by
   have h1:=(fre_sub R mm).length_le
   have h2 : (thI R mm).length ≤ R.boxes.length:=thL_len mm R.boxes
   omega
  repeat' (first | (refine uP rfl ?_;(first | ((first | refine uN rfl ?_);(first | (refine uE (uX rfl rfl rfl) rfl rfl ?_)|(refine uE (uQ (b:=true) rfl rfl rfl (congrArg some (decide_eq_true hlt))) rfl rfl ?_)|(refine uE (uL rfl rfl (uW (T:=26) (cs:=cRm R ⟨q1,q2,q3,q4,q5,q6⟩) (te rfl) rfl h3 rfl)) rfl rfl ?_)|(refine uC (uT rfl (Args.cons rfl (Args.cons rfl Args.nil))) rfl rfl (kf _ hR) ?_;rintro _ _ ⟨a1,c1,Z1,rfl,hl1,rfl⟩)|(refine uE (uQ (b:=false) rfl rfl rfl (congrArg some (nd_f (Eq.refl (0 : Int))))) rfl rfl ?_)|(refine uE (uL rfl rfl (uO (te rfl) rfl (List.mem_append_right _ h3) rfl)) rfl rfl ?_)|(refine uE (uY rfl rfl (te rfl)) rfl rfl ?_)|(refine uE (uM rfl rfl) rfl rfl ?_)|(refine uE (uA rfl rfl) rfl rfl ?_)|(refine uE (uF rfl rfl (te rfl) rfl (te rfl) (by decide)) rfl rfl ?_)))))|(refine uD rfl ?_;refine hK _ _ ?_;clear hK K) | refine uS rfl ?_ | refine uR rfl (fun K hK=>?_) | refine X.block rfl ?_ | refine X.skip rfl ?_ | (refine X.ite rfl rfl (fun hc=>?_);(first | (with_reducible refine Xb.t hc ?_)|(with_reducible refine Xb.f hc ?_)) <;> clear hc))
  all_goals try (exfalso;contradiction)
  obtain ⟨G2,hG⟩ : ∃ G2 : List Row,G2 = Z1++G:=⟨_,rfl⟩
  have hsub : ∀ r ∈ G,r ∈ G2:=fun r h=>by rw [hG];exact List.mem_append_right _ h
  have hl1 : SlE G2 a1 cI 1 (freL R mm):=by rw [hG];exact hl1
  have hbx2:=hbxs.sub hsub
  have h38:=hsub _ h8
  have h33:=hsub _ h3
  have hback : G.Sublist G2:=by rw [hG];exact List.sublist_append_right _ _
  refine X.lp rfl (fun q F' H' => ∃ ii : Nat,q = R.boxes.length - ii∧ii ≤ R.boxes.length∧G2 = H'∧F' = [(3,.pointer (some ⟨b3,0,none⟩)),(7,.bool true),(8,.pointer (some ⟨b8,0,none⟩)),(301,.int .i64 R.months),(302,.int .i64 (mm : Nat)),(31,.int .i64 (mm : Nat)),(32,.slice a1 (freL R mm).length c1),(314,.slice q3 R.boxes.length q4),(315,.int .i64 R.boxes.length),(316,.int .i64 (ii : Nat))])
   R.boxes.length [(3,.pointer (some ⟨b3,0,none⟩)),(7,.bool true),(8,.pointer (some ⟨b8,0,none⟩)),(301,.int .i64 R.months),(302,.int .i64 (mm : Nat)),(31,.int .i64 (mm : Nat)),(32,.slice a1 (freL R mm).length c1),(314,.slice q3 R.boxes.length q4),(315,.int .i64 R.boxes.length),(316,.int .i64 (0 : Nat))] G2 (by repeat (first | exact uU _ | refine uV rfl ?_)) (by rw [hG];exact qR _) ⟨0,rfl,Nat.zero_le _,rfl,rfl⟩ ?_
  clear hG
  rintro _ _ _ ⟨ii,rfl,hki,rfl,rfl⟩
  by_cases hlt1 : ii < R.boxes.length
  ·have hlt1' : (ii : Int)<(R.boxes.length : Int):=by omega
   obtain ⟨bx2,ox2,x,rfl,hx⟩:=hbx2.elem (i:=ii) hlt1
   have kh:=fun S hS=>lawHas (freL R mm) a1 c1 x.id S hS (by omega)
   repeat' (first | (refine uP rfl ?_;(first | ((first | refine uN rfl ?_);(first | (refine uE (uQ (b:=true) rfl rfl rfl (congrArg some (decide_eq_true hlt1'))) rfl rfl ?_)|(refine uE (uL rfl rfl (LoadV.elA0 hbx2 hx (te rfl) rfl (fun _ hm=>hm) rfl)) rfl rfl ?_)|(refine Xg.st (StF.alloc rfl Try.zeroValue81 rfl) rfl rfl ?_;rintro _ _ ⟨b35,rfl,rfl⟩)|(refine Xg.st0 (uZ (i:=0) (vs:=cBx x) rfl rfl rfl (te rfl) rfl rfl rfl rfl) rfl ?_;rintro _ _ ⟨rfl,rfl⟩;dsimp only [List.set])|(refine uE (uL rfl rfl (uO (te rfl) rfl (qH _) rfl)) rfl rfl ?_)|(refine uE (uL rfl rfl (uO (te rfl) rfl (qT _ h33) rfl)) rfl rfl ?_)|(refine uE (uY rfl rfl (te rfl)) rfl rfl ?_)|(refine uE (uM rfl rfl) rfl rfl ?_)|(refine uE (uA rfl rfl) rfl rfl ?_)|(refine uE (uQ rfl rfl rfl rfl) rfl rfl ?_)|(refine uE (uF rfl rfl (te rfl) rfl (te rfl) (by decide)) rfl rfl ?_)|(refine uE (uJ rfl rfl rfl (te rfl) (te rfl) (by omega) (by omega)) rfl rfl ?_)))))|(refine uD rfl ?_;refine hK _ _ ?_;clear hK K) | refine uS rfl ?_ | refine uR rfl (fun K hK=>?_) | refine X.block rfl ?_ | refine X.skip rfl ?_ | (refine X.ite rfl rfl (fun hc=>?_);(first | (with_reducible refine Xb.t hc ?_)) <;> clear hc))
   all_goals try (exfalso;contradiction)
   refine X.lp rfl (fun q F' H' => ∃ (jj : Nat) (w : Bool),q = R.boxes.length - jj∧jj ≤ R.boxes.length∧(w = true → x.made ≤ mm ∧ ∀ (j : Nat) z,j < jj → R.boxes[j]? = some z → z.made ≤ mm → yat Y ii mm ≤ yat Y j mm)∧⟨b35,0,cBx x,some 81,2⟩::G2 = H'∧F' = [(3,.pointer (some ⟨b3,0,none⟩)),(7,.bool true),(8,.pointer (some ⟨b8,0,none⟩)),(301,.int .i64 R.months),(302,.int .i64 (mm : Nat)),(31,.int .i64 (mm : Nat)),(32,.slice a1 (freL R mm).length c1),(314,.slice (some ⟨bx2,ox2,none⟩) R.boxes.length q4),(315,.int .i64 R.boxes.length),(316,.int .i64 (ii : Nat)),(34,.int .i64 (ii : Nat)),(35,.pointer (some ⟨b35,0,none⟩)),(36,.bool w),(326,.slice (some ⟨bx2,ox2,none⟩) R.boxes.length q4),(327,.int .i64 R.boxes.length),(328,.int .i64 (jj : Nat))])
    R.boxes.length [(3,.pointer (some ⟨b3,0,none⟩)),(7,.bool true),(8,.pointer (some ⟨b8,0,none⟩)),(301,.int .i64 R.months),(302,.int .i64 (mm : Nat)),(31,.int .i64 (mm : Nat)),(32,.slice a1 (freL R mm).length c1),(314,.slice (some ⟨bx2,ox2,none⟩) R.boxes.length q4),(315,.int .i64 R.boxes.length),(316,.int .i64 (ii : Nat)),(34,.int .i64 (ii : Nat)),(35,.pointer (some ⟨b35,0,none⟩)),(36,.bool (decide (x.made ≤ (mm : Int)))),(326,.slice (some ⟨bx2,ox2,none⟩) R.boxes.length q4),(327,.int .i64 R.boxes.length),(328,.int .i64 (0 : Nat))] (⟨b35,0,cBx x,some 81,2⟩::G2) (by repeat (first | exact uU _ | refine uV rfl ?_)) (qR _) ⟨0,_,rfl,Nat.zero_le _,fun e=>⟨of_decide_eq_true e,fun j z h=>absurd h (Nat.not_lt_zero _)⟩,rfl,rfl⟩ ?_
   rintro _ _ _ ⟨jj,w,rfl,hkj,hw,rfl,rfl⟩
   by_cases hlt2 : jj < R.boxes.length
   ·have hlt2' : (jj : Int)<(R.boxes.length : Int):=by omega
    obtain ⟨z,hz⟩ : ∃ z,R.boxes[jj]? = some z:=⟨_,List.getElem?_eq_getElem hlt2⟩
    have hca:=tr_cell hT (j:=ii) (m:=(mm : Int)) (by omega) (by omega)
    have hcb:=tr_cell hT (j:=jj) (m:=(mm : Int)) (by omega) (by omega)
    obtain ⟨gz,hgz⟩ : ∃ gz,decide (z.made > (mm : Int)) = gz:=⟨_,rfl⟩
    obtain ⟨le,hle⟩ : ∃ le,decide (yat Y ii mm ≤ yat Y jj mm)=le:=⟨_,rfl⟩
    repeat' (first | (refine uP rfl ?_;(first | ((first | refine uN rfl ?_);(first | (refine uE (uQ (b:=true) rfl rfl rfl (congrArg some (decide_eq_true hlt2'))) rfl rfl ?_)|(refine uE (uL rfl rfl (LoadV.elA0 (hbx2.sub (fun _ h=>qT _ h)) hz (te rfl) rfl (fun _ hm=>hm) rfl)) rfl rfl ?_)|(refine Xg.st (StF.alloc rfl Try.zeroValue81 rfl) rfl rfl ?_;rintro _ _ ⟨b38,rfl,rfl⟩)|(refine Xg.st0 (uZ (i:=0) (vs:=cBx z) rfl rfl rfl (te rfl) rfl rfl rfl rfl) rfl ?_;rintro _ _ ⟨rfl,rfl⟩;dsimp only [List.set])|(refine uE (uM rfl rfl) rfl rfl ?_)|(refine uE (uA rfl rfl) rfl rfl ?_)|(refine uE (uJ rfl rfl rfl (te rfl) (te rfl) (by omega) (by omega)) rfl rfl ?_)))))|(refine uD rfl ?_;refine hK _ _ ?_;clear hK K) | refine uS rfl ?_ | refine uR rfl (fun K hK=>?_) | refine X.block rfl ?_ | refine X.skip rfl ?_ | (refine X.ite rfl rfl (fun hc=>?_);(first | (with_reducible refine Xb.t hc ?_)) <;> clear hc))
    all_goals try (exfalso;contradiction)
    refine X.weak (F' := [(3,.pointer (some ⟨b3,0,none⟩)),(7,.bool true),(8,.pointer (some ⟨b8,0,none⟩)),(31,.int .i64 (mm : Nat)),(32,.slice a1 (freL R mm).length c1),(34,.int .i64 (ii : Nat)),(35,.pointer (some ⟨b35,0,none⟩)),(36,.bool w),(37,.int .i64 (jj : Nat)),(38,.pointer (some ⟨b38,0,none⟩)),(301,.int .i64 R.months),(302,.int .i64 (mm : Nat)),(314,.slice (some ⟨bx2,ox2,none⟩) R.boxes.length q4),(315,.int .i64 R.boxes.length),(316,.int .i64 (ii : Nat)),(326,.slice (some ⟨bx2,ox2,none⟩) R.boxes.length q4),(327,.int .i64 R.boxes.length),(328,.int .i64 (jj : Nat))]) (H' := ⟨b38,0,cBx z,some 81,2⟩::⟨b35,0,cBx x,some 81,2⟩::G2) (by repeat (first | exact uU _ | refine uV rfl ?_)) (qR _) ?_
    refine X.regionRs [] tsKt5 rdKt5 [3,7,8,31,32,34,35,37,38,301,302,314,315,316,326,327,328] [(3,.pointer (some ⟨b3,0,none⟩)),(7,.bool true),(8,.pointer (some ⟨b8,0,none⟩)),(31,.int .i64 (mm : Nat)),(32,.slice a1 (freL R mm).length c1),(34,.int .i64 (ii : Nat)),(35,.pointer (some ⟨b35,0,none⟩)),(37,.int .i64 (jj : Nat)),(38,.pointer (some ⟨b38,0,none⟩)),(301,.int .i64 R.months),(302,.int .i64 (mm : Nat)),(314,.slice (some ⟨bx2,ox2,none⟩) R.boxes.length q4),(315,.int .i64 R.boxes.length),(316,.int .i64 (ii : Nat)),(326,.slice (some ⟨bx2,ox2,none⟩) R.boxes.length q4),(327,.int .i64 R.boxes.length),(328,.int .i64 (jj : Nat))] (valKt5 b3 b8 b35 b38 ii jj mm R z (some ⟨bx2,ox2,none⟩) q4 a1 c1 w gz le (yat Y ii mm) (yat Y jj mm)) (rowsKt5 b3 b8 b35 b38 ii jj mm R z (some ⟨bx2,ox2,none⟩) q4 a1 c1 w gz le (yat Y ii mm) (yat Y jj mm)) (fun _=>(0,0)) (⟨b38,0,cBx z,some 81,2⟩::⟨b35,0,cBx x,some 81,2⟩::G2) rfl mixed (by repeat (first | exact uU _ | refine uV rfl ?_)) rfl (by kernel_rfl) (by kernel_rfl) (locKt5 b3 b8 b35 b38 ii jj mm R z (some ⟨bx2,ox2,none⟩) q4 a1 c1 w gz le (yat Y ii mm) (yat Y jj mm)) (fun i d hi=>by cases hi) (qR _) [(20,36,.bool w)] (by intro e he;simp only [List.mem_cons,List.not_mem_nil,or_false] at he;rcases he with rfl <;> exact ⟨rfl,Nat.le_of_ble_eq_true rfl⟩) (by intro e he;simp only [List.mem_cons,List.not_mem_nil,or_false] at he;rcases he with rfl <;> exact rfl) ?_ ?_
    ·cases w <;> cases gz <;> cases le
     all_goals (repeat' (first | exact AllF.done rfl | (refine AllF.step rfl ?_ ?_;·(first | exact Ob.toR (Ob.sk rfl rfl (fun _=>rfl) (fun _=>rfl) (fun _=>rfl) (fun _=>rfl))|(refine Ob.toR ?_;((first | refine Ob.ng rfl ?_ | refine Ob.g rfl rfl (fun _=>rfl) ?_);(first | exact uK (fun env R hR=>by exact ⟨_,uM rfl rfl,rfl⟩) rfl (fun _=>rfl) | exact uK (fun env R hR=>by exact ⟨_,uA rfl rfl,rfl⟩) rfl (fun _=>rfl) | exact uK (fun env R hR=>by exact ⟨_,EvF.pickT rfl rfl rfl,rfl⟩) rfl (fun _=>rfl) | exact uK (fun env R hR=>by exact ⟨_,EvF.pickF rfl rfl rfl,rfl⟩) rfl (fun _=>rfl) | exact uK (fun env R hR=>by exact ⟨_,uF rfl rfl (te rfl) rfl (te rfl) (by decide),rfl⟩) rfl (fun _=>rfl) | exact uK (fun env R hR=>by exact ⟨_,uL rfl rfl (uO (te rfl) rfl (hR _ (qH _)) rfl),rfl⟩) rfl (fun _=>rfl)|(exact uK (fun env S hS=>⟨.pointer (some ⟨b8,0 + (ii : Int).toNat * 12,none⟩),EvF.indexArray (T:=77) (e:=76) (ti:=⟨.ar 12 3,12,96⟩) (len:=4) (i:=(ii : Int)) (b:=b8) (off:=0) rfl rfl rfl (te rfl) (te rfl) (by omega) (by omega),rfl⟩) rfl (fun _=>rfl))|(exact uK (fun env S hS=>⟨.pointer (some ⟨b8,0 + (jj : Int).toNat * 12,none⟩),EvF.indexArray (T:=77) (e:=76) (ti:=⟨.ar 12 3,12,96⟩) (len:=4) (i:=(jj : Int)) (b:=b8) (off:=0) rfl rfl rfl (te rfl) (te rfl) (by omega) (by omega),rfl⟩) rfl (fun _=>rfl))|(exact uK (fun env S hS=>⟨.pointer (some ⟨b8,0 + (ii : Int).toNat * 12 + ((mm : Int)).toNat * 1,none⟩),EvF.indexArray (T:=76) (e:=3) (ti:=⟨.int .i64,1,8⟩) (len:=12) (i:=(mm : Int)) (b:=b8) (off:=0 + (ii : Int).toNat * 12) rfl rfl rfl (te rfl) (te rfl) (by omega) (by omega),rfl⟩) rfl (fun _=>rfl))|(exact uK (fun env S hS=>⟨.pointer (some ⟨b8,0 + (jj : Int).toNat * 12 + ((mm : Int)).toNat * 1,none⟩),EvF.indexArray (T:=76) (e:=3) (ti:=⟨.int .i64,1,8⟩) (len:=12) (i:=(mm : Int)) (b:=b8) (off:=0 + (jj : Int).toNat * 12) rfl rfl rfl (te rfl) (te rfl) (by omega) (by omega),rfl⟩) rfl (fun _=>rfl))|(exact uK (fun env S hS=>⟨_,uL rfl rfl (uO (cs:=Y.flatMap cI) (te rfl) rfl (hS _ (qT _ (qT _ h38))) hca),rfl⟩) rfl (fun _=>rfl))|(exact uK (fun env S hS=>⟨_,uL rfl rfl (uO (cs:=Y.flatMap cI) (te rfl) rfl (hS _ (qT _ (qT _ h38))) hcb),rfl⟩) rfl (fun _=>rfl))|(exact uK (fun env S hS=>⟨_,uQ rfl rfl rfl (congrArg some hgz),rfl⟩) rfl (fun _=>rfl))|(exact uK (fun env S hS=>⟨_,uQ rfl rfl rfl (congrArg some hle),rfl⟩) rfl (fun _=>rfl)))))))))
    ·intro env t ha2 hv;refine ⟨_,ha2.cons (hv 20 36 (Nat.le_of_ble_eq_true rfl) rfl),?_⟩;clear hv ha2
     show X _ _ _ [(36,.bool (w && (gz || le))),(3,.pointer (some ⟨b3,0,none⟩)),(7,.bool true),(8,.pointer (some ⟨b8,0,none⟩)),(31,.int .i64 (mm : Nat)),(32,.slice a1 (freL R mm).length c1),(34,.int .i64 (ii : Nat)),(35,.pointer (some ⟨b35,0,none⟩)),(37,.int .i64 (jj : Nat)),(38,.pointer (some ⟨b38,0,none⟩)),(301,.int .i64 R.months),(302,.int .i64 (mm : Nat)),(314,.slice (some ⟨bx2,ox2,none⟩) R.boxes.length q4),(315,.int .i64 R.boxes.length),(316,.int .i64 (ii : Nat)),(326,.slice (some ⟨bx2,ox2,none⟩) R.boxes.length q4),(327,.int .i64 R.boxes.length),(328,.int .i64 (jj : Nat))] (⟨b38,0,cBx z,some 81,2⟩::⟨b35,0,cBx x,some 81,2⟩::G2) _
     clear env
     repeat' (first | (refine uP rfl ?_;(first | ((first | refine uN rfl ?_);(first | (refine uE (EvF.add64 (p:=(jj : Int)) (q:=1) rfl rfl rfl (by omega) (by omega)) rfl rfl ?_)|(refine uE (uM rfl rfl) rfl rfl ?_)))))|(refine uD rfl ?_;refine hK _ _ ?_;clear hK K) | refine uR rfl (fun K hK=>?_))
     all_goals try (exfalso;contradiction)
     refine ⟨_,_,_,(by repeat (first | exact uU _ | refine uV rfl ?_)),(by repeat (first | exact qR _ | apply qK | apply qC)),⟨jj + 1,w && (gz || le),rfl,by omega,fun e=>?_,rfl,rfl⟩,by omega⟩
     rw [Bool.and_eq_true] at e
     obtain ⟨hw1,hw2⟩:=hw e.1
     refine ⟨hw1,fun j y hj hy hyl=>?_⟩
     rcases Nat.lt_succ_iff_lt_or_eq.1 hj with q | rfl
     ·exact hw2 j y q hy hyl
     ·rw [hz] at hy
      cases hy
      rw [← hgz, ← hle,Bool.or_eq_true,decide_eq_true_eq,decide_eq_true_eq] at e
      omega
   ·obtain rfl : jj = R.boxes.length:=by omega
    have hlt2' : ¬ (R.boxes.length : Int)<(R.boxes.length : Int):=by omega
    cases w with
    | false =>
     repeat' (first | (refine uP rfl ?_;(first | ((first | refine uN rfl ?_);(first | (refine uE (uQ (b:=false) rfl rfl rfl (congrArg some (decide_eq_false hlt2'))) rfl rfl ?_)|(refine uE (EvF.add64 (p:=(ii : Int)) (q:=1) rfl rfl rfl (by omega) (by omega)) rfl rfl ?_)|(refine uE (uM rfl rfl) rfl rfl ?_)|(refine uE (EvF.pickF rfl rfl rfl) rfl rfl ?_)))|(refine Xo.g rfl rfl ?_;(first | (with_reducible refine Xw.ft rfl rfl ?_)))))|(refine uD rfl ?_;refine hK _ _ ?_;clear hK K) | refine uS rfl ?_ | refine uR rfl (fun K hK=>?_)|(refine X.brk rfl ?_;repeat (first | refine blockX_hit rfl ?_ | refine blockX_miss (by decide) ?_)) | refine X.skip rfl ?_ | (refine X.ite rfl rfl (fun hc=>?_);(first | (with_reducible refine Xb.f hc ?_)) <;> clear hc))
     all_goals try (exfalso;contradiction)
     exact ⟨_,_,_,(by repeat (first | exact uU _ | refine uV rfl ?_)),(by repeat (first | exact qR _ | apply qK | apply qC)),⟨ii + 1,rfl,by omega,rfl,rfl⟩,by omega⟩
    | true =>
     obtain ⟨hw1,hw2⟩:=hw rfl
     rw [decide_eq_true (tr_fre hT hx hw1 (by omega) (fun j z hz hzm=>hw2 j z (List.getElem?_eq_some_iff.1 hz).1 hz hzm))] at kh
     repeat' (first | (refine uP rfl ?_;(first | ((first | refine uN rfl ?_ | (refine Xo.g rfl rfl ?_;with_reducible refine Xw.tt ?_));(first | (refine uE (uQ (b:=false) rfl rfl rfl (congrArg some (decide_eq_false hlt2'))) rfl rfl ?_)|(refine uE (uL rfl rfl (uO (te rfl) rfl (qH _) rfl)) rfl rfl ?_)|(refine uC (uT rfl (Args.cons rfl (Args.cons rfl Args.nil))) rfl rfl (kh _ (hl1.sub (fun _ h=>qT _ h))) ?_;rintro _ _ ⟨rfl,rfl⟩)|(refine uE (EvF.add64 (p:=(ii : Int)) (q:=1) rfl rfl rfl (by omega) (by omega)) rfl rfl ?_)|(refine uE (uM rfl rfl) rfl rfl ?_)|(refine uE (uA rfl rfl) rfl rfl ?_)|(refine uE (EvF.pickT rfl rfl rfl) rfl rfl ?_)|(refine uE (EvF.not rfl rfl) rfl rfl ?_)|(refine uE (uF rfl rfl (te rfl) rfl (te rfl) (by decide)) rfl rfl ?_)))))|(refine uD rfl ?_;refine hK _ _ ?_;clear hK K) | refine uS rfl ?_ | refine uR rfl (fun K hK=>?_)|(refine X.brk rfl ?_;repeat (first | refine blockX_hit rfl ?_ | refine blockX_miss (by decide) ?_)) | refine X.skip rfl ?_ | refine X.ret rfl ?_ | (refine X.ite rfl rfl (fun hc=>?_);(first | (with_reducible refine Xb.f hc ?_)|(with_reducible refine Xb.caseB hc (fun h=>?_) (fun h=>?_))) <;> clear hc))
     all_goals try (exfalso;contradiction)
     exact ⟨_,_,_,(by repeat (first | exact uU _ | refine uV rfl ?_)),(by repeat (first | exact qR _ | apply qK | apply qC)),⟨ii + 1,rfl,by omega,rfl,rfl⟩,by omega⟩
  ·obtain rfl : ii = R.boxes.length:=by omega
   have hlt1' : ¬ (R.boxes.length : Int)<(R.boxes.length : Int):=by omega
   repeat' (first | (refine uP rfl ?_;(first | ((first | refine uN rfl ?_);(first | (refine uE (uQ (b:=false) rfl rfl rfl (congrArg some (decide_eq_false hlt1'))) rfl rfl ?_)|(refine uE (EvF.add64 (p:=(mm : Int)) (q:=1) rfl rfl rfl (by omega) (by omega)) rfl rfl ?_)|(refine uE (uM rfl rfl) rfl rfl ?_)))))|(refine uD rfl ?_;refine hK _ _ ?_;clear hK K) | refine uS rfl ?_ | refine uR rfl (fun K hK=>?_)|(refine X.brk rfl ?_;repeat (first | refine blockX_hit rfl ?_ | refine blockX_miss (by decide) ?_))|(refine X.ite rfl rfl (fun hc=>?_);(first | (with_reducible refine Xb.f hc ?_)) <;> clear hc))
   all_goals try (exfalso;contradiction)
   exact ⟨_,_,_,(by repeat (first | exact uU _ | refine uV rfl ?_)),hback,⟨mm + 1,rfl,by omega,rfl,rfl⟩,by omega⟩
 ·repeat' (first | (refine uP rfl ?_;(first | ((first | refine uN rfl ?_);(first | (refine uE (uQ (b:=false) rfl rfl rfl (congrArg some (decide_eq_false hlt))) rfl rfl ?_)|(refine uE (uM rfl rfl) rfl rfl ?_)|(refine uE (uA rfl rfl) rfl rfl ?_)))))|(refine uD rfl ?_;refine hK _ _ ?_;clear hK K) | refine uS rfl ?_ | refine uR rfl (fun K hK=>?_)|(refine X.brk rfl ?_;repeat (first | refine blockX_hit rfl ?_ | refine blockX_miss (by decide) ?_)) | refine X.ret rfl ?_ | (refine X.ite rfl rfl (fun hc=>?_);(first | (with_reducible refine Xb.f hc ?_)) <;> clear hc))
  all_goals try (exfalso;contradiction)
  exact ret_one (by simp) Try.results7 rfl (H' := _) (qR _) rfl
theorem lawInT (n : Int) (s : Sp) (h1 : n ≥ s.lo) (h2 : n ≤ s.hi) (H : List Row) : Fc Try.prog 48 [.int .i64 n,.agg (cSp s).toArray] H (fun v H' => v = .bool true∧H' = H):=by
 refine Fc.mk (callable Try.call48) Try.func48 rfl Try.ntmps48 rfl ?_;dsimp only [fr]
 repeat' (first | (refine uP rfl ?_;(first | ((first | refine uN rfl ?_ | (refine Xo.g rfl rfl ?_;with_reducible refine Xw.tt ?_));(first | (refine uE (uQ (b:=true) rfl rfl rfl (congrArg some (decide_eq_true h1))) rfl rfl ?_)|(refine uE (uQ (b:=true) rfl rfl rfl (congrArg some (decide_eq_true h2))) rfl rfl ?_)|(refine uE (uM rfl rfl) rfl rfl ?_)|(refine uE (uA rfl rfl) rfl rfl ?_)|(refine uE (EvF.pickT rfl rfl rfl) rfl rfl ?_)|(refine uE (uF rfl rfl (te rfl) rfl (te rfl) (by decide)) rfl rfl ?_)|(refine uE (uL rfl rfl (uO (te rfl) rfl (qH _) rfl)) rfl rfl ?_)|(refine Xg.st (StF.boxAgg rfl rfl) rfl rfl ?_;rintro _ _ ⟨bx,rfl,rfl⟩)))))|(refine uD rfl ?_;refine hK _ _ ?_;clear hK K) | refine uS rfl ?_ | refine uR rfl (fun K hK=>?_) | refine X.ret rfl ?_)
 all_goals try (exfalso;contradiction)
 exact ret_one (by simp) Try.results48 rfl (H' := H) (by repeat (first | exact qR _ | apply qK | apply qC)) ⟨rfl,rfl⟩
/-- since when a box has yellowed by so much, as far as one has looked -/
def FiOK (Y : List Int) (ii : Nat) (n made fi m : Int) : Prop:=(fi = -1 ∧ ∀ q,made ≤ q → q < m → yat Y ii q < n)∨(made ≤ fi∧fi < m∧n ≤ yat Y ii fi ∧ ∀ q,made ≤ q → q < fi → yat Y ii q < n)
theorem fi_step {Y : List Int} {ii : Nat} {n made fi m : Int} (h0 : 0 ≤ made) (hm : made ≤ m) (h : FiOK Y ii n made fi m) : FiOK Y ii n made (if n ≤ yat Y ii m∧fi < 0 then m else fi) (m + 1):=by
 rcases h with ⟨rfl,h1⟩ | ⟨h1,h2,h3,h4⟩
 ·by_cases hc : n ≤ yat Y ii m
  ·rw [if_pos ⟨hc,by decide⟩]
   exact .inr ⟨hm,by omega,hc,h1⟩
  ·rw [if_neg (fun q=>hc q.1)]
   refine .inl ⟨rfl,fun q q1 q2=>?_⟩
   by_cases e : q = m
   ·subst e;omega
   ·exact h1 q q1 (by omega)
 ·rw [if_neg (fun q=>by omega)]
  exact .inr ⟨h1,by omega,h3,h4⟩
theorem told_two {s : Sp} {n y : Int} (h1 : s.lo ≤ y) (h2 : y ≤ s.hi) : (decide (toldF s n = 2)=true → ¬ y < n)∧(decide (toldF s n = 0)=true → ¬ y ≥ n):=by
 unfold toldF
 constructor
 ·intro h
  have:=of_decide_eq_true h
  split at this
  ·omega
  ·split at this <;> cases this
 ·intro h
  have:=of_decide_eq_true h
  split at this
  ·cases this
  ·split at this
   ·cases this
   ·omega
def tsKt2 : List TOp:=[⟨some 111,[],[],[]⟩,⟨some 112,[0],[0],[]⟩,⟨some 113,[0,1],[1],[]⟩,⟨some 114,[0,1,2],[],[]⟩,⟨some 115,[0,1,2],[],[]⟩,⟨some 116,[0,1,2,3],[3],[]⟩,⟨some 117,[0,1,2,3,4,5],[5,4],[]⟩,⟨some 118,[0,1,2,3,4,5,6],[6],[]⟩,⟨some 119,[0,1,2],[],[]⟩,⟨some 120,[0,1,2,3,4,5,6,7,8],[7,8],[]⟩,⟨some 121,[0,1,2,3,4,5,6,7,8,9],[9],[]⟩,⟨some 122,[0,1,2,3,4,5,6,7,8,9,10],[2,10],[]⟩,⟨some 123,[0,1,2,3,4,5,6,7,8,9,10,11],[11],[]⟩,⟨some 124,[0,1,2,3,4,5,6,7,8,9,10,11,12],[],[]⟩,⟨some 125,[0,1,2,3,4,5,6,7,8,9,10,11,12,13],[13],[]⟩,⟨some 126,[0,1,2,3,4,5,6,7,8,9,10,11,12,13,14],[12,14],[]⟩,⟨some 127,[0,1,2,3,4,5,6,7,8,9,10,11,12,13,14,15],[15],[]⟩,⟨some 128,[0,1,2,3,4,5,6,7,8,9,10,11,12,13,14,15,16],[],[]⟩,⟨some 129,[0,1,2,3,4,5,6,7,8,9,10,11,12,13,14,15,16,17],[17],[]⟩,⟨some 130,[0,1,2,3,4,5,6,7,8,9,10,11,12,13,14,15,16,17,18],[18],[]⟩,⟨some 131,[0,1,2,3,4,5,6,7,8,9,10,11,12,13,14,15,16,17,18,19],[],[]⟩,⟨some 132,[0,1,2,3,4,5,6,7,8,9,10,11,12,13,14,15,16,17,18,19],[],[]⟩,⟨some 133,[0,1,2,3,4,5,6,7,8,9,10,11,12,13,14,15,16,17,18,19,20],[20],[]⟩,⟨some 134,[0,1,2,3,4,5,6,7,8,9,10,11,12,13,14,15,16,17,18,19,20,21,22],[22,21],[]⟩,⟨some 135,[0,1,2,3,4,5,6,7,8,9,10,11,12,13,14,15,16,17,18,19,20,21,22,23],[23],[]⟩,⟨some 136,[0,1,2,3,4,5,6,7,8,9,10,11,12,13,14,15,16,17,18,19],[],[]⟩,⟨some 137,[0,1,2,3,4,5,6,7,8,9,10,11,12,13,14,15,16,17,18,19,20,21,22,23,24,25],[24,25],[]⟩,⟨some 138,[0,1,2,3,4,5,6,7,8,9,10,11,12,13,14,15,16,17,18,19,20,21,22,23,24,25,26],[19,26],[]⟩,⟨some 139,[0,1,2,3,4,5,6,7,8,9,10,11,12,13,14,15,16,17,18,19,20,21,22,23,24,25,26,27],[16,27],[]⟩,⟨some 140,[0,1,2,3,4,5,6,7,8,9,10,11,12,13,14,15,16,17,18,19,20,21,22,23,24,25,26,27,28],[28],[]⟩,⟨some 141,[0,1,2,3,4,5,6,7,8,9,10,11,12,13,14,15,16,17,18,19,20,21,22,23,24,25,26,27,28,29],[],[]⟩,⟨some 142,[0,1,2,3,4,5,6,7,8,9,10,11,12,13,14,15,16,17,18,19,20,21,22,23,24,25,26,27,28,29,30],[30],[]⟩,⟨some 143,[0,1,2,3,4,5,6,7,8,9,10,11,12,13,14,15,16,17,18,19,20,21,22,23,24,25,26,27,28,29,30,31],[31],[]⟩,⟨some 144,[0,1,2,3,4,5,6,7,8,9,10,11,12,13,14,15,16,17,18,19,20,21,22,23,24,25,26,27,28,29,30,31,32],[],[]⟩,⟨some 145,[0,1,2,3,4,5,6,7,8,9,10,11,12,13,14,15,16,17,18,19,20,21,22,23,24,25,26,27,28,29,30,31,32],[],[]⟩,⟨some 146,[0,1,2,3,4,5,6,7,8,9,10,11,12,13,14,15,16,17,18,19,20,21,22,23,24,25,26,27,28,29,30,31,32,33],[33],[]⟩,⟨some 147,[0,1,2,3,4,5,6,7,8,9,10,11,12,13,14,15,16,17,18,19,20,21,22,23,24,25,26,27,28,29,30,31,32,33,34,35],[35,34],[]⟩,⟨some 148,[0,1,2,3,4,5,6,7,8,9,10,11,12,13,14,15,16,17,18,19,20,21,22,23,24,25,26,27,28,29,30,31,32,33,34,35,36],[36],[]⟩,⟨some 149,[0,1,2,3,4,5,6,7,8,9,10,11,12,13,14,15,16,17,18,19,20,21,22,23,24,25,26,27,28,29,30,31,32],[],[]⟩,⟨some 150,[0,1,2,3,4,5,6,7,8,9,10,11,12,13,14,15,16,17,18,19,20,21,22,23,24,25,26,27,28,29,30,31,32,33,34,35,36,37,38],[37,38],[]⟩,⟨some 151,[0,1,2,3,4,5,6,7,8,9,10,11,12,13,14,15,16,17,18,19,20,21,22,23,24,25,26,27,28,29,30,31,32,33,34,35,36,37,38,39],[32,39],[]⟩,⟨some 152,[0,1,2,3,4,5,6,7,8,9,10,11,12,13,14,15,16,17,18,19,20,21,22,23,24,25,26,27,28,29,30,31,32,33,34,35,36,37,38,39,40],[29,40],[]⟩]
noncomputable def valKt2 (b3 b8 b14 b17 ii : Nat) (R : Rm) (s : Sp) (q3 : Option Addr) (q4 : Nat) (n m fi kn yv : Int) (w2 w0 : Bool) (k : Nat) (env : Env) : Value :=
 match k with
 | 0 => .int .i64 0
 | 1 => .bool false
 | 2 => .bool false
 | 3=>gt (false) (.int .i64 (ii : Nat))
 | 4=>gt (false) (.int .i64 m)
 | 5=>gt (false) (.pointer (some ⟨b8,0 + (ii : Int).toNat * 12,none⟩))
 | 6=>gt (false) (.pointer (some ⟨b8,0 + (ii : Int).toNat * 12 + (m).toNat * 1,none⟩))
 | 7=>gt (false) (.int .i64 yv)
 | 8=>gt (false) (.agg (cSp s).toArray)
 | 9=>gt (false) (.bool true)
 | 10=>gt (false) (.bool (!true))
 | 11 => .bool (false || !true)
 | 12 => .bool (false || !true)
 | 13=>gt (false || !true) (.int .i64 0)
 | 14=>gt (false || !true) (.bool false)
 | 15 => .bool ((false || !true) && true)
 | 16 => .bool ((false || !true) && true)
 | 17=>gt ((false || !true) && true) (.int .u8 kn)
 | 18=>gt ((false || !true) && true) (.bool w2)
 | 19=>gt ((false || !true) && true) (.bool w2)
 | 20=>gt (((false || !true) && true) || !w2) (.int .i64 (ii : Nat))
 | 21=>gt (((false || !true) && true) || !w2) (.int .i64 m)
 | 22=>gt (((false || !true) && true) || !w2) (.pointer (some ⟨b8,0 + (ii : Int).toNat * 12,none⟩))
 | 23=>gt (((false || !true) && true) || !w2) (.pointer (some ⟨b8,0 + (ii : Int).toNat * 12 + (m).toNat * 1,none⟩))
 | 24=>gt (((false || !true) && true) || !w2) (.int .i64 yv)
 | 25=>gt (((false || !true) && true) || !w2) (.int .i64 n)
 | 26=>gt (((false || !true) && true) || !w2) (.bool false)
 | 27=>gt ((false || !true) && true) (.bool (w2 && false))
 | 28 => .bool (((false || !true) && true) || (w2 && false))
 | 29 => .bool (((false || !true) && true) || (w2 && false))
 | 30=>gt (((false || !true) && true) || (w2 && false)) (.int .u8 kn)
 | 31=>gt (((false || !true) && true) || (w2 && false)) (.bool w0)
 | 32=>gt (((false || !true) && true) || (w2 && false)) (.bool w0)
 | 33=>gt ((((false || !true) && true) || (w2 && false)) || !w0) (.int .i64 (ii : Nat))
 | 34=>gt ((((false || !true) && true) || (w2 && false)) || !w0) (.int .i64 m)
 | 35=>gt ((((false || !true) && true) || (w2 && false)) || !w0) (.pointer (some ⟨b8,0 + (ii : Int).toNat * 12,none⟩))
 | 36=>gt ((((false || !true) && true) || (w2 && false)) || !w0) (.pointer (some ⟨b8,0 + (ii : Int).toNat * 12 + (m).toNat * 1,none⟩))
 | 37=>gt ((((false || !true) && true) || (w2 && false)) || !w0) (.int .i64 yv)
 | 38=>gt ((((false || !true) && true) || (w2 && false)) || !w0) (.int .i64 n)
 | 39=>gt ((((false || !true) && true) || (w2 && false)) || !w0) (.bool false)
 | 40=>gt (((false || !true) && true) || (w2 && false)) (.bool (w0 && false))
 | 41 => .bool ((((false || !true) && true) || (w2 && false)) || (w0 && false))
 | _=>undef
noncomputable def rowsKt2 (b3 b8 b14 b17 ii : Nat) (R : Rm) (s : Sp) (q3 : Option Addr) (q4 : Nat) (n m fi kn yv : Int) (w2 w0 : Bool) (k : Nat) (env : Env) : List Row :=
 match k with
 | _=>[]
theorem locKt2 (b3 b8 b14 b17 ii : Nat) (R : Rm) (s : Sp) (q3 : Option Addr) (q4 : Nat) (n m fi kn yv : Int) (w2 w0 : Bool) : ∀ k env i q9,i ≠ k → (tAt tsKt2 k).sup.contains i = false → valKt2 b3 b8 b14 b17 ii R s q3 q4 n m fi kn yv w2 w0 k (upd env i q9)=valKt2 b3 b8 b14 b17 ii R s q3 q4 n m fi kn yv w2 w0 k env∧rowsKt2 b3 b8 b14 b17 ii R s q3 q4 n m fi kn yv w2 w0 k (upd env i q9)=rowsKt2 b3 b8 b14 b17 ii R s q3 q4 n m fi kn yv w2 w0 k env:=by
 intro k env i q hk hs
 have hu : ∀ j,j ≠ i → upd env i q j = env j:=fun j hj=>by unfold upd;rw [if_neg hj]
 match k,hk,hs with
 | 0,_,_=>exact ⟨rfl,rfl⟩
 | 1,_,_=>exact ⟨rfl,rfl⟩
 | 2,_,_=>exact ⟨rfl,rfl⟩
 | 3,_,_=>exact ⟨rfl,rfl⟩
 | 4,_,_=>exact ⟨rfl,rfl⟩
 | 5,_,_=>exact ⟨rfl,rfl⟩
 | 6,_,_=>exact ⟨rfl,rfl⟩
 | 7,_,_=>exact ⟨rfl,rfl⟩
 | 8,_,_=>exact ⟨rfl,rfl⟩
 | 9,_,_=>exact ⟨rfl,rfl⟩
 | 10,_,_=>exact ⟨rfl,rfl⟩
 | 11,_,_=>exact ⟨rfl,rfl⟩
 | 12,_,_=>exact ⟨rfl,rfl⟩
 | 13,_,_=>exact ⟨rfl,rfl⟩
 | 14,_,_=>exact ⟨rfl,rfl⟩
 | 15,_,_=>exact ⟨rfl,rfl⟩
 | 16,_,_=>exact ⟨rfl,rfl⟩
 | 17,_,_=>exact ⟨rfl,rfl⟩
 | 18,_,_=>exact ⟨rfl,rfl⟩
 | 19,_,_=>exact ⟨rfl,rfl⟩
 | 20,_,_=>exact ⟨rfl,rfl⟩
 | 21,_,_=>exact ⟨rfl,rfl⟩
 | 22,_,_=>exact ⟨rfl,rfl⟩
 | 23,_,_=>exact ⟨rfl,rfl⟩
 | 24,_,_=>exact ⟨rfl,rfl⟩
 | 25,_,_=>exact ⟨rfl,rfl⟩
 | 26,_,_=>exact ⟨rfl,rfl⟩
 | 27,_,_=>exact ⟨rfl,rfl⟩
 | 28,_,_=>exact ⟨rfl,rfl⟩
 | 29,_,_=>exact ⟨rfl,rfl⟩
 | 30,_,_=>exact ⟨rfl,rfl⟩
 | 31,_,_=>exact ⟨rfl,rfl⟩
 | 32,_,_=>exact ⟨rfl,rfl⟩
 | 33,_,_=>exact ⟨rfl,rfl⟩
 | 34,_,_=>exact ⟨rfl,rfl⟩
 | 35,_,_=>exact ⟨rfl,rfl⟩
 | 36,_,_=>exact ⟨rfl,rfl⟩
 | 37,_,_=>exact ⟨rfl,rfl⟩
 | 38,_,_=>exact ⟨rfl,rfl⟩
 | 39,_,_=>exact ⟨rfl,rfl⟩
 | 40,_,_=>exact ⟨rfl,rfl⟩
 | 41,_,_=>exact ⟨rfl,rfl⟩
 | _ + 42,_,_=>exact ⟨rfl,rfl⟩
def tsKt3 : List TOp:=[⟨some 202,[],[],[]⟩,⟨some 203,[0],[0],[]⟩,⟨some 204,[0,1],[1],[]⟩,⟨some 205,[0,1,2],[],[]⟩,⟨some 206,[0,1,2],[],[]⟩,⟨some 207,[0,1,2,3],[3],[]⟩,⟨some 208,[0,1,2,3,4,5],[5,4],[]⟩,⟨some 209,[0,1,2,3,4,5,6],[6],[]⟩,⟨some 210,[0,1,2],[],[]⟩,⟨some 211,[0,1,2],[],[]⟩,⟨some 212,[0,1,2,8],[8],[]⟩,⟨some 213,[0,1,2,8,9,10],[10,9],[]⟩,⟨some 214,[0,1,2,8,9,10,11],[11],[]⟩,⟨some 215,[0,1,2,3,4,5,6,7,8,9,10,11,12],[7,12],[]⟩,⟨some 216,[0,1,2],[],[]⟩,⟨some 217,[0,1,2,3,4,5,6,7,8,9,10,11,12,13,14],[13,14],[]⟩,⟨some 218,[0,1,2,3,4,5,6,7,8,9,10,11,12,13,14,15],[15],[]⟩,⟨some 219,[0,1,2,3,4,5,6,7,8,9,10,11,12,13,14,15,16],[2,16],[]⟩,⟨some 220,[0,1,2,3,4,5,6,7,8,9,10,11,12,13,14,15,16,17],[17],[]⟩,⟨some 221,[0,1,2,3,4,5,6,7,8,9,10,11,12,13,14,15,16,17,18],[],[]⟩,⟨some 222,[0,1,2,3,4,5,6,7,8,9,10,11,12,13,14,15,16,17,18,19],[19],[]⟩,⟨some 223,[0,1,2,3,4,5,6,7,8,9,10,11,12,13,14,15,16,17,18,19,20],[18,20],[]⟩,⟨some 224,[0,1,2,3,4,5,6,7,8,9,10,11,12,13,14,15,16,17,18,19,20,21],[21],[]⟩,⟨some 225,[0,1,2,3,4,5,6,7,8,9,10,11,12,13,14,15,16,17,18,19,20,21,22],[],[]⟩,⟨some 226,[0,1,2,3,4,5,6,7,8,9,10,11,12,13,14,15,16,17,18,19,20,21,22,23],[23],[]⟩,⟨some 227,[0,1,2,3,4,5,6,7,8,9,10,11,12,13,14,15,16,17,18,19,20,21,22,23,24],[24],[]⟩,⟨some 228,[0,1,2,3,4,5,6,7,8,9,10,11,12,13,14,15,16,17,18,19,20,21,22,23,24,25],[],[]⟩,⟨some 229,[0,1,2,3,4,5,6,7,8,9,10,11,12,13,14,15,16,17,18,19,20,21,22,23,24,25],[],[]⟩,⟨some 230,[0,1,2,3,4,5,6,7,8,9,10,11,12,13,14,15,16,17,18,19,20,21,22,23,24,25,26],[26],[]⟩,⟨some 231,[0,1,2,3,4,5,6,7,8,9,10,11,12,13,14,15,16,17,18,19,20,21,22,23,24,25,26,27,28],[28,27],[]⟩,⟨some 232,[0,1,2,3,4,5,6,7,8,9,10,11,12,13,14,15,16,17,18,19,20,21,22,23,24,25,26,27,28,29],[29],[]⟩,⟨some 233,[0,1,2,3,4,5,6,7,8,9,10,11,12,13,14,15,16,17,18,19,20,21,22,23,24,25],[],[]⟩,⟨some 234,[0,1,2,3,4,5,6,7,8,9,10,11,12,13,14,15,16,17,18,19,20,21,22,23,24,25],[],[]⟩,⟨some 235,[0,1,2,3,4,5,6,7,8,9,10,11,12,13,14,15,16,17,18,19,20,21,22,23,24,25,31],[31],[]⟩,⟨some 236,[0,1,2,3,4,5,6,7,8,9,10,11,12,13,14,15,16,17,18,19,20,21,22,23,24,25,31,32,33],[33,32],[]⟩,⟨some 237,[0,1,2,3,4,5,6,7,8,9,10,11,12,13,14,15,16,17,18,19,20,21,22,23,24,25,31,32,33,34],[34],[]⟩,⟨some 238,[0,1,2,3,4,5,6,7,8,9,10,11,12,13,14,15,16,17,18,19,20,21,22,23,24,25,26,27,28,29,30,31,32,33,34,35],[30,35],[]⟩,⟨some 239,[0,1,2,3,4,5,6,7,8,9,10,11,12,13,14,15,16,17,18,19,20,21,22,23,24,25,26,27,28,29,30,31,32,33,34,35,36],[25,36],[]⟩,⟨some 240,[0,1,2,3,4,5,6,7,8,9,10,11,12,13,14,15,16,17,18,19,20,21,22,23,24,25,26,27,28,29,30,31,32,33,34,35,36,37],[22,37],[]⟩,⟨some 241,[0,1,2,3,4,5,6,7,8,9,10,11,12,13,14,15,16,17,18,19,20,21,22,23,24,25,26,27,28,29,30,31,32,33,34,35,36,37,38],[38],[]⟩,⟨some 242,[0,1,2,3,4,5,6,7,8,9,10,11,12,13,14,15,16,17,18,19,20,21,22,23,24,25,26,27,28,29,30,31,32,33,34,35,36,37,38,39],[],[]⟩,⟨some 243,[0,1,2,3,4,5,6,7,8,9,10,11,12,13,14,15,16,17,18,19,20,21,22,23,24,25,26,27,28,29,30,31,32,33,34,35,36,37,38,39,40],[40],[]⟩,⟨some 244,[0,1,2,3,4,5,6,7,8,9,10,11,12,13,14,15,16,17,18,19,20,21,22,23,24,25,26,27,28,29,30,31,32,33,34,35,36,37,38,39,40,41],[41],[]⟩,⟨some 245,[0,1,2,3,4,5,6,7,8,9,10,11,12,13,14,15,16,17,18,19,20,21,22,23,24,25,26,27,28,29,30,31,32,33,34,35,36,37,38,39,40,41,42],[],[]⟩,⟨some 246,[0,1,2,3,4,5,6,7,8,9,10,11,12,13,14,15,16,17,18,19,20,21,22,23,24,25,26,27,28,29,30,31,32,33,34,35,36,37,38,39,40,41,42],[],[]⟩,⟨some 247,[0,1,2,3,4,5,6,7,8,9,10,11,12,13,14,15,16,17,18,19,20,21,22,23,24,25,26,27,28,29,30,31,32,33,34,35,36,37,38,39,40,41,42,43],[43],[]⟩,⟨some 248,[0,1,2,3,4,5,6,7,8,9,10,11,12,13,14,15,16,17,18,19,20,21,22,23,24,25,26,27,28,29,30,31,32,33,34,35,36,37,38,39,40,41,42,43,44,45],[45,44],[]⟩,⟨some 249,[0,1,2,3,4,5,6,7,8,9,10,11,12,13,14,15,16,17,18,19,20,21,22,23,24,25,26,27,28,29,30,31,32,33,34,35,36,37,38,39,40,41,42,43,44,45,46],[46],[]⟩,⟨some 250,[0,1,2,3,4,5,6,7,8,9,10,11,12,13,14,15,16,17,18,19,20,21,22,23,24,25,26,27,28,29,30,31,32,33,34,35,36,37,38,39,40,41,42],[],[]⟩,⟨some 251,[0,1,2,3,4,5,6,7,8,9,10,11,12,13,14,15,16,17,18,19,20,21,22,23,24,25,26,27,28,29,30,31,32,33,34,35,36,37,38,39,40,41,42],[],[]⟩,⟨some 252,[0,1,2,3,4,5,6,7,8,9,10,11,12,13,14,15,16,17,18,19,20,21,22,23,24,25,26,27,28,29,30,31,32,33,34,35,36,37,38,39,40,41,42,48],[48],[]⟩,⟨some 253,[0,1,2,3,4,5,6,7,8,9,10,11,12,13,14,15,16,17,18,19,20,21,22,23,24,25,26,27,28,29,30,31,32,33,34,35,36,37,38,39,40,41,42,48,49,50],[50,49],[]⟩,⟨some 254,[0,1,2,3,4,5,6,7,8,9,10,11,12,13,14,15,16,17,18,19,20,21,22,23,24,25,26,27,28,29,30,31,32,33,34,35,36,37,38,39,40,41,42,48,49,50,51],[51],[]⟩,⟨some 255,[0,1,2,3,4,5,6,7,8,9,10,11,12,13,14,15,16,17,18,19,20,21,22,23,24,25,26,27,28,29,30,31,32,33,34,35,36,37,38,39,40,41,42,43,44,45,46,47,48,49,50,51,52],[47,52],[]⟩,⟨some 256,[0,1,2,3,4,5,6,7,8,9,10,11,12,13,14,15,16,17,18,19,20,21,22,23,24,25,26,27,28,29,30,31,32,33,34,35,36,37,38,39,40,41,42,43,44,45,46,47,48,49,50,51,52,53],[42,53],[]⟩,⟨some 257,[0,1,2,3,4,5,6,7,8,9,10,11,12,13,14,15,16,17,18,19,20,21,22,23,24,25,26,27,28,29,30,31,32,33,34,35,36,37,38,39,40,41,42,43,44,45,46,47,48,49,50,51,52,53,54],[39,54],[]⟩]
noncomputable def valKt3 (b3 b8 b14 b22 b23 ii jj : Nat) (R : Rm) (t : Sp) (q3 : Option Addr) (q4 : Nat) (n m fi kn ya yb : Int) (w2 w0 : Bool) (k : Nat) (env : Env) : Value :=
 match k with
 | 0 => .int .i64 0
 | 1 => .bool false
 | 2 => .bool false
 | 3=>gt (false) (.int .i64 (ii : Nat))
 | 4=>gt (false) (.int .i64 m)
 | 5=>gt (false) (.pointer (some ⟨b8,0 + (ii : Int).toNat * 12,none⟩))
 | 6=>gt (false) (.pointer (some ⟨b8,0 + (ii : Int).toNat * 12 + (m).toNat * 1,none⟩))
 | 7=>gt (false) (.int .i64 ya)
 | 8=>gt (false) (.int .i64 (jj : Nat))
 | 9=>gt (false) (.int .i64 m)
 | 10=>gt (false) (.pointer (some ⟨b8,0 + (jj : Int).toNat * 12,none⟩))
 | 11=>gt (false) (.pointer (some ⟨b8,0 + (jj : Int).toNat * 12 + (m).toNat * 1,none⟩))
 | 12=>gt (false) (.int .i64 yb)
 | 13=>gt (false) (.int .i64 (ya - yb))
 | 14=>gt (false) (.agg (cSp t).toArray)
 | 15=>gt (false) (.bool true)
 | 16=>gt (false) (.bool (!true))
 | 17 => .bool (false || !true)
 | 18 => .bool (false || !true)
 | 19=>gt (false || !true) (.int .i64 0)
 | 20=>gt (false || !true) (.bool false)
 | 21 => .bool ((false || !true) && true)
 | 22 => .bool ((false || !true) && true)
 | 23=>gt ((false || !true) && true) (.int .u8 kn)
 | 24=>gt ((false || !true) && true) (.bool w2)
 | 25=>gt ((false || !true) && true) (.bool w2)
 | 26=>gt (((false || !true) && true) || !w2) (.int .i64 (ii : Nat))
 | 27=>gt (((false || !true) && true) || !w2) (.int .i64 m)
 | 28=>gt (((false || !true) && true) || !w2) (.pointer (some ⟨b8,0 + (ii : Int).toNat * 12,none⟩))
 | 29=>gt (((false || !true) && true) || !w2) (.pointer (some ⟨b8,0 + (ii : Int).toNat * 12 + (m).toNat * 1,none⟩))
 | 30=>gt (((false || !true) && true) || !w2) (.int .i64 ya)
 | 31=>gt (((false || !true) && true) || !w2) (.int .i64 (jj : Nat))
 | 32=>gt (((false || !true) && true) || !w2) (.int .i64 m)
 | 33=>gt (((false || !true) && true) || !w2) (.pointer (some ⟨b8,0 + (jj : Int).toNat * 12,none⟩))
 | 34=>gt (((false || !true) && true) || !w2) (.pointer (some ⟨b8,0 + (jj : Int).toNat * 12 + (m).toNat * 1,none⟩))
 | 35=>gt (((false || !true) && true) || !w2) (.int .i64 yb)
 | 36=>gt (((false || !true) && true) || !w2) (.bool false)
 | 37=>gt ((false || !true) && true) (.bool (w2 && false))
 | 38 => .bool (((false || !true) && true) || (w2 && false))
 | 39 => .bool (((false || !true) && true) || (w2 && false))
 | 40=>gt (((false || !true) && true) || (w2 && false)) (.int .u8 kn)
 | 41=>gt (((false || !true) && true) || (w2 && false)) (.bool w0)
 | 42=>gt (((false || !true) && true) || (w2 && false)) (.bool w0)
 | 43=>gt ((((false || !true) && true) || (w2 && false)) || !w0) (.int .i64 (ii : Nat))
 | 44=>gt ((((false || !true) && true) || (w2 && false)) || !w0) (.int .i64 m)
 | 45=>gt ((((false || !true) && true) || (w2 && false)) || !w0) (.pointer (some ⟨b8,0 + (ii : Int).toNat * 12,none⟩))
 | 46=>gt ((((false || !true) && true) || (w2 && false)) || !w0) (.pointer (some ⟨b8,0 + (ii : Int).toNat * 12 + (m).toNat * 1,none⟩))
 | 47=>gt ((((false || !true) && true) || (w2 && false)) || !w0) (.int .i64 ya)
 | 48=>gt ((((false || !true) && true) || (w2 && false)) || !w0) (.int .i64 (jj : Nat))
 | 49=>gt ((((false || !true) && true) || (w2 && false)) || !w0) (.int .i64 m)
 | 50=>gt ((((false || !true) && true) || (w2 && false)) || !w0) (.pointer (some ⟨b8,0 + (jj : Int).toNat * 12,none⟩))
 | 51=>gt ((((false || !true) && true) || (w2 && false)) || !w0) (.pointer (some ⟨b8,0 + (jj : Int).toNat * 12 + (m).toNat * 1,none⟩))
 | 52=>gt ((((false || !true) && true) || (w2 && false)) || !w0) (.int .i64 yb)
 | 53=>gt ((((false || !true) && true) || (w2 && false)) || !w0) (.bool false)
 | 54=>gt (((false || !true) && true) || (w2 && false)) (.bool (w0 && false))
 | 55 => .bool ((((false || !true) && true) || (w2 && false)) || (w0 && false))
 | _=>undef
noncomputable def rowsKt3 (b3 b8 b14 b22 b23 ii jj : Nat) (R : Rm) (t : Sp) (q3 : Option Addr) (q4 : Nat) (n m fi kn ya yb : Int) (w2 w0 : Bool) (k : Nat) (env : Env) : List Row :=
 match k with
 | _=>[]
theorem locKt3 (b3 b8 b14 b22 b23 ii jj : Nat) (R : Rm) (t : Sp) (q3 : Option Addr) (q4 : Nat) (n m fi kn ya yb : Int) (w2 w0 : Bool) : ∀ k env i q9,i ≠ k → (tAt tsKt3 k).sup.contains i = false → valKt3 b3 b8 b14 b22 b23 ii jj R t q3 q4 n m fi kn ya yb w2 w0 k (upd env i q9)=valKt3 b3 b8 b14 b22 b23 ii jj R t q3 q4 n m fi kn ya yb w2 w0 k env∧rowsKt3 b3 b8 b14 b22 b23 ii jj R t q3 q4 n m fi kn ya yb w2 w0 k (upd env i q9)=rowsKt3 b3 b8 b14 b22 b23 ii jj R t q3 q4 n m fi kn ya yb w2 w0 k env:=by
 intro k env i q hk hs
 have hu : ∀ j,j ≠ i → upd env i q j = env j:=fun j hj=>by unfold upd;rw [if_neg hj]
 match k,hk,hs with
 | 0,_,_=>exact ⟨rfl,rfl⟩
 | 1,_,_=>exact ⟨rfl,rfl⟩
 | 2,_,_=>exact ⟨rfl,rfl⟩
 | 3,_,_=>exact ⟨rfl,rfl⟩
 | 4,_,_=>exact ⟨rfl,rfl⟩
 | 5,_,_=>exact ⟨rfl,rfl⟩
 | 6,_,_=>exact ⟨rfl,rfl⟩
 | 7,_,_=>exact ⟨rfl,rfl⟩
 | 8,_,_=>exact ⟨rfl,rfl⟩
 | 9,_,_=>exact ⟨rfl,rfl⟩
 | 10,_,_=>exact ⟨rfl,rfl⟩
 | 11,_,_=>exact ⟨rfl,rfl⟩
 | 12,_,_=>exact ⟨rfl,rfl⟩
 | 13,_,_=>exact ⟨rfl,rfl⟩
 | 14,_,_=>exact ⟨rfl,rfl⟩
 | 15,_,_=>exact ⟨rfl,rfl⟩
 | 16,_,_=>exact ⟨rfl,rfl⟩
 | 17,_,_=>exact ⟨rfl,rfl⟩
 | 18,_,_=>exact ⟨rfl,rfl⟩
 | 19,_,_=>exact ⟨rfl,rfl⟩
 | 20,_,_=>exact ⟨rfl,rfl⟩
 | 21,_,_=>exact ⟨rfl,rfl⟩
 | 22,_,_=>exact ⟨rfl,rfl⟩
 | 23,_,_=>exact ⟨rfl,rfl⟩
 | 24,_,_=>exact ⟨rfl,rfl⟩
 | 25,_,_=>exact ⟨rfl,rfl⟩
 | 26,_,_=>exact ⟨rfl,rfl⟩
 | 27,_,_=>exact ⟨rfl,rfl⟩
 | 28,_,_=>exact ⟨rfl,rfl⟩
 | 29,_,_=>exact ⟨rfl,rfl⟩
 | 30,_,_=>exact ⟨rfl,rfl⟩
 | 31,_,_=>exact ⟨rfl,rfl⟩
 | 32,_,_=>exact ⟨rfl,rfl⟩
 | 33,_,_=>exact ⟨rfl,rfl⟩
 | 34,_,_=>exact ⟨rfl,rfl⟩
 | 35,_,_=>exact ⟨rfl,rfl⟩
 | 36,_,_=>exact ⟨rfl,rfl⟩
 | 37,_,_=>exact ⟨rfl,rfl⟩
 | 38,_,_=>exact ⟨rfl,rfl⟩
 | 39,_,_=>exact ⟨rfl,rfl⟩
 | 40,_,_=>exact ⟨rfl,rfl⟩
 | 41,_,_=>exact ⟨rfl,rfl⟩
 | 42,_,_=>exact ⟨rfl,rfl⟩
 | 43,_,_=>exact ⟨rfl,rfl⟩
 | 44,_,_=>exact ⟨rfl,rfl⟩
 | 45,_,_=>exact ⟨rfl,rfl⟩
 | 46,_,_=>exact ⟨rfl,rfl⟩
 | 47,_,_=>exact ⟨rfl,rfl⟩
 | 48,_,_=>exact ⟨rfl,rfl⟩
 | 49,_,_=>exact ⟨rfl,rfl⟩
 | 50,_,_=>exact ⟨rfl,rfl⟩
 | 51,_,_=>exact ⟨rfl,rfl⟩
 | 52,_,_=>exact ⟨rfl,rfl⟩
 | 53,_,_=>exact ⟨rfl,rfl⟩
 | 54,_,_=>exact ⟨rfl,rfl⟩
 | 55,_,_=>exact ⟨rfl,rfl⟩
 | _ + 56,_,_=>exact ⟨rfl,rfl⟩
set_option maxHeartbeats 32000000 in
theorem truth_lA (R : Rm) (q1 : Option Addr) (q2 : Nat) (q3 : Option Addr) (q4 : Nat) (q5 : Option Addr) (q6 : Nat) (Y : List Int) (b3 b8 : Nat) (G : List Row) (h3 : (⟨b3,0,cRm R ⟨q1,q2,q3,q4,q5,q6⟩,some 26,5⟩ : Row) ∈ G) (h8 : (⟨b8,0,Y.flatMap cI,some 77,48⟩ : Row) ∈ G) (hR : RmOk G R ⟨q1,q2,q3,q4,q5,q6⟩) (hT : TruY R Y) (n : Int) (hn : 0 ≤ n∧n ≤ 60) (F : FS) (hF : Sub [(3,.pointer (some ⟨b3,0,none⟩)),(7,.bool true),(8,.pointer (some ⟨b8,0,none⟩)),(12,.int .i64 n)] F) :
  X Try.prog 365 (csnd (csnd (csnd (csnd (csnd (csnd (csnd (csnd (cof Try.f7))))))))) F G (retX Try.prog Try.f7 (fun v _=>v = .bool true)):=by
 have hok:=hT.rdy.ok
 have hm1:=hok.ok.m1
 have hm12:=hok.ok.m12
 have hb4:=hok.ok.b4
 have hbxs:=hR.boxes
 refine X.weak hF (qR _) ?_
 repeat' (first | (refine uP rfl ?_;(first | ((first | refine uN rfl ?_);(first | (refine uE (uL rfl rfl (uO (te rfl) rfl h3 rfl)) rfl rfl ?_)|(refine uE (uY rfl rfl (te rfl)) rfl rfl ?_)|(refine uE (uM rfl rfl) rfl rfl ?_)|(refine uE (uF rfl rfl (te rfl) rfl (te rfl) (by decide)) rfl rfl ?_)))))|(refine uD rfl ?_;refine hK _ _ ?_;clear hK K) | refine uS rfl ?_ | refine uR rfl (fun K hK=>?_) | refine X.block rfl ?_)
 all_goals try (exfalso;contradiction)
 refine X.lp rfl (fun q F' H' => ∃ ii : Nat,q = R.boxes.length - ii∧ii ≤ R.boxes.length∧G = H'∧F' = [(3,.pointer (some ⟨b3,0,none⟩)),(7,.bool true),(8,.pointer (some ⟨b8,0,none⟩)),(12,.int .i64 n),(79,.slice q3 R.boxes.length q4),(80,.int .i64 R.boxes.length),(81,.int .i64 (ii : Nat))])
  R.boxes.length [(3,.pointer (some ⟨b3,0,none⟩)),(7,.bool true),(8,.pointer (some ⟨b8,0,none⟩)),(12,.int .i64 n),(79,.slice q3 R.boxes.length q4),(80,.int .i64 R.boxes.length),(81,.int .i64 (0 : Nat))] G (by repeat (first | exact uU _ | refine uV rfl ?_)) (qR _) ⟨0,rfl,Nat.zero_le _,rfl,rfl⟩ ?_
 rintro _ _ _ ⟨ii,rfl,hki,rfl,rfl⟩
 by_cases hlt : ii < R.boxes.length
 ·have hlt' : (ii : Int)<(R.boxes.length : Int):=by omega
  obtain ⟨bx2,ox2,x,rfl,hx⟩:=hbxs.elem (i:=ii) hlt
  have hxb:=okBoxes_mem _ _ _ hok.2.2.1 x (List.mem_of_getElem? hx)
  repeat' (first | (refine uP rfl ?_;(first | ((first | refine uN rfl ?_);(first | (refine uE (uQ (b:=true) rfl rfl rfl (congrArg some (decide_eq_true hlt'))) rfl rfl ?_)|(refine uE (uL rfl rfl (LoadV.elA0 hbxs hx (te rfl) rfl (fun _ hm=>hm) rfl)) rfl rfl ?_)|(refine Xg.st (StF.alloc rfl Try.zeroValue81 rfl) rfl rfl ?_;rintro _ _ ⟨b14,rfl,rfl⟩)|(refine Xg.st0 (uZ (i:=0) (vs:=cBx x) rfl rfl rfl (te rfl) rfl rfl rfl rfl) rfl ?_;rintro _ _ ⟨rfl,rfl⟩;dsimp only [List.set])|(refine uE (uL rfl rfl (uO (te rfl) rfl (qH _) rfl)) rfl rfl ?_)|(refine uE (uM rfl rfl) rfl rfl ?_)|(refine uE (uA rfl rfl) rfl rfl ?_)|(refine uE (uF rfl rfl (te rfl) rfl (te rfl) (by decide)) rfl rfl ?_)|(refine uE (uJ rfl rfl rfl (te rfl) (te rfl) (by omega) (by omega)) rfl rfl ?_)))))|(refine uD rfl ?_;refine hK _ _ ?_;clear hK K) | refine uS rfl ?_ | refine uR rfl (fun K hK=>?_) | refine X.block rfl ?_ | refine X.skip rfl ?_ | (refine X.ite rfl rfl (fun hc=>?_);(first | (with_reducible refine Xb.t hc ?_)) <;> clear hc))
  all_goals try (exfalso;contradiction)
  refine X.lp rfl (fun q F' H' => ∃ (m fi : Int),q = (R.months - m).toNat∧x.made ≤ m∧m ≤ R.months∧FiOK Y ii n x.made fi m∧⟨b14,0,cBx x,some 81,2⟩::G = H'∧F' = [(3,.pointer (some ⟨b3,0,none⟩)),(7,.bool true),(8,.pointer (some ⟨b8,0,none⟩)),(12,.int .i64 n),(13,.int .i64 (ii : Nat)),(14,.pointer (some ⟨b14,0,none⟩)),(15,.int .i64 fi),(16,.int .i64 m),(79,.slice (some ⟨bx2,ox2,none⟩) R.boxes.length q4),(80,.int .i64 R.boxes.length),(81,.int .i64 (ii : Nat))])
   (R.months - x.made).toNat [(3,.pointer (some ⟨b3,0,none⟩)),(7,.bool true),(8,.pointer (some ⟨b8,0,none⟩)),(12,.int .i64 n),(13,.int .i64 (ii : Nat)),(14,.pointer (some ⟨b14,0,none⟩)),(15,.int .i64 (-1)),(16,.int .i64 x.made),(79,.slice (some ⟨bx2,ox2,none⟩) R.boxes.length q4),(80,.int .i64 R.boxes.length),(81,.int .i64 (ii : Nat))] (⟨b14,0,cBx x,some 81,2⟩::G) (by repeat (first | exact uU _ | refine uV rfl ?_)) (qR _) ⟨x.made, -1,rfl,Int.le_refl _,by omega,.inl ⟨rfl,fun q h1 h2=>by omega⟩,rfl,rfl⟩ ?_
  rintro _ _ _ ⟨m,fi,rfl,hmm,hm2,hfi,rfl,rfl⟩
  by_cases hmt : m < R.months
  ·obtain ⟨hm0,hti,hy1,hy2⟩:=tr_box hT hx hmm (by omega)
   have ky:=fun S hS=>kYellow_spec R ⟨q1,q2,some ⟨bx2,ox2,none⟩,q4,q5,q6⟩ x.id m S hS (by omega)
   have kk:=fun S hS=>kKnown_spec R ⟨q1,q2,some ⟨bx2,ox2,none⟩,q4,q5,q6⟩ x.id m n S hS (by omega)
   rw [rdy_yel hT.rdy hm0 hti] at ky kk
   obtain ⟨s,hs⟩ : ∃ s,s = rng R R.mats ⟨x.id,m⟩ zp:=⟨_,rfl⟩
   rw [← hs] at ky kk hy1 hy2
   clear hs
   have hkn : knP (s,0) n = (toldF s n,0):=rfl
   rw [hkn] at kk
   obtain ⟨hf2,hf0⟩:=told_two (n:=n) hy1 hy2
   obtain ⟨kn,hknq⟩ : ∃ kn,kn = toldF s n:=⟨_,rfl⟩
   rw [← hknq] at kk hf2 hf0
   obtain ⟨w2,hw2⟩ : ∃ w2,decide (kn = 2)=w2:=⟨_,rfl⟩
   obtain ⟨w0,hw0⟩ : ∃ w0,decide (kn = 0)=w0:=⟨_,rfl⟩
   rw [hw2] at hf2
   rw [hw0] at hf0
   have hca:=tr_cell hT (j:=ii) (m:=m) (by omega) (by omega)
   have hyb:=hT.bd ii m
   obtain ⟨yv,hyv⟩ : ∃ yv,yv = yat Y ii m:=⟨_,rfl⟩
   have hfs:=fi_step (by omega) hmm hfi
   rw [← hyv] at hca hyb hf2 hf0 hy1 hy2 hfs
   have kin:=fun S=>lawInT yv s hy1 hy2 S
   clear hkn hknq
   repeat' (first | (refine uP rfl ?_;(first | ((first | refine uN rfl ?_);(first | (refine uE (uX rfl rfl rfl) rfl rfl ?_)|(refine uE (uQ (b:=true) rfl rfl rfl (congrArg some (decide_eq_true hmt))) rfl rfl ?_)|(refine uE (uL rfl rfl (uO (te rfl) rfl (qT _ h3) rfl)) rfl rfl ?_)|(refine uE (uL rfl rfl (uW (T:=26) (cs:=cRm R ⟨q1,q2,some ⟨bx2,ox2,none⟩,q4,q5,q6⟩) (te rfl) rfl (qT _ h3) rfl)) rfl rfl ?_)|(refine uE (uL rfl rfl (uO (te rfl) rfl (qH _) rfl)) rfl rfl ?_)|(refine uC (uT rfl (Args.cons rfl (Args.cons rfl (Args.cons rfl Args.nil)))) rfl rfl (ky _ (hR.sub (fun _ h=>qT _ h))) ?_;rintro _ _ ⟨rfl,rfl⟩)|(refine Xg.st (StF.alloc rfl Try.zeroValue35 rfl) rfl rfl ?_;rintro _ _ ⟨b17,rfl,rfl⟩)|(refine Xg.st0 (uZ (i:=0) (vs:=cSp s) rfl rfl rfl (te rfl) rfl rfl rfl rfl) rfl ?_;rintro _ _ ⟨rfl,rfl⟩;dsimp only [List.set])|(refine uE (uL rfl rfl (uW (T:=26) (cs:=cRm R ⟨q1,q2,some ⟨bx2,ox2,none⟩,q4,q5,q6⟩) (te rfl) rfl (qT _ (qT _ h3)) rfl)) rfl rfl ?_)|(refine uE (uL rfl rfl (uO (te rfl) rfl (qT _ (qH _)) rfl)) rfl rfl ?_)|(refine uC (uT rfl (Args.cons rfl (Args.cons rfl (Args.cons rfl (Args.cons rfl Args.nil))))) rfl rfl (kk _ (hR.sub (fun _ h=>qT _ (qT _ h)))) ?_;rintro _ _ ⟨rfl,rfl⟩)|(refine uE (uM rfl rfl) rfl rfl ?_)|(refine uE (uA rfl rfl) rfl rfl ?_)|(refine uE (uF rfl rfl (te rfl) rfl (te rfl) (by decide)) rfl rfl ?_)))))|(refine uD rfl ?_;refine hK _ _ ?_;clear hK K) | refine uS rfl ?_ | refine uR rfl (fun K hK=>?_) | refine X.block rfl ?_ | refine X.skip rfl ?_ | (refine X.ite rfl rfl (fun hc=>?_);(first | (with_reducible refine Xb.t hc ?_)) <;> clear hc))
   all_goals try (exfalso;contradiction)
   refine X.weak (F' := [(3,.pointer (some ⟨b3,0,none⟩)),(7,.bool true),(8,.pointer (some ⟨b8,0,none⟩)),(12,.int .i64 n),(13,.int .i64 (ii : Nat)),(14,.pointer (some ⟨b14,0,none⟩)),(15,.int .i64 fi),(16,.int .i64 m),(17,.pointer (some ⟨b17,0,none⟩)),(18,.int .i64 0),(19,.int .u8 kn),(20,.int .i64 0),(79,.slice (some ⟨bx2,ox2,none⟩) R.boxes.length q4),(80,.int .i64 R.boxes.length),(81,.int .i64 (ii : Nat))]) (H' := ⟨b17,0,cSp s,some 35,2⟩::⟨b14,0,cBx x,some 81,2⟩::G) (by repeat (first | exact uU _ | refine uV rfl ?_)) (qR _) ?_
   refine X.regionOb tsKt2 [3,7,8,12,13,14,15,16,17,18,19,20,79,80,81] [(3,.pointer (some ⟨b3,0,none⟩)),(7,.bool true),(8,.pointer (some ⟨b8,0,none⟩)),(12,.int .i64 n),(13,.int .i64 (ii : Nat)),(14,.pointer (some ⟨b14,0,none⟩)),(15,.int .i64 fi),(16,.int .i64 m),(17,.pointer (some ⟨b17,0,none⟩)),(18,.int .i64 0),(19,.int .u8 kn),(20,.int .i64 0),(79,.slice (some ⟨bx2,ox2,none⟩) R.boxes.length q4),(80,.int .i64 R.boxes.length),(81,.int .i64 (ii : Nat))] (valKt2 b3 b8 b14 b17 ii R s (some ⟨bx2,ox2,none⟩) q4 n m fi kn yv w2 w0) (rowsKt2 b3 b8 b14 b17 ii R s (some ⟨bx2,ox2,none⟩) q4 n m fi kn yv w2 w0) (fun _=>(0,0)) (⟨b17,0,cSp s,some 35,2⟩::⟨b14,0,cBx x,some 81,2⟩::G) rfl mixed (by repeat (first | exact uU _ | refine uV rfl ?_)) rfl (by kernel_rfl) (locKt2 b3 b8 b14 b17 ii R s (some ⟨bx2,ox2,none⟩) q4 n m fi kn yv w2 w0) (qR _) ?_ ?_
   ·cases w2 <;> cases w0
    all_goals (repeat' (first | exact AllF.done rfl | (refine AllF.step rfl ?_ ?_;·(first | exact Ob.sk rfl rfl (fun _=>rfl) (fun _=>rfl) (fun _=>rfl) (fun _=>rfl)|((first | refine Ob.ng rfl ?_ | refine Ob.g rfl rfl (fun _=>rfl) ?_);(first | exact uK (fun env R hR=>by exact ⟨_,uM rfl rfl,rfl⟩) rfl (fun _=>rfl) | exact uK (fun env R hR=>by exact ⟨_,EvF.pickT rfl rfl rfl,rfl⟩) rfl (fun _=>rfl) | exact uK (fun env R hR=>by exact ⟨_,EvF.pickF rfl rfl rfl,rfl⟩) rfl (fun _=>rfl) | exact uK (fun env R hR=>by exact ⟨_,EvF.not rfl rfl,rfl⟩) rfl (fun _=>rfl) | exact uK (fun env R hR=>by exact ⟨_,uQ rfl rfl rfl rfl,rfl⟩) rfl (fun _=>rfl) | exact uK (fun env R hR=>by exact ⟨_,uL rfl rfl (uW (te rfl) rfl (hR _ (qH _)) rfl),rfl⟩) rfl (fun _=>rfl)|(exact uK (fun env S hS=>⟨.pointer (some ⟨b8,0 + (ii : Int).toNat * 12,none⟩),EvF.indexArray (T:=77) (e:=76) (ti:=⟨.ar 12 3,12,96⟩) (len:=4) (i:=(ii : Int)) (b:=b8) (off:=0) rfl rfl rfl (te rfl) (te rfl) (by omega) (by omega),rfl⟩) rfl (fun _=>rfl))|(exact uK (fun env S hS=>⟨.pointer (some ⟨b8,0 + (ii : Int).toNat * 12 + (m).toNat * 1,none⟩),EvF.indexArray (T:=76) (e:=3) (ti:=⟨.int .i64,1,8⟩) (len:=12) (i:=m) (b:=b8) (off:=0 + (ii : Int).toNat * 12) rfl rfl rfl (te rfl) (te rfl) (by omega) (by omega),rfl⟩) rfl (fun _=>rfl))|(exact uK (fun env S hS=>⟨_,uL rfl rfl (uO (cs:=Y.flatMap cI) (te rfl) rfl (hS _ (qT _ (qT _ h8))) hca),rfl⟩) rfl (fun _=>rfl))|(exact uK (fun env S hS=>⟨_,uQ rfl rfl rfl (congrArg some hw2),rfl⟩) rfl (fun _=>rfl))|(exact uK (fun env S hS=>⟨_,uQ rfl rfl rfl (congrArg some hw0),rfl⟩) rfl (fun _=>rfl))|(exact uK (fun env S hS=>⟨_,uQ (b:=false) rfl rfl rfl (congrArg some (decide_eq_false (hf2 rfl))),rfl⟩) rfl (fun _=>rfl))|(exact uK (fun env S hS=>⟨_,uQ (b:=false) rfl rfl rfl (congrArg some (decide_eq_false (hf0 rfl))),rfl⟩) rfl (fun _=>rfl))|(exact fun env S hS=>(OpF.call (uT rfl (Args.cons rfl (Args.cons rfl Args.nil))) (kin _)).mono (fun v H' ⟨hv,hH⟩=>⟨(0,0),fun _=>hv,by rw [hH];exact List.Perm.refl _⟩))))))))
   ·intro env t ha2 hv;refine ⟨_,ha2.cons (hv 41 152 (Nat.le_of_ble_eq_true rfl) rfl),?_⟩;clear hv ha2
    have hv41 : ∀ env,valKt2 b3 b8 b14 b17 ii R s (some ⟨bx2,ox2,none⟩) q4 n m fi kn yv w2 w0 41 env = .bool false:=fun env=>by cases w2 <;> cases w0 <;> rfl
    show X _ _ _ ((152,valKt2 b3 b8 b14 b17 ii R s (some ⟨bx2,ox2,none⟩) q4 n m fi kn yv w2 w0 41 env)::[(3,.pointer (some ⟨b3,0,none⟩)),(7,.bool true),(8,.pointer (some ⟨b8,0,none⟩)),(12,.int .i64 n),(13,.int .i64 (ii : Nat)),(14,.pointer (some ⟨b14,0,none⟩)),(15,.int .i64 fi),(16,.int .i64 m),(17,.pointer (some ⟨b17,0,none⟩)),(18,.int .i64 0),(19,.int .u8 kn),(20,.int .i64 0),(79,.slice (some ⟨bx2,ox2,none⟩) R.boxes.length q4),(80,.int .i64 R.boxes.length),(81,.int .i64 (ii : Nat))]) (⟨b17,0,cSp s,some 35,2⟩::⟨b14,0,cBx x,some 81,2⟩::G) _
    rw [hv41]
    clear hv41 env
    obtain ⟨fj,hfj⟩ : ∃ fj,fj = if n ≤ yv∧fi < 0 then m else fi:=⟨_,rfl⟩
    rw [← hfj] at hfs
    repeat' (first | (refine X.toN (c:=cfst (csnd (csnd (csnd (cfst (cfst (csnd (cfst (cfst (csnd (cfst (csnd (csnd (cfst (cfst (csnd (csnd (cfst (cfst (csnd (cfst (csnd (csnd (csnd (csnd (csnd (csnd (csnd (csnd (cof Try.f7)))))))))))))))))))))))))))))) (F1:=[(3,.pointer (some ⟨b3,0,none⟩)),(7,.bool true),(8,.pointer (some ⟨b8,0,none⟩)),(12,.int .i64 n),(13,.int .i64 (ii : Nat)),(14,.pointer (some ⟨b14,0,none⟩)),(15,.int .i64 fj),(16,.int .i64 m),(79,.slice (some ⟨bx2,ox2,none⟩) R.boxes.length q4),(80,.int .i64 R.boxes.length),(81,.int .i64 (ii : Nat))]) (H1:=⟨b14,0,cBx x,some 81,2⟩::G) (Rst9.out ?_) (Rst9.out ?_)) | refine uS rfl ?_ | refine X.skip rfl ?_ | (refine X.ite rfl rfl (fun hc=>?_);(first | (with_reducible refine Xb.f hc ?_)) <;> clear hc))
    all_goals try (exfalso;contradiction)
    ·refine ⟨?_⟩
     by_cases hc : n ≤ yv
     ·have hc' : yv ≥ n:=hc
      by_cases hf : fi < 0
      ·rw [if_pos ⟨hc,hf⟩] at hfj
       rw [hfj]
       repeat' (first | (refine uP rfl ?_;(first | ((first | refine uN rfl ?_ | (refine Xo.g rfl rfl ?_;with_reducible refine Xw.tt ?_));(first | (refine uE (EvF.indexArray (T:=77) (e:=76) (ti:=⟨.ar 12 3,12,96⟩) (len:=4) (i:=(ii : Int)) (b:=b8) (off:=0) rfl rfl rfl (te rfl) (te rfl) (by omega) (by omega)) rfl rfl ?_)|(refine uE (EvF.indexArray (T:=76) (e:=3) (ti:=⟨.int .i64,1,8⟩) (len:=12) (i:=m) (b:=b8) (off:=0 + (ii : Int).toNat * 12) rfl rfl rfl (te rfl) (te rfl) (by omega) (by omega)) rfl rfl ?_)|(refine uE (uL rfl rfl (uO (cs:=Y.flatMap cI) (te rfl) rfl (qT _ (qT _ h8)) hca)) rfl rfl ?_)|(refine uE (uQ (b:=true) rfl rfl rfl (congrArg some (decide_eq_true hc'))) rfl rfl ?_)|(refine uE (uQ (b:=true) rfl rfl rfl (congrArg some (decide_eq_true hf))) rfl rfl ?_)|(refine uE (uM rfl rfl) rfl rfl ?_)|(refine uE (uA rfl rfl) rfl rfl ?_)|(refine uE (EvF.pickT rfl rfl rfl) rfl rfl ?_)))))|(refine uD rfl ?_;refine hK _ _ ?_;clear hK K) | refine uS rfl ?_ | refine uR rfl (fun K hK=>?_)|(refine X.ite rfl rfl (fun hc=>?_);(first | (with_reducible refine Xb.t hc ?_)) <;> clear hc))
       all_goals try (exfalso;contradiction)
       exact ⟨rfl,(by repeat (first | exact uU _ | refine uV rfl ?_)),(by repeat (first | exact qR _ | apply qK | apply qC))⟩
      ·rw [if_neg (fun q=>hf q.2)] at hfj
       rw [hfj]
       repeat' (first | (refine uP rfl ?_;(first | ((first | refine uN rfl ?_ | (refine Xo.g rfl rfl ?_;with_reducible refine Xw.tt ?_));(first | (refine uE (EvF.indexArray (T:=77) (e:=76) (ti:=⟨.ar 12 3,12,96⟩) (len:=4) (i:=(ii : Int)) (b:=b8) (off:=0) rfl rfl rfl (te rfl) (te rfl) (by omega) (by omega)) rfl rfl ?_)|(refine uE (EvF.indexArray (T:=76) (e:=3) (ti:=⟨.int .i64,1,8⟩) (len:=12) (i:=m) (b:=b8) (off:=0 + (ii : Int).toNat * 12) rfl rfl rfl (te rfl) (te rfl) (by omega) (by omega)) rfl rfl ?_)|(refine uE (uL rfl rfl (uO (cs:=Y.flatMap cI) (te rfl) rfl (qT _ (qT _ h8)) hca)) rfl rfl ?_)|(refine uE (uQ (b:=true) rfl rfl rfl (congrArg some (decide_eq_true hc'))) rfl rfl ?_)|(refine uE (uQ (b:=false) rfl rfl rfl (congrArg some (decide_eq_false hf))) rfl rfl ?_)|(refine uE (uM rfl rfl) rfl rfl ?_)|(refine uE (EvF.pickT rfl rfl rfl) rfl rfl ?_)))))|(refine uD rfl ?_;refine hK _ _ ?_;clear hK K) | refine uS rfl ?_ | refine uR rfl (fun K hK=>?_) | refine X.skip rfl ?_ | (refine X.ite rfl rfl (fun hc=>?_);(first | (with_reducible refine Xb.f hc ?_)) <;> clear hc))
       all_goals try (exfalso;contradiction)
       exact ⟨rfl,(by repeat (first | exact uU _ | refine uV rfl ?_)),(by repeat (first | exact qR _ | apply qK | apply qC))⟩
     ·have hc' : ¬ yv ≥ n:=hc
      rw [if_neg (fun q=>hc q.1)] at hfj
      rw [hfj]
      repeat' (first | (refine uP rfl ?_;(first | ((first | refine uN rfl ?_);(first | (refine uE (EvF.indexArray (T:=77) (e:=76) (ti:=⟨.ar 12 3,12,96⟩) (len:=4) (i:=(ii : Int)) (b:=b8) (off:=0) rfl rfl rfl (te rfl) (te rfl) (by omega) (by omega)) rfl rfl ?_)|(refine uE (EvF.indexArray (T:=76) (e:=3) (ti:=⟨.int .i64,1,8⟩) (len:=12) (i:=m) (b:=b8) (off:=0 + (ii : Int).toNat * 12) rfl rfl rfl (te rfl) (te rfl) (by omega) (by omega)) rfl rfl ?_)|(refine uE (uL rfl rfl (uO (cs:=Y.flatMap cI) (te rfl) rfl (qT _ (qT _ h8)) hca)) rfl rfl ?_)|(refine uE (uQ (b:=false) rfl rfl rfl (congrArg some (decide_eq_false hc'))) rfl rfl ?_)|(refine uE (uM rfl rfl) rfl rfl ?_)|(refine uE (EvF.pickF rfl rfl rfl) rfl rfl ?_)))|(refine Xo.g rfl rfl ?_;(first | (with_reducible refine Xw.ft rfl rfl ?_)))))|(refine uD rfl ?_;refine hK _ _ ?_;clear hK K) | refine uS rfl ?_ | refine uR rfl (fun K hK=>?_) | refine X.skip rfl ?_ | (refine X.ite rfl rfl (fun hc=>?_);(first | (with_reducible refine Xb.f hc ?_)) <;> clear hc))
      all_goals try (exfalso;contradiction)
      exact ⟨rfl,(by repeat (first | exact uU _ | refine uV rfl ?_)),(by repeat (first | exact qR _ | apply qK | apply qC))⟩
    ·refine ⟨?_⟩
     clear hfj hfi hf2 hf0 kin ky kk hw2 hw0
     repeat' (first | (refine uP rfl ?_;(first | ((first | refine uN rfl ?_);(first | (refine uE (uL rfl rfl (uO (te rfl) rfl (qT _ h3) rfl)) rfl rfl ?_)|(refine uE (uY rfl rfl (te rfl)) rfl rfl ?_)|(refine uE (uM rfl rfl) rfl rfl ?_)|(refine uE (uF rfl rfl (te rfl) rfl (te rfl) (by decide)) rfl rfl ?_)))))|(refine uD rfl ?_;refine hK _ _ ?_;clear hK K) | refine uS rfl ?_ | refine uR rfl (fun K hK=>?_) | refine X.block rfl ?_)
     all_goals try (exfalso;contradiction)
     refine X.lp rfl (fun q F' H' => ∃ jj : Nat,q = R.boxes.length - jj∧jj ≤ R.boxes.length∧⟨b14,0,cBx x,some 81,2⟩::G = H'∧F' = [(3,.pointer (some ⟨b3,0,none⟩)),(7,.bool true),(8,.pointer (some ⟨b8,0,none⟩)),(12,.int .i64 n),(13,.int .i64 (ii : Nat)),(14,.pointer (some ⟨b14,0,none⟩)),(15,.int .i64 fj),(16,.int .i64 m),(79,.slice (some ⟨bx2,ox2,none⟩) R.boxes.length q4),(80,.int .i64 R.boxes.length),(81,.int .i64 (ii : Nat)),(166,.slice (some ⟨bx2,ox2,none⟩) R.boxes.length q4),(167,.int .i64 R.boxes.length),(168,.int .i64 (jj : Nat))])
      R.boxes.length [(3,.pointer (some ⟨b3,0,none⟩)),(7,.bool true),(8,.pointer (some ⟨b8,0,none⟩)),(12,.int .i64 n),(13,.int .i64 (ii : Nat)),(14,.pointer (some ⟨b14,0,none⟩)),(15,.int .i64 fj),(16,.int .i64 m),(79,.slice (some ⟨bx2,ox2,none⟩) R.boxes.length q4),(80,.int .i64 R.boxes.length),(81,.int .i64 (ii : Nat)),(166,.slice (some ⟨bx2,ox2,none⟩) R.boxes.length q4),(167,.int .i64 R.boxes.length),(168,.int .i64 (0 : Nat))] (⟨b14,0,cBx x,some 81,2⟩::G) (by repeat (first | exact uU _ | refine uV rfl ?_)) (qR _) ⟨0,rfl,Nat.zero_le _,rfl,rfl⟩ ?_
     rintro _ _ _ ⟨jj,rfl,hkj,rfl,rfl⟩
     by_cases hlt2 : jj < R.boxes.length
     ·have hlt2' : (jj : Int)<(R.boxes.length : Int):=by omega
      obtain ⟨z,hz⟩ : ∃ z,R.boxes[jj]? = some z:=⟨_,List.getElem?_eq_getElem hlt2⟩
      have hbz:=hbxs.sub (H' := ⟨b14,0,cBx x,some 81,2⟩::G) (fun _ h=>qT _ h)
      by_cases hij : jj = ii
      ·have hij' : (jj : Int)=(ii : Int):=by omega
       repeat' (first | (refine uP rfl ?_;(first | ((first | refine uN rfl ?_);(first | (refine uE (uQ (b:=true) rfl rfl rfl (congrArg some (decide_eq_true hlt2'))) rfl rfl ?_)|(refine uE (uL rfl rfl (LoadV.elA0 hbz hz (te rfl) rfl (fun _ hm=>hm) rfl)) rfl rfl ?_)|(refine Xg.st (StF.alloc rfl Try.zeroValue81 rfl) rfl rfl ?_;rintro _ _ ⟨b22,rfl,rfl⟩)|(refine Xg.st0 (uZ (i:=0) (vs:=cBx z) rfl rfl rfl (te rfl) rfl rfl rfl rfl) rfl ?_;rintro _ _ ⟨rfl,rfl⟩;dsimp only [List.set])|(refine uE (uQ (b:=true) rfl rfl rfl (congrArg some (decide_eq_true hij'))) rfl rfl ?_)|(refine uE (EvF.add64 (p:=(jj : Int)) (q:=1) rfl rfl rfl (by omega) (by omega)) rfl rfl ?_)|(refine uE (uM rfl rfl) rfl rfl ?_)|(refine uE (uA rfl rfl) rfl rfl ?_)|(refine uE (EvF.pickT rfl rfl rfl) rfl rfl ?_)|(refine uE (uJ rfl rfl rfl (te rfl) (te rfl) (by omega) (by omega)) rfl rfl ?_)))|(refine Xo.g rfl rfl ?_;(first | (with_reducible refine Xw.tf rfl rfl ?_)))))|(refine uD rfl ?_;refine hK _ _ ?_;clear hK K) | refine uS rfl ?_ | refine uR rfl (fun K hK=>?_) | refine X.block rfl ?_ | (refine X.brk rfl ?_;repeat (first | refine blockX_hit rfl ?_ | refine blockX_miss (by decide) ?_)) | refine X.skip rfl ?_ | (refine X.ite rfl rfl (fun hc=>?_);(first | (with_reducible refine Xb.t hc ?_)) <;> clear hc))
       all_goals try (exfalso;contradiction)
       exact ⟨_,_,_,(by repeat (first | exact uU _ | refine uV rfl ?_)),(by repeat (first | exact qR _ | apply qK | apply qC)),⟨jj + 1,rfl,by omega,rfl,rfl⟩,by omega⟩
      ·have hij' : ¬ (jj : Int)=(ii : Int):=by omega
       by_cases hzm : z.made > m
       ·repeat' (first | (refine uP rfl ?_;(first | ((first | refine uN rfl ?_ | (refine Xo.g rfl rfl ?_;with_reducible refine Xw.ff ?_));(first | (refine uE (uQ (b:=true) rfl rfl rfl (congrArg some (decide_eq_true hlt2'))) rfl rfl ?_)|(refine uE (uL rfl rfl (LoadV.elA0 hbz hz (te rfl) rfl (fun _ hm=>hm) rfl)) rfl rfl ?_)|(refine Xg.st (StF.alloc rfl Try.zeroValue81 rfl) rfl rfl ?_;rintro _ _ ⟨b22,rfl,rfl⟩)|(refine Xg.st0 (uZ (i:=0) (vs:=cBx z) rfl rfl rfl (te rfl) rfl rfl rfl rfl) rfl ?_;rintro _ _ ⟨rfl,rfl⟩;dsimp only [List.set])|(refine uE (uQ (b:=false) rfl rfl rfl (congrArg some (decide_eq_false hij'))) rfl rfl ?_)|(refine uE (uL rfl rfl (uO (te rfl) rfl (qH _) rfl)) rfl rfl ?_)|(refine uE (uQ (b:=true) rfl rfl rfl (congrArg some (decide_eq_true hzm))) rfl rfl ?_)|(refine uE (EvF.add64 (p:=(jj : Int)) (q:=1) rfl rfl rfl (by omega) (by omega)) rfl rfl ?_)|(refine uE (uM rfl rfl) rfl rfl ?_)|(refine uE (uA rfl rfl) rfl rfl ?_)|(refine uE (EvF.pickF rfl rfl rfl) rfl rfl ?_)|(refine uE (uF rfl rfl (te rfl) rfl (te rfl) (by decide)) rfl rfl ?_)|(refine uE (uJ rfl rfl rfl (te rfl) (te rfl) (by omega) (by omega)) rfl rfl ?_)))))|(refine uD rfl ?_;refine hK _ _ ?_;clear hK K) | refine uS rfl ?_ | refine uR rfl (fun K hK=>?_) | refine X.block rfl ?_ | (refine X.brk rfl ?_;repeat (first | refine blockX_hit rfl ?_ | refine blockX_miss (by decide) ?_)) | refine X.skip rfl ?_ | (refine X.ite rfl rfl (fun hc=>?_);(first | (with_reducible refine Xb.t hc ?_)) <;> clear hc))
        all_goals try (exfalso;contradiction)
        exact ⟨_,_,_,(by repeat (first | exact uU _ | refine uV rfl ?_)),(by repeat (first | exact qR _ | apply qK | apply qC)),⟨jj + 1,rfl,by omega,rfl,rfl⟩,by omega⟩
       ·have hzm' : z.made ≤ m:=Int.not_lt.1 hzm
        have hmM : m ≤ R.months - 1:=by omega
        obtain ⟨_,htj,_,_⟩:=tr_box hT hz hzm' hmM
        have hne : x.id ≠ z.id:=fun e=>by
         have e1:=index_box hok.ok.bx hx
         have e2:=index_box hok.ok.bx hz
         rw [e,e2] at e1
         omega
        have kd:=fun S hS=>kDiffer_spec R ⟨q1,q2,some ⟨bx2,ox2,none⟩,q4,q5,q6⟩ x.id z.id m S hS (by omega)
        have ko:=fun S hS=>kOrder_spec R ⟨q1,q2,some ⟨bx2,ox2,none⟩,q4,q5,q6⟩ x.id z.id m S hS (by omega)
        rw [rdy_dif hT.rdy hm0 hti htj hne] at kd ko
        obtain ⟨g1,g2⟩:=tr_dif hT hx hz hmm hzm' hmM
        obtain ⟨t9,ht9⟩ : ∃ t,t = rng R R.mats ⟨x.id,m⟩ ⟨z.id,m⟩:=⟨_,rfl⟩
        rw [← ht9] at kd ko g1 g2
        clear ht9
        have hkn : knP (t9,0) 0 = (toldF t9 0,0):=rfl
        rw [hkn] at ko
        rw [← hyv] at g1 g2
        have hcb:=tr_cell hT (j:=jj) (m:=m) (by omega) (by omega)
        have hzb:=hT.bd jj m
        obtain ⟨yb,hybq⟩ : ∃ yb,yb = yat Y jj m:=⟨_,rfl⟩
        rw [← hybq] at g1 g2 hcb hzb
        obtain ⟨k2,k0⟩:=told_two (n:=0) g1 g2
        obtain ⟨kn,hknq⟩ : ∃ kn,kn = toldF t9 0:=⟨_,rfl⟩
        rw [← hknq] at ko k2 k0
        obtain ⟨w2,hw2⟩ : ∃ w2,decide (kn = 2)=w2:=⟨_,rfl⟩
        obtain ⟨w0,hw0⟩ : ∃ w0,decide (kn = 0)=w0:=⟨_,rfl⟩
        rw [hw2] at k2
        rw [hw0] at k0
        have hf2 : w2 = true → ¬ yv < yb:=fun e=>by have:=k2 e;omega
        have hf0 : w0 = true → ¬ yv ≥ yb:=fun e=>by have:=k0 e;omega
        have kin:=fun S=>lawInT (yv - yb) t9 g1 g2 S
        clear hkn hknq k2 k0
        repeat' (first | (refine uP rfl ?_;(first | ((first | refine uN rfl ?_ | (refine Xo.g rfl rfl ?_;with_reducible refine Xw.ff ?_));(first | (refine uE (uX rfl rfl rfl) rfl rfl ?_)|(refine uE (uQ (b:=true) rfl rfl rfl (congrArg some (decide_eq_true hlt2'))) rfl rfl ?_)|(refine uE (uL rfl rfl (LoadV.elA0 hbz hz (te rfl) rfl (fun _ hm=>hm) rfl)) rfl rfl ?_)|(refine Xg.st (StF.alloc rfl Try.zeroValue81 rfl) rfl rfl ?_;rintro _ _ ⟨b22,rfl,rfl⟩)|(refine Xg.st0 (uZ (i:=0) (vs:=cBx z) rfl rfl rfl (te rfl) rfl rfl rfl rfl) rfl ?_;rintro _ _ ⟨rfl,rfl⟩;dsimp only [List.set])|(refine uE (uQ (b:=false) rfl rfl rfl (congrArg some (decide_eq_false hij'))) rfl rfl ?_)|(refine uE (uL rfl rfl (uO (te rfl) rfl (qH _) rfl)) rfl rfl ?_)|(refine uE (uQ (b:=false) rfl rfl rfl (congrArg some (decide_eq_false hzm))) rfl rfl ?_)|(refine uE (uL rfl rfl (uW (T:=26) (cs:=cRm R ⟨q1,q2,some ⟨bx2,ox2,none⟩,q4,q5,q6⟩) (te rfl) rfl (qT _ (qT _ h3)) rfl)) rfl rfl ?_)|(refine uE (uL rfl rfl (uO (te rfl) rfl (qT _ (qH _)) rfl)) rfl rfl ?_)|(refine uC (uT rfl (Args.cons rfl (Args.cons rfl (Args.cons rfl (Args.cons rfl Args.nil))))) rfl rfl (kd _ (hR.sub (fun _ h=>qT _ (qT _ h)))) ?_;rintro _ _ ⟨rfl,rfl⟩)|(refine Xg.st0 (uZ (i:=0) (vs:=cSp t9) rfl rfl rfl (te rfl) rfl rfl rfl rfl) rfl ?_;rintro _ _ ⟨rfl,rfl⟩;dsimp only [List.set])|(refine uE (uL rfl rfl (uW (T:=26) (cs:=cRm R ⟨q1,q2,some ⟨bx2,ox2,none⟩,q4,q5,q6⟩) (te rfl) rfl (qT _ (qT _ (qT _ h3))) rfl)) rfl rfl ?_)|(refine uE (uL rfl rfl (uO (te rfl) rfl (qT _ (qT _ (qH _))) rfl)) rfl rfl ?_)|(refine uC (uT rfl (Args.cons rfl (Args.cons rfl (Args.cons rfl (Args.cons rfl Args.nil))))) rfl rfl (ko _ (hR.sub (fun _ h=>qT _ (qT _ (qT _ h))))) ?_;rintro _ _ ⟨rfl,rfl⟩)|(refine uE (uM rfl rfl) rfl rfl ?_)|(refine uE (uA rfl rfl) rfl rfl ?_)|(refine uE (EvF.pickF rfl rfl rfl) rfl rfl ?_)|(refine uE (uF rfl rfl (te rfl) rfl (te rfl) (by decide)) rfl rfl ?_)|(refine uE (uJ rfl rfl rfl (te rfl) (te rfl) (by omega) (by omega)) rfl rfl ?_)))))|(refine uD rfl ?_;refine hK _ _ ?_;clear hK K) | refine uS rfl ?_ | refine uR rfl (fun K hK=>?_) | refine X.block rfl ?_ | refine X.skip rfl ?_ | (refine X.ite rfl rfl (fun hc=>?_);(first | (with_reducible refine Xb.t hc ?_)|(with_reducible refine Xb.f hc ?_)) <;> clear hc))
        all_goals try (exfalso;contradiction)
        rename_i b22q
        generalize b22 = b23
        generalize b22q = b22
        refine X.weak (F' := [(3,.pointer (some ⟨b3,0,none⟩)),(7,.bool true),(8,.pointer (some ⟨b8,0,none⟩)),(12,.int .i64 n),(13,.int .i64 (ii : Nat)),(14,.pointer (some ⟨b14,0,none⟩)),(15,.int .i64 fj),(16,.int .i64 m),(21,.int .i64 (jj : Nat)),(22,.pointer (some ⟨b22,0,none⟩)),(23,.pointer (some ⟨b23,0,none⟩)),(24,.int .i64 0),(25,.int .u8 kn),(26,.int .i64 0),(79,.slice (some ⟨bx2,ox2,none⟩) R.boxes.length q4),(80,.int .i64 R.boxes.length),(81,.int .i64 (ii : Nat)),(166,.slice (some ⟨bx2,ox2,none⟩) R.boxes.length q4),(167,.int .i64 R.boxes.length),(168,.int .i64 (jj : Nat))]) (H' := ⟨b23,0,cSp t9,some 35,2⟩::⟨b22,0,cBx z,some 81,2⟩::⟨b14,0,cBx x,some 81,2⟩::G) (by repeat (first | exact uU _ | refine uV rfl ?_)) (qR _) ?_
        refine X.regionOb tsKt3 [3,7,8,12,13,14,15,16,21,22,23,24,25,26,79,80,81,166,167,168] [(3,.pointer (some ⟨b3,0,none⟩)),(7,.bool true),(8,.pointer (some ⟨b8,0,none⟩)),(12,.int .i64 n),(13,.int .i64 (ii : Nat)),(14,.pointer (some ⟨b14,0,none⟩)),(15,.int .i64 fj),(16,.int .i64 m),(21,.int .i64 (jj : Nat)),(22,.pointer (some ⟨b22,0,none⟩)),(23,.pointer (some ⟨b23,0,none⟩)),(24,.int .i64 0),(25,.int .u8 kn),(26,.int .i64 0),(79,.slice (some ⟨bx2,ox2,none⟩) R.boxes.length q4),(80,.int .i64 R.boxes.length),(81,.int .i64 (ii : Nat)),(166,.slice (some ⟨bx2,ox2,none⟩) R.boxes.length q4),(167,.int .i64 R.boxes.length),(168,.int .i64 (jj : Nat))] (valKt3 b3 b8 b14 b22 b23 ii jj R t9 (some ⟨bx2,ox2,none⟩) q4 n m fj kn yv yb w2 w0) (rowsKt3 b3 b8 b14 b22 b23 ii jj R t9 (some ⟨bx2,ox2,none⟩) q4 n m fj kn yv yb w2 w0) (fun _=>(0,0)) (⟨b23,0,cSp t9,some 35,2⟩::⟨b22,0,cBx z,some 81,2⟩::⟨b14,0,cBx x,some 81,2⟩::G) rfl mixed (by repeat (first | exact uU _ | refine uV rfl ?_)) rfl (by kernel_rfl) (locKt3 b3 b8 b14 b22 b23 ii jj R t9 (some ⟨bx2,ox2,none⟩) q4 n m fj kn yv yb w2 w0) (qR _) ?_ ?_
        ·cases w2 <;> cases w0
         all_goals (repeat' (first | exact AllF.done rfl | (refine AllF.step rfl ?_ ?_;·(first | exact Ob.sk rfl rfl (fun _=>rfl) (fun _=>rfl) (fun _=>rfl) (fun _=>rfl)|((first | refine Ob.ng rfl ?_ | refine Ob.g rfl rfl (fun _=>rfl) ?_);(first | exact uK (fun env R hR=>by exact ⟨_,uM rfl rfl,rfl⟩) rfl (fun _=>rfl) | exact uK (fun env R hR=>by exact ⟨_,EvF.pickT rfl rfl rfl,rfl⟩) rfl (fun _=>rfl) | exact uK (fun env R hR=>by exact ⟨_,EvF.pickF rfl rfl rfl,rfl⟩) rfl (fun _=>rfl) | exact uK (fun env R hR=>by exact ⟨_,EvF.not rfl rfl,rfl⟩) rfl (fun _=>rfl) | exact uK (fun env R hR=>by exact ⟨_,uQ rfl rfl rfl rfl,rfl⟩) rfl (fun _=>rfl) | exact uK (fun env R hR=>by exact ⟨_,uL rfl rfl (uW (te rfl) rfl (hR _ (qH _)) rfl),rfl⟩) rfl (fun _=>rfl)|(exact uK (fun env S hS=>⟨.pointer (some ⟨b8,0 + (ii : Int).toNat * 12,none⟩),EvF.indexArray (T:=77) (e:=76) (ti:=⟨.ar 12 3,12,96⟩) (len:=4) (i:=(ii : Int)) (b:=b8) (off:=0) rfl rfl rfl (te rfl) (te rfl) (by omega) (by omega),rfl⟩) rfl (fun _=>rfl))|(exact uK (fun env S hS=>⟨.pointer (some ⟨b8,0 + (jj : Int).toNat * 12,none⟩),EvF.indexArray (T:=77) (e:=76) (ti:=⟨.ar 12 3,12,96⟩) (len:=4) (i:=(jj : Int)) (b:=b8) (off:=0) rfl rfl rfl (te rfl) (te rfl) (by omega) (by omega),rfl⟩) rfl (fun _=>rfl))|(exact uK (fun env S hS=>⟨.pointer (some ⟨b8,0 + (ii : Int).toNat * 12 + (m).toNat * 1,none⟩),EvF.indexArray (T:=76) (e:=3) (ti:=⟨.int .i64,1,8⟩) (len:=12) (i:=m) (b:=b8) (off:=0 + (ii : Int).toNat * 12) rfl rfl rfl (te rfl) (te rfl) (by omega) (by omega),rfl⟩) rfl (fun _=>rfl))|(exact uK (fun env S hS=>⟨.pointer (some ⟨b8,0 + (jj : Int).toNat * 12 + (m).toNat * 1,none⟩),EvF.indexArray (T:=76) (e:=3) (ti:=⟨.int .i64,1,8⟩) (len:=12) (i:=m) (b:=b8) (off:=0 + (jj : Int).toNat * 12) rfl rfl rfl (te rfl) (te rfl) (by omega) (by omega),rfl⟩) rfl (fun _=>rfl))|(exact uK (fun env S hS=>⟨_,uL rfl rfl (uO (cs:=Y.flatMap cI) (te rfl) rfl (hS _ (qT _ (qT _ (qT _ h8)))) hca),rfl⟩) rfl (fun _=>rfl))|(exact uK (fun env S hS=>⟨_,uL rfl rfl (uO (cs:=Y.flatMap cI) (te rfl) rfl (hS _ (qT _ (qT _ (qT _ h8)))) hcb),rfl⟩) rfl (fun _=>rfl))|(exact uK (fun env S hS=>⟨_,uQ rfl rfl rfl (congrArg some hw2),rfl⟩) rfl (fun _=>rfl))|(exact uK (fun env S hS=>⟨_,uQ rfl rfl rfl (congrArg some hw0),rfl⟩) rfl (fun _=>rfl))|(exact uK (fun env S hS=>⟨_,uQ (b:=false) rfl rfl rfl (congrArg some (decide_eq_false (hf2 rfl))),rfl⟩) rfl (fun _=>rfl))|(exact uK (fun env S hS=>⟨_,uQ (b:=false) rfl rfl rfl (congrArg some (decide_eq_false (hf0 rfl))),rfl⟩) rfl (fun _=>rfl))|(exact uK (fun env S hS=>⟨_,EvF.sub64 (p:=yv) (q:=yb) rfl rfl rfl (by omega) (by omega),rfl⟩) rfl (fun _=>rfl))|(exact fun env S hS=>(OpF.call (uT rfl (Args.cons rfl (Args.cons rfl Args.nil))) (kin _)).mono (fun v H' ⟨hv,hH⟩=>⟨(0,0),fun _=>hv,by rw [hH];exact List.Perm.refl _⟩))))))))
        ·intro env t ha2 hv;refine ⟨_,ha2.cons (hv 55 257 (Nat.le_of_ble_eq_true rfl) rfl),?_⟩;clear hv ha2
         have hv55 : ∀ env,valKt3 b3 b8 b14 b22 b23 ii jj R t9 (some ⟨bx2,ox2,none⟩) q4 n m fj kn yv yb w2 w0 55 env = .bool false:=fun env=>by cases w2 <;> cases w0 <;> rfl
         show X _ _ _ ((257,valKt3 b3 b8 b14 b22 b23 ii jj R t9 (some ⟨bx2,ox2,none⟩) q4 n m fj kn yv yb w2 w0 55 env)::[(3,.pointer (some ⟨b3,0,none⟩)),(7,.bool true),(8,.pointer (some ⟨b8,0,none⟩)),(12,.int .i64 n),(13,.int .i64 (ii : Nat)),(14,.pointer (some ⟨b14,0,none⟩)),(15,.int .i64 fj),(16,.int .i64 m),(21,.int .i64 (jj : Nat)),(22,.pointer (some ⟨b22,0,none⟩)),(23,.pointer (some ⟨b23,0,none⟩)),(24,.int .i64 0),(25,.int .u8 kn),(26,.int .i64 0),(79,.slice (some ⟨bx2,ox2,none⟩) R.boxes.length q4),(80,.int .i64 R.boxes.length),(81,.int .i64 (ii : Nat)),(166,.slice (some ⟨bx2,ox2,none⟩) R.boxes.length q4),(167,.int .i64 R.boxes.length),(168,.int .i64 (jj : Nat))]) (⟨b23,0,cSp t9,some 35,2⟩::⟨b22,0,cBx z,some 81,2⟩::⟨b14,0,cBx x,some 81,2⟩::G) _
         rw [hv55]
         clear hv55 env
         repeat' (first | (refine uP rfl ?_;(first | ((first | refine uN rfl ?_);(first | (refine uE (EvF.add64 (p:=(jj : Int)) (q:=1) rfl rfl rfl (by omega) (by omega)) rfl rfl ?_)|(refine uE (uM rfl rfl) rfl rfl ?_)))))|(refine uD rfl ?_;refine hK _ _ ?_;clear hK K) | refine uR rfl (fun K hK=>?_) | refine X.skip rfl ?_ | (refine X.ite rfl rfl (fun hc=>?_);(first | (with_reducible refine Xb.f hc ?_)) <;> clear hc))
         all_goals try (exfalso;contradiction)
         exact ⟨_,_,_,(by repeat (first | exact uU _ | refine uV rfl ?_)),(by repeat (first | exact qR _ | apply qK | apply qC)),⟨jj + 1,rfl,by omega,rfl,rfl⟩,by omega⟩
     ·obtain rfl : jj = R.boxes.length:=by omega
      have hlt2' : ¬ (R.boxes.length : Int)<(R.boxes.length : Int):=by omega
      repeat' (first | (refine uP rfl ?_;(first | ((first | refine uN rfl ?_);(first | (refine uE (uQ (b:=false) rfl rfl rfl (congrArg some (decide_eq_false hlt2'))) rfl rfl ?_)|(refine uE (EvF.add64 (p:=m) (q:=1) rfl rfl rfl (by omega) (by omega)) rfl rfl ?_)|(refine uE (uM rfl rfl) rfl rfl ?_)|(refine uE (uA rfl rfl) rfl rfl ?_)))))|(refine uD rfl ?_;refine hK _ _ ?_;clear hK K) | refine uS rfl ?_ | refine uR rfl (fun K hK=>?_)|(refine X.brk rfl ?_;repeat (first | refine blockX_hit rfl ?_ | refine blockX_miss (by decide) ?_))|(refine X.ite rfl rfl (fun hc=>?_);(first | (with_reducible refine Xb.f hc ?_)) <;> clear hc))
      all_goals try (exfalso;contradiction)
      exact ⟨_,_,_,(by repeat (first | exact uU _ | refine uV rfl ?_)),(by repeat (first | exact qR _ | apply qK | apply qC)),⟨m + 1,fj,rfl,by omega,by omega,hfs,rfl,rfl⟩,by omega⟩
  ·have hmq : m = R.months:=by omega
   subst hmq
   have kp:=fun S hS=>kPerhaps_spec R ⟨q1,q2,some ⟨bx2,ox2,none⟩,q4,q5,q6⟩ x.id n S hS (by omega)
   have ks:=fun S hS=>kSurely_spec R ⟨q1,q2,some ⟨bx2,ox2,none⟩,q4,q5,q6⟩ x.id n S hS (by omega)
   obtain ⟨a9,e9,h1,h1c⟩:=sin_facts hT.rdy (List.mem_of_getElem? hx) false n
   obtain ⟨c9,g9,h2,h2c⟩:=sin_facts hT.rdy (List.mem_of_getElem? hx) true n
   rw [h1] at kp
   rw [h2] at ks
   simp only [Bool.false_eq_true,if_false] at h1c
   simp only [if_true] at h2c
   clear h1 h2
   have hsl : ∀ q,x.made ≤ q → q ≤ R.months - 1 → (rng R R.mats ⟨x.id,q⟩ zp).lo ≤ yat Y ii q∧yat Y ii q ≤ (rng R R.mats ⟨x.id,q⟩ zp).hi:=fun q r1 r2=>by
    obtain ⟨_,_,g1,g2⟩:=tr_box hT hx r1 r2
    exact ⟨g1,g2⟩
   have hth : ∀ q,x.made ≤ q → q ≤ R.months - 1 → there R x q:=fun q r1 r2=>⟨List.mem_of_getElem? hx,r1,r2⟩
   rcases hfi with ⟨rfl,hall⟩ | ⟨f1,f2,f3,f4⟩
   ·rcases h2c with ⟨_,r1,r2,r3⟩ | ⟨rfl,_,_⟩
    ·have w1:=(r3 c9 (hth c9 r1 r2)).2 (Int.le_refl _)
     have w2:=hsl c9 r1 r2
     have w3:=hall c9 r1 (by omega)
     omega
    ·repeat' (first | (refine uP rfl ?_;(first | ((first | refine uN rfl ?_ | (refine Xo.g rfl rfl ?_;with_reducible refine Xw.ff ?_));(first | (refine uE (uX rfl rfl rfl) rfl rfl ?_)|(refine uE (uQ (b:=false) rfl rfl rfl (congrArg some (decide_eq_false hmt))) rfl rfl ?_)|(refine uE (uL rfl rfl (uO (te rfl) rfl (qT _ h3) rfl)) rfl rfl ?_)|(refine uE (uL rfl rfl (uO (te rfl) rfl (qH _) rfl)) rfl rfl ?_)|(refine uE (uL rfl rfl (uW (T:=26) (cs:=cRm R ⟨q1,q2,some ⟨bx2,ox2,none⟩,q4,q5,q6⟩) (te rfl) rfl (qT _ h3) rfl)) rfl rfl ?_)|(refine uC (uT rfl (Args.cons rfl (Args.cons rfl (Args.cons rfl Args.nil)))) rfl rfl (kp _ (hR.sub (fun _ h=>qT _ h))) ?_;rintro _ _ ⟨rfl,rfl⟩)|(refine uC (uT rfl (Args.cons rfl (Args.cons rfl (Args.cons rfl Args.nil)))) rfl rfl (ks _ (hR.sub (fun _ h=>qT _ h))) ?_;rintro _ _ ⟨rfl,rfl⟩)|(refine uE (uQ (b:=false) rfl rfl rfl (congrArg some (decide_eq_false (show ¬ (-1 : Int) ≥ 0 by decide)))) rfl rfl ?_)|(refine uE (uQ (b:=false) rfl rfl rfl (congrArg some (decide_eq_false (show ¬ (6 : Int)=0 by decide)))) rfl rfl ?_)|(refine uE (EvF.add64 (p:=(ii : Int)) (q:=1) rfl rfl rfl (by omega) (by omega)) rfl rfl ?_)|(refine uE (uM rfl rfl) rfl rfl ?_)|(refine uE (uA rfl rfl) rfl rfl ?_)|(refine uE (EvF.pickF rfl rfl rfl) rfl rfl ?_)|(refine uE (uF rfl rfl (te rfl) rfl (te rfl) (by decide)) rfl rfl ?_)))|(refine Xo.g rfl rfl ?_;(first | (with_reducible refine Xw.ft rfl rfl ?_)))|(refine Xo.sk rfl rfl rfl rfl ?_)))|(refine uD rfl ?_;refine hK _ _ ?_;clear hK K) | refine uS rfl ?_ | refine uR rfl (fun K hK=>?_)|(refine X.brk rfl ?_;repeat (first | refine blockX_hit rfl ?_ | refine blockX_miss (by decide) ?_)) | refine X.skip rfl ?_ | (refine X.ite rfl rfl (fun hc=>?_);(first | (with_reducible refine Xb.f hc ?_)) <;> clear hc))
     all_goals try (exfalso;contradiction)
     exact ⟨_,_,_,(by repeat (first | exact uU _ | refine uV rfl ?_)),(by repeat (first | exact qR _ | apply qK | apply qC)),⟨ii + 1,rfl,by omega,rfl,rfl⟩,by omega⟩
   ·rcases h1c with ⟨rfl,_,_,r3⟩ | ⟨_,_,r3⟩
    ·have ha9 : ¬ a9 > fi:=by
      have:=(r3 fi (hth fi f1 (by omega))).1 (by have:=hsl fi f1 (by omega);omega)
      omega
     have hf0 : fi ≥ 0:=by omega
     have hf0' : ¬ fi < 0:=by omega
     rcases h2c with ⟨rfl,r1,r2,r4⟩ | ⟨rfl,_,_⟩
     ·have hc9 : ¬ c9 < fi:=fun q=>by
       have w1:=(r4 c9 (hth c9 r1 r2)).2 (Int.le_refl _)
       have w2:=hsl c9 r1 r2
       have w3:=f4 c9 r1 q
       omega
      repeat' (first | (refine uP rfl ?_;(first | ((first | refine uN rfl ?_ | (refine Xo.g rfl rfl ?_;with_reducible refine Xw.tt ?_)|(refine Xo.g rfl rfl ?_;with_reducible refine Xw.ff ?_));(first | (refine uE (uX rfl rfl rfl) rfl rfl ?_)|(refine uE (uQ (b:=false) rfl rfl rfl (congrArg some (decide_eq_false hmt))) rfl rfl ?_)|(refine uE (uL rfl rfl (uO (te rfl) rfl (qT _ h3) rfl)) rfl rfl ?_)|(refine uE (uL rfl rfl (uO (te rfl) rfl (qH _) rfl)) rfl rfl ?_)|(refine uE (uL rfl rfl (uW (T:=26) (cs:=cRm R ⟨q1,q2,some ⟨bx2,ox2,none⟩,q4,q5,q6⟩) (te rfl) rfl (qT _ h3) rfl)) rfl rfl ?_)|(refine uC (uT rfl (Args.cons rfl (Args.cons rfl (Args.cons rfl Args.nil)))) rfl rfl (kp _ (hR.sub (fun _ h=>qT _ h))) ?_;rintro _ _ ⟨rfl,rfl⟩)|(refine uC (uT rfl (Args.cons rfl (Args.cons rfl (Args.cons rfl Args.nil)))) rfl rfl (ks _ (hR.sub (fun _ h=>qT _ h))) ?_;rintro _ _ ⟨rfl,rfl⟩)|(refine uE (uQ (b:=true) rfl rfl rfl (congrArg some (decide_eq_true hf0))) rfl rfl ?_)|(refine uE (uQ (b:=false) rfl rfl rfl (congrArg some (nd_f (Eq.refl (0 : Int))))) rfl rfl ?_)|(refine uE (uQ (b:=false) rfl rfl rfl (congrArg some (decide_eq_false ha9))) rfl rfl ?_)|(refine uE (uQ (b:=true) rfl rfl rfl (congrArg some (decide_eq_true (Eq.refl (0 : Int))))) rfl rfl ?_)|(refine uE (uQ (b:=false) rfl rfl rfl (congrArg some (decide_eq_false hf0'))) rfl rfl ?_)|(refine uE (uQ (b:=false) rfl rfl rfl (congrArg some (decide_eq_false hc9))) rfl rfl ?_)|(refine uE (EvF.add64 (p:=(ii : Int)) (q:=1) rfl rfl rfl (by omega) (by omega)) rfl rfl ?_)|(refine uE (uM rfl rfl) rfl rfl ?_)|(refine uE (uA rfl rfl) rfl rfl ?_)|(refine uE (EvF.pickT rfl rfl rfl) rfl rfl ?_)|(refine uE (EvF.pickF rfl rfl rfl) rfl rfl ?_)|(refine uE (uF rfl rfl (te rfl) rfl (te rfl) (by decide)) rfl rfl ?_)))))|(refine uD rfl ?_;refine hK _ _ ?_;clear hK K) | refine uS rfl ?_ | refine uR rfl (fun K hK=>?_)|(refine X.brk rfl ?_;repeat (first | refine blockX_hit rfl ?_ | refine blockX_miss (by decide) ?_)) | refine X.skip rfl ?_ | (refine X.ite rfl rfl (fun hc=>?_);(first | (with_reducible refine Xb.f hc ?_)) <;> clear hc))
      all_goals try (exfalso;contradiction)
      exact ⟨_,_,_,(by repeat (first | exact uU _ | refine uV rfl ?_)),(by repeat (first | exact qR _ | apply qK | apply qC)),⟨ii + 1,rfl,by omega,rfl,rfl⟩,by omega⟩
     ·repeat' (first | (refine uP rfl ?_;(first | ((first | refine uN rfl ?_ | (refine Xo.g rfl rfl ?_;with_reducible refine Xw.tt ?_)|(refine Xo.g rfl rfl ?_;with_reducible refine Xw.ff ?_));(first | (refine uE (uX rfl rfl rfl) rfl rfl ?_)|(refine uE (uQ (b:=false) rfl rfl rfl (congrArg some (decide_eq_false hmt))) rfl rfl ?_)|(refine uE (uL rfl rfl (uO (te rfl) rfl (qT _ h3) rfl)) rfl rfl ?_)|(refine uE (uL rfl rfl (uO (te rfl) rfl (qH _) rfl)) rfl rfl ?_)|(refine uE (uL rfl rfl (uW (T:=26) (cs:=cRm R ⟨q1,q2,some ⟨bx2,ox2,none⟩,q4,q5,q6⟩) (te rfl) rfl (qT _ h3) rfl)) rfl rfl ?_)|(refine uC (uT rfl (Args.cons rfl (Args.cons rfl (Args.cons rfl Args.nil)))) rfl rfl (kp _ (hR.sub (fun _ h=>qT _ h))) ?_;rintro _ _ ⟨rfl,rfl⟩)|(refine uC (uT rfl (Args.cons rfl (Args.cons rfl (Args.cons rfl Args.nil)))) rfl rfl (ks _ (hR.sub (fun _ h=>qT _ h))) ?_;rintro _ _ ⟨rfl,rfl⟩)|(refine uE (uQ (b:=true) rfl rfl rfl (congrArg some (decide_eq_true hf0))) rfl rfl ?_)|(refine uE (uQ (b:=false) rfl rfl rfl (congrArg some (nd_f (Eq.refl (0 : Int))))) rfl rfl ?_)|(refine uE (uQ (b:=false) rfl rfl rfl (congrArg some (decide_eq_false ha9))) rfl rfl ?_)|(refine uE (EvF.add64 (p:=(ii : Int)) (q:=1) rfl rfl rfl (by omega) (by omega)) rfl rfl ?_)|(refine uE (uM rfl rfl) rfl rfl ?_)|(refine uE (uA rfl rfl) rfl rfl ?_)|(refine uE (EvF.pickT rfl rfl rfl) rfl rfl ?_)|(refine uE (EvF.pickF rfl rfl rfl) rfl rfl ?_)|(refine uE (uF rfl rfl (te rfl) rfl (te rfl) (by decide)) rfl rfl ?_)))|(refine Xo.g rfl rfl ?_;(first | (with_reducible refine Xw.ft rfl rfl ?_)))|(refine Xo.sk rfl rfl rfl rfl ?_)))|(refine uD rfl ?_;refine hK _ _ ?_;clear hK K) | refine uS rfl ?_ | refine uR rfl (fun K hK=>?_)|(refine X.brk rfl ?_;repeat (first | refine blockX_hit rfl ?_ | refine blockX_miss (by decide) ?_)) | refine X.skip rfl ?_ | (refine X.ite rfl rfl (fun hc=>?_);(first | (with_reducible refine Xb.f hc ?_)) <;> clear hc))
      all_goals try (exfalso;contradiction)
      exact ⟨_,_,_,(by repeat (first | exact uU _ | refine uV rfl ?_)),(by repeat (first | exact qR _ | apply qK | apply qC)),⟨ii + 1,rfl,by omega,rfl,rfl⟩,by omega⟩
    ·have w1:=r3 fi (hth fi f1 (by omega))
     have w2:=hsl fi f1 (by omega)
     omega
 ·obtain rfl : ii = R.boxes.length:=by omega
  have hlt' : ¬ (R.boxes.length : Int)<(R.boxes.length : Int):=by omega
  repeat' (first | (refine truth_lB R q1 q2 q3 q4 q5 q6 Y b3 b8 G h3 h8 hR hT _ ?_;exact (by repeat (first | exact uU _ | refine uV rfl ?_)))|(refine uP rfl ?_;(first | ((first | refine uN rfl ?_);(first | (refine uE (uQ (b:=false) rfl rfl rfl (congrArg some (decide_eq_false hlt'))) rfl rfl ?_)))))|(refine uD rfl ?_;refine hK _ _ ?_;clear hK K) | refine uS rfl ?_ | refine uR rfl (fun K hK=>?_)|(refine X.brk rfl ?_;repeat (first | refine blockX_hit rfl ?_ | refine blockX_miss (by decide) ?_))|(refine X.ite rfl rfl (fun hc=>?_);(first | (with_reducible refine Xb.f hc ?_)) <;> clear hc))
  all_goals try (exfalso;contradiction)
open Go Go.Fw Go.ChangeShapes Go.WideShapes
instance : Inhabited Sp:=⟨⟨0,0⟩⟩
instance : Inhabited Bx:=⟨⟨0,0⟩⟩
instance : Inhabited Mt:=⟨⟨0,0,0,0,0,0⟩⟩
def w64 (n : Int) : Prop:=(Lit.int .i64 n).wf = true
section
variable {H : Type} {enc : TypeId × Value → H} {w : World} {base : Nat} {spare : Nat → Bool} {held : Bool} {fuel : Nat} {cs : List Value} {x : DataW H × List MemPlace}
theorem open_i (h : DataW.trod enc Try.prog w base spare held fuel 3 cs = some x) : ∃ q : Int,cs = cI q∧w64 q:=trod_i (te rfl) h
theorem open_sp (h : DataW.trod enc Try.prog w base spare held fuel 35 cs = some x) : ∃ q : Sp,cs = cSp q∧(w64 q.lo∧w64 q.hi):=by
 obtain ⟨hl,hf⟩:=trod_st (te rfl) h
 obtain ⟨n0,y0,h0⟩:=hf 0 0 3 _ rfl (te rfl)
 obtain ⟨n1,y1,h1⟩:=hf 1 1 3 _ rfl (te rfl)
 match cs,hl with
 | [a,b],_ =>
  obtain ⟨lo,e0,w0⟩:=open_i h0
  obtain ⟨hi,e1,w1⟩:=open_i h1
  simp [cI] at e0 e1
  subst e0 e1
  exact ⟨⟨lo,hi⟩,rfl,w0,w1⟩
theorem open_bx (h : DataW.trod enc Try.prog w base spare held fuel 81 cs = some x) : ∃ q : Bx,cs = cBx q∧(w64 q.id∧w64 q.made):=by
 obtain ⟨hl,hf⟩:=trod_st (te rfl) h
 obtain ⟨n0,y0,h0⟩:=hf 0 0 3 _ rfl (te rfl)
 obtain ⟨n1,y1,h1⟩:=hf 1 1 3 _ rfl (te rfl)
 match cs,hl with
 | [a,b],_ =>
  obtain ⟨lo,e0,w0⟩:=open_i h0
  obtain ⟨hi,e1,w1⟩:=open_i h1
  simp [cI] at e0 e1
  subst e0 e1
  exact ⟨⟨lo,hi⟩,rfl,w0,w1⟩
theorem open_mt (h : DataW.trod enc Try.prog w base spare held fuel 111 cs = some x) : ∃ q : Mt,cs = cMt q∧(w64 q.number∧w64 q.month∧w64 q.a∧w64 q.b∧w64 q.lo∧w64 q.hi):=by
 obtain ⟨hl,hf⟩:=trod_st (te rfl) h
 obtain ⟨n0,y0,h0⟩:=hf 0 0 3 _ rfl (te rfl)
 obtain ⟨n1,y1,h1⟩:=hf 1 1 3 _ rfl (te rfl)
 obtain ⟨n2,y2,h2⟩:=hf 2 2 3 _ rfl (te rfl)
 obtain ⟨n3,y3,h3⟩:=hf 3 3 3 _ rfl (te rfl)
 obtain ⟨n4,y4,h4⟩:=hf 4 4 35 _ rfl (te rfl)
 match cs,hl with
 | [a,b,c,d,e,f],_ =>
  obtain ⟨q0,e0,w0⟩:=open_i h0
  obtain ⟨q1,e1,w1⟩:=open_i h1
  obtain ⟨q2,e2,w2⟩:=open_i h2
  obtain ⟨q3,e3,w3⟩:=open_i h3
  obtain ⟨q4,e4,w4⟩:=open_sp h4
  simp [cI,cSp] at e0 e1 e2 e3 e4
  obtain ⟨e4,e5⟩:=e4
  subst e0 e1 e2 e3 e4 e5
  exact ⟨⟨q0,q1,q2,q3,q4.lo,q4.hi⟩,rfl,w0,w1,w2,w3,w4.1,w4.2⟩
end
structure InRm (w : World) (R : Rm) (p : Pl) : Prop where
 ages : InSl w p.a1 cSp 2 R.ages
 boxes : InSl w p.a2 cBx 2 R.boxes
 mats : InSl w p.a3 cMt 6 R.mats
 mo : w64 R.months
 st : w64 R.step
 k1 : R.ages.length ≤ p.c1
 k2 : R.boxes.length ≤ p.c2
 k3 : R.mats.length ≤ p.c3
def rowsRm (R : Rm) (p : Pl) : List Row:=rowsOf p.a1 cSp R.ages++(rowsOf p.a2 cBx R.boxes++rowsOf p.a3 cMt R.mats)
theorem InRm.rm {w : World} {R : Rm} {p : Pl} {H : List Row} (h : InRm w R p) (hs : ∀ r ∈ rowsRm R p,r ∈ H) : RmOk H R p where
 ages:=h.ages.sl fun r hr=>hs r (List.mem_append_left _ hr)
 boxes:=h.boxes.sl fun r hr=>hs r (List.mem_append_right _ (List.mem_append_left _ hr))
 mats:=h.mats.sl fun r hr=>hs r (List.mem_append_right _ (List.mem_append_right _ hr))
 l1:=by have:=h.ages.2.1;unfold maxLen at this;omega
 l2:=by have:=h.boxes.2.1;unfold maxLen at this;omega
 l3:=by have:=h.mats.2.1;unfold maxLen at this;omega
theorem InRm.ok {w : World} {R : Rm} {p : Pl} {B : Nat} (h : InRm w R p) : ∀ r ∈ rowsRm R p,r.own = none∧r.ok B w:=by
 intro r hr
 rcases List.mem_append.1 hr with hr | hr
 ·exact h.ages.ok r hr
 ·rcases List.mem_append.1 hr with hr | hr
  ·exact h.boxes.ok r hr
  ·exact h.mats.ok r hr
section
variable {H : Type} {enc : TypeId × Value → H} {w : World} {base : Nat} {spare : Nat → Bool} {held : Bool} {v : Value} {d : DataW H} {p : List MemPlace} {r : Reach} {b0 : Nat}
theorem open_room (hv : Value.okWide Try.prog w r b0 26 v) (h : DataW.Trod enc Try.prog w base spare held 26 v d p) : ∃ R pl,v = .agg (cRm R pl).toArray∧InRm w R pl:=by
 obtain ⟨fa,hu,_⟩:=ti_struct (te (T:=26) rfl)
 obtain ⟨⟨cs⟩,rfl,_⟩:=okWide_struct hu hv
 obtain ⟨fuel,hf⟩:=h
 obtain ⟨hl,hf⟩:=trod_st (te rfl) hf
 obtain ⟨n0,y0,h0⟩:=hf 0 0 3 _ rfl (te rfl)
 obtain ⟨n1,y1,h1⟩:=hf 1 1 3 _ rfl (te rfl)
 obtain ⟨n2,y2,h2⟩:=hf 2 2 22 _ rfl (te rfl)
 obtain ⟨n3,y3,h3⟩:=hf 3 3 23 _ rfl (te rfl)
 obtain ⟨n4,y4,h4⟩:=hf 4 4 24 _ rfl (te rfl)
 match cs,hl with
 | [a,b,c,d,e],_ =>
  obtain ⟨q0,e0,w0⟩:=open_i h0
  obtain ⟨q1,e1,w1⟩:=open_i h1
  simp [cI,Value.cells] at e0 e1
  obtain ⟨l2,a2,c2,e2,i2,_,k2⟩:=open_sl (te rfl) (te rfl) rfl (by decide) (fun _ _ _=>open_sp) (fun _=>rfl) h2
  obtain ⟨l3,a3,c3,e3,i3,_,k3⟩:=open_sl (te rfl) (te rfl) rfl (by decide) (fun _ _ _=>open_bx) (fun _=>rfl) h3
  obtain ⟨l4,a4,c4,e4,i4,_,k4⟩:=open_sl (te rfl) (te rfl) rfl (by decide) (fun _ _ _=>open_mt) (fun _=>rfl) h4
  subst e0 e1 e2 e3 e4
  exact ⟨⟨q0,q1,l2,l3,l4⟩,⟨a2,c2,a3,c3,a4,c4⟩,rfl,i2,i3,i4,w0,w1,k2,k3,k4⟩
end
open Go Go.Fw Go.ChangeShapes Go.WideShapes Go.ChangeAt Go.RowKit
set_option maxRecDepth 100000
theorem ownK : ownKnob Try.prog.godebug = none:=by kernel_rfl
theorem laidO : laidOutB Try.prog = true:=by kernel_rfl
theorem open_in {w : World} {r : Reach} {b0 : Nat} {v : Value} (hv : Value.okWide Try.prog w r b0 3 v) : ∃ q : Int,v = .int .i64 q:=okWide_int Try.underlying3 hv
theorem boxTells_run (R : Rm) (p : Pl) (a b m : Int) (w : World) (hR : InRm w R p) :
  Calls Try.prog 3 #[.agg (cRm R p).toArray,.int .i64 a,.int .i64 b,.int .i64 m] w fun e w' => e = .returned (.bool true)∧Below w.heap.size w w' :=
 Fc.calls (H:=rowsRm R p) (boxTells_spec R p a b m _ (hR.rm (fun _ h=>h))) (fun r hr=>hR.ok r hr)
theorem lifted (os : Os) (started : os.Started) (H : Type) (enc : TypeId × Value → H) :
  ReturnsInHanded {} Try.checked os 3 .any (Rows.boxTellsSpec.pre6 enc Try.prog Try.f3 Rows.boxTellsRow.domain false) (Rows.boxTellsSpec.post enc Try.prog Try.f3 false true false false):=by
 refine returnsInHanded_of_change (C:=Try.checked) ownK started (by kernel_rfl) Try.func3
  (ChangeSpec.witness6 (enc:=enc) (C:=Try.checked) false ⟨#[], #[.agg (cRm ⟨0,0,[],[],[]⟩ ⟨none,0,none,0,none,0⟩).toArray,.int .i64 0,.int .i64 0,.int .i64 0],[]⟩ 8 (by kernel_rfl) (by kernel_rfl) (by kernel_rfl) (by kernel_rfl)) ?_
 intro W base args ds gs before hval0 hW hcnd _
 have hval : ∀ (j : Nat) t v,Try.f3.params[j]? = some t → args[j]? = some v → Value.okWide Try.prog W .any base t v:=hval0
 have hW' := hW
 obtain ⟨p,q,hA0,hV,rfl,hfz,hnd⟩:=hW
 have hA : DataW.TrodAll enc Try.prog W 0 (fun _=>true) true Try.f3.params.toList args.toList ds p:=hA0
 rw [Try.params3] at hA hval
 obtain ⟨v0,vs0,d0,ds0,p0,q0,hargs,rfl,rfl,h0,r0⟩:=trodAll_cons hA
 obtain ⟨v1,vs1,d1,ds1,p1,q1,rfl,rfl,rfl,h1,r1⟩:=trodAll_cons r0
 obtain ⟨v2,vs2,d2,ds2,p2,q2,rfl,rfl,rfl,h2,r2⟩:=trodAll_cons r1
 obtain ⟨v3,vs3,d3,ds3,p3,q3,rfl,rfl,rfl,h3,r3⟩:=trodAll_cons r2
 obtain ⟨rfl,rfl,rfl⟩:=trodAll_nil r3
 obtain rfl : args = #[v0,v1,v2,v3]:=by cases args;simp_all
 obtain ⟨rfl,rfl⟩:=trodVars_none hV
 have lt : ∀ {t v d ps},DataW.Trod enc Try.prog W 0 (fun _=>true) true t v d ps → ∀ x ∈ ps,x.block < W.heap.size:=fun h=>by obtain ⟨m,hm⟩:=h;exact DataW.trod_lt m _ _ _ hm
 obtain ⟨R,pl,rfl,hR⟩:=open_room (hval 0 _ v0 rfl rfl) h0
 obtain ⟨a,rfl⟩:=open_in (hval 1 _ v1 rfl rfl)
 obtain ⟨b,rfl⟩:=open_in (hval 2 _ v2 rfl rfl)
 obtain ⟨m,rfl⟩:=open_in (hval 3 _ v3 rfl rfl)
 clear hA0 hval0
 refine (boxTells_run R pl a b m W hR).mono fun e W' ⟨he,bel⟩=>?_
 subst he
 exact ⟨_,rfl,_,_,_,[],_,[],hW',trodAll_mk1 (shut_bool Try.underlying4 _),(trodAll_cons_mk (Below.trod laidO (by kernel_rfl) (of_decide_eq_true (by kernel_rfl)) h0 bel (lt h0)) (trodAll_cons_mk (Below.trod laidO (by kernel_rfl) (of_decide_eq_true (by kernel_rfl)) h1 bel (lt h1)) (trodAll_cons_mk (Below.trod laidO (by kernel_rfl) (of_decide_eq_true (by kernel_rfl)) h2 bel (lt h2)) (trodAll_cons_mk (Below.trod laidO (by kernel_rfl) (of_decide_eq_true (by kernel_rfl)) h3 bel (lt h3)) trodAll_mk0)))),rfl,bel.frame _,fun h=>by cases h⟩
theorem over : Rows.boxTellsRow.holds Try.pinned (OpenSpec.ofChange Rows.boxTellsSpec) :=
 OpenClaim.holds_of_wide 3 Try.f3 rfl rfl rfl rfl rfl rfl rfl ⟨rfl,rfl,rfl,rfl,rfl⟩ rfl rfl rfl rfl rfl (by kernel_rfl) Try.func3 (by kernel_rfl)
  (of_decide_eq_true (by kernel_rfl)) (by unfold Func.isWrapper;first | (rw [if_pos (by decide +kernel)];kernel_rfl)|(rw [if_neg (by decide +kernel)];exact ⟨rfl,rfl⟩))
  (fun os started H enc _=>lifted os started H enc)
set_option maxRecDepth 10000
def u8 (n : Int) : Prop:=0 ≤ n∧n ≤ 255
section
variable {H : Type} {enc : TypeId × Value → H} {w : World} {base : Nat} {spare : Nat → Bool} {held : Bool} {v : Value} {d : DataW H} {p : List MemPlace} {r : Reach} {b0 : Nat}
theorem u8_wf {n : Int} (h : (Lit.int .u8 n).wf = true) : u8 n:=by
 simp [Lit.wf,IntKind.min,IntKind.max,IntKind.signed,IntKind.bits] at h
 exact ⟨by omega,by omega⟩
theorem open_u8 (hv : Value.okWide Try.prog w r b0 5 v) (h : DataW.Trod enc Try.prog w base spare held 5 v d p) : ∃ n,v = .int .u8 n∧u8 n:=by
 obtain ⟨n,h1,_,_,h2⟩:=Go.ChangeShapes.open_int Try.underlying5 hv h
 exact ⟨n,h1,u8_wf h2⟩
end
set_option maxHeartbeats 8000000 in
theorem truth_r5 (R : Rm) (q1 : Option Addr) (q2 : Nat) (q3 : Option Addr) (q4 : Nat) (q5 : Option Addr) (q6 : Nat) (Y : List Int) (b3 b8 : Nat) (G : List Row) (h3 : (⟨b3,0,cRm R ⟨q1,q2,q3,q4,q5,q6⟩,some 26,5⟩ : Row) ∈ G) (h8 : (⟨b8,0,Y.flatMap cI,some 77,48⟩ : Row) ∈ G) (hR : RmOk G R ⟨q1,q2,q3,q4,q5,q6⟩) (pt : Int) (w : Bool) (hpt : 0 ≤ pt∧pt ≤ 255) (hgr : ¬ great R) (hok : roomOk R) (hyl : Y.length = 48) (hyw : w = true → GY R Y R.boxes.length 0 ∧ ∀ x ∈ R.mats,x.lo ≤ yat Y (index R.boxes x.a).toNat x.month - yat Y (index R.boxes x.b).toNat x.month∧yat Y (index R.boxes x.a).toNat x.month - yat Y (index R.boxes x.b).toNat x.month ≤ x.hi) (F : FS) (hF : Sub [(2,.int .u8 pt),(3,.pointer (some ⟨b3,0,none⟩)),(7,.bool true),(8,.pointer (some ⟨b8,0,none⟩)),(9,.bool w)] F) :
  X Try.prog 365 (csnd (csnd (csnd (csnd (cof Try.f7))))) F G (retX Try.prog Try.f7 (fun v _=>v = .bool true)):=by
 have kc:=fun S hS=>kCan_spec R ⟨q1,q2,q3,q4,q5,q6⟩ S hS
 refine X.weak hF (qR _) ?_
 cases w with
 | false =>
  obtain ⟨q,hq⟩ : ∃ q,canF R = .tuple #[.bool q,.int .i64 0]:=by unfold canF;rw [if_pos hok];exact ⟨_,rfl⟩
  rw [hq] at kc
  repeat' (first | (refine uP rfl ?_;(first | ((first | refine uN rfl ?_ | (refine Xo.g rfl rfl ?_;with_reducible refine Xw.ff ?_));(first | (refine uE (uX rfl rfl rfl) rfl rfl ?_)|(refine uE (uL rfl rfl (uW (T:=26) (cs:=cRm R ⟨q1,q2,q3,q4,q5,q6⟩) (te rfl) rfl h3 rfl)) rfl rfl ?_)|(refine uC (uT rfl (Args.cons rfl Args.nil)) rfl rfl (kc _ hR) ?_;rintro _ G ⟨rfl,rfl⟩)|(refine uE (uQ (b:=false) rfl rfl rfl (congrArg some (nd_f (Eq.refl (0 : Int))))) rfl rfl ?_)|(refine uE (uM rfl rfl) rfl rfl ?_)|(refine uE (uA rfl rfl) rfl rfl ?_)|(refine uE (EvF.pickF rfl rfl rfl) rfl rfl ?_)|(refine uE (EvF.not rfl rfl) rfl rfl ?_)))|(refine Xo.g rfl rfl ?_;(first | (with_reducible refine Xw.ft rfl rfl ?_)))))|(refine uD rfl ?_;refine hK _ _ ?_;clear hK K) | refine uS rfl ?_ | refine uR rfl (fun K hK=>?_) | refine X.skip rfl ?_ | refine X.ret rfl ?_ | (refine X.ite rfl rfl (fun hc=>?_);(first | (with_reducible refine Xb.f hc ?_)|(with_reducible refine Xb.caseB hc (fun h=>?_) (fun h=>?_))) <;> clear hc))
  all_goals try (exfalso;contradiction)
  exact ret_one (by simp) Try.results7 rfl (H' := _) (qR _) rfl
 | true =>
  obtain ⟨hgy,hms⟩:=hyw rfl
  obtain ⟨z,hz,hzy⟩:=gy_tru hok hgy hms
  have hT : TruY R Y:=⟨⟨hgr,hok,⟨z,hz⟩⟩,fun j m=>yat_bd hgy j m,hyl,⟨z,hz,hzy⟩⟩
  have hq : canF R = .tuple #[.bool true,.int .i64 0]:=by
   classical
   unfold canF
   have hh : hasT R R.mats:=⟨z,hz⟩
   rw [if_pos hok,decide_eq_true hh]
  rw [hq] at kc
  repeat' (first | (refine truth_lA R q1 q2 q3 q4 q5 q6 Y b3 b8 G h3 h8 hR hT (pt % 61) (by omega) _ ?_;exact (by repeat (first | exact uU _ | refine uV rfl ?_)))|(refine uP rfl ?_;(first | ((first | refine uN rfl ?_ | (refine Xo.g rfl rfl ?_;with_reducible refine Xw.tt ?_)|(refine Xo.g rfl rfl ?_;with_reducible refine Xw.ff ?_));(first | (refine uE (uX rfl rfl rfl) rfl rfl ?_)|(refine uE (uL rfl rfl (uW (T:=26) (cs:=cRm R ⟨q1,q2,q3,q4,q5,q6⟩) (te rfl) rfl h3 rfl)) rfl rfl ?_)|(refine uC (uT rfl (Args.cons rfl Args.nil)) rfl rfl (kc _ hR) ?_;rintro _ G ⟨rfl,rfl⟩)|(refine uE (uQ (b:=false) rfl rfl rfl (congrArg some (nd_f (Eq.refl (0 : Int))))) rfl rfl ?_)|(refine uE (EvF.conv rfl rfl byte_und int_undI (by omega) (by omega)) rfl rfl ?_)|(refine uE (EvF.rem64 (p:=pt) (q:=61) rfl rfl rfl (by omega) (by omega)) rfl rfl ?_)|(refine uE (uM rfl rfl) rfl rfl ?_)|(refine uE (uA rfl rfl) rfl rfl ?_)|(refine uE (EvF.pickT rfl rfl rfl) rfl rfl ?_)|(refine uE (EvF.pickF rfl rfl rfl) rfl rfl ?_)|(refine uE (EvF.not rfl rfl) rfl rfl ?_)))))|(refine uD rfl ?_;refine hK _ _ ?_;clear hK K) | refine uS rfl ?_ | refine uR rfl (fun K hK=>?_) | refine X.skip rfl ?_ | refine X.ret rfl ?_ | (refine X.ite rfl rfl (fun hc=>?_);(first | (with_reducible refine Xb.caseB hc (fun h=>?_) (fun h=>?_))) <;> clear hc))
  all_goals try (exfalso;contradiction)
set_option maxHeartbeats 8000000 in
theorem boxTruth_spec (R : Rm) (p : Pl) (bl : List Int) (ab : Option Addr) (cb : Nat) (pt : Int) (h8 : ∀ u ∈ bl,u8 u) (hpt : u8 pt) (H : List Row) (hR : RmOk H R p) (hb : SlE H ab cU 1 bl) :
  Fc Try.prog 7 [.agg (cRm R p).toArray,.slice ab bl.length cb,.int .u8 pt] H (fun v _=>v = .bool true):=by
 have hg:=fun S=>great_spec R p S
 have hr:=fun S hS=>room_spec R p S hS
 by_cases hgr : great R
 ·simp only [decide_eq_true hgr] at hg
  refine Fc.mk (callable Try.call7) Try.func7 rfl Try.ntmps7 rfl ?_;dsimp only [fr]
  repeat' (first | (refine uP rfl ?_;(first | ((first | refine uN rfl ?_);(first | (refine uC (uT rfl Args.nil) rfl rfl (alive_spec _) ?_;rintro _ _ ⟨rfl,rfl⟩)|(refine uE (uL rfl rfl (uW (te rfl) rfl (qH _) rfl)) rfl rfl ?_)|(refine uC (uT rfl (Args.cons rfl Args.nil)) rfl rfl (hg _) ?_;rintro _ _ ⟨rfl,rfl⟩)|(refine uE (uM rfl rfl) rfl rfl ?_)|(refine uE (uA rfl rfl) rfl rfl ?_)|(refine uE (EvF.pickT rfl rfl rfl) rfl rfl ?_)|(refine Xg.st (StF.boxAgg rfl rfl) rfl rfl ?_;rintro _ _ ⟨bx,rfl,rfl⟩)))|(refine Xo.g rfl rfl ?_;(first | (with_reducible refine Xw.tf rfl rfl ?_)))))|(refine uD rfl ?_;refine hK _ _ ?_;clear hK K) | refine uS rfl ?_ | refine uR rfl (fun K hK=>?_) | refine X.ret rfl ?_ | (refine X.ite rfl rfl (fun hc=>?_);(first | (with_reducible refine Xb.t hc ?_)) <;> clear hc))
  all_goals try (exfalso;contradiction)
  exact ret_one (by simp) Try.results7 rfl (H' := _) (qR _) rfl
 ·simp only [decide_eq_false hgr] at hg
  by_cases hok : roomOk R
  ·simp only [decide_eq_true hok] at hr
   have kg:=fun S hS hS2=>grown_spec R p bl ab cb S hS hok hS2 h8
   obtain ⟨q1,q2,q3,q4,q5,q6⟩:=p
   refine Fc.mk (callable Try.call7) Try.func7 rfl Try.ntmps7 rfl ?_;dsimp only [fr]
   repeat' (first | (refine truth_r5 R q1 q2 q3 q4 q5 q6 Y bx b8 _ (qT _ (qH _)) (qH _) (hR.sub (fun _ h=>by repeat (first | exact h | apply qT))) pt w hpt hgr hok hyl hyw _ ?_;exact (by repeat (first | exact uU _ | refine uV rfl ?_)))|(refine uP rfl ?_;(first | ((first | refine uN rfl ?_ | (refine Xo.g rfl rfl ?_;with_reducible refine Xw.ff ?_));(first | (refine uC (uT rfl Args.nil) rfl rfl (alive_spec _) ?_;rintro _ _ ⟨rfl,rfl⟩)|(refine uE (uL rfl rfl (uW (te rfl) rfl (qH _) rfl)) rfl rfl ?_)|(refine uC (uT rfl (Args.cons rfl Args.nil)) rfl rfl (hg _) ?_;rintro _ _ ⟨rfl,rfl⟩)|(refine uC (uT rfl (Args.cons rfl Args.nil)) rfl rfl (hr _ (hR.sub (fun _ h=>by repeat (first | exact h | apply qT)))) ?_;rintro _ _ ⟨rfl,rfl⟩)|(refine uE (uX rfl rfl rfl) rfl rfl ?_)|(refine uC (uT rfl (Args.cons rfl (Args.cons rfl Args.nil))) rfl rfl (kg _ (hR.sub (fun _ h=>by repeat (first | exact h | apply qT))) (hb.sub (fun _ h=>by repeat (first | exact h | apply qT)))) ?_;rintro _ _ ⟨Y,w,rfl,⟨hyl,hyw⟩,rfl⟩)|(refine Xg.st (StF.alloc rfl Try.zeroValue77 rfl) rfl rfl ?_;rintro _ _ ⟨b8,rfl,rfl⟩)|(refine Xg.st0 (uZ (i:=0) (vs:=Y.flatMap cI) rfl rfl rfl (te rfl) rfl (by rw [lenI,hyl]) (oneIs _) (by rw [lenI,hyl];rfl)) rfl ?_;rintro _ _ ⟨rfl,rfl⟩;dsimp only [List.set])|(refine uE (uM rfl rfl) rfl rfl ?_)|(refine uE (uA rfl rfl) rfl rfl ?_)|(refine uE (EvF.pickT rfl rfl rfl) rfl rfl ?_)|(refine uE (EvF.pickF rfl rfl rfl) rfl rfl ?_)|(refine uE (EvF.not rfl rfl) rfl rfl ?_)|(refine Xg.st (StF.boxAgg rfl rfl) rfl rfl ?_;rintro _ _ ⟨bx,rfl,rfl⟩)))|(refine Xo.g rfl rfl ?_;(first | (with_reducible refine Xw.tf rfl rfl ?_)|(with_reducible refine Xw.caseB (fun h=>?_) (fun h=>?_) <;> simp only [h,decide_true,decide_false,Bool.not_true,Bool.not_false,and_self,and_true,true_and,and_false,false_and])))))|(refine uD rfl ?_;refine hK _ _ ?_;clear hK K) | refine uS rfl ?_ | refine uR rfl (fun K hK=>?_) | refine X.skip rfl ?_ | refine X.ret rfl ?_ | (refine X.ite rfl rfl (fun hc=>?_);(first | (with_reducible refine Xb.t hc ?_)|(with_reducible refine Xb.caseB hc (fun h=>?_) (fun h=>?_))) <;> clear hc))
   all_goals try (exfalso;contradiction)
  ·simp only [decide_eq_false hok] at hr
   refine Fc.mk (callable Try.call7) Try.func7 rfl Try.ntmps7 rfl ?_;dsimp only [fr]
   repeat' (first | (refine uP rfl ?_;(first | ((first | refine uN rfl ?_ | (refine Xo.g rfl rfl ?_;with_reducible refine Xw.ff ?_));(first | (refine uC (uT rfl Args.nil) rfl rfl (alive_spec _) ?_;rintro _ _ ⟨rfl,rfl⟩)|(refine uE (uL rfl rfl (uW (te rfl) rfl (qH _) rfl)) rfl rfl ?_)|(refine uC (uT rfl (Args.cons rfl Args.nil)) rfl rfl (hg _) ?_;rintro _ _ ⟨rfl,rfl⟩)|(refine uC (uT rfl (Args.cons rfl Args.nil)) rfl rfl (hr _ (hR.sub (fun _ h=>by repeat (first | exact h | apply qT)))) ?_;rintro _ _ ⟨rfl,rfl⟩)|(refine uE (uM rfl rfl) rfl rfl ?_)|(refine uE (uA rfl rfl) rfl rfl ?_)|(refine uE (EvF.pickT rfl rfl rfl) rfl rfl ?_)|(refine uE (EvF.pickF rfl rfl rfl) rfl rfl ?_)|(refine uE (EvF.not rfl rfl) rfl rfl ?_)|(refine Xg.st (StF.boxAgg rfl rfl) rfl rfl ?_;rintro _ _ ⟨bx,rfl,rfl⟩)))|(refine Xo.g rfl rfl ?_;(first | (with_reducible refine Xw.tf rfl rfl ?_)|(with_reducible refine Xw.caseB (fun h=>?_) (fun h=>?_) <;> simp only [h,decide_true,decide_false,Bool.not_true,Bool.not_false,and_self,and_true,true_and,and_false,false_and])))))|(refine uD rfl ?_;refine hK _ _ ?_;clear hK K) | refine uS rfl ?_ | refine uR rfl (fun K hK=>?_) | refine X.skip rfl ?_ | refine X.ret rfl ?_ | (refine X.ite rfl rfl (fun hc=>?_);(first | (with_reducible refine Xb.t hc ?_)|(with_reducible refine Xb.caseB hc (fun h=>?_) (fun h=>?_))) <;> clear hc))
   all_goals try (exfalso;contradiction)
   exact ret_one (by simp) Try.results7 rfl (H' := _) (qR _) rfl
set_option maxRecDepth 100000
section
variable {H : Type} {enc : TypeId × Value → H} {w : World} {base : Nat} {spare : Nat → Bool} {held : Bool} {v : Value} {d : DataW H} {p : List MemPlace} {r : Reach} {b0 fuel : Nat} {cs : List Value} {x : DataW H × List MemPlace}
theorem open_cU (h : DataW.trod enc Try.prog w base spare held fuel 5 cs = some x) : ∃ q : Int,cs = cU q∧u8 q:=by
 obtain ⟨n,h1,h2⟩:=trod_i (te rfl) h
 exact ⟨n,h1,u8_wf h2⟩
theorem open_u8s (hv : Value.okWide Try.prog w r b0 74 v) (h : DataW.Trod enc Try.prog w base spare held 74 v d p) : ∃ (l : List Int) (a : Option Addr) (c : Nat),v = .slice a l.length c∧InSl w a cU 1 l ∧ ∀ x ∈ l,u8 x:=by
 obtain ⟨a,len,cap,rfl⟩:=okWide_slice Try.underlying74 hv
 obtain ⟨fuel,hf⟩:=h
 obtain ⟨l,a,c,e,hi,ho,_⟩:=open_sl (te rfl) (te rfl) rfl (by decide) (fun _ _ _=>open_cU) (fun _=>rfl) hf
 exact ⟨l,a,c,e,hi,ho⟩
end
theorem boxTruth_run (R : Rm) (pR : Pl) (bl : List Int) (abl : Option Addr) (cbl : Nat) (pt : Int) (w : World) (h8bl : ∀ x ∈ bl,u8 x) (hpt : u8 pt) (hR : InRm w R pR) (hbl : InSl w abl cU 1 bl) :
  Calls Try.prog 7 #[.agg (cRm R pR).toArray,.slice abl bl.length cbl,.int .u8 pt] w fun e w' => e = .returned (.bool true)∧Below w.heap.size w w' :=
 Fc.calls (H:=rowsRm R pR++(rowsOf abl cU bl)) (boxTruth_spec R pR bl abl cbl pt h8bl hpt _ (hR.rm (fun _ h=>(List.mem_append_left _ h))) (hbl.sl (fun _ h=>(List.mem_append_right _ h)))) (fun r hr=>by
  rcases List.mem_append.1 hr with hr | hr
  ·exact hR.ok r hr
  exact hbl.ok r hr
 )
theorem boxTruth_lifted (os : Os) (started : os.Started) (H : Type) (enc : TypeId × Value → H) :
  ReturnsInHanded {} Try.checked os 7 .any (Rows.boxTruthSpec.pre6 enc Try.prog Try.f7 Rows.boxTruthRow.domain false) (Rows.boxTruthSpec.post enc Try.prog Try.f7 false true false false):=by
 refine returnsInHanded_of_change (C:=Try.checked) ownK started (by kernel_rfl) Try.func7
  (ChangeSpec.witness6 (enc:=enc) (C:=Try.checked) false ⟨#[], #[.agg (cRm ⟨0,0,[],[],[]⟩ ⟨none,0,none,0,none,0⟩).toArray,.slice none 0 0,.int .u8 0],[]⟩ 8 (by kernel_rfl) (by kernel_rfl) (by kernel_rfl) (by kernel_rfl)) ?_
 intro W base args ds gs before hval0 hW hcnd _
 have hval : ∀ (j : Nat) t v,Try.f7.params[j]? = some t → args[j]? = some v → Value.okWide Try.prog W .any base t v:=hval0
 have hW' := hW
 obtain ⟨p,q,hA0,hV,rfl,hfz,hnd⟩:=hW
 have hA : DataW.TrodAll enc Try.prog W 0 (fun _=>true) true Try.f7.params.toList args.toList ds p:=hA0
 rw [Try.params7] at hA hval
 obtain ⟨v0,vs0,d0,ds0,p0,q0,hargs,rfl,rfl,h0,r0⟩:=trodAll_cons hA
 obtain ⟨v1,vs1,d1,ds1,p1,q1,rfl,rfl,rfl,h1,r1⟩:=trodAll_cons r0
 obtain ⟨v2,vs2,d2,ds2,p2,q2,rfl,rfl,rfl,h2,r2⟩:=trodAll_cons r1
 obtain ⟨rfl,rfl,rfl⟩:=trodAll_nil r2
 obtain rfl : args = #[v0,v1,v2]:=by cases args;simp_all
 obtain ⟨rfl,rfl⟩:=trodVars_none hV
 have lt : ∀ {t v d ps},DataW.Trod enc Try.prog W 0 (fun _=>true) true t v d ps → ∀ x ∈ ps,x.block < W.heap.size:=fun h=>by obtain ⟨m,hm⟩:=h;exact DataW.trod_lt m _ _ _ hm
 obtain ⟨R,pR,rfl,hR⟩:=open_room (hval 0 _ v0 rfl rfl) h0
 obtain ⟨bl,abl,cbl,rfl,hbl,h8bl⟩:=open_u8s (hval 1 _ v1 rfl rfl) h1
 obtain ⟨pt,rfl,hpt⟩:=open_u8 (hval 2 _ v2 rfl rfl) h2
 clear hA0 hval0
 refine (boxTruth_run R pR bl abl cbl pt W h8bl hpt hR hbl).mono fun e W' ⟨he,bel⟩=>?_
 subst he
 exact ⟨_,rfl,_,_,_,[],_,[],hW',trodAll_mk1 (shut_bool Try.underlying4 _),(trodAll_cons_mk (Below.trod laidO (by kernel_rfl) (of_decide_eq_true (by kernel_rfl)) h0 bel (lt h0)) (trodAll_cons_mk (Below.trod laidO (by kernel_rfl) (of_decide_eq_true (by kernel_rfl)) h1 bel (lt h1)) (trodAll_cons_mk (Below.trod laidO (by kernel_rfl) (of_decide_eq_true (by kernel_rfl)) h2 bel (lt h2)) trodAll_mk0))),rfl,bel.frame _,fun h=>by cases h⟩
theorem boxTruth_over : Rows.boxTruthRow.holds Try.pinned (OpenSpec.ofChange Rows.boxTruthSpec) :=
 OpenClaim.holds_of_wide 7 Try.f7 rfl rfl rfl rfl rfl rfl rfl ⟨rfl,rfl,rfl,rfl,rfl⟩ rfl rfl rfl rfl rfl (by kernel_rfl) Try.func7 (by kernel_rfl)
  (of_decide_eq_true (by kernel_rfl)) (by unfold Func.isWrapper;first | (rw [if_pos (by decide +kernel)];kernel_rfl)|(rw [if_neg (by decide +kernel)];exact ⟨rfl,rfl⟩))
  (fun os started H enc _=>boxTruth_lifted os started H enc)
theorem boxTruth_proved : Rows.BoxTruthSaid:=boxTruth_over
#print axioms boxTruth_proved
end Go.Proofs.Ytmfppdpkalelhaa
