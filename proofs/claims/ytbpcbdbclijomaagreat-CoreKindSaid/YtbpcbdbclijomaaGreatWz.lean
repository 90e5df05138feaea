/- CoreKind: for every list of bytes the law returns true (a bale of up to five layers, each of which shows one grade, is of just the kind of its grades, its cut is one of them, nothing is left to be decided, and turned round it is of the same kind; the examples are as told), and the argument reads afterwards as before. No condition. -/
import Derived.Test.YtbpcbdbclijomaaGreatW06
import Derived.OpenShut
import Derived.ProofKit
import Derived.Test.YtbpcbdbclijomaaGreatRows
import Derived.WalkKit
import Derived.ChangeOld
import Derived.ShutString
set_option linter.unusedVariables false
set_option linter.unusedSimpArgs false
namespace Go.Proofs.YtbpcbdbclijomaaGreat
open Go Go.Fw
set_option maxRecDepth 10000
def gOf (l : List Int) : List Int:=l.map (fun n=>1 + n % 9)
theorem gOf_len (l : List Int) : (gOf l).length = l.length:=List.length_map ..
theorem gOf_bd {l : List Int} : ∀ x ∈ gOf l,1 ≤ x∧x ≤ 9:=fun x hx=>by
 obtain ⟨y,_,rfl⟩:=List.mem_map.1 hx
 omega
theorem gOf_get {l : List Int} {k : Nat} {y : Int} (h : l[k]? = some y) : (gOf l)[k]? = some (1 + y % 9):=by
 unfold gOf
 rw [List.getElem?_map,h]
 rfl
def tsKr10 : List TOp:=[⟨some 54,[],[],[]⟩,⟨some 55,[0],[0],[]⟩,⟨some 56,[],[],[]⟩,⟨some 57,[2],[2],[]⟩,⟨some 58,[],[],[]⟩,⟨some 59,[],[],[]⟩,⟨some 60,[],[],[]⟩,⟨some 61,[5,6],[5,6],[]⟩,⟨some 62,[5,6,7],[7],[]⟩,⟨some 63,[],[],[]⟩,⟨some 64,[],[],[]⟩,⟨some 65,[9,10],[9,10],[]⟩,⟨some 66,[9,10,11],[11],[]⟩,⟨some 67,[2,3,4,5,6,7,8,9,10,11,12],[3,4,8,12],[]⟩,⟨some 68,[2,3,4,5,6,7,8,9,10,11,12,13],[13],[]⟩,⟨some 69,[0,1,2,3,4,5,6,7,8,9,10,11,12,13,14],[1,14],[18]⟩,⟨some 70,[0,1,2,3,4,5,6,7,8,9,10,11,12,13,14,15],[],[]⟩,⟨none,[0,1,2,3,4,5,6,7,8,9,10,11,12,13,14,15,16],[16,15],[19]⟩,⟨none,[],[],[]⟩,⟨none,[],[],[]⟩]
def valKr10 (b4 bn n kk c5 c1 cl : Nat) (a1 al : Option Addr) (Z : List Row) (D : List Dr) (x : Int) (k : Nat) (env : Env) : Value :=
 match k with
 | 0 => .pointer (some ⟨b4,4,none⟩)
 | 1 => .slice a1 kk c1
 | 2 => .int .i64 kk
 | 3 => .int .i64 (kk + 1)
 | 4 => .int .i64 kk
 | 5 => .slice (some ⟨bn,0,none⟩) (kk + 1) c5
 | 6 => .int .i64 kk
 | 7 => .pointer (some ⟨bn,0 + kk * 1,none⟩)
 | 8 => .int .i64 x
 | 9 => .slice (some ⟨bn,0,none⟩) (kk + 1) c5
 | 10 => .int .i64 kk
 | 11 => .pointer (some ⟨bn,0 + kk * 1,none⟩)
 | 12 => .int .i64 x
 | 13 => .agg (cDr ⟨kk + 1,kk,x,x⟩).toArray
 | 14 => .slice (some ⟨(env 14).1,0,none⟩) 1 1
 | 15 => .slice (some ⟨(env 15).1,0,none⟩) (kk + 1) (env 15).2
 | 16 => .pointer (some ⟨b4,4,none⟩)
 | 17=>undef
 | _=>undef
def rowsKr10 (b4 bn n kk c5 c1 cl : Nat) (a1 al : Option Addr) (Z : List Row) (D : List Dr) (x : Int) (k : Nat) (env : Env) : List Row :=
 match k with
 | 14=>[⟨(env 14).1,0,cDr ⟨kk + 1,kk,x,x⟩,some 38,1 * 4⟩]
 | 15=>[⟨(env 15).1,0,D.flatMap cDr++cDr ⟨kk + 1,kk,x,x⟩,some 38,(env 15).2 * 4⟩]
 | 17=>[⟨b4,0,[.int .i64 1,.int .i64 n,.int .i64 1,.int .i64 1,.slice (some ⟨(env 15).1,0,none⟩) (kk + 1) (env 15).2,.slice none 0 0],some 31,6⟩]
 | 18=>Z
 | 19=>[⟨b4,0,[.int .i64 1,.int .i64 n,.int .i64 1,.int .i64 1,.slice a1 kk c1,.slice none 0 0],some 31,6⟩]
 | _=>[]
theorem locKr10 (b4 bn n kk c5 c1 cl : Nat) (a1 al : Option Addr) (Z : List Row) (D : List Dr) (x : Int) : ∀ k env i q9,i ≠ k → (tAt tsKr10 k).sup.contains i = false → valKr10 b4 bn n kk c5 c1 cl a1 al Z D x k (upd env i q9)=valKr10 b4 bn n kk c5 c1 cl a1 al Z D x k env∧rowsKr10 b4 bn n kk c5 c1 cl a1 al Z D x k (upd env i q9)=rowsKr10 b4 bn n kk c5 c1 cl a1 al Z D x k env:=by
 intro k env i q hk hs
 have hu : ∀ j,j ≠ i → upd env i q j = env j:=fun j hj=>by unfold upd;rw [if_neg hj]
 match k,hk,hs with
 | 0,_,_=>exact ⟨rfl,rfl⟩
 | 1,_,_=>exact ⟨rfl,rfl⟩
 | 2,_,_=>exact ⟨rfl,rfl⟩
 | 3,_,_=>exact ⟨rfl,rfl⟩
 | 4,_,_=>exact ⟨rfl,rfl⟩
 | 5,_,_=>exact ⟨rfl,rfl⟩
 | 6,_,_=>exact ⟨rfl,rfl⟩
 | 7,_,_=>exact ⟨rfl,rfl⟩
 | 8,_,_=>exact ⟨rfl,rfl⟩
 | 9,_,_=>exact ⟨rfl,rfl⟩
 | 10,_,_=>exact ⟨rfl,rfl⟩
 | 11,_,_=>exact ⟨rfl,rfl⟩
 | 12,_,_=>exact ⟨rfl,rfl⟩
 | 13,_,_=>exact ⟨rfl,rfl⟩
 | 14,hk,hs=>exact ⟨by simp only [valKr10,hu 14 (fun e=>hk e.symm)],by simp only [rowsKr10,hu 14 (fun e=>hk e.symm)]⟩
 | 15,hk,hs=>exact ⟨by simp only [valKr10,hu 15 (fun e=>hk e.symm)],by simp only [rowsKr10,hu 15 (fun e=>hk e.symm)]⟩
 | 16,_,_=>exact ⟨rfl,rfl⟩
 | 17,hk,hs=>exact ⟨by simp only [valKr10,hu 15 (by rintro rfl;cases hs)],by simp only [rowsKr10,hu 15 (by rintro rfl;cases hs)]⟩
 | 18,_,_=>exact ⟨rfl,rfl⟩
 | 19,_,_=>exact ⟨rfl,rfl⟩
 | _ + 20,_,_=>exact ⟨rfl,rfl⟩
def rdKr10 (k : Nat) : List Nat:=match k with
 | 1=>[19]
 | 15=>[14]
 | _=>[]
theorem sub_of_eq {A B : List Row} (h : A = B) : A.Sublist B:=h ▸ qR _
theorem perm10 (a b : Row) (Z H : List Row) : ((Z++([b]++[]))++(a::H)).Perm (a::b::(Z++H)):=by
 refine List.perm_middle.trans (List.Perm.cons _ ?_)
 rw [List.append_nil,List.append_assoc]
 exact List.perm_middle
/-- what is there after so many grades -/
def KinI (l : List Int) (k : Nat) (out : Value) (a1 : Option Addr) (c1 : Nat) (Z5 Zd : List Row) : Prop :=
 (k = 0∧out = .slice none 0 0∧a1 = none∧c1 = 0∧Z5 = []∧Zd = []) ∨
 ∃ b5 q5 bd,out = .slice (some ⟨b5,0,none⟩) k q5∧a1 = some ⟨bd,0,none⟩∧Z5 = [⟨b5,0,((gOf l).take k).flatMap cI,some 3,q5 * 1⟩]∧Zd = [⟨bd,0,(shD 0 ((gOf l).take k)).flatMap cDr,some 38,c1 * 4⟩]
set_option maxHeartbeats 8000000 in
theorem kind_loop (l : List Int) (al : Option Addr) (cl b4 n : Nat) (H : List Row) (hl : SlE H al cU 1 l) (hn : n = l.length) (h1 : 1 ≤ n) (h5 : n ≤ 5) (h8 : ∀ x ∈ l,0 ≤ x∧x ≤ 255) (F : FS) (hF : Sub [(3,.bool true),(4,.pointer (some ⟨b4,0,none⟩)),(0,.slice al n cl)] F) :
  X Tryz.prog 231 (csnd (csnd (csnd (csnd (cof Tryz.f10))))) F (⟨b4,0,[.int .i64 1,.int .i64 n,.int .i64 1,.int .i64 1,.slice none 0 0,.slice none 0 0],some 31,6⟩::H) (retX Tryz.prog Tryz.f10 (fun v _=>v = .bool true)):=by
 refine X.weak hF (qR _) ?_
 repeat' (first | (refine uP rfl ?_;(first | ((first | refine uN rfl ?_);(first | (refine uE (uY rfl rfl (te rfl)) rfl rfl ?_)|(refine uE (uM rfl rfl) rfl rfl ?_)|(refine uE (uA rfl rfl) rfl rfl ?_)))))|(refine uD rfl ?_;refine hK _ _ ?_;clear hK K) | refine uS rfl ?_ | refine uR rfl (fun K hK=>?_) | refine X.block rfl ?_)
 have hgl:=gOf_len l
 refine X.lp rfl (fun q F' H' => ∃ (k : Nat) (out : Value) (a1 : Option Addr) (c1 : Nat) (Z5 Zd : List Row),q = n - k∧k ≤ n∧KinI l k out a1 c1 Z5 Zd∧Z5++(⟨b4,0,[.int .i64 1,.int .i64 n,.int .i64 1,.int .i64 1,.slice a1 k c1,.slice none 0 0],some 31,6⟩::(Zd++H)) = H' ∧
   F' = [(3,.bool true),(4,.pointer (some ⟨b4,0,none⟩)),(40,.slice al n cl),(41,.int .i64 n),(5,out),(42,.int .i64 (k : Nat))])
  n [(3,.bool true),(4,.pointer (some ⟨b4,0,none⟩)),(40,.slice al n cl),(41,.int .i64 n),(5,.slice none 0 0),(42,.int .i64 (0 : Nat))] (⟨b4,0,[.int .i64 1,.int .i64 n,.int .i64 1,.int .i64 1,.slice none 0 0,.slice none 0 0],some 31,6⟩::H) (by repeat (first | exact uU _ | refine uV rfl ?_)) (qR _) ⟨0,_,none,0,[],[],by omega,by omega,.inl ⟨rfl,rfl,rfl,rfl,rfl,rfl⟩,rfl,rfl⟩ ?_
 rintro _ _ _ ⟨k,out,a1,c1,Z5,Zd,rfl,hk,hI,rfl,rfl⟩
 by_cases hlt : k < n
 ·have hlt' : (k : Int)<n:=by omega
  obtain ⟨ab,oo,y,rfl,hy⟩:=hl.elem (i:=k) (by omega)
  have hy8:=h8 y (List.mem_of_getElem? hy)
  have hx : (gOf l)[k]? = some (1 + y % 9):=gOf_get hy
  obtain ⟨x,hxe⟩ : ∃ x,x = 1 + y % 9:=⟨_,rfl⟩
  rw [← hxe] at hx
  have htk : (gOf l).take (k + 1)=(gOf l).take k++[x]:=take_snoc hx
  have hln : ((gOf l).take k).length = k:=by rw [List.length_take];omega
  have hsn:=shD_snoc 0 ((gOf l).take k) x
  have hdl:=shD_len 0 ((gOf l).take k)
  rw [hln] at hsn hdl
  rw [Nat.zero_add] at hsn
  rcases hI with ⟨rfl,rfl,rfl,rfl,rfl,rfl⟩ | ⟨b5,q5,bd,rfl,rfl,rfl,rfl⟩
  ·repeat' (first | (refine uP rfl ?_;(first | ((first | refine uN rfl ?_);(first | (refine uE (uQ (b:=true) rfl rfl rfl (congrArg some (decide_eq_true hlt'))) rfl rfl ?_)|(refine uE (uJ (i:=((0 : Nat) : Int)) rfl rfl rfl (te rfl) (te rfl) (by omega) (by omega)) rfl rfl ?_)|(refine uE (uL (v := .int .u8 y) rfl rfl (LoadV.el0 (n:=(0 : Nat)) (hl.sub (fun _ h=>by repeat (first | exact h | apply List.mem_append_right | apply qT))) hy (te rfl) rfl (fun _ h=>h) rfl)) rfl rfl ?_)|(refine uE (EvF.conv rfl rfl u8_und int_und (by omega) (by omega)) rfl rfl ?_)|(refine uE (EvF.rem64 rfl rfl rfl (by omega) (by omega)) rfl rfl ?_)|(refine uE (v := .int .i64 x) (by rw [hxe];exact EvF.add64 rfl rfl rfl (by omega) (by omega)) rfl rfl ?_)|(refine Xg.st (StF.buildOne (cs:=[.int .i64 x]) rfl el55 rfl rfl rfl (by decide) (by decide)) rfl rfl ?_;rintro _ _ ⟨bs,rfl,rfl⟩)|(refine Xg.st (StF.appendNew rfl el55 rfl rfl (by decide) rfl (Rd.own (qH _)) (by decide)) rfl rfl ?_;rintro _ _ ⟨bn,kn,rfl,rfl⟩)|(refine uE (uM rfl rfl) rfl rfl ?_)|(refine uE (uA rfl rfl) rfl rfl ?_)))))|(refine uD rfl ?_;refine hK _ _ ?_;clear hK K) | refine uS rfl ?_ | refine uR rfl (fun K hK=>?_) | refine X.block rfl ?_ | refine X.skip rfl ?_ | (refine X.ite rfl rfl (fun hc=>?_);(first | (with_reducible refine Xb.t hc ?_)) <;> clear hc))
   refine X.weak (F' := [(3,.bool true),(4,.pointer (some ⟨b4,0,none⟩)),(5,.slice (some ⟨bn,0,none⟩) ((0 : Nat) + 1) kn),(6,.int .i64 ((0 : Nat) : Nat)),(40,.slice (some ⟨ab,oo,none⟩) n cl),(41,.int .i64 n),(42,.int .i64 ((0 : Nat) : Nat))]) (H' := ⟨bn,0,[]++[.int .i64 x],some 3,kn * 1⟩::⟨b4,0,[.int .i64 1,.int .i64 n,.int .i64 1,.int .i64 1,.slice none (0 : Nat) 0,.slice none 0 0],some 31,6⟩::(([] : List Row)++H)) (by repeat (first | exact uU _ | refine uV rfl ?_)) (qK _ (List.sublist_cons_self _ _)) ?_
   refine X.permH (perm10 ⟨bn,0,[]++[.int .i64 x],some 3,kn * 1⟩ ⟨b4,0,[.int .i64 1,.int .i64 n,.int .i64 1,.int .i64 1,.slice none (0 : Nat) 0,.slice none 0 0],some 31,6⟩ ([] : List Row) H) ?_
   have hsb : SlE (⟨bn,0,[]++[.int .i64 x],some 3,kn * 1⟩::H) (some ⟨bn,0,none⟩) cI 1 ([x]):=SlE.ofRow (qH _) (fun _ _=>rfl)
   refine X.regionRd tsKr10 rdKr10 [3,4,5,6,40,41,42] [(3,.bool true),(4,.pointer (some ⟨b4,0,none⟩)),(5,.slice (some ⟨bn,0,none⟩) ((0 : Nat) + 1) kn),(6,.int .i64 (0 : Nat)),(40,.slice (some ⟨ab,oo,none⟩) n cl),(41,.int .i64 n),(42,.int .i64 (0 : Nat))] (valKr10 b4 bn n (0 : Nat) kn 0 cl none (some ⟨ab,oo,none⟩) ([] : List Row) ([] : List Dr) x) (rowsKr10 b4 bn n (0 : Nat) kn 0 cl none (some ⟨ab,oo,none⟩) ([] : List Row) ([] : List Dr) x) (fun _=>(0,0)) (⟨bn,0,[]++[.int .i64 x],some 3,kn * 1⟩::H) rfl mixed (by repeat (first | exact uU _ | refine uV rfl ?_)) rfl (by kernel_rfl) (by kernel_rfl) (locKr10 b4 bn n (0 : Nat) kn 0 cl none (some ⟨ab,oo,none⟩) ([] : List Row) ([] : List Dr) x) (sub_of_eq (by kernel_rfl)) ?_ ?_
   ·repeat' (first | exact AllF.done rfl | (refine AllF.step rfl ?_ ?_;·(first | exact (Ob.ng rfl (uK (fun env R hR=>by exact ⟨_,uM rfl rfl,rfl⟩) rfl (fun _=>rfl))).toR | exact (Ob.ng rfl (uK (fun env R hR=>by exact ⟨_,uF rfl rfl (te rfl) rfl (te rfl) (by decide),rfl⟩) rfl (fun _=>rfl))).toR | exact (Ob.ng rfl (uK (fun env R hR=>by exact ⟨_,uL rfl rfl (uO (te rfl) rfl (hR _ (qH _)) rfl),rfl⟩) rfl (fun _=>rfl))).toR | (refine ObR.ng rfl ?_;(first | (exact fun env S hS hrd=>(StF.ofEv (uL rfl rfl (uO (te rfl) rfl (hrd 19 (qH _) _ (qH _)) rfl))).op.mono (fun v H' ⟨hv,hH⟩=>⟨(0,0),fun _=>hv,by rw [hH];exact List.Perm.refl _⟩))|(exact fun env S hS hrd=>(StF.ofEv (EvF.add64 (p:=((0 : Nat) : Int)) (q:=1) rfl rfl rfl (by omega) (by omega))).op.mono (fun v H' ⟨hv,hH⟩=>⟨(0,0),fun _=>hv,by rw [hH];exact List.Perm.refl _⟩))|((refine fun env S hS hrd=>(StF.ofEv (v := .pointer (some ⟨bn,0 + (0 : Nat) * 1,none⟩)) ?_).op.mono (fun v H' ⟨hv,hH⟩=>⟨(0,0),fun _=>hv,by rw [hH];exact List.Perm.refl _⟩);exact uJ (i:=((0 : Nat) : Int)) (off:=0) (b:=bn) (T:=49) (e:=3) (len:=(0 : Nat) + 1) rfl rfl rfl (te rfl) (te rfl) (by omega) (by omega)))|(exact fun env S hS hrd=>(OpF.call (uT rfl (Args.cons rfl (Args.cons rfl (Args.cons rfl (Args.cons rfl Args.nil))))) (lawDraw ((0 : Nat) + 1) (0 : Nat) x x _)).mono (fun v H' ⟨hv,hH⟩=>⟨(0,0),fun _=>hv,by rw [hH];exact List.Perm.refl _⟩))|(exact fun env S hS hrd=>(StF.buildOne (cs:=cDr ⟨(0 : Nat) + 1,(0 : Nat),x,x⟩) rfl elDr rfl rfl rfl (by decide) (by decide)).op.mono (fun v H' ⟨b,hv,hH⟩=>⟨(b,0),fun _=>hv,by rw [hH];exact List.Perm.refl _⟩))|(exact fun env S hS hrd=>(StF.appendNew (news:=cDr ⟨(0 : Nat) + 1,(0 : Nat),x,x⟩) rfl elDr rfl rfl (by decide) rfl (Rd.own (hrd 14 (qH _) _ (qH _))) (by decide)).op.mono (fun v H' ⟨b,c,hv,hH⟩=>⟨(b,c),fun _=>hv,by rw [hH];exact List.Perm.refl _⟩))|(exact fun env S hS hrd=>(StF.storeOne (i:=0) rfl rfl rfl rfl (te rfl) rfl rfl (Nat.le_of_ble_eq_true rfl)).op.mono (fun v H' ⟨hv,hH⟩=>⟨(0,0),fun h=>absurd rfl h,by rw [hH];exact List.Perm.refl _⟩)))))))
   ·intro env t ha hv
    refine ⟨_,ha,?_⟩
    clear hv ha
    show X _ _ _ _ (⟨(env 14).1,0,cDr ⟨(0 : Nat) + 1,(0 : Nat),x,x⟩,some 38,1 * 4⟩::⟨(env 15).1,0,([] : List Dr).flatMap cDr++cDr ⟨(0 : Nat) + 1,(0 : Nat),x,x⟩,some 38,(env 15).2 * 4⟩::⟨b4,0,[.int .i64 1,.int .i64 n,.int .i64 1,.int .i64 1,.slice (some ⟨(env 15).1,0,none⟩) ((0 : Nat) + 1) (env 15).2,.slice none 0 0],some 31,6⟩::⟨bn,0,[]++[.int .i64 x],some 3,kn * 1⟩::H) _
    generalize (env 14).1 = bs2
    generalize (env 15).1 = bd2
    generalize (env 15).2 = cd2
    refine X.weakR (List.sublist_cons_self _ _) ?_
    refine X.permH (H' := ⟨bn,0,[]++[.int .i64 x],some 3,kn * 1⟩::⟨b4,0,[.int .i64 1,.int .i64 n,.int .i64 1,.int .i64 1,.slice (some ⟨bd2,0,none⟩) ((0 : Nat) + 1) cd2,.slice none 0 0],some 31,6⟩::⟨bd2,0,([] : List Dr).flatMap cDr++cDr ⟨(0 : Nat) + 1,(0 : Nat),x,x⟩,some 38,cd2 * 4⟩::H) (by (repeat (first | exact List.Perm.refl _ | refine List.Perm.trans (List.Perm.cons _ ?_) (List.perm_middle (l₁:=[])).symm | refine List.Perm.trans (List.Perm.cons _ ?_) (List.perm_middle (l₁:=[_])).symm | refine List.Perm.trans (List.Perm.cons _ ?_) (List.perm_middle (l₁:=[_,_])).symm | refine List.Perm.trans (List.Perm.cons _ ?_) (List.perm_middle (l₁:=[_,_,_])).symm | refine List.Perm.trans (List.Perm.cons _ ?_) (List.perm_middle (l₁:=[_,_,_,_])).symm | refine List.Perm.trans (List.Perm.cons _ ?_) (List.perm_middle (l₁:=[_,_,_,_,_])).symm | refine List.Perm.trans (List.Perm.cons _ ?_) (List.perm_middle (l₁:=[_,_,_,_,_,_])).symm | refine List.Perm.trans (List.Perm.cons _ ?_) (List.perm_middle (l₁:=[_,_,_,_,_,_,_])).symm | refine List.Perm.trans (List.Perm.cons _ ?_) (List.perm_middle (l₁:=[_,_,_,_,_,_,_,_])).symm ));done) ?_
    repeat' (first | (refine uP rfl ?_;(first | ((first | refine uN rfl ?_);(first | (refine uE (EvF.add64 (p:=((0 : Nat) : Int)) (q:=1) rfl rfl rfl (by omega) (by omega)) rfl rfl ?_)|(refine uE (uM rfl rfl) rfl rfl ?_)))))|(refine uD rfl ?_;refine hK _ _ ?_;clear hK K) | refine uR rfl (fun K hK=>?_))
    refine ⟨_,_,_,(by rw [show ((0 : Nat) : Int) + 1 = (((0 : Nat) + 1 : Nat) : Int) by omega];exact (by repeat (first | exact uU _ | refine uV rfl ?_))),?_,⟨(0 : Nat) + 1,_,some ⟨bd2,0,none⟩,cd2,_,_,rfl,by omega,.inr ⟨bn,kn,bd2,rfl,rfl,rfl,rfl⟩,rfl,rfl⟩,by omega⟩
    rw [htk]
    exact qR _
  ·have hlen : (((gOf l).take k).flatMap cI).length = k * 1:=by rw [lenI,hln]
   have hfm : ((shD 0 ((gOf l).take k)).flatMap cDr).length = k * 4:=by rw [lenDr,hdl]
   have hxk : ((gOf l).take k++[x])[k]? = some x:=by rw [List.getElem?_append_right (by omega),hln,Nat.sub_self];rfl
   have hfI : ((gOf l).take k).flatMap cI++[Value.int .i64 x] = ((gOf l).take (k + 1)).flatMap cI:=by rw [htk,List.flatMap_append];rfl
   have hfD : (shD 0 ((gOf l).take k)).flatMap cDr++cDr ⟨k + 1,k,x,x⟩ = (shD 0 ((gOf l).take (k + 1))).flatMap cDr:=by rw [htk,hsn,List.flatMap_append];rfl
   obtain ⟨L,hL⟩ : ∃ L,L = (gOf l).take k:=⟨_,rfl⟩
   obtain ⟨D,hDe⟩ : ∃ D,D = shD 0 L:=⟨_,rfl⟩
   rw [← hL] at hlen hfm hxk hfI hfD ⊢
   rw [← hDe] at hfm hfD ⊢
   repeat' (first | (refine uP rfl ?_;(first | ((first | refine uN rfl ?_);(first | (refine uE (uQ (b:=true) rfl rfl rfl (congrArg some (decide_eq_true hlt'))) rfl rfl ?_)|(refine uE (uJ (i:=(k : Int)) rfl rfl rfl (te rfl) (te rfl) (by omega) (by omega)) rfl rfl ?_)|(refine uE (uL (v := .int .u8 y) rfl rfl (LoadV.el0 (n:=k) (hl.sub (fun _ h=>by repeat (first | exact h | apply List.mem_append_right | apply qT))) hy (te rfl) rfl (fun _ h=>h) rfl)) rfl rfl ?_)|(refine uE (EvF.conv rfl rfl u8_und int_und (by omega) (by omega)) rfl rfl ?_)|(refine uE (EvF.rem64 rfl rfl rfl (by omega) (by omega)) rfl rfl ?_)|(refine uE (v := .int .i64 x) (by rw [hxe];exact EvF.add64 rfl rfl rfl (by omega) (by omega)) rfl rfl ?_)|(refine Xg.st (StF.buildOne (cs:=[.int .i64 x]) rfl el55 rfl rfl rfl (by decide) (by decide)) rfl rfl ?_;rintro _ _ ⟨bs,rfl,rfl⟩)|(refine Xg.st (StF.appendOwn (i:=1) rfl el55 rfl rfl rfl hlen rfl (Rd.own (qH _)) rfl (by omega)) rfl rfl ?_;rintro _ _ ⟨bn,kn,rfl,rfl⟩;dsimp only [List.eraseIdx])|(refine uE (uM rfl rfl) rfl rfl ?_)|(refine uE (uA rfl rfl) rfl rfl ?_)))))|(refine uD rfl ?_;refine hK _ _ ?_;clear hK K) | refine uS rfl ?_ | refine uR rfl (fun K hK=>?_) | refine X.block rfl ?_ | refine X.skip rfl ?_ | (refine X.ite rfl rfl (fun hc=>?_);(first | (with_reducible refine Xb.t hc ?_)) <;> clear hc))
   refine X.weak (F' := [(3,.bool true),(4,.pointer (some ⟨b4,0,none⟩)),(5,.slice (some ⟨bn,0,none⟩) (k + 1) kn),(6,.int .i64 (k : Nat)),(40,.slice (some ⟨ab,oo,none⟩) n cl),(41,.int .i64 n),(42,.int .i64 (k : Nat))]) (H' := ⟨bn,0,L.flatMap cI++[.int .i64 x],some 3,kn * 1⟩::⟨b4,0,[.int .i64 1,.int .i64 n,.int .i64 1,.int .i64 1,.slice (some ⟨bd,0,none⟩) k c1,.slice none 0 0],some 31,6⟩::([(⟨bd,0,D.flatMap cDr,some 38,c1 * 4⟩ : Row)]++H)) (by repeat (first | exact uU _ | refine uV rfl ?_)) (qK _ (List.sublist_cons_self _ _)) ?_
   refine X.permH (perm10 ⟨bn,0,L.flatMap cI++[.int .i64 x],some 3,kn * 1⟩ ⟨b4,0,[.int .i64 1,.int .i64 n,.int .i64 1,.int .i64 1,.slice (some ⟨bd,0,none⟩) k c1,.slice none 0 0],some 31,6⟩ [(⟨bd,0,D.flatMap cDr,some 38,c1 * 4⟩ : Row)] H) ?_
   have hsb : SlE (⟨bn,0,L.flatMap cI++[.int .i64 x],some 3,kn * 1⟩::H) (some ⟨bn,0,none⟩) cI 1 (L++[x]):=by rw [show L.flatMap cI++[Value.int .i64 x] = (L++[x]).flatMap cI from by rw [List.flatMap_append];rfl];exact SlE.ofRow (qH _) (fun _ _=>rfl)
   refine X.regionRd tsKr10 rdKr10 [3,4,5,6,40,41,42] [(3,.bool true),(4,.pointer (some ⟨b4,0,none⟩)),(5,.slice (some ⟨bn,0,none⟩) (k + 1) kn),(6,.int .i64 k),(40,.slice (some ⟨ab,oo,none⟩) n cl),(41,.int .i64 n),(42,.int .i64 k)] (valKr10 b4 bn n k kn c1 cl (some ⟨bd,0,none⟩) (some ⟨ab,oo,none⟩) [(⟨bd,0,D.flatMap cDr,some 38,c1 * 4⟩ : Row)] D x) (rowsKr10 b4 bn n k kn c1 cl (some ⟨bd,0,none⟩) (some ⟨ab,oo,none⟩) [(⟨bd,0,D.flatMap cDr,some 38,c1 * 4⟩ : Row)] D x) (fun _=>(0,0)) (⟨bn,0,L.flatMap cI++[.int .i64 x],some 3,kn * 1⟩::H) rfl mixed (by repeat (first | exact uU _ | refine uV rfl ?_)) rfl (by kernel_rfl) (by kernel_rfl) (locKr10 b4 bn n k kn c1 cl (some ⟨bd,0,none⟩) (some ⟨ab,oo,none⟩) [(⟨bd,0,D.flatMap cDr,some 38,c1 * 4⟩ : Row)] D x) (sub_of_eq (by kernel_rfl)) ?_ ?_
   ·repeat' (first | exact AllF.done rfl | (refine AllF.step rfl ?_ ?_;·(first | exact (Ob.ng rfl (uK (fun env R hR=>by exact ⟨_,uM rfl rfl,rfl⟩) rfl (fun _=>rfl))).toR | exact (Ob.ng rfl (uK (fun env R hR=>by exact ⟨_,uF rfl rfl (te rfl) rfl (te rfl) (by decide),rfl⟩) rfl (fun _=>rfl))).toR | (refine ObR.ng rfl ?_;(first | (exact fun env S hS hrd=>(StF.ofEv (uL rfl rfl (uO (te rfl) rfl (hrd 19 (qH _) _ (qH _)) rfl))).op.mono (fun v H' ⟨hv,hH⟩=>⟨(0,0),fun _=>hv,by rw [hH];exact List.Perm.refl _⟩))|(exact fun env S hS hrd=>(StF.ofEv (EvF.add64 (p:=(k : Int)) (q:=1) rfl rfl rfl (by omega) (by omega))).op.mono (fun v H' ⟨hv,hH⟩=>⟨(0,0),fun _=>hv,by rw [hH];exact List.Perm.refl _⟩))|((refine fun env S hS hrd=>(StF.ofEv (v := .pointer (some ⟨bn,0 + k * 1,none⟩)) ?_).op.mono (fun v H' ⟨hv,hH⟩=>⟨(0,0),fun _=>hv,by rw [hH];exact List.Perm.refl _⟩);exact uJ (i:=(k : Int)) (off:=0) (b:=bn) (T:=49) (e:=3) (len:=k + 1) rfl rfl rfl (te rfl) (te rfl) (by omega) (by omega)))|(exact fun env S hS hrd=>(StF.ofEv (v := .int .i64 x) (uL rfl rfl (LoadV.el0 (n:=k) (hsb.sub hS) hxk (te rfl) rfl (fun _ h=>h) rfl))).op.mono (fun v H' ⟨hv,hH⟩=>⟨(0,0),fun _=>hv,by rw [hH];exact List.Perm.refl _⟩))|(exact fun env S hS hrd=>(OpF.call (uT rfl (Args.cons rfl (Args.cons rfl (Args.cons rfl (Args.cons rfl Args.nil))))) (lawDraw (k + 1) k x x _)).mono (fun v H' ⟨hv,hH⟩=>⟨(0,0),fun _=>hv,by rw [hH];exact List.Perm.refl _⟩))|(exact fun env S hS hrd=>(StF.buildOne (cs:=cDr ⟨k + 1,k,x,x⟩) rfl elDr rfl rfl rfl (by decide) (by decide)).op.mono (fun v H' ⟨b,hv,hH⟩=>⟨(b,0),fun _=>hv,by rw [hH];exact List.Perm.refl _⟩))|(exact fun env S hS hrd=>(StF.appendOwn (i:=0) (news:=cDr ⟨k + 1,k,x,x⟩) rfl elDr rfl rfl rfl hfm rfl (Rd.own (qT _ (hrd 14 (qH _) _ (qH _)))) rfl (by omega)).op.mono (fun v H' ⟨b,c,hv,hH⟩=>⟨(b,c),fun _=>hv,by rw [hH];exact List.Perm.refl _⟩))|(exact fun env S hS hrd=>(StF.storeOne (i:=0) rfl rfl rfl rfl (te rfl) rfl rfl (Nat.le_of_ble_eq_true rfl)).op.mono (fun v H' ⟨hv,hH⟩=>⟨(0,0),fun h=>absurd rfl h,by rw [hH];exact List.Perm.refl _⟩)))))))
   ·intro env t ha hv
    refine ⟨_,ha,?_⟩
    clear hv ha
    show X _ _ _ _ (⟨(env 14).1,0,cDr ⟨k + 1,k,x,x⟩,some 38,1 * 4⟩::⟨(env 15).1,0,D.flatMap cDr++cDr ⟨k + 1,k,x,x⟩,some 38,(env 15).2 * 4⟩::⟨b4,0,[.int .i64 1,.int .i64 n,.int .i64 1,.int .i64 1,.slice (some ⟨(env 15).1,0,none⟩) (k + 1) (env 15).2,.slice none 0 0],some 31,6⟩::⟨bn,0,L.flatMap cI++[.int .i64 x],some 3,kn * 1⟩::H) _
    generalize (env 14).1 = bs2
    generalize (env 15).1 = bd2
    generalize (env 15).2 = cd2
    refine X.weakR (List.sublist_cons_self _ _) ?_
    refine X.permH (H' := ⟨bn,0,L.flatMap cI++[.int .i64 x],some 3,kn * 1⟩::⟨b4,0,[.int .i64 1,.int .i64 n,.int .i64 1,.int .i64 1,.slice (some ⟨bd2,0,none⟩) (k + 1) cd2,.slice none 0 0],some 31,6⟩::⟨bd2,0,D.flatMap cDr++cDr ⟨k + 1,k,x,x⟩,some 38,cd2 * 4⟩::H) (by (repeat (first | exact List.Perm.refl _ | refine List.Perm.trans (List.Perm.cons _ ?_) (List.perm_middle (l₁:=[])).symm | refine List.Perm.trans (List.Perm.cons _ ?_) (List.perm_middle (l₁:=[_])).symm | refine List.Perm.trans (List.Perm.cons _ ?_) (List.perm_middle (l₁:=[_,_])).symm | refine List.Perm.trans (List.Perm.cons _ ?_) (List.perm_middle (l₁:=[_,_,_])).symm | refine List.Perm.trans (List.Perm.cons _ ?_) (List.perm_middle (l₁:=[_,_,_,_])).symm | refine List.Perm.trans (List.Perm.cons _ ?_) (List.perm_middle (l₁:=[_,_,_,_,_])).symm | refine List.Perm.trans (List.Perm.cons _ ?_) (List.perm_middle (l₁:=[_,_,_,_,_,_])).symm | refine List.Perm.trans (List.Perm.cons _ ?_) (List.perm_middle (l₁:=[_,_,_,_,_,_,_])).symm | refine List.Perm.trans (List.Perm.cons _ ?_) (List.perm_middle (l₁:=[_,_,_,_,_,_,_,_])).symm ));done) ?_
    repeat' (first | (refine uP rfl ?_;(first | ((first | refine uN rfl ?_);(first | (refine uE (EvF.add64 (p:=(k : Int)) (q:=1) rfl rfl rfl (by omega) (by omega)) rfl rfl ?_)|(refine uE (uM rfl rfl) rfl rfl ?_)))))|(refine uD rfl ?_;refine hK _ _ ?_;clear hK K) | refine uR rfl (fun K hK=>?_))
    refine ⟨_,_,_,(by rw [show (k : Int) + 1 = ((k + 1 : Nat) : Int) by omega];exact (by repeat (first | exact uU _ | refine uV rfl ?_))),?_,⟨k + 1,_,some ⟨bd2,0,none⟩,cd2,_,_,rfl,by omega,.inr ⟨bn,kn,bd2,rfl,rfl,rfl,rfl⟩,rfl,rfl⟩,by omega⟩
    rw [hfI,hfD]
    exact qR _
 ·have hkn : k = n:=by omega
  rcases hI with ⟨h0,_⟩ | ⟨b5,q5,bd,rfl,rfl,rfl,rfl⟩
  ·omega
  ·have htk : (gOf l).take k = gOf l:=List.take_of_length_le (by omega)
   rw [htk]
   obtain ⟨g,hg⟩ : ∃ g,g = gOf l:=⟨_,rfl⟩
   rw [← hg] at hgl ⊢
   have hgb : ∀ x ∈ g,1 ≤ x∧x ≤ 9:=by rw [hg];exact gOf_bd
   have hgn : g.length = n:=by omega
   have hlt' : ¬ (k : Int)<n:=by omega
   clear hg htk hlt
   rw [hkn]
   refine X.capLe (q:=0) rfl (fun hcap=>?_)
   have hc5 : g.length ≤ q5:=by rw [lenI] at hcap;omega
   have hcel:=shB_cells g n hgn ⟨some ⟨bd,0,none⟩,c1,none,0⟩
   refine X.gen (fun G hG=>?_)
   have hs : SlE G (some ⟨b5,0,none⟩) cI 1 g:=SlE.ofRow (by rw [hG];exact qH _) (fun _ _=>rfl)
   have m4 : (⟨b4,0,cBl (shB g) ⟨some ⟨bd,0,none⟩,c1,none,0⟩,some 31,6⟩ : Row) ∈ G:=by rw [hG,hcel];exact qT _ (qH _)
   have hB : BlOk G (shB g) ⟨some ⟨bd,0,none⟩,c1,none,0⟩:=⟨SlE.ofRow (by rw [hG];exact qT _ (qT _ (qH _))) (fun _ _=>rfl),sleNil,by show (shD 0 g).length ≤ _;rw [shD_len];omega,Nat.le_of_ble_eq_true rfl⟩
   clear hG hcel hcap
   have kq:=rKindOf_spec g (some ⟨b5,0,none⟩) q5 G hs (by omega) (by omega) hc5 hgb
   obtain ⟨w,hw⟩ : ∃ w,w = kindF g:=⟨_,rfl⟩
   rw [← hw,hgn] at kq
   rw [hkn] at hlt'
   repeat' (first | (refine kind_r13 g ⟨some ⟨bd,0,none⟩,c1,none,0⟩ b4 b5 q5 6 (some 31) w hw (by omega) (by omega) hgb hc5 _ _ m4 hB hs ?_;rw [hgn];exact (by repeat (first | exact uU _ | refine uV rfl ?_)))|(refine uP rfl ?_;(first | ((first | refine uN rfl ?_);(first | (refine uE (uQ (b:=false) rfl rfl rfl (congrArg some (decide_eq_false hlt'))) rfl rfl ?_)|(refine uC (uT rfl (Args.cons rfl Args.nil)) rfl rfl (kq) ?_;rintro _ _ ⟨rfl,rfl⟩)|(refine uE (uM rfl rfl) rfl rfl ?_)|(refine uE (uA rfl rfl) rfl rfl ?_)))))|(refine uD rfl ?_;refine hK _ _ ?_;clear hK K) | refine uS rfl ?_ | refine uR rfl (fun K hK=>?_)|(refine X.brk rfl ?_;repeat (first | refine blockX_hit rfl ?_ | refine blockX_miss (by decide) ?_))|(refine X.ite rfl rfl (fun hc=>?_);(first | (with_reducible refine Xb.f hc ?_)) <;> clear hc))
   all_goals try (exfalso;contradiction)
set_option maxHeartbeats 8000000 in
theorem coreKind_spec (l : List Int) (al : Option Addr) (cl : Nat) (h8 : ∀ x ∈ l,0 ≤ x∧x ≤ 255) (H : List Row) (hl : SlE H al cU 1 l) :
  Fc Tryz.prog 10 [.slice al l.length cl] H (fun v _=>v = .bool true):=by
 by_cases h0 : l.length = 0
 ·have h0' : ((l.length : Nat) : Int)=0:=by omega
  refine Fc.mk (callable Tryz.call10) Tryz.func10 rfl Tryz.ntmps10 rfl ?_;dsimp only [fr]
  repeat' (first | (refine uP rfl ?_;(first | ((first | refine uN rfl ?_);(first | (refine uC (uT rfl Args.nil) rfl rfl (alive_spec _) ?_;rintro _ _ ⟨rfl,rfl⟩)|(refine uE (uY rfl rfl (te rfl)) rfl rfl ?_)|(refine uE (uQ (b:=true) rfl rfl rfl (congrArg some (decide_eq_true h0'))) rfl rfl ?_)|(refine uE (uM rfl rfl) rfl rfl ?_)|(refine uE (uA rfl rfl) rfl rfl ?_)|(refine uE (EvF.pickT rfl rfl rfl) rfl rfl ?_)))|(refine Xo.g rfl rfl ?_;(first | (with_reducible refine Xw.tf rfl rfl ?_)))))|(refine uD rfl ?_;refine hK _ _ ?_;clear hK K) | refine uS rfl ?_ | refine uR rfl (fun K hK=>?_) | refine X.ret rfl ?_ | (refine X.ite rfl rfl (fun hc=>?_);(first | (with_reducible refine Xb.t hc ?_)) <;> clear hc))
  all_goals try (exfalso;contradiction)
  exact ret_one (by simp) Tryz.results10 rfl (H' := _) (qR _) rfl
 ·have h0' : ¬ ((l.length : Nat) : Int)=0:=by omega
  by_cases h5 : l.length > 5
  ·have h5' : ((l.length : Nat) : Int) > 5:=by omega
   refine Fc.mk (callable Tryz.call10) Tryz.func10 rfl Tryz.ntmps10 rfl ?_;dsimp only [fr]
   repeat' (first | (refine uP rfl ?_;(first | ((first | refine uN rfl ?_ | (refine Xo.g rfl rfl ?_;with_reducible refine Xw.ff ?_));(first | (refine uC (uT rfl Args.nil) rfl rfl (alive_spec _) ?_;rintro _ _ ⟨rfl,rfl⟩)|(refine uE (uY rfl rfl (te rfl)) rfl rfl ?_)|(refine uE (uQ (b:=false) rfl rfl rfl (congrArg some (decide_eq_false h0'))) rfl rfl ?_)|(refine uE (uQ (b:=true) rfl rfl rfl (congrArg some (decide_eq_true h5'))) rfl rfl ?_)|(refine uE (uM rfl rfl) rfl rfl ?_)|(refine uE (uA rfl rfl) rfl rfl ?_)|(refine uE (EvF.pickT rfl rfl rfl) rfl rfl ?_)|(refine uE (EvF.pickF rfl rfl rfl) rfl rfl ?_)))|(refine Xo.g rfl rfl ?_;(first | (with_reducible refine Xw.tf rfl rfl ?_)))))|(refine uD rfl ?_;refine hK _ _ ?_;clear hK K) | refine uS rfl ?_ | refine uR rfl (fun K hK=>?_) | refine X.ret rfl ?_ | (refine X.ite rfl rfl (fun hc=>?_);(first | (with_reducible refine Xb.t hc ?_)) <;> clear hc))
   all_goals try (exfalso;contradiction)
   exact ret_one (by simp) Tryz.results10 rfl (H' := _) (qR _) rfl
  ·have h5' : ¬ ((l.length : Nat) : Int) > 5:=by omega
   refine Fc.mk (callable Tryz.call10) Tryz.func10 rfl Tryz.ntmps10 rfl ?_;dsimp only [fr]
   repeat' (first | (refine kind_loop l al cl _ l.length _ hl rfl (by omega) (by omega) h8 _ ?_;exact (by repeat (first | exact uU _ | refine uV rfl ?_)))|(refine uP rfl ?_;(first | ((first | refine uN rfl ?_ | (refine Xo.g rfl rfl ?_;with_reducible refine Xw.ff ?_));(first | (refine uC (uT rfl Args.nil) rfl rfl (alive_spec _) ?_;rintro _ _ ⟨rfl,rfl⟩)|(refine uE (uY rfl rfl (te rfl)) rfl rfl ?_)|(refine uE (uQ (b:=false) rfl rfl rfl (congrArg some (decide_eq_false h0'))) rfl rfl ?_)|(refine uE (uQ (b:=false) rfl rfl rfl (congrArg some (decide_eq_false h5'))) rfl rfl ?_)|(refine uE (notT rfl rfl) rfl rfl ?_)|(refine uC (uT rfl (Args.cons rfl (Args.cons rfl Args.nil))) rfl rfl (lawSpan 1 1 _) ?_;rintro _ _ ⟨rfl,rfl⟩)|(refine uE (EvF.build (cs:=[.int .i64 1,.int .i64 l.length,.int .i64 1,.int .i64 1,.slice none 0 0,.slice none 0 0]) rfl (ArgsP.cons rfl (ArgsP.cons rfl (ArgsP.cons rfl ArgsP.nil))) (te rfl) (Places.cons (te rfl) (Places.cons (te rfl) (Places.cons (te rfl) (Places.cons (te rfl) (Places.cons (te rfl) Places.nil))))) Tryz.zeroValue31 rfl) rfl rfl ?_)|(refine Xg.st (StF.alloc rfl Tryz.zeroValue31 rfl) rfl rfl ?_;rintro _ _ ⟨bx,rfl,rfl⟩)|(refine Xg.st0 (uZ (i:=0) (vs:=[.int .i64 1,.int .i64 l.length,.int .i64 1,.int .i64 1,.slice none 0 0,.slice none 0 0]) rfl rfl rfl (te rfl) rfl rfl rfl rfl) rfl ?_;rintro _ _ ⟨rfl,rfl⟩;dsimp only [List.set])|(refine uE (uM rfl rfl) rfl rfl ?_)|(refine uE (uA rfl rfl) rfl rfl ?_)|(refine uE (EvF.pickF rfl rfl rfl) rfl rfl ?_)))))|(refine uD rfl ?_;refine hK _ _ ?_;clear hK K) | refine uS rfl ?_ | refine uR rfl (fun K hK=>?_) | refine X.skip rfl ?_ | (refine X.ite rfl rfl (fun hc=>?_);(first | (with_reducible refine Xb.f hc ?_)) <;> clear hc))
   all_goals try (exfalso;contradiction)
open Go Go.Fw Go.ChangeShapes Go.WideShapes
instance : Inhabited Sp:=⟨⟨0,0⟩⟩
instance : Inhabited Bx:=⟨⟨0,0⟩⟩
instance : Inhabited Mt:=⟨⟨0,0,0,0,0,0⟩⟩
def w64 (n : Int) : Prop:=(Lit.int .i64 n).wf = true
section
variable {H : Type} {enc : TypeId × Value → H} {w : World} {base : Nat} {spare : Nat → Bool} {held : Bool} {fuel : Nat} {cs : List Value} {x : DataW H × List MemPlace}
end
structure InRm (w : World) (R : Rm) (p : Pl) : Prop where
 ages : InSl w p.a1 cSp 2 R.ages
 boxes : InSl w p.a2 cBx 2 R.boxes
 mats : InSl w p.a3 cMt 6 R.mats
 mo : w64 R.months
 st : w64 R.step
 k1 : R.ages.length ≤ p.c1
 k2 : R.boxes.length ≤ p.c2
 k3 : R.mats.length ≤ p.c3
def rowsRm (R : Rm) (p : Pl) : List Row:=rowsOf p.a1 cSp R.ages++(rowsOf p.a2 cBx R.boxes++rowsOf p.a3 cMt R.mats)
theorem InRm.ok {w : World} {R : Rm} {p : Pl} {B : Nat} (h : InRm w R p) : ∀ r ∈ rowsRm R p,r.own = none∧r.ok B w:=by
 intro r hr
 rcases List.mem_append.1 hr with hr | hr
 ·exact h.ages.ok r hr
 ·rcases List.mem_append.1 hr with hr | hr
  ·exact h.boxes.ok r hr
  ·exact h.mats.ok r hr
section
variable {H : Type} {enc : TypeId × Value → H} {w : World} {base : Nat} {spare : Nat → Bool} {held : Bool} {v : Value} {d : DataW H} {p : List MemPlace} {r : Reach} {b0 : Nat}
end
open Go Go.Fw Go.ChangeShapes Go.WideShapes Go.ChangeAt Go.RowKit
set_option maxRecDepth 100000
instance : Inhabited Dr:=⟨⟨0,0,0,0⟩⟩
section
variable {H : Type} {enc : TypeId × Value → H} {w : World} {base : Nat} {spare : Nat → Bool} {held : Bool} {fuel : Nat} {cs : List Value} {x : DataW H × List MemPlace}
end
structure InBl (w : World) (B : Bl) (p : Pb) : Prop where
 draws : InSl w p.a1 cDr 4 B.draws
 weighs : InSl w p.a2 cDr 4 B.weighs
def rowsBl (B : Bl) (p : Pb) : List Row:=rowsOf p.a1 cDr B.draws++rowsOf p.a2 cDr B.weighs
theorem InBl.ok {w : World} {B : Bl} {p : Pb} {N : Nat} (h : InBl w B p) : ∀ r ∈ rowsBl B p,r.own = none∧r.ok N w:=by
 intro r hr
 rcases List.mem_append.1 hr with hr | hr
 ·exact h.draws.ok r hr
 ·exact h.weighs.ok r hr
section
variable {H : Type} {enc : TypeId × Value → H} {w : World} {base : Nat} {spare : Nat → Bool} {held : Bool} {v : Value} {d : DataW H} {p : List MemPlace} {r : Reach} {b0 : Nat}
end
theorem ownK : ownKnob Tryz.prog.godebug = none:=by kernel_rfl
theorem laidO : laidOutB Tryz.prog = true:=by kernel_rfl
def u8 (n : Int) : Prop:=0 ≤ n∧n ≤ 255
section
variable {H : Type} {enc : TypeId × Value → H} {w : World} {base : Nat} {spare : Nat → Bool} {held : Bool} {v : Value} {d : DataW H} {p : List MemPlace} {r : Reach} {b0 : Nat}
theorem u8_wf {n : Int} (h : (Lit.int .u8 n).wf = true) : u8 n:=by
 simp [Lit.wf,IntKind.min,IntKind.max,IntKind.signed,IntKind.bits] at h
 exact ⟨by omega,by omega⟩
end
section
variable {H : Type} {enc : TypeId × Value → H} {w : World} {base : Nat} {spare : Nat → Bool} {held : Bool} {v : Value} {d : DataW H} {p : List MemPlace} {r : Reach} {b0 fuel : Nat} {cs : List Value} {x : DataW H × List MemPlace}
theorem open_cU (h : DataW.trod enc Tryz.prog w base spare held fuel 5 cs = some x) : ∃ q : Int,cs = cU q∧u8 q:=by
 obtain ⟨n,h1,h2⟩:=trod_i (te rfl) h
 exact ⟨n,h1,u8_wf h2⟩
theorem open_u8s (hv : Value.okWide Tryz.prog w r b0 54 v) (h : DataW.Trod enc Tryz.prog w base spare held 54 v d p) : ∃ (l : List Int) (a : Option Addr) (c : Nat),v = .slice a l.length c∧InSl w a cU 1 l ∧ ∀ x ∈ l,u8 x:=by
 obtain ⟨a,len,cap,rfl⟩:=okWide_slice Tryz.underlying54 hv
 obtain ⟨fuel,hf⟩:=h
 obtain ⟨l,a,c,e,hi,ho,_⟩:=open_sl (te rfl) (te rfl) rfl (by decide) (fun _ _ _=>open_cU) (fun _=>rfl) hf
 exact ⟨l,a,c,e,hi,ho⟩
end
theorem coreKind_run (l : List Int) (al : Option Addr) (cl : Nat) (w : World) (h8l : ∀ x ∈ l,u8 x) (hl : InSl w al cU 1 l) :
  Calls Tryz.prog 10 #[.slice al l.length cl] w fun e w' => e = .returned (.bool true)∧Below w.heap.size w w' :=
 Fc.calls (H:=rowsOf al cU l) (coreKind_spec l al cl h8l _ (hl.sl (fun _ h=>h))) (fun r hr=>by
  exact hl.ok r hr
 )
theorem coreKind_lifted (os : Os) (started : os.Started) (H : Type) (enc : TypeId × Value → H) :
  ReturnsInHanded {} Tryz.checked os 10 .any (Rows.coreKindSpec.pre6 enc Tryz.prog Tryz.f10 Rows.coreKindRow.domain false) (Rows.coreKindSpec.post enc Tryz.prog Tryz.f10 false true false false):=by
 refine returnsInHanded_of_change (C:=Tryz.checked) ownK started (by kernel_rfl) Tryz.func10
  (ChangeSpec.witness6 (enc:=enc) (C:=Tryz.checked) false ⟨#[], #[.slice none 0 0],[]⟩ 8 (by kernel_rfl) (by kernel_rfl) (by kernel_rfl) (by kernel_rfl)) ?_
 intro W base args ds gs before hval0 hW hcnd _
 have hval : ∀ (j : Nat) t v,Tryz.f10.params[j]? = some t → args[j]? = some v → Value.okWide Tryz.prog W .any base t v:=hval0
 have hW' := hW
 obtain ⟨p,q,hA0,hV,rfl,hfz,hnd⟩:=hW
 have hA : DataW.TrodAll enc Tryz.prog W 0 (fun _=>true) true Tryz.f10.params.toList args.toList ds p:=hA0
 rw [Tryz.params10] at hA hval
 obtain ⟨v0,vs0,d0,ds0,p0,q0,hargs,rfl,rfl,h0,r0⟩:=trodAll_cons hA
 obtain ⟨rfl,rfl,rfl⟩:=trodAll_nil r0
 obtain rfl : args = #[v0]:=by cases args;simp_all
 obtain ⟨rfl,rfl⟩:=trodVars_none hV
 have lt : ∀ {t v d ps},DataW.Trod enc Tryz.prog W 0 (fun _=>true) true t v d ps → ∀ x ∈ ps,x.block < W.heap.size:=fun h=>by obtain ⟨m,hm⟩:=h;exact DataW.trod_lt m _ _ _ hm
 obtain ⟨l,al,cl,rfl,hl,h8l⟩:=open_u8s (hval 0 _ v0 rfl rfl) h0
 clear hA0 hval0
 refine (coreKind_run l al cl W h8l hl).mono fun e W' ⟨he,bel⟩=>?_
 subst he
 exact ⟨_,rfl,_,_,_,[],_,[],hW',trodAll_mk1 (shut_bool Tryz.underlying4 _),(trodAll_cons_mk (Below.trod laidO (by kernel_rfl) (of_decide_eq_true (by kernel_rfl)) h0 bel (lt h0)) trodAll_mk0),rfl,bel.frame _,fun h=>by cases h⟩
theorem coreKind_over : Rows.coreKindRow.holds Tryz.pinned (OpenSpec.ofChange Rows.coreKindSpec) :=
 OpenClaim.holds_of_wide 10 Tryz.f10 rfl rfl rfl rfl rfl rfl rfl ⟨rfl,rfl,rfl,rfl,rfl⟩ rfl rfl rfl rfl rfl (by kernel_rfl) Tryz.func10 (by kernel_rfl)
  (of_decide_eq_true (by kernel_rfl)) (by unfold Func.isWrapper;first | (rw [if_pos (by decide +kernel)];kernel_rfl)|(rw [if_neg (by decide +kernel)];exact ⟨rfl,rfl⟩))
  (fun os started H enc _=>coreKind_lifted os started H enc)
theorem coreKind_proved : Rows.CoreKindSaid:=coreKind_over
#print axioms coreKind_proved
end Go.Proofs.YtbpcbdbclijomaaGreat
