/- CoreAsk: for every bale and two bytes the law returns true (the draw that is told is of one of its layers and leaves one to four kinds; whatever it shows, no more are left; of another layer, something leaves as many, or more, and of one before it more; the examples are as told), and each argument reads afterwards as before. No condition. -/
import Derived.Test.YtbpcbdbclijomaaGreatW06
import Derived.OpenShut
import Derived.ProofKit
import Derived.Test.YtbpcbdbclijomaaGreatRows
import Derived.WalkKit
import Derived.ChangeOld
import Derived.ShutString
set_option linter.unusedVariables false
set_option linter.unusedSimpArgs false
namespace Go.Proofs.YtbpcbdbclijomaaGreat
open Go Go.Fw
set_option maxRecDepth 10000
theorem sp_cells (B : Bl) (S : List Sp) (n : Nat) (h : S.length = n) (p : Pb) : cBl (spB B S) p = [.int .i64 B.id,.int .i64 B.layers,.int .i64 B.dlo,.int .i64 B.dhi,.slice p.a1 n p.c1,.slice p.a2 B.weighs.length p.c2]:=by
 show [_,_,_,_,Value.slice p.a1 (spD 0 S).length p.c1,_] = _
 rw [spD_len,h]
 rfl
theorem spl_sp {S : List Sp} {j : Nat} {x : Int} (h : j < S.length) : splice ((spD 0 S).flatMap cDr) (0 + j * 4 + 2) (cSp ⟨x,x⟩) = (spD 0 (S.set j ⟨x,x⟩)).flatMap cDr:=by
 obtain ⟨s,hs⟩ : ∃ s,S[j]? = some s:=⟨_,List.getElem?_eq_getElem h⟩
 rw [Nat.zero_add,splice_dr (spD_get 0 S j s hs), ← spD_set]
theorem leav_sp {B : Bl} (hb : baleOk B) {j : Nat} {x : Int} : ((gradesOf B).set j ⟨x,x⟩).take (gsOf B).length = (gsOf B).set j ⟨x,x⟩:=by
 rw [gsOf_len hb]
 unfold gsOf
 rw [List.take_set]
def tsKa32 : List TOp:=[⟨some 149,[],[],[]⟩,⟨some 150,[0],[0],[]⟩,⟨some 151,[],[],[]⟩,⟨some 152,[],[],[]⟩,⟨some 153,[],[],[]⟩,⟨some 154,[3,4],[3,4],[]⟩,⟨some 155,[0,1,2,3,4,5],[1,2],[]⟩,⟨some 156,[0,1,2,3,4,5,6],[6],[]⟩,⟨none,[0,1,2,3,4,5,6,7],[7,5],[9]⟩,⟨none,[],[],[]⟩]
def valKa32 (b3 b11 b12 b23 bd n k1 cap j c12 aN : Nat) (left M x : Int) (S : List Sp) (k : Nat) (env : Env) : Value :=
 match k with
 | 0 => .pointer (some ⟨b23,4,none⟩)
 | 1 => .slice (some ⟨bd,0,none⟩) n k1
 | 2 => .int .i64 (j : Nat)
 | 3 => .int .i64 x
 | 4 => .int .i64 x
 | 5 => .agg (cSp ⟨x,x⟩).toArray
 | 6 => .pointer (some ⟨bd,0 + j * 4,none⟩)
 | 7 => .pointer (some ⟨bd,0 + j * 4 + 2,none⟩)
 | 8=>undef
 | _=>undef
def rowsKa32 (b3 b11 b12 b23 bd n k1 cap j c12 aN : Nat) (left M x : Int) (S : List Sp) (k : Nat) (env : Env) : List Row :=
 match k with
 | 8=>[⟨bd,0,(spD 0 (S.set j ⟨x,x⟩)).flatMap cDr,some 38,cap⟩]
 | 9=>[⟨bd,0,(spD 0 S).flatMap cDr,some 38,cap⟩]
 | _=>[]
theorem locKa32 (b3 b11 b12 b23 bd n k1 cap j c12 aN : Nat) (left M x : Int) (S : List Sp) : ∀ k env i q9,i ≠ k → (tAt tsKa32 k).sup.contains i = false → valKa32 b3 b11 b12 b23 bd n k1 cap j c12 aN left M x S k (upd env i q9)=valKa32 b3 b11 b12 b23 bd n k1 cap j c12 aN left M x S k env∧rowsKa32 b3 b11 b12 b23 bd n k1 cap j c12 aN left M x S k (upd env i q9)=rowsKa32 b3 b11 b12 b23 bd n k1 cap j c12 aN left M x S k env:=by
 intro k env i q hk hs
 have hu : ∀ j,j ≠ i → upd env i q j = env j:=fun j hj=>by unfold upd;rw [if_neg hj]
 match k,hk,hs with
 | 0,_,_=>exact ⟨rfl,rfl⟩
 | 1,_,_=>exact ⟨rfl,rfl⟩
 | 2,_,_=>exact ⟨rfl,rfl⟩
 | 3,_,_=>exact ⟨rfl,rfl⟩
 | 4,_,_=>exact ⟨rfl,rfl⟩
 | 5,_,_=>exact ⟨rfl,rfl⟩
 | 6,_,_=>exact ⟨rfl,rfl⟩
 | 7,_,_=>exact ⟨rfl,rfl⟩
 | 8,_,_=>exact ⟨rfl,rfl⟩
 | 9,_,_=>exact ⟨rfl,rfl⟩
 | _ + 10,_,_=>exact ⟨rfl,rfl⟩
set_option maxHeartbeats 8000000 in
theorem ask_r26 (B : Bl) (p pb : Pb) (z left : Int) (n aN b3 b11 b12 c12 cap3 cap11 : Nat) (ow3 ow11 : Option Kd) (h : Rdy B) (hn : n = (gsOf B).length) (hz : 0 ≤ z∧z ≤ 255) (haN : aN < n) (hl0 : left = leavB (gradesOf B) n aN) (hl1 : ∀ i,i < n → left ≤ leavB (gradesOf B) n i) (hl2 : ∀ i,i < aN → left < leavB (gradesOf B) n i) (F : FS) (G : List Row)
  (m3 : (⟨b3,0,cBl B p,ow3,cap3⟩ : Row) ∈ G) (m11 : (⟨b11,0,cBl (spB B (gsOf B)) pb,ow11,cap11⟩ : Row) ∈ G) (hBb : BlOk G (spB B (gsOf B)) pb) (hS : SlE G (some ⟨b12,0,none⟩) cSp 2 (gsOf B))
  (hF : Sub [(2,.int .u8 z),(3,.pointer (some ⟨b3,0,none⟩)),(7,.bool true),(8,.int .i64 (aN : Nat)),(9,.int .i64 left),(11,.pointer (some ⟨b11,0,none⟩)),(12,.slice (some ⟨b12,0,none⟩) n c12)] F) : X Tryz.prog 187 (csnd (csnd (csnd (csnd (csnd (csnd (csnd (csnd (csnd (csnd (csnd (csnd (csnd (csnd (cof Tryz.f8))))))))))))))) F G (retX Tryz.prog Tryz.f8 (fun v _=>v = .bool true)):=by
 refine X.weak hF (qR _) ?_
 have h5:=h.ok.h5
 have hgl:=gs_len h.ok
 obtain ⟨i,hi⟩ : ∃ i : Nat,z % B.layers = i:=⟨(z % B.layers).toNat,by have:=Int.emod_nonneg z (show B.layers ≠ 0 by omega);omega⟩
 have hin : i < n:=by have:=Int.emod_lt_of_pos z (show 0 < B.layers by omega);omega
 obtain ⟨s,hs⟩ : ∃ s,(gsOf B)[i]? = some s:=⟨_,List.getElem?_eq_getElem (by omega)⟩
 have hsv:=gs_ok h.ok h.can s (List.mem_of_getElem? hs)
 have hsp9 : spAt (gradesOf B) i = s:=by
  rw [← spAt_gs (B:=B) (by rw [← gsOf_len h.ok, ← hn];exact hin)]
  unfold spAt
  rw [List.getD_eq_getElem?_getD,hs]
  rfl
 repeat' (first | (refine uP rfl ?_;(first | ((first | refine uN rfl ?_);(first | (refine uE (uL (v := .int .i64 B.layers) rfl rfl (uO (te rfl) rfl m3 rfl)) rfl rfl ?_)|(refine uE (EvF.conv rfl rfl u8_und int_und (by omega) (by omega)) rfl rfl ?_)|(refine uE (v := .int .i64 (i : Nat)) (hi ▸ EvF.rem64 (p:=z) (q:=B.layers) rfl rfl rfl (by omega) (by omega)) rfl rfl ?_)|(refine uE (uJ (i:=(i : Int)) (len:=n) rfl rfl rfl (te rfl) (te rfl) (by omega) (by omega)) rfl rfl ?_)|(refine uE (uL rfl rfl (LoadV.el1 (hS) hs (te rfl) rfl (fun _ hm=>hm) rfl)) rfl rfl ?_)|(refine uE (uM rfl rfl) rfl rfl ?_)|(refine uE (uA rfl rfl) rfl rfl ?_)|(refine uE (uF rfl rfl (te rfl) rfl (te rfl) (by decide)) rfl rfl ?_)))))|(refine uD rfl ?_;refine hK _ _ ?_;clear hK K) | refine uS rfl ?_ | refine uR rfl (fun K hK=>?_) | refine X.block rfl ?_)
 obtain ⟨g,hg⟩ : ∃ g,g = gradesOf B:=⟨_,rfl⟩
 have hlb : leavB g n i = leavT g n i s.lo (s.hi - s.lo + 1).toNat:=by unfold leavB;rw [hg,hsp9]
 have hlt9:=leavT_bd g n i s.lo
 rw [← hg] at hl0 hl1 hl2
 obtain ⟨N,hN⟩ : ∃ N,N = (s.hi - s.lo + 1).toNat:=⟨_,rfl⟩
 rw [← hN] at hlb
 refine X.lp rfl (fun q F' H' => ∃ m : Nat,q = N - m∧m ≤ N∧G = H'∧F' = [(7,.bool true),(8,.int .i64 (aN : Nat)),(9,.int .i64 left),(11,.pointer (some ⟨b11,0,none⟩)),(12,.slice (some ⟨b12,0,none⟩) n c12),(20,.int .i64 (i : Nat)),(21,.int .i64 (leavT g n i s.lo m)),(22,.int .i64 (s.lo + (m : Nat)))])
  N [(7,.bool true),(8,.int .i64 (aN : Nat)),(9,.int .i64 left),(11,.pointer (some ⟨b11,0,none⟩)),(12,.slice (some ⟨b12,0,none⟩) n c12),(20,.int .i64 (i : Nat)),(21,.int .i64 (leavT g n i s.lo 0)),(22,.int .i64 (s.lo + (0 : Nat)))] _ (by rw [show s.lo + ((0 : Nat) : Int)=s.lo by omega];exact (by repeat (first | exact uU _ | refine uV rfl ?_))) (qR _) ⟨0,by omega,by omega,rfl,rfl⟩ ?_
 rintro _ _ _ ⟨m,rfl,hm,rfl,rfl⟩
 by_cases hlt : m < N
 ·have hlt' : s.lo + (m : Int)≤s.hi:=by omega
  obtain ⟨x,hx⟩ : ∃ x,x = s.lo + (m : Int):=⟨_,rfl⟩
  have hst : leavT g n i s.lo (m + 1)=max (leavT g n i s.lo m) (nKinds ((gsOf B).set i ⟨x,x⟩) : Int):=by
   have e : leavT g n i s.lo (m + 1)=max (leavT g n i s.lo m) (nKinds ((g.set i ⟨s.lo + m,s.lo + m⟩).take n) : Int):=by
    unfold leavT
    rw [List.range_succ,List.foldl_append]
    rfl
   rw [e, ← hx,hn,hg,leav_sp h.ok]
  have hbm:=hlt9 m
  obtain ⟨M,hM⟩ : ∃ M,M = leavT g n i s.lo m:=⟨_,rfl⟩
  rw [← hM] at hst hbm
  rw [← hM, ← hx]
  have hG9:=(gs_ok h.ok h.can).set (j:=i) (s:=⟨x,x⟩) (by dsimp only;omega)
  have hGl : (((gsOf B).set i ⟨x,x⟩).length : Int)=B.layers:=by rw [List.length_set];exact hgl
  have hr9 : Rdy (spB B ((gsOf B).set i ⟨x,x⟩)):=⟨spB_ok h.ok hG9 hGl,spB_can h.ok h.can hG9 hGl⟩
  have kk:=fun p' S hS=>lawKinds (spB B ((gsOf B).set i ⟨x,x⟩)) p' S hS hr9
  rw [gs_sp h.ok hG9 hGl] at kk
  have hnk:=nKinds_le ((gsOf B).set i ⟨x,x⟩)
  obtain ⟨nk,hnke⟩ : ∃ nk,nk = nKinds ((gsOf B).set i ⟨x,x⟩):=⟨_,rfl⟩
  rw [← hnke] at kk hst hnk
  repeat' (first | (refine uP rfl ?_;(first | ((first | refine uN rfl ?_);(first | (refine uE (uQ (b:=true) rfl rfl rfl (congrArg some (decide_eq_true (show x ≤ s.hi by omega)))) rfl rfl ?_)|(refine uE (uJ (i:=(i : Int)) (len:=n) rfl rfl rfl (te rfl) (te rfl) (by omega) (by omega)) rfl rfl ?_)|(refine uE (uL rfl rfl (LoadV.el1 (hS) hs (te rfl) rfl (fun _ hm=>hm) rfl)) rfl rfl ?_)|(refine uE (uL rfl rfl (uW (te rfl) rfl m11 rfl)) rfl rfl ?_)|(refine uC (uT rfl (Args.cons rfl Args.nil)) rfl rfl (twinB_spec (spB B (gsOf B)) pb _ hBb) ?_;rintro _ _ ⟨b1,k1,b2,k2,rfl,rfl⟩)|(refine Xg.st (StF.alloc rfl Tryz.zeroValue31 rfl) rfl rfl ?_;rintro _ _ ⟨bx,rfl,rfl⟩)|(refine Xg.st0 (uZ (i:=0) (vs:=cBl (spB B (gsOf B)) ⟨some ⟨b1,0,none⟩,k1,some ⟨b2,0,none⟩,k2⟩) rfl rfl rfl (te rfl) rfl rfl rfl rfl) rfl ?_;rintro _ _ ⟨rfl,rfl⟩;dsimp only [List.set])|(refine uE (uM rfl rfl) rfl rfl ?_)|(refine uE (uF rfl rfl (te rfl) rfl (te rfl) (by decide)) rfl rfl ?_)))))|(refine uD rfl ?_;refine hK _ _ ?_;clear hK K) | refine uS rfl ?_ | refine uR rfl (fun K hK=>?_) | refine X.block rfl ?_ | refine X.skip rfl ?_ | (refine X.ite rfl rfl (fun hc=>?_);(first | (with_reducible refine Xb.t hc ?_)) <;> clear hc))
  generalize bx = b23
  obtain ⟨S0,hS0⟩ : ∃ S0,S0 = gsOf B:=⟨_,rfl⟩
  have hn5 : n ≤ 5:=by omega
  rw [← hS0] at kk hn
  have hsp:=spl_sp (S:=S0) (j:=i) (x:=x) (by omega)
  have hln : 0 + i * 4 + 2 + 2 ≤ ((spD 0 S0).flatMap cDr).length:=by rw [lenDr,spD_len, ← hn];omega
  have hce:=sp_cells B S0 n hn.symm ⟨some ⟨b1,0,none⟩,k1,some ⟨b2,0,none⟩,k2⟩
  have hce2:=sp_cells B (S0.set i ⟨x,x⟩) n (by rw [List.length_set];exact hn.symm) ⟨some ⟨b1,0,none⟩,k1,some ⟨b2,0,none⟩,k2⟩
  refine X.permH (H' := ⟨b1,0,(spD 0 S0).flatMap cDr,some 38,k1 * 4⟩::⟨b23,0,cBl (spB B (gsOf B)) ⟨some ⟨b1,0,none⟩,k1,some ⟨b2,0,none⟩,k2⟩,some 31,6⟩::⟨b2,0,B.weighs.flatMap cDr,some 41,k2 * 4⟩::G) (by rw [hS0];exact List.Perm.swap _ _ _) ?_
  obtain ⟨G0,hG0⟩ : ∃ G0,G0 = (⟨b23,0,cBl (spB B (gsOf B)) ⟨some ⟨b1,0,none⟩,k1,some ⟨b2,0,none⟩,k2⟩,some 31,6⟩ : Row)::⟨b2,0,B.weighs.flatMap cDr,some 41,k2 * 4⟩::G:=⟨_,rfl⟩
  have m23 : (⟨b23,0,cBl (spB B (S0.set i ⟨x,x⟩)) ⟨some ⟨b1,0,none⟩,k1,some ⟨b2,0,none⟩,k2⟩,some 31,6⟩ : Row) ∈ G0:=by rw [hG0,hce2, ← hce,hS0];exact qH _
  have m23c : (⟨b23,0,[.int .i64 B.id,.int .i64 B.layers,.int .i64 B.dlo,.int .i64 B.dhi,.slice (some ⟨b1,0,none⟩) n k1,.slice (some ⟨b2,0,none⟩) B.weighs.length k2],some 31,6⟩ : Row) ∈ G0:=by rw [hG0, ← hS0,hce];exact qH _
  have m2 : (⟨b2,0,B.weighs.flatMap cDr,some 41,k2 * 4⟩ : Row) ∈ G0:=by rw [hG0];exact qT _ (qH _)
  have hGs : G.Sublist G0:=by rw [hG0];exact qC _ (List.sublist_cons_self _ _)
  rw [← hG0]
  clear hG0 hce hce2
  have hkB : BlOk (⟨b1,0,(spD 0 (S0.set i ⟨x,x⟩)).flatMap cDr,some 38,k1 * 4⟩::G0) (spB B (S0.set i ⟨x,x⟩)) ⟨some ⟨b1,0,none⟩,k1,some ⟨b2,0,none⟩,k2⟩:=⟨SlE.ofRow (qH _) (fun _ _=>rfl),SlE.ofRow (qT _ m2) (fun _ _=>rfl),by show (spD 0 _).length ≤ _;rw [spD_len,List.length_set];omega,by have:=h.l.2;show B.weighs.length ≤ _;omega⟩
  refine X.weak (F' := [(7,.bool true),(8,.int .i64 (aN : Nat)),(9,.int .i64 left),(11,.pointer (some ⟨b11,0,none⟩)),(12,.slice (some ⟨b12,0,none⟩) n c12),(20,.int .i64 (i : Nat)),(21,.int .i64 M),(22,.int .i64 x),(23,.pointer (some ⟨b23,0,none⟩))]) (H' := ⟨b1,0,(spD 0 S0).flatMap cDr,some 38,k1 * 4⟩::G0) (by repeat (first | exact uU _ | refine uV rfl ?_)) (qR _) ?_
  refine X.regionOb tsKa32 [7,8,9,11,12,20,21,22,23] [(7,.bool true),(8,.int .i64 (aN : Nat)),(9,.int .i64 left),(11,.pointer (some ⟨b11,0,none⟩)),(12,.slice (some ⟨b12,0,none⟩) n c12),(20,.int .i64 (i : Nat)),(21,.int .i64 M),(22,.int .i64 x),(23,.pointer (some ⟨b23,0,none⟩))] (valKa32 b3 b11 b12 b23 b1 n k1 (k1 * 4) i c12 aN left M x S0) (rowsKa32 b3 b11 b12 b23 b1 n k1 (k1 * 4) i c12 aN left M x S0) (fun _=>(0,0)) (G0) rfl mixed (by repeat (first | exact uU _ | refine uV rfl ?_)) rfl (by kernel_rfl) (locKa32 b3 b11 b12 b23 b1 n k1 (k1 * 4) i c12 aN left M x S0) (qR _) ?_ ?_
  ·repeat' (first | exact AllF.done rfl | (refine AllF.step rfl ?_ ?_;·(first | fail | ((first | refine Ob.ng rfl ?_);(first | exact uK (fun env R hR=>by exact ⟨_,uM rfl rfl,rfl⟩) rfl (fun _=>rfl) | exact uK (fun env R hR=>by exact ⟨_,uF rfl rfl (te rfl) rfl (te rfl) (by decide),rfl⟩) rfl (fun _=>rfl)|(exact uK (fun env S hS=>⟨_,uL rfl rfl (uO (te rfl) rfl (hS _ m23c) rfl),rfl⟩) rfl (fun _=>rfl))|(exact fun env S hS=>OpF.callV (Z:=[]) (uT rfl (Args.cons rfl (Args.cons rfl Args.nil))) (lawSpan x x S) rfl rfl)|((refine uK (fun env S hS=>⟨.pointer (some ⟨b1,0 + i * 4,none⟩),?_,rfl⟩) rfl (fun _=>rfl);exact uJ (i:=(i : Int)) (off:=0) (b:=b1) (T:=28) (e:=38) (len:=n) rfl rfl rfl (te rfl) (te rfl) (by omega) (by omega)))|(exact fun env S hS=>(StF.storeAt (q:=0) (j:=0 + i * 4 + 2) (vs:=cSp ⟨x,x⟩) (cs:=(spD 0 S0).flatMap cDr) rfl rfl rfl (te rfl) rfl rfl rfl hln).op.mono (fun v H' ⟨hv,hH⟩=>⟨(0,0),fun h=>absurd rfl h,by rw [hH,hsp];exact List.Perm.refl _⟩)))))))
  ·intro env t ha2 hv
   refine ⟨_,ha2,?_⟩
   clear hv ha2
   show X _ _ _ _ (⟨b1,0,(spD 0 (S0.set i ⟨x,x⟩)).flatMap cDr,some 38,k1 * 4⟩::G0) _
   repeat' (first | (refine uP rfl ?_;(first | ((first | refine uN rfl ?_);(first | (refine uE (uL rfl rfl (uW (te rfl) rfl (qT _ m23) rfl)) rfl rfl ?_)|(refine uC (uT rfl (Args.cons rfl Args.nil)) rfl rfl (kk _ _ hkB) ?_;rintro _ _ ⟨rfl,rfl⟩)|(refine uE (EvF.max64 rfl rfl rfl) rfl rfl ?_)|(refine uE (EvF.add64 (p:=x) (q:=1) rfl rfl rfl (by omega) (by omega)) rfl rfl ?_)|(refine uE (uM rfl rfl) rfl rfl ?_)|(refine uE (uA rfl rfl) rfl rfl ?_)))))|(refine uD rfl ?_;refine hK _ _ ?_;clear hK K) | refine uR rfl (fun K hK=>?_))
   all_goals try (exfalso;contradiction)
   exact ⟨_,_,_,(by rw [hst,show s.lo + ((m + 1 : Nat) : Int)=x + 1 by omega];exact (by repeat (first | exact uU _ | refine uV rfl ?_))),qC _ hGs,⟨m + 1,rfl,by omega,rfl,rfl⟩,by omega⟩
 ·obtain rfl : m = N:=by omega
  have hlt' : ¬ s.lo + (m : Int)≤s.hi:=by omega
  have c1:=hl1 i hin
  rw [hlb] at c1
  have c2 : i < aN → left < leavT g n i s.lo m:=fun q=>by have:=hl2 i q;omega
  have c3 : i = aN → leavT g n i s.lo m = left:=fun q=>by rw [hl0, ← q,hlb]
  obtain ⟨M,hM⟩ : ∃ M,M = leavT g n i s.lo m:=⟨_,rfl⟩
  rw [← hM] at c1 c2 c3
  rw [← hM]
  have c1' : M ≥ left:=c1
  by_cases hia : i = aN
  ·have e1 : M = left:=c3 hia
   have e2 : ¬ M > left:=by omega
   have e3 : (i : Int) ≥ aN:=by omega
   have e4 : (i : Int)=aN:=by omega
   repeat' (first | (refine uP rfl ?_;(first | ((first | refine uN rfl ?_ | (refine Xo.g rfl rfl ?_;with_reducible refine Xw.tt ?_)|(refine Xo.g rfl rfl ?_;with_reducible refine Xw.ff ?_));(first | (refine uE (uQ (b:=false) rfl rfl rfl (congrArg some (decide_eq_false hlt'))) rfl rfl ?_)|(refine uE (uJ (i:=(i : Int)) (len:=n) rfl rfl rfl (te rfl) (te rfl) (by omega) (by omega)) rfl rfl ?_)|(refine uE (uL rfl rfl (LoadV.el1 (hS) hs (te rfl) rfl (fun _ hm=>hm) rfl)) rfl rfl ?_)|(refine uE (uQ (b:=true) rfl rfl rfl (congrArg some (decide_eq_true c1'))) rfl rfl ?_)|(refine uE (uQ (b:=false) rfl rfl rfl (congrArg some (decide_eq_false e2))) rfl rfl ?_)|(refine uE (uQ (b:=true) rfl rfl rfl (congrArg some (decide_eq_true e3))) rfl rfl ?_)|(refine uE (uQ (b:=false) rfl rfl rfl (congrArg some (nd_f e4))) rfl rfl ?_)|(refine uE (uQ (b:=true) rfl rfl rfl (congrArg some (decide_eq_true e1))) rfl rfl ?_)|(refine uE (uM rfl rfl) rfl rfl ?_)|(refine uE (uA rfl rfl) rfl rfl ?_)|(refine uE (EvF.pickT rfl rfl rfl) rfl rfl ?_)|(refine uE (EvF.pickF rfl rfl rfl) rfl rfl ?_)|(refine uE (uF rfl rfl (te rfl) rfl (te rfl) (by decide)) rfl rfl ?_)))))|(refine uD rfl ?_;refine hK _ _ ?_;clear hK K) | refine uS rfl ?_ | refine uR rfl (fun K hK=>?_)|(refine X.brk rfl ?_;repeat (first | refine blockX_hit rfl ?_ | refine blockX_miss (by decide) ?_)) | refine X.ret rfl ?_ | (refine X.ite rfl rfl (fun hc=>?_);(first | (with_reducible refine Xb.f hc ?_)) <;> clear hc))
   all_goals try (exfalso;contradiction)
   exact ret_one (by simp) Tryz.results8 rfl (H' := _) (qR _) rfl
  ·have e4 : ¬ (i : Int)=aN:=by omega
   by_cases hgt : M > left
   ·repeat' (first | (refine uP rfl ?_;(first | ((first | refine uN rfl ?_ | (refine Xo.g rfl rfl ?_;with_reducible refine Xw.tt ?_));(first | (refine uE (uQ (b:=false) rfl rfl rfl (congrArg some (decide_eq_false hlt'))) rfl rfl ?_)|(refine uE (uJ (i:=(i : Int)) (len:=n) rfl rfl rfl (te rfl) (te rfl) (by omega) (by omega)) rfl rfl ?_)|(refine uE (uL rfl rfl (LoadV.el1 (hS) hs (te rfl) rfl (fun _ hm=>hm) rfl)) rfl rfl ?_)|(refine uE (uQ (b:=true) rfl rfl rfl (congrArg some (decide_eq_true c1'))) rfl rfl ?_)|(refine uE (uQ (b:=true) rfl rfl rfl (congrArg some (decide_eq_true hgt))) rfl rfl ?_)|(refine uE (uQ (b:=true) rfl rfl rfl (congrArg some (nd_t e4))) rfl rfl ?_)|(refine uE (uM rfl rfl) rfl rfl ?_)|(refine uE (uA rfl rfl) rfl rfl ?_)|(refine uE (EvF.pickT rfl rfl rfl) rfl rfl ?_)|(refine uE (uF rfl rfl (te rfl) rfl (te rfl) (by decide)) rfl rfl ?_)))|(refine Xo.g rfl rfl ?_;(first | (with_reducible refine Xw.tf rfl rfl ?_)))))|(refine uD rfl ?_;refine hK _ _ ?_;clear hK K) | refine uS rfl ?_ | refine uR rfl (fun K hK=>?_)|(refine X.brk rfl ?_;repeat (first | refine blockX_hit rfl ?_ | refine blockX_miss (by decide) ?_)) | refine X.ret rfl ?_ | (refine X.ite rfl rfl (fun hc=>?_);(first | (with_reducible refine Xb.f hc ?_)) <;> clear hc))
    all_goals try (exfalso;contradiction)
    exact ret_one (by simp) Tryz.results8 rfl (H' := _) (qR _) rfl
   ·have e3 : (i : Int) ≥ aN:=by
     refine Classical.byContradiction fun q=>?_
     have:=c2 (by omega)
     omega
    repeat' (first | (refine uP rfl ?_;(first | ((first | refine uN rfl ?_ | (refine Xo.g rfl rfl ?_;with_reducible refine Xw.tt ?_)|(refine Xo.g rfl rfl ?_;with_reducible refine Xw.ff ?_));(first | (refine uE (uQ (b:=false) rfl rfl rfl (congrArg some (decide_eq_false hlt'))) rfl rfl ?_)|(refine uE (uJ (i:=(i : Int)) (len:=n) rfl rfl rfl (te rfl) (te rfl) (by omega) (by omega)) rfl rfl ?_)|(refine uE (uL rfl rfl (LoadV.el1 (hS) hs (te rfl) rfl (fun _ hm=>hm) rfl)) rfl rfl ?_)|(refine uE (uQ (b:=true) rfl rfl rfl (congrArg some (decide_eq_true c1'))) rfl rfl ?_)|(refine uE (uQ (b:=false) rfl rfl rfl (congrArg some (decide_eq_false hgt))) rfl rfl ?_)|(refine uE (uQ (b:=true) rfl rfl rfl (congrArg some (decide_eq_true e3))) rfl rfl ?_)|(refine uE (uQ (b:=true) rfl rfl rfl (congrArg some (nd_t e4))) rfl rfl ?_)|(refine uE (uM rfl rfl) rfl rfl ?_)|(refine uE (uA rfl rfl) rfl rfl ?_)|(refine uE (EvF.pickT rfl rfl rfl) rfl rfl ?_)|(refine uE (EvF.pickF rfl rfl rfl) rfl rfl ?_)|(refine uE (uF rfl rfl (te rfl) rfl (te rfl) (by decide)) rfl rfl ?_)))|(refine Xo.g rfl rfl ?_;(first | (with_reducible refine Xw.tf rfl rfl ?_)))))|(refine uD rfl ?_;refine hK _ _ ?_;clear hK K) | refine uS rfl ?_ | refine uR rfl (fun K hK=>?_)|(refine X.brk rfl ?_;repeat (first | refine blockX_hit rfl ?_ | refine blockX_miss (by decide) ?_)) | refine X.ret rfl ?_ | (refine X.ite rfl rfl (fun hc=>?_);(first | (with_reducible refine Xb.f hc ?_)) <;> clear hc))
    all_goals try (exfalso;contradiction)
    exact ret_one (by simp) Tryz.results8 rfl (H' := _) (qR _) rfl
theorem leavT_ge (g : List Sp) (n j : Nat) (lo : Int) : ∀ m k : Nat,k < m → (nKinds ((g.set j ⟨lo + k,lo + k⟩).take n) : Int)≤leavT g n j lo m
 | 0,_,h=>absurd h (Nat.not_lt_zero _)
 | m + 1,k,h=>by
  have e : leavT g n j lo (m + 1)=max (leavT g n j lo m) (nKinds ((g.set j ⟨lo + m,lo + m⟩).take n) : Int):=by
   unfold leavT
   rw [List.range_succ,List.foldl_append]
   rfl
  rw [e]
  by_cases q : k = m
  ·subst q
   exact Int.le_max_right _ _
  ·exact Int.le_trans (leavT_ge g n j lo m k (by omega)) (Int.le_max_left _ _)
def tsKa20 : List TOp:=[⟨some 97,[],[],[]⟩,⟨some 98,[0],[0],[]⟩,⟨some 99,[],[],[]⟩,⟨some 100,[2],[2],[]⟩,⟨some 101,[],[],[]⟩,⟨some 102,[4],[4],[]⟩,⟨some 103,[],[],[]⟩,⟨some 104,[6],[6],[]⟩,⟨some 105,[4,5,6,7],[5,7],[]⟩,⟨some 106,[4,5,6,7,8],[8],[]⟩,⟨some 107,[2,3,4,5,6,7,8,9],[3,9],[]⟩,⟨some 108,[0,1,2,3,4,5,6,7,8,9,10],[1,10],[]⟩,⟨some 17,[0,1,2,3,4,5,6,7,8,9,10,11],[11],[]⟩]
def valKa20 (b3 b11 b12 b16 aN n c12 : Nat) (left y z : Int) (s : Sp) (k : Nat) (env : Env) : Value :=
 match k with
 | 0 => .pointer (some ⟨b16,0,none⟩)
 | 1 => .int .i64 s.lo
 | 2 => .int .u8 y
 | 3 => .int .i64 y
 | 4 => .pointer (some ⟨b16,1,none⟩)
 | 5 => .int .i64 s.hi
 | 6 => .pointer (some ⟨b16,0,none⟩)
 | 7 => .int .i64 s.lo
 | 8 => .int .i64 (s.hi - s.lo)
 | 9 => .int .i64 (s.hi - s.lo + 1)
 | 10 => .int .i64 (y % (s.hi - s.lo + 1))
 | 11 => .int .i64 (s.lo + y % (s.hi - s.lo + 1))
 | 12 => .int .i64 (s.lo + y % (s.hi - s.lo + 1))
 | _=>undef
def rowsKa20 (b3 b11 b12 b16 aN n c12 : Nat) (left y z : Int) (s : Sp) (k : Nat) (env : Env) : List Row :=
 match k with
 | _=>[]
theorem locKa20 (b3 b11 b12 b16 aN n c12 : Nat) (left y z : Int) (s : Sp) : ∀ k env i q9,i ≠ k → (tAt tsKa20 k).sup.contains i = false → valKa20 b3 b11 b12 b16 aN n c12 left y z s k (upd env i q9)=valKa20 b3 b11 b12 b16 aN n c12 left y z s k env∧rowsKa20 b3 b11 b12 b16 aN n c12 left y z s k (upd env i q9)=rowsKa20 b3 b11 b12 b16 aN n c12 left y z s k env:=by
 intro k env i q hk hs
 have hu : ∀ j,j ≠ i → upd env i q j = env j:=fun j hj=>by unfold upd;rw [if_neg hj]
 match k,hk,hs with
 | 0,_,_=>exact ⟨rfl,rfl⟩
 | 1,_,_=>exact ⟨rfl,rfl⟩
 | 2,_,_=>exact ⟨rfl,rfl⟩
 | 3,_,_=>exact ⟨rfl,rfl⟩
 | 4,_,_=>exact ⟨rfl,rfl⟩
 | 5,_,_=>exact ⟨rfl,rfl⟩
 | 6,_,_=>exact ⟨rfl,rfl⟩
 | 7,_,_=>exact ⟨rfl,rfl⟩
 | 8,_,_=>exact ⟨rfl,rfl⟩
 | 9,_,_=>exact ⟨rfl,rfl⟩
 | 10,_,_=>exact ⟨rfl,rfl⟩
 | 11,_,_=>exact ⟨rfl,rfl⟩
 | 12,_,_=>exact ⟨rfl,rfl⟩
 | _ + 13,_,_=>exact ⟨rfl,rfl⟩
def tsKa22 : List TOp:=[⟨some 111,[],[],[]⟩,⟨some 112,[0],[0],[]⟩,⟨some 113,[],[],[]⟩,⟨some 114,[],[],[]⟩,⟨some 115,[],[],[]⟩,⟨some 116,[3,4],[3,4],[]⟩,⟨some 117,[0,1,2,3,4,5],[1,2],[]⟩,⟨some 118,[0,1,2,3,4,5,6],[6],[]⟩,⟨none,[0,1,2,3,4,5,6,7],[7,5],[9]⟩,⟨none,[],[],[]⟩]
def valKa22 (b3 b11 b12 b18 bd n k1 cap j c12 : Nat) (left x z : Int) (S : List Sp) (k : Nat) (env : Env) : Value :=
 match k with
 | 0 => .pointer (some ⟨b18,4,none⟩)
 | 1 => .slice (some ⟨bd,0,none⟩) n k1
 | 2 => .int .i64 (j : Nat)
 | 3 => .int .i64 x
 | 4 => .int .i64 x
 | 5 => .agg (cSp ⟨x,x⟩).toArray
 | 6 => .pointer (some ⟨bd,0 + j * 4,none⟩)
 | 7 => .pointer (some ⟨bd,0 + j * 4 + 2,none⟩)
 | 8=>undef
 | _=>undef
def rowsKa22 (b3 b11 b12 b18 bd n k1 cap j c12 : Nat) (left x z : Int) (S : List Sp) (k : Nat) (env : Env) : List Row :=
 match k with
 | 8=>[⟨bd,0,(spD 0 (S.set j ⟨x,x⟩)).flatMap cDr,some 38,cap⟩]
 | 9=>[⟨bd,0,(spD 0 S).flatMap cDr,some 38,cap⟩]
 | _=>[]
theorem locKa22 (b3 b11 b12 b18 bd n k1 cap j c12 : Nat) (left x z : Int) (S : List Sp) : ∀ k env i q9,i ≠ k → (tAt tsKa22 k).sup.contains i = false → valKa22 b3 b11 b12 b18 bd n k1 cap j c12 left x z S k (upd env i q9)=valKa22 b3 b11 b12 b18 bd n k1 cap j c12 left x z S k env∧rowsKa22 b3 b11 b12 b18 bd n k1 cap j c12 left x z S k (upd env i q9)=rowsKa22 b3 b11 b12 b18 bd n k1 cap j c12 left x z S k env:=by
 intro k env i q hk hs
 have hu : ∀ j,j ≠ i → upd env i q j = env j:=fun j hj=>by unfold upd;rw [if_neg hj]
 match k,hk,hs with
 | 0,_,_=>exact ⟨rfl,rfl⟩
 | 1,_,_=>exact ⟨rfl,rfl⟩
 | 2,_,_=>exact ⟨rfl,rfl⟩
 | 3,_,_=>exact ⟨rfl,rfl⟩
 | 4,_,_=>exact ⟨rfl,rfl⟩
 | 5,_,_=>exact ⟨rfl,rfl⟩
 | 6,_,_=>exact ⟨rfl,rfl⟩
 | 7,_,_=>exact ⟨rfl,rfl⟩
 | 8,_,_=>exact ⟨rfl,rfl⟩
 | 9,_,_=>exact ⟨rfl,rfl⟩
 | _ + 10,_,_=>exact ⟨rfl,rfl⟩
set_option maxHeartbeats 8000000 in
theorem ask_r19 (B : Bl) (p pb : Pb) (z left : Int) (n aN b3 b11 b12 c12 cap3 cap11 : Nat) (ow3 ow11 : Option Kd) (h : Rdy B) (hn : n = (gsOf B).length) (hz : 0 ≤ z∧z ≤ 255) (haN : aN < n) (hl0 : left = leavB (gradesOf B) n aN) (hl1 : ∀ i,i < n → left ≤ leavB (gradesOf B) n i) (hl2 : ∀ i,i < aN → left < leavB (gradesOf B) n i) (F : FS) (G : List Row)
  (m3 : (⟨b3,0,cBl B p,ow3,cap3⟩ : Row) ∈ G) (m11 : (⟨b11,0,cBl (spB B (gsOf B)) pb,ow11,cap11⟩ : Row) ∈ G) (hBb : BlOk G (spB B (gsOf B)) pb) (hS : SlE G (some ⟨b12,0,none⟩) cSp 2 (gsOf B)) (y : Int) (hy : 0 ≤ y∧y ≤ 255)
  (hF : Sub [(1,.int .u8 y),(2,.int .u8 z),(3,.pointer (some ⟨b3,0,none⟩)),(7,.bool true),(8,.int .i64 (aN : Nat)),(9,.int .i64 left),(11,.pointer (some ⟨b11,0,none⟩)),(12,.slice (some ⟨b12,0,none⟩) n c12)] F) : X Tryz.prog 187 (csnd (csnd (csnd (csnd (csnd (csnd (csnd (csnd (csnd (cof Tryz.f8)))))))))) F G (retX Tryz.prog Tryz.f8 (fun v _=>v = .bool true)):=by
 refine X.weak hF (qR _) ?_
 have h5:=h.ok.h5
 have hgl:=gs_len h.ok
 obtain ⟨s,hs⟩ : ∃ s,(gsOf B)[aN]? = some s:=⟨_,List.getElem?_eq_getElem (by omega)⟩
 have hsv:=gs_ok h.ok h.can s (List.mem_of_getElem? hs)
 have hsp9 : spAt (gradesOf B) aN = s:=by
  rw [← spAt_gs (B:=B) (by rw [← gsOf_len h.ok, ← hn];exact haN)]
  unfold spAt
  rw [List.getD_eq_getElem?_getD,hs]
  rfl
 have hm0:=Int.emod_nonneg y (show s.hi - s.lo + 1 ≠ 0 by omega)
 have hm1:=Int.emod_lt_of_pos y (show 0 < s.hi - s.lo + 1 by omega)
 repeat' (first | (refine uP rfl ?_;(first | ((first | refine uN rfl ?_);(first | (refine uE (uJ (i:=(aN : Int)) (len:=n) rfl rfl rfl (te rfl) (te rfl) (by omega) (by omega)) rfl rfl ?_)|(refine uE (uL rfl rfl (LoadV.elA0 (hS) hs (te rfl) rfl (fun _ hm=>hm) rfl)) rfl rfl ?_)|(refine Xg.st (StF.alloc rfl Tryz.zeroValue24 rfl) rfl rfl ?_;rintro _ _ ⟨bx,rfl,rfl⟩)|(refine Xg.st0 (uZ (i:=0) (vs:=cSp s) rfl rfl rfl (te rfl) rfl rfl rfl rfl) rfl ?_;rintro _ _ ⟨rfl,rfl⟩;dsimp only [List.set])|(refine uE (uM rfl rfl) rfl rfl ?_)))))|(refine uD rfl ?_;refine hK _ _ ?_;clear hK K) | refine uS rfl ?_ | refine uR rfl (fun K hK=>?_))
 generalize bx = b16
 refine X.weak (F' := [(1,.int .u8 y),(2,.int .u8 z),(3,.pointer (some ⟨b3,0,none⟩)),(7,.bool true),(8,.int .i64 (aN : Nat)),(9,.int .i64 left),(11,.pointer (some ⟨b11,0,none⟩)),(12,.slice (some ⟨b12,0,none⟩) n c12),(16,.pointer (some ⟨b16,0,none⟩))]) (H' := ⟨b16,0,cSp s,some 24,2⟩::G) (by repeat (first | exact uU _ | refine uV rfl ?_)) (qR _) ?_
 refine X.regionOb tsKa20 [1,2,3,7,8,9,11,12,16] [(1,.int .u8 y),(2,.int .u8 z),(3,.pointer (some ⟨b3,0,none⟩)),(7,.bool true),(8,.int .i64 (aN : Nat)),(9,.int .i64 left),(11,.pointer (some ⟨b11,0,none⟩)),(12,.slice (some ⟨b12,0,none⟩) n c12),(16,.pointer (some ⟨b16,0,none⟩))] (valKa20 b3 b11 b12 b16 aN n c12 left y z s) (rowsKa20 b3 b11 b12 b16 aN n c12 left y z s) (fun _=>(0,0)) (⟨b16,0,cSp s,some 24,2⟩::G) rfl mixed (by repeat (first | exact uU _ | refine uV rfl ?_)) rfl (by kernel_rfl) (locKa20 b3 b11 b12 b16 aN n c12 left y z s) (qR _) ?_ ?_
 ·repeat' (first | exact AllF.done rfl | (refine AllF.step rfl ?_ ?_;·(first | fail | ((first | refine Ob.ng rfl ?_);(first | exact uK (fun env R hR=>by exact ⟨_,uM rfl rfl,rfl⟩) rfl (fun _=>rfl) | exact uK (fun env R hR=>by exact ⟨_,uA rfl rfl,rfl⟩) rfl (fun _=>rfl) | exact uK (fun env R hR=>by exact ⟨_,uF rfl rfl (te rfl) rfl (te rfl) (by decide),rfl⟩) rfl (fun _=>rfl) | exact uK (fun env R hR=>by exact ⟨_,uL rfl rfl (uO (te rfl) rfl (hR _ (qH _)) rfl),rfl⟩) rfl (fun _=>rfl)|(exact uK (fun env S hS=>⟨_,EvF.conv rfl rfl u8_und int_und (by omega) (by omega),rfl⟩) rfl (fun _=>rfl))|(exact uK (fun env S hS=>⟨_,EvF.sub64 (p:=s.hi) (q:=s.lo) rfl rfl rfl (by omega) (by omega),rfl⟩) rfl (fun _=>rfl))|(exact uK (fun env S hS=>⟨_,EvF.add64 (p:=s.hi - s.lo) (q:=1) rfl rfl rfl (by omega) (by omega),rfl⟩) rfl (fun _=>rfl))|(exact uK (fun env S hS=>⟨_,EvF.rem64 (p:=y) (q:=s.hi - s.lo + 1) rfl rfl rfl (by omega) (by omega),rfl⟩) rfl (fun _=>rfl))|(exact uK (fun env S hS=>⟨_,EvF.add64 (p:=s.lo) (q:=y % (s.hi - s.lo + 1)) rfl rfl rfl (by omega) (by omega),rfl⟩) rfl (fun _=>rfl)))))))
 ·intro env t ha2 hv;refine ⟨_,ha2.cons (hv 12 17 (Nat.le_of_ble_eq_true rfl) rfl),?_⟩;clear hv ha2
  show X _ _ _ [(17,.int .i64 (s.lo + y % (s.hi - s.lo + 1))),(1,.int .u8 y),(2,.int .u8 z),(3,.pointer (some ⟨b3,0,none⟩)),(7,.bool true),(8,.int .i64 (aN : Nat)),(9,.int .i64 left),(11,.pointer (some ⟨b11,0,none⟩)),(12,.slice (some ⟨b12,0,none⟩) n c12),(16,.pointer (some ⟨b16,0,none⟩))] (⟨b16,0,cSp s,some 24,2⟩::G) _
  obtain ⟨m,hm⟩ : ∃ m : Nat,y % (s.hi - s.lo + 1)=m:=⟨(y % (s.hi - s.lo + 1)).toNat,by omega⟩
  rw [hm] at hm0 hm1 ⊢
  obtain ⟨x,hx⟩ : ∃ x,x = s.lo + (m : Int):=⟨_,rfl⟩
  rw [← hx]
  have hlv : (nKinds ((gsOf B).set aN ⟨x,x⟩) : Int)≤left:=by
   have:=leavT_ge (gradesOf B) n aN s.lo (s.hi - s.lo + 1).toNat m (by omega)
   rw [← hx,hn,leav_sp h.ok] at this
   rw [hl0]
   unfold leavB
   rw [hsp9,hn]
   exact this
  have hG9:=(gs_ok h.ok h.can).set (j:=aN) (s:=⟨x,x⟩) (by dsimp only;omega)
  have hnk1:=nK_pos hG9
  have hGl : (((gsOf B).set aN ⟨x,x⟩).length : Int)=B.layers:=by rw [List.length_set];exact hgl
  have hr9 : Rdy (spB B ((gsOf B).set aN ⟨x,x⟩)):=⟨spB_ok h.ok hG9 hGl,spB_can h.ok h.can hG9 hGl⟩
  have kk:=fun p' S hS=>lawKinds (spB B ((gsOf B).set aN ⟨x,x⟩)) p' S hS hr9
  rw [gs_sp h.ok hG9 hGl] at kk
  obtain ⟨nk,hnke⟩ : ∃ nk,nk = nKinds ((gsOf B).set aN ⟨x,x⟩):=⟨_,rfl⟩
  rw [← hnke] at kk hlv hnk1
  repeat' (first | (refine uP rfl ?_;(first | ((first | refine uN rfl ?_);(first | (refine uE (uL rfl rfl (uW (te rfl) rfl (qT _ m11) rfl)) rfl rfl ?_)|(refine uC (uT rfl (Args.cons rfl Args.nil)) rfl rfl (twinB_spec (spB B (gsOf B)) pb _ (hBb.sub (fun _ q=>qT _ q))) ?_;rintro _ _ ⟨b1,k1,b2,k2,rfl,rfl⟩)|(refine Xg.st (StF.alloc rfl Tryz.zeroValue31 rfl) rfl rfl ?_;rintro _ _ ⟨bx,rfl,rfl⟩)|(refine Xg.st0 (uZ (i:=0) (vs:=cBl (spB B (gsOf B)) ⟨some ⟨b1,0,none⟩,k1,some ⟨b2,0,none⟩,k2⟩) rfl rfl rfl (te rfl) rfl rfl rfl rfl) rfl ?_;rintro _ _ ⟨rfl,rfl⟩;dsimp only [List.set])))))|(refine uD rfl ?_;refine hK _ _ ?_;clear hK K) | refine uS rfl ?_ | refine uR rfl (fun K hK=>?_))
  generalize bx = b18
  obtain ⟨S0,hS0⟩ : ∃ S0,S0 = gsOf B:=⟨_,rfl⟩
  have hn5 : n ≤ 5:=by omega
  rw [← hS0] at kk
  have hn9 : n = S0.length:=by rw [hS0];exact hn
  have hsp:=spl_sp (S:=S0) (j:=aN) (x:=x) (by omega)
  have hln : 0 + aN * 4 + 2 + 2 ≤ ((spD 0 S0).flatMap cDr).length:=by rw [lenDr,spD_len, ← hn9];omega
  have hce:=sp_cells B S0 n hn9.symm ⟨some ⟨b1,0,none⟩,k1,some ⟨b2,0,none⟩,k2⟩
  have hce2:=sp_cells B (S0.set aN ⟨x,x⟩) n (by rw [List.length_set];exact hn9.symm) ⟨some ⟨b1,0,none⟩,k1,some ⟨b2,0,none⟩,k2⟩
  refine X.permH (H' := ⟨b1,0,(spD 0 S0).flatMap cDr,some 38,k1 * 4⟩::⟨b18,0,cBl (spB B (gsOf B)) ⟨some ⟨b1,0,none⟩,k1,some ⟨b2,0,none⟩,k2⟩,some 31,6⟩::⟨b2,0,B.weighs.flatMap cDr,some 41,k2 * 4⟩::⟨b16,0,cSp s,some 24,2⟩::G) (by rw [hS0];exact List.Perm.swap _ _ _) ?_
  obtain ⟨G0,hG0⟩ : ∃ G0,G0 = (⟨b18,0,cBl (spB B (gsOf B)) ⟨some ⟨b1,0,none⟩,k1,some ⟨b2,0,none⟩,k2⟩,some 31,6⟩ : Row)::⟨b2,0,B.weighs.flatMap cDr,some 41,k2 * 4⟩::⟨b16,0,cSp s,some 24,2⟩::G:=⟨_,rfl⟩
  have m23 : (⟨b18,0,cBl (spB B (S0.set aN ⟨x,x⟩)) ⟨some ⟨b1,0,none⟩,k1,some ⟨b2,0,none⟩,k2⟩,some 31,6⟩ : Row) ∈ G0:=by rw [hG0,hce2, ← hce,hS0];exact qH _
  have m23c : (⟨b18,0,[.int .i64 B.id,.int .i64 B.layers,.int .i64 B.dlo,.int .i64 B.dhi,.slice (some ⟨b1,0,none⟩) n k1,.slice (some ⟨b2,0,none⟩) B.weighs.length k2],some 31,6⟩ : Row) ∈ G0:=by rw [hG0, ← hS0,hce];exact qH _
  have m2 : (⟨b2,0,B.weighs.flatMap cDr,some 41,k2 * 4⟩ : Row) ∈ G0:=by rw [hG0];exact qT _ (qH _)
  have hGs : ∀ r ∈ G,r ∈ G0:=fun r q=>by rw [hG0];exact qT _ (qT _ (qT _ q))
  rw [← hG0]
  clear hG0 hce hce2
  have hkB : BlOk (⟨b1,0,(spD 0 (S0.set aN ⟨x,x⟩)).flatMap cDr,some 38,k1 * 4⟩::G0) (spB B (S0.set aN ⟨x,x⟩)) ⟨some ⟨b1,0,none⟩,k1,some ⟨b2,0,none⟩,k2⟩:=⟨SlE.ofRow (qH _) (fun _ _=>rfl),SlE.ofRow (qT _ m2) (fun _ _=>rfl),by show (spD 0 _).length ≤ _;rw [spD_len,List.length_set];omega,by have:=h.l.2;show B.weighs.length ≤ _;omega⟩
  refine X.weak (F' := [(2,.int .u8 z),(3,.pointer (some ⟨b3,0,none⟩)),(7,.bool true),(8,.int .i64 (aN : Nat)),(9,.int .i64 left),(11,.pointer (some ⟨b11,0,none⟩)),(12,.slice (some ⟨b12,0,none⟩) n c12),(17,.int .i64 x),(18,.pointer (some ⟨b18,0,none⟩))]) (H' := ⟨b1,0,(spD 0 S0).flatMap cDr,some 38,k1 * 4⟩::G0) (by repeat (first | exact uU _ | refine uV rfl ?_)) (qR _) ?_
  refine X.regionOb tsKa22 [2,3,7,8,9,11,12,17,18] [(2,.int .u8 z),(3,.pointer (some ⟨b3,0,none⟩)),(7,.bool true),(8,.int .i64 (aN : Nat)),(9,.int .i64 left),(11,.pointer (some ⟨b11,0,none⟩)),(12,.slice (some ⟨b12,0,none⟩) n c12),(17,.int .i64 x),(18,.pointer (some ⟨b18,0,none⟩))] (valKa22 b3 b11 b12 b18 b1 n k1 (k1 * 4) aN c12 left x z S0) (rowsKa22 b3 b11 b12 b18 b1 n k1 (k1 * 4) aN c12 left x z S0) (fun _=>(0,0)) (G0) rfl mixed (by repeat (first | exact uU _ | refine uV rfl ?_)) rfl (by kernel_rfl) (locKa22 b3 b11 b12 b18 b1 n k1 (k1 * 4) aN c12 left x z S0) (qR _) ?_ ?_
  ·repeat' (first | exact AllF.done rfl | (refine AllF.step rfl ?_ ?_;·(first | fail | ((first | refine Ob.ng rfl ?_);(first | exact uK (fun env R hR=>by exact ⟨_,uM rfl rfl,rfl⟩) rfl (fun _=>rfl) | exact uK (fun env R hR=>by exact ⟨_,uF rfl rfl (te rfl) rfl (te rfl) (by decide),rfl⟩) rfl (fun _=>rfl)|(exact uK (fun env S hS=>⟨_,uL rfl rfl (uO (te rfl) rfl (hS _ m23c) rfl),rfl⟩) rfl (fun _=>rfl))|(exact fun env S hS=>OpF.callV (Z:=[]) (uT rfl (Args.cons rfl (Args.cons rfl Args.nil))) (lawSpan x x S) rfl rfl)|((refine uK (fun env S hS=>⟨.pointer (some ⟨b1,0 + aN * 4,none⟩),?_,rfl⟩) rfl (fun _=>rfl);exact uJ (i:=(aN : Int)) (off:=0) (b:=b1) (T:=28) (e:=38) (len:=n) rfl rfl rfl (te rfl) (te rfl) (by omega) (by omega)))|(exact fun env S hS=>(StF.storeAt (q:=0) (j:=0 + aN * 4 + 2) (vs:=cSp ⟨x,x⟩) (cs:=(spD 0 S0).flatMap cDr) rfl rfl rfl (te rfl) rfl rfl rfl hln).op.mono (fun v H' ⟨hv,hH⟩=>⟨(0,0),fun h=>absurd rfl h,by rw [hH,hsp];exact List.Perm.refl _⟩)))))))
  ·intro env t ha2 hv
   refine ⟨_,ha2,?_⟩
   clear hv ha2
   show X _ _ _ _ (⟨b1,0,(spD 0 (S0.set aN ⟨x,x⟩)).flatMap cDr,some 38,k1 * 4⟩::G0) _
   have e1 : ¬ (nk : Int)<1:=by omega
   have e2 : ¬ (nk : Int) > left:=by omega
   repeat' (first | (refine ask_r26 B p pb z left n aN b3 b11 b12 c12 cap3 cap11 ow3 ow11 h hn hz haN hl0 hl1 hl2 _ _ (qT _ (hGs _ m3)) (qT _ (hGs _ m11)) (hBb.sub (fun r q=>qT _ (hGs r q))) (hS.sub (fun r q=>qT _ (hGs r q))) ?_;exact (by repeat (first | exact uU _ | refine uV rfl ?_)))|(refine uP rfl ?_;(first | ((first | refine uN rfl ?_ | (refine Xo.g rfl rfl ?_;with_reducible refine Xw.ff ?_));(first | (refine uE (uL rfl rfl (uW (te rfl) rfl (qT _ m23) rfl)) rfl rfl ?_)|(refine uC (uT rfl (Args.cons rfl Args.nil)) rfl rfl (kk _ _ hkB) ?_;rintro _ _ ⟨rfl,rfl⟩)|(refine uE (uQ (b:=false) rfl rfl rfl (congrArg some (decide_eq_false e1))) rfl rfl ?_)|(refine uE (uQ (b:=false) rfl rfl rfl (congrArg some (decide_eq_false e2))) rfl rfl ?_)|(refine uE (uM rfl rfl) rfl rfl ?_)|(refine uE (uA rfl rfl) rfl rfl ?_)|(refine uE (EvF.pickF rfl rfl rfl) rfl rfl ?_)))))|(refine uD rfl ?_;refine hK _ _ ?_;clear hK K) | refine uS rfl ?_ | refine uR rfl (fun K hK=>?_) | refine X.skip rfl ?_ | (refine X.ite rfl rfl (fun hc=>?_);(first | (with_reducible refine Xb.f hc ?_)) <;> clear hc))
   all_goals try (exfalso;contradiction)
theorem sub_of_eq {A B : List Row} (h : A = B) : A.Sublist B:=h ▸ qR _
theorem permA (a b c : Row) (Z H : List Row) : ((Z++([c]++[]))++(a::b::H)).Perm (a::b::c::(Z++H)):=by
 refine List.perm_middle.trans (List.Perm.cons _ (List.perm_middle.trans (List.Perm.cons _ ?_)))
 rw [List.append_nil,List.append_assoc]
 exact List.perm_middle
theorem leavB_bd {B : Bl} (h : Rdy B) {j : Nat} (hj : j < (gsOf B).length) : 1 ≤ leavB (gradesOf B) (gsOf B).length j∧leavB (gradesOf B) (gsOf B).length j ≤ 4:=by
 obtain ⟨s,hs⟩ : ∃ s,(gsOf B)[j]? = some s:=⟨_,List.getElem?_eq_getElem hj⟩
 have hsv:=gs_ok h.ok h.can s (List.mem_of_getElem? hs)
 have hsp9 : spAt (gradesOf B) j = s:=by
  rw [← spAt_gs (B:=B) (by rw [← gsOf_len h.ok];exact hj)]
  unfold spAt
  rw [List.getD_eq_getElem?_getD,hs]
  rfl
 unfold leavB
 rw [hsp9]
 refine ⟨?_,(leavT_bd _ _ _ _ _).2⟩
 have:=leavT_ge (gradesOf B) (gsOf B).length j s.lo (s.hi - s.lo + 1).toNat 0 (by omega)
 rw [show s.lo + ((0 : Nat) : Int)=s.lo by omega,leav_sp h.ok] at this
 have h1:=nK_pos ((gs_ok h.ok h.can).set (j:=j) (s:=⟨s.lo,s.lo⟩) (by dsimp only;omega))
 omega
def AskI (S : List Sp) (k : Nat) (out : Value) (a1 : Option Addr) (c1 : Nat) (Z5 Zd : List Row) : Prop :=
 (k = 0∧out = .slice none 0 0∧a1 = none∧c1 = 0∧Z5 = []∧Zd = []) ∨
 ∃ b5 q5 bd,out = .slice (some ⟨b5,0,none⟩) k q5∧a1 = some ⟨bd,0,none⟩∧Z5 = [⟨b5,0,(S.take k).flatMap cSp,some 24,q5 * 2⟩]∧Zd = [⟨bd,0,(spD 0 (S.take k)).flatMap cDr,some 38,c1 * 4⟩]
def tsKa17 : List TOp:=[⟨some 79,[],[],[]⟩,⟨some 80,[0],[0],[]⟩,⟨some 81,[],[],[]⟩,⟨some 82,[2],[2],[]⟩,⟨some 83,[],[],[]⟩,⟨some 84,[],[],[]⟩,⟨some 85,[5],[5],[]⟩,⟨some 86,[],[],[]⟩,⟨some 87,[7],[7],[]⟩,⟨some 88,[2,3,4,5,6,7,8],[3,4,6,8],[]⟩,⟨some 89,[2,3,4,5,6,7,8,9],[9],[]⟩,⟨some 90,[0,1,2,3,4,5,6,7,8,9,10],[1,10],[14]⟩,⟨some 91,[0,1,2,3,4,5,6,7,8,9,10,11],[],[]⟩,⟨none,[0,1,2,3,4,5,6,7,8,9,10,11,12],[12,11],[15]⟩,⟨none,[],[],[]⟩,⟨none,[],[],[]⟩]
def valKa17 (b2 b3 b11 b12 b14 n kk c12 c1 aN wl k2 : Nat) (a1 : Option Addr) (Z : List Row) (D : List Dr) (s : Sp) (y z left i0 i1 i2 i3 : Int) (k : Nat) (env : Env) : Value :=
 match k with
 | 0 => .pointer (some ⟨b11,4,none⟩)
 | 1 => .slice a1 kk c1
 | 2 => .int .i64 kk
 | 3 => .int .i64 (kk + 1)
 | 4 => .int .i64 kk
 | 5 => .pointer (some ⟨b14,0,none⟩)
 | 6 => .int .i64 s.lo
 | 7 => .pointer (some ⟨b14,1,none⟩)
 | 8 => .int .i64 s.hi
 | 9 => .agg (cDr ⟨kk + 1,kk,s.lo,s.hi⟩).toArray
 | 10 => .slice (some ⟨(env 10).1,0,none⟩) 1 1
 | 11 => .slice (some ⟨(env 11).1,0,none⟩) (kk + 1) (env 11).2
 | 12 => .pointer (some ⟨b11,4,none⟩)
 | 13=>undef
 | _=>undef
def rowsKa17 (b2 b3 b11 b12 b14 n kk c12 c1 aN wl k2 : Nat) (a1 : Option Addr) (Z : List Row) (D : List Dr) (s : Sp) (y z left i0 i1 i2 i3 : Int) (k : Nat) (env : Env) : List Row :=
 match k with
 | 10=>[⟨(env 10).1,0,cDr ⟨kk + 1,kk,s.lo,s.hi⟩,some 38,1 * 4⟩]
 | 11=>[⟨(env 11).1,0,D.flatMap cDr++cDr ⟨kk + 1,kk,s.lo,s.hi⟩,some 38,(env 11).2 * 4⟩]
 | 13=>[⟨b11,0,[.int .i64 i0,.int .i64 i1,.int .i64 i2,.int .i64 i3,.slice (some ⟨(env 11).1,0,none⟩) (kk + 1) (env 11).2,.slice (some ⟨b2,0,none⟩) wl k2],some 31,6⟩]
 | 14=>Z
 | 15=>[⟨b11,0,[.int .i64 i0,.int .i64 i1,.int .i64 i2,.int .i64 i3,.slice a1 kk c1,.slice (some ⟨b2,0,none⟩) wl k2],some 31,6⟩]
 | _=>[]
theorem locKa17 (b2 b3 b11 b12 b14 n kk c12 c1 aN wl k2 : Nat) (a1 : Option Addr) (Z : List Row) (D : List Dr) (s : Sp) (y z left i0 i1 i2 i3 : Int) : ∀ k env i q9,i ≠ k → (tAt tsKa17 k).sup.contains i = false → valKa17 b2 b3 b11 b12 b14 n kk c12 c1 aN wl k2 a1 Z D s y z left i0 i1 i2 i3 k (upd env i q9)=valKa17 b2 b3 b11 b12 b14 n kk c12 c1 aN wl k2 a1 Z D s y z left i0 i1 i2 i3 k env∧rowsKa17 b2 b3 b11 b12 b14 n kk c12 c1 aN wl k2 a1 Z D s y z left i0 i1 i2 i3 k (upd env i q9)=rowsKa17 b2 b3 b11 b12 b14 n kk c12 c1 aN wl k2 a1 Z D s y z left i0 i1 i2 i3 k env:=by
 intro k env i q hk hs
 have hu : ∀ j,j ≠ i → upd env i q j = env j:=fun j hj=>by unfold upd;rw [if_neg hj]
 match k,hk,hs with
 | 0,_,_=>exact ⟨rfl,rfl⟩
 | 1,_,_=>exact ⟨rfl,rfl⟩
 | 2,_,_=>exact ⟨rfl,rfl⟩
 | 3,_,_=>exact ⟨rfl,rfl⟩
 | 4,_,_=>exact ⟨rfl,rfl⟩
 | 5,_,_=>exact ⟨rfl,rfl⟩
 | 6,_,_=>exact ⟨rfl,rfl⟩
 | 7,_,_=>exact ⟨rfl,rfl⟩
 | 8,_,_=>exact ⟨rfl,rfl⟩
 | 9,_,_=>exact ⟨rfl,rfl⟩
 | 10,hk,hs=>exact ⟨by simp only [valKa17,hu 10 (fun e=>hk e.symm)],by simp only [rowsKa17,hu 10 (fun e=>hk e.symm)]⟩
 | 11,hk,hs=>exact ⟨by simp only [valKa17,hu 11 (fun e=>hk e.symm)],by simp only [rowsKa17,hu 11 (fun e=>hk e.symm)]⟩
 | 12,_,_=>exact ⟨rfl,rfl⟩
 | 13,hk,hs=>exact ⟨by simp only [valKa17,hu 11 (by rintro rfl;cases hs)],by simp only [rowsKa17,hu 11 (by rintro rfl;cases hs)]⟩
 | 14,_,_=>exact ⟨rfl,rfl⟩
 | 15,_,_=>exact ⟨rfl,rfl⟩
 | _ + 16,_,_=>exact ⟨rfl,rfl⟩
def rdKa17 (k : Nat) : List Nat:=match k with
 | 1=>[15]
 | 11=>[10]
 | _=>[]
set_option maxHeartbeats 16000000 in
theorem ask_loop (B : Bl) (p : Pb) (y z left i0 i1 i2 i3 : Int) (n aN b2 b3 b11 cap3 wl k2 : Nat) (ow3 : Option Kd) (h : Rdy B) (hn : n = (gsOf B).length) (hy : 0 ≤ y∧y ≤ 255) (hz : 0 ≤ z∧z ≤ 255) (haN : aN < n) (hl0 : left = leavB (gradesOf B) n aN) (hl1 : ∀ i,i < n → left ≤ leavB (gradesOf B) n i) (hl2 : ∀ i,i < aN → left < leavB (gradesOf B) n i) (F : FS) (G : List Row)
  (hce : ∀ a c,cBl (spB B (gsOf B)) ⟨a,c,some ⟨b2,0,none⟩,k2⟩ = [.int .i64 i0,.int .i64 i1,.int .i64 i2,.int .i64 i3,.slice a (gsOf B).length c,.slice (some ⟨b2,0,none⟩) wl k2])
  (m3 : (⟨b3,0,cBl B p,ow3,cap3⟩ : Row) ∈ G) (m2 : SlE G (some ⟨b2,0,none⟩) cDr 4 B.weighs) (hB : BlOk G B p) (hF : Sub [(1,.int .u8 y),(2,.int .u8 z),(3,.pointer (some ⟨b3,0,none⟩)),(7,.bool true),(8,.int .i64 (aN : Nat)),(9,.int .i64 left),(11,.pointer (some ⟨b11,0,none⟩))] F) :
  X Tryz.prog 187 (csnd (csnd (csnd (csnd (csnd (csnd (csnd (cof Tryz.f8)))))))) F (⟨b11,0,[.int .i64 i0,.int .i64 i1,.int .i64 i2,.int .i64 i3,.slice none 0 0,.slice (some ⟨b2,0,none⟩) wl k2],some 31,6⟩::G) (retX Tryz.prog Tryz.f8 (fun v _=>v = .bool true)):=by
 refine X.weak hF (qR _) ?_
 have h5:=h.ok.h5
 have hgl:=gs_len h.ok
 repeat' (first | (refine uP rfl ?_;(first | ((first | refine uN rfl ?_);(first | (refine uE (uL (v := .int .i64 B.layers) rfl rfl (uO (b:=b3) (cs:=cBl B p) (te rfl) rfl (qT _ m3) rfl)) rfl rfl ?_)|(refine uE (uM rfl rfl) rfl rfl ?_)|(refine uE (uA rfl rfl) rfl rfl ?_)|(refine uE (uF rfl rfl (te rfl) rfl (te rfl) (by decide)) rfl rfl ?_)))))|(refine uD rfl ?_;refine hK _ _ ?_;clear hK K) | refine uS rfl ?_ | refine uR rfl (fun K hK=>?_) | refine X.block rfl ?_)
 rw [show B.layers = n from by omega]
 refine X.lp rfl (fun q F' H' => ∃ (k : Nat) (out : Value) (a1 : Option Addr) (c1 : Nat) (Z5 Zd : List Row),q = n - k∧k ≤ n∧AskI (gsOf B) k out a1 c1 Z5 Zd∧Z5++(⟨b11,0,[.int .i64 i0,.int .i64 i1,.int .i64 i2,.int .i64 i3,.slice a1 k c1,.slice (some ⟨b2,0,none⟩) wl k2],some 31,6⟩::(Zd++G)) = H' ∧
   F' = [(1,.int .u8 y),(2,.int .u8 z),(3,.pointer (some ⟨b3,0,none⟩)),(7,.bool true),(8,.int .i64 (aN : Nat)),(9,.int .i64 left),(11,.pointer (some ⟨b11,0,none⟩)),(12,out),(63,.int .i64 n),(64,.int .i64 (k : Nat))])
  n [(1,.int .u8 y),(2,.int .u8 z),(3,.pointer (some ⟨b3,0,none⟩)),(7,.bool true),(8,.int .i64 (aN : Nat)),(9,.int .i64 left),(11,.pointer (some ⟨b11,0,none⟩)),(12,.slice none 0 0),(63,.int .i64 n),(64,.int .i64 (0 : Nat))] (⟨b11,0,[.int .i64 i0,.int .i64 i1,.int .i64 i2,.int .i64 i3,.slice none 0 0,.slice (some ⟨b2,0,none⟩) wl k2],some 31,6⟩::G) (by repeat (first | exact uU _ | refine uV rfl ?_)) (qR _) ⟨0,_,none,0,[],[],by omega,by omega,.inl ⟨rfl,rfl,rfl,rfl,rfl,rfl⟩,rfl,rfl⟩ ?_
 rintro _ _ _ ⟨k,out,a1,c1,Z5,Zd,rfl,hk,hI,rfl,rfl⟩
 by_cases hlt : k < n
 ·have hlt' : (k : Int)<n:=by omega
  obtain ⟨s,hs⟩ : ∃ s,(gsOf B)[k]? = some s:=⟨_,List.getElem?_eq_getElem (by omega)⟩
  have hsp9 : spAt (gradesOf B) (k : Int).toNat = s:=by
   show spAt (gradesOf B) k = s
   rw [← spAt_gs (B:=B) (by rw [← gsOf_len h.ok, ← hn];exact hlt)]
   unfold spAt
   rw [List.getD_eq_getElem?_getD,hs]
   rfl
  have kl:=fun S hS=>klayer_spec B p (k : Int) S hS
  rw [show openE B ⟨[(k : Int)],[],[],[]⟩ = 0 from oE h.ok h.can (fun m hm=>by rw [List.mem_singleton.1 hm];exact ⟨by show (0 : Int)≤k;omega,by show (k : Int)≤B.layers - 1;omega⟩) (fun _ h=>absurd h List.not_mem_nil) (fun _ h=>absurd h List.not_mem_nil) (fun _ h=>absurd h List.not_mem_nil),spIf_pos rfl,hsp9] at kl
  have htk : (gsOf B).take (k + 1)=(gsOf B).take k++[s]:=take_snoc hs
  have hln : ((gsOf B).take k).length = k:=by rw [List.length_take];omega
  have hsn:=spD_snoc 0 ((gsOf B).take k) s
  have hdl:=spD_len 0 ((gsOf B).take k)
  rw [hln] at hsn hdl
  rw [Nat.zero_add] at hsn
  clear hs hsp9 hl1 hl2 hce
  rcases hI with ⟨rfl,rfl,rfl,rfl,rfl,rfl⟩ | ⟨b5,q5,bd,rfl,rfl,rfl,rfl⟩
  ·repeat' (first | (refine uP rfl ?_;(first | ((first | refine uN rfl ?_);(first | (refine uE (uQ (b:=true) rfl rfl rfl (congrArg some (decide_eq_true hlt'))) rfl rfl ?_)|(refine uE (uL rfl rfl (uW (b:=b3) (cs:=cBl B p) (te rfl) rfl (by (repeat (first | exact m3 | apply List.mem_append_right | apply qT));done) rfl)) rfl rfl ?_)|(refine uC (uT rfl (Args.cons rfl (Args.cons rfl Args.nil))) rfl rfl (kl _ (hB.sub (fun _ h=>by repeat (first | exact h | apply List.mem_append_right | apply qT)))) ?_;rintro _ _ ⟨rfl,rfl⟩)|(refine uE (uX rfl rfl rfl) rfl rfl ?_)|(refine Xg.st (StF.alloc rfl Tryz.zeroValue24 rfl) rfl rfl ?_;rintro _ _ ⟨bx,rfl,rfl⟩)|(refine Xg.st0 (uZ (i:=0) (vs:=cSp s) rfl rfl rfl (te rfl) rfl rfl rfl rfl) rfl ?_;rintro _ _ ⟨rfl,rfl⟩;dsimp only [List.set])|(refine uE (uQ (b:=false) rfl rfl rfl (congrArg some (nd_f (Eq.refl (0 : Int))))) rfl rfl ?_)|(refine uE (uL rfl rfl (uW (cs:=cSp s) (te rfl) rfl (qH _) rfl)) rfl rfl ?_)|(refine Xg.st (StF.buildOne (cs:=cSp s) rfl el22 rfl rfl rfl (by decide) (by decide)) rfl rfl ?_;rintro _ _ ⟨bs,rfl,rfl⟩)|(refine Xg.st (StF.appendNew (news:=cSp s) rfl el22 rfl rfl (by decide) rfl (Rd.own (qH _)) (by decide)) rfl rfl ?_;rintro _ _ ⟨bn,kn,rfl,rfl⟩)|(refine uE (uM rfl rfl) rfl rfl ?_)|(refine uE (uA rfl rfl) rfl rfl ?_)))))|(refine uD rfl ?_;refine hK _ _ ?_;clear hK K) | refine uS rfl ?_ | refine uR rfl (fun K hK=>?_) | refine X.block rfl ?_ | refine X.skip rfl ?_ | (refine X.ite rfl rfl (fun hc=>?_);(first | (with_reducible refine Xb.t hc ?_)|(with_reducible refine Xb.f hc ?_)) <;> clear hc))
   generalize bx = b14
   refine X.weak (F' := [(1,.int .u8 y),(2,.int .u8 z),(3,.pointer (some ⟨b3,0,none⟩)),(7,.bool true),(8,.int .i64 (aN : Nat)),(9,.int .i64 left),(11,.pointer (some ⟨b11,0,none⟩)),(12,.slice (some ⟨bn,0,none⟩) ((0 : Nat) + 1) kn),(13,.int .i64 ((0 : Nat) : Nat)),(14,.pointer (some ⟨b14,0,none⟩)),(63,.int .i64 n),(64,.int .i64 ((0 : Nat) : Nat))]) (H' := ⟨bn,0,[]++cSp s,some 24,kn * 2⟩::⟨b14,0,cSp s,some 24,2⟩::⟨b11,0,[.int .i64 i0,.int .i64 i1,.int .i64 i2,.int .i64 i3,.slice none (0 : Nat) 0,.slice (some ⟨b2,0,none⟩) wl k2],some 31,6⟩::(([] : List Row)++G)) (by repeat (first | exact uU _ | refine uV rfl ?_)) (qK _ (List.sublist_cons_self _ _)) ?_
   refine X.permH (permA ⟨bn,0,[]++cSp s,some 24,kn * 2⟩ ⟨b14,0,cSp s,some 24,2⟩ ⟨b11,0,[.int .i64 i0,.int .i64 i1,.int .i64 i2,.int .i64 i3,.slice none (0 : Nat) 0,.slice (some ⟨b2,0,none⟩) wl k2],some 31,6⟩ ([] : List Row) G) ?_
   refine X.regionRd tsKa17 rdKa17 [1,2,3,7,8,9,11,12,13,14,63,64] [(1,.int .u8 y),(2,.int .u8 z),(3,.pointer (some ⟨b3,0,none⟩)),(7,.bool true),(8,.int .i64 (aN : Nat)),(9,.int .i64 left),(11,.pointer (some ⟨b11,0,none⟩)),(12,.slice (some ⟨bn,0,none⟩) ((0 : Nat) + 1) kn),(13,.int .i64 (0 : Nat)),(14,.pointer (some ⟨b14,0,none⟩)),(63,.int .i64 n),(64,.int .i64 (0 : Nat))] (valKa17 b2 b3 b11 bn b14 n (0 : Nat) kn 0 aN wl k2 none ([] : List Row) ([] : List Dr) s y z left i0 i1 i2 i3) (rowsKa17 b2 b3 b11 bn b14 n (0 : Nat) kn 0 aN wl k2 none ([] : List Row) ([] : List Dr) s y z left i0 i1 i2 i3) (fun _=>(0,0)) (⟨bn,0,[]++cSp s,some 24,kn * 2⟩::⟨b14,0,cSp s,some 24,2⟩::G) rfl mixed (by repeat (first | exact uU _ | refine uV rfl ?_)) rfl (by kernel_rfl) (by kernel_rfl) (locKa17 b2 b3 b11 bn b14 n (0 : Nat) kn 0 aN wl k2 none ([] : List Row) ([] : List Dr) s y z left i0 i1 i2 i3) (sub_of_eq (by kernel_rfl)) ?_ ?_
   ·repeat' (first | exact AllF.done rfl | (refine AllF.step rfl ?_ ?_;·(first | exact (Ob.ng rfl (uK (fun env R hR=>by exact ⟨_,uM rfl rfl,rfl⟩) rfl (fun _=>rfl))).toR | exact (Ob.ng rfl (uK (fun env R hR=>by exact ⟨_,uF rfl rfl (te rfl) rfl (te rfl) (by decide),rfl⟩) rfl (fun _=>rfl))).toR | exact (Ob.ng rfl (uK (fun env R hR=>by exact ⟨_,uL rfl rfl (uO (te rfl) rfl (hR _ (qT _ (qH _))) rfl),rfl⟩) rfl (fun _=>rfl))).toR | (refine ObR.ng rfl ?_;(first | (exact fun env S hS hrd=>(StF.ofEv (uL rfl rfl (uO (te rfl) rfl (hrd 15 (qH _) _ (qH _)) rfl))).op.mono (fun v H' ⟨hv,hH⟩=>⟨(0,0),fun _=>hv,by rw [hH];exact List.Perm.refl _⟩))|(exact fun env S hS hrd=>(StF.ofEv (EvF.add64 (p:=((0 : Nat) : Int)) (q:=1) rfl rfl rfl (by omega) (by omega))).op.mono (fun v H' ⟨hv,hH⟩=>⟨(0,0),fun _=>hv,by rw [hH];exact List.Perm.refl _⟩))|(exact fun env S hS hrd=>(OpF.call (uT rfl (Args.cons rfl (Args.cons rfl (Args.cons rfl (Args.cons rfl Args.nil))))) (lawDraw ((0 : Nat) + 1) (0 : Nat) s.lo s.hi _)).mono (fun v H' ⟨hv,hH⟩=>⟨(0,0),fun _=>hv,by rw [hH];exact List.Perm.refl _⟩))|(exact fun env S hS hrd=>(StF.buildOne (cs:=cDr ⟨(0 : Nat) + 1,(0 : Nat),s.lo,s.hi⟩) rfl elDr rfl rfl rfl (by decide) (by decide)).op.mono (fun v H' ⟨b,hv,hH⟩=>⟨(b,0),fun _=>hv,by rw [hH];exact List.Perm.refl _⟩))|(exact fun env S hS hrd=>(StF.appendNew (news:=cDr ⟨(0 : Nat) + 1,(0 : Nat),s.lo,s.hi⟩) rfl elDr rfl rfl (by decide) rfl (Rd.own (hrd 10 (qH _) _ (qH _))) (by decide)).op.mono (fun v H' ⟨b,c,hv,hH⟩=>⟨(b,c),fun _=>hv,by rw [hH];exact List.Perm.refl _⟩))|(exact fun env S hS hrd=>(StF.storeOne (i:=0) rfl rfl rfl rfl (te rfl) rfl rfl (Nat.le_of_ble_eq_true rfl)).op.mono (fun v H' ⟨hv,hH⟩=>⟨(0,0),fun h=>absurd rfl h,by rw [hH];exact List.Perm.refl _⟩)))))))
   ·intro env t ha hv
    refine ⟨_,ha,?_⟩
    clear hv ha
    show X _ _ _ _ (⟨(env 10).1,0,cDr ⟨(0 : Nat) + 1,(0 : Nat),s.lo,s.hi⟩,some 38,1 * 4⟩::⟨(env 11).1,0,([] : List Dr).flatMap cDr++cDr ⟨(0 : Nat) + 1,(0 : Nat),s.lo,s.hi⟩,some 38,(env 11).2 * 4⟩::⟨b11,0,[.int .i64 i0,.int .i64 i1,.int .i64 i2,.int .i64 i3,.slice (some ⟨(env 11).1,0,none⟩) ((0 : Nat) + 1) (env 11).2,.slice (some ⟨b2,0,none⟩) wl k2],some 31,6⟩::⟨bn,0,[]++cSp s,some 24,kn * 2⟩::⟨b14,0,cSp s,some 24,2⟩::G) _
    generalize (env 10).1 = bs2
    generalize (env 11).1 = bd2
    generalize (env 11).2 = cd2
    refine X.weakR (H' := ⟨bd2,0,([] : List Dr).flatMap cDr++cDr ⟨(0 : Nat) + 1,(0 : Nat),s.lo,s.hi⟩,some 38,cd2 * 4⟩::⟨b11,0,[.int .i64 i0,.int .i64 i1,.int .i64 i2,.int .i64 i3,.slice (some ⟨bd2,0,none⟩) ((0 : Nat) + 1) cd2,.slice (some ⟨b2,0,none⟩) wl k2],some 31,6⟩::⟨bn,0,[]++cSp s,some 24,kn * 2⟩::G) (qC _ (qK _ (qK _ (qK _ (List.sublist_cons_self _ _))))) ?_
    refine X.permH (H' := ⟨bn,0,[]++cSp s,some 24,kn * 2⟩::⟨b11,0,[.int .i64 i0,.int .i64 i1,.int .i64 i2,.int .i64 i3,.slice (some ⟨bd2,0,none⟩) ((0 : Nat) + 1) cd2,.slice (some ⟨b2,0,none⟩) wl k2],some 31,6⟩::⟨bd2,0,([] : List Dr).flatMap cDr++cDr ⟨(0 : Nat) + 1,(0 : Nat),s.lo,s.hi⟩,some 38,cd2 * 4⟩::G) (by (repeat (first | exact List.Perm.refl _ | refine List.Perm.trans (List.Perm.cons _ ?_) (List.perm_middle (l₁:=[])).symm | refine List.Perm.trans (List.Perm.cons _ ?_) (List.perm_middle (l₁:=[_])).symm | refine List.Perm.trans (List.Perm.cons _ ?_) (List.perm_middle (l₁:=[_,_])).symm | refine List.Perm.trans (List.Perm.cons _ ?_) (List.perm_middle (l₁:=[_,_,_])).symm | refine List.Perm.trans (List.Perm.cons _ ?_) (List.perm_middle (l₁:=[_,_,_,_])).symm | refine List.Perm.trans (List.Perm.cons _ ?_) (List.perm_middle (l₁:=[_,_,_,_,_])).symm | refine List.Perm.trans (List.Perm.cons _ ?_) (List.perm_middle (l₁:=[_,_,_,_,_,_])).symm | refine List.Perm.trans (List.Perm.cons _ ?_) (List.perm_middle (l₁:=[_,_,_,_,_,_,_])).symm | refine List.Perm.trans (List.Perm.cons _ ?_) (List.perm_middle (l₁:=[_,_,_,_,_,_,_,_])).symm ));done) ?_
    repeat' (first | (refine uP rfl ?_;(first | ((first | refine uN rfl ?_);(first | (refine uE (EvF.add64 (p:=((0 : Nat) : Int)) (q:=1) rfl rfl rfl (by omega) (by omega)) rfl rfl ?_)|(refine uE (uM rfl rfl) rfl rfl ?_)))))|(refine uD rfl ?_;refine hK _ _ ?_;clear hK K) | refine uR rfl (fun K hK=>?_))
    refine ⟨_,_,_,(by rw [show ((0 : Nat) : Int) + 1 = (((0 : Nat) + 1 : Nat) : Int) by omega];exact (by repeat (first | exact uU _ | refine uV rfl ?_))),?_,⟨(0 : Nat) + 1,_,some ⟨bd2,0,none⟩,cd2,_,_,rfl,by omega,.inr ⟨bn,kn,bd2,rfl,rfl,rfl,rfl⟩,rfl,rfl⟩,by omega⟩
    rw [htk]
    exact qR _
  ·have hlen : (((gsOf B).take k).flatMap cSp).length = k * 2:=by rw [lenSp,hln]
   have hfm : ((spD 0 ((gsOf B).take k)).flatMap cDr).length = k * 4:=by rw [lenDr,hdl]
   have hfI : ((gsOf B).take k).flatMap cSp++cSp s = ((gsOf B).take (k + 1)).flatMap cSp:=by rw [htk,List.flatMap_append,List.flatMap_singleton]
   have hfD : (spD 0 ((gsOf B).take k)).flatMap cDr++cDr ⟨k + 1,k,s.lo,s.hi⟩ = (spD 0 ((gsOf B).take (k + 1))).flatMap cDr:=by rw [htk,hsn,List.flatMap_append];rfl
   obtain ⟨L,hL⟩ : ∃ L,L = (gsOf B).take k:=⟨_,rfl⟩
   obtain ⟨D,hDe⟩ : ∃ D,D = spD 0 L:=⟨_,rfl⟩
   rw [← hL] at hlen hfm hfI hfD ⊢
   rw [← hDe] at hfm hfD ⊢
   repeat' (first | (refine uP rfl ?_;(first | ((first | refine uN rfl ?_);(first | (refine uE (uQ (b:=true) rfl rfl rfl (congrArg some (decide_eq_true hlt'))) rfl rfl ?_)|(refine uE (uL rfl rfl (uW (b:=b3) (cs:=cBl B p) (te rfl) rfl (by (repeat (first | exact m3 | apply List.mem_append_right | apply qT));done) rfl)) rfl rfl ?_)|(refine uC (uT rfl (Args.cons rfl (Args.cons rfl Args.nil))) rfl rfl (kl _ (hB.sub (fun _ h=>by repeat (first | exact h | apply List.mem_append_right | apply qT)))) ?_;rintro _ _ ⟨rfl,rfl⟩)|(refine uE (uX rfl rfl rfl) rfl rfl ?_)|(refine Xg.st (StF.alloc rfl Tryz.zeroValue24 rfl) rfl rfl ?_;rintro _ _ ⟨bx,rfl,rfl⟩)|(refine Xg.st0 (uZ (i:=0) (vs:=cSp s) rfl rfl rfl (te rfl) rfl rfl rfl rfl) rfl ?_;rintro _ _ ⟨rfl,rfl⟩;dsimp only [List.set])|(refine uE (uQ (b:=false) rfl rfl rfl (congrArg some (nd_f (Eq.refl (0 : Int))))) rfl rfl ?_)|(refine uE (uL rfl rfl (uW (cs:=cSp s) (te rfl) rfl (qH _) rfl)) rfl rfl ?_)|(refine Xg.st (StF.buildOne (cs:=cSp s) rfl el22 rfl rfl rfl (by decide) (by decide)) rfl rfl ?_;rintro _ _ ⟨bs,rfl,rfl⟩)|(refine Xg.st (StF.appendOwn (i:=2) (news:=cSp s) rfl el22 rfl rfl rfl hlen rfl (Rd.own (qH _)) rfl (by omega)) rfl rfl ?_;rintro _ _ ⟨bn,kn,rfl,rfl⟩;dsimp only [List.eraseIdx])|(refine uE (uM rfl rfl) rfl rfl ?_)|(refine uE (uA rfl rfl) rfl rfl ?_)))))|(refine uD rfl ?_;refine hK _ _ ?_;clear hK K) | refine uS rfl ?_ | refine uR rfl (fun K hK=>?_) | refine X.block rfl ?_ | refine X.skip rfl ?_ | (refine X.ite rfl rfl (fun hc=>?_);(first | (with_reducible refine Xb.t hc ?_)|(with_reducible refine Xb.f hc ?_)) <;> clear hc))
   generalize bx = b14
   refine X.weak (F' := [(1,.int .u8 y),(2,.int .u8 z),(3,.pointer (some ⟨b3,0,none⟩)),(7,.bool true),(8,.int .i64 (aN : Nat)),(9,.int .i64 left),(11,.pointer (some ⟨b11,0,none⟩)),(12,.slice (some ⟨bn,0,none⟩) (k + 1) kn),(13,.int .i64 (k : Nat)),(14,.pointer (some ⟨b14,0,none⟩)),(63,.int .i64 n),(64,.int .i64 (k : Nat))]) (H' := ⟨bn,0,L.flatMap cSp++cSp s,some 24,kn * 2⟩::⟨b14,0,cSp s,some 24,2⟩::⟨b11,0,[.int .i64 i0,.int .i64 i1,.int .i64 i2,.int .i64 i3,.slice (some ⟨bd,0,none⟩) k c1,.slice (some ⟨b2,0,none⟩) wl k2],some 31,6⟩::([(⟨bd,0,D.flatMap cDr,some 38,c1 * 4⟩ : Row)]++G)) (by repeat (first | exact uU _ | refine uV rfl ?_)) (qK _ (List.sublist_cons_self _ _)) ?_
   refine X.permH (permA ⟨bn,0,L.flatMap cSp++cSp s,some 24,kn * 2⟩ ⟨b14,0,cSp s,some 24,2⟩ ⟨b11,0,[.int .i64 i0,.int .i64 i1,.int .i64 i2,.int .i64 i3,.slice (some ⟨bd,0,none⟩) k c1,.slice (some ⟨b2,0,none⟩) wl k2],some 31,6⟩ [(⟨bd,0,D.flatMap cDr,some 38,c1 * 4⟩ : Row)] G) ?_
   refine X.regionRd tsKa17 rdKa17 [1,2,3,7,8,9,11,12,13,14,63,64] [(1,.int .u8 y),(2,.int .u8 z),(3,.pointer (some ⟨b3,0,none⟩)),(7,.bool true),(8,.int .i64 (aN : Nat)),(9,.int .i64 left),(11,.pointer (some ⟨b11,0,none⟩)),(12,.slice (some ⟨bn,0,none⟩) (k + 1) kn),(13,.int .i64 k),(14,.pointer (some ⟨b14,0,none⟩)),(63,.int .i64 n),(64,.int .i64 k)] (valKa17 b2 b3 b11 bn b14 n k kn c1 aN wl k2 (some ⟨bd,0,none⟩) [(⟨bd,0,D.flatMap cDr,some 38,c1 * 4⟩ : Row)] D s y z left i0 i1 i2 i3) (rowsKa17 b2 b3 b11 bn b14 n k kn c1 aN wl k2 (some ⟨bd,0,none⟩) [(⟨bd,0,D.flatMap cDr,some 38,c1 * 4⟩ : Row)] D s y z left i0 i1 i2 i3) (fun _=>(0,0)) (⟨bn,0,L.flatMap cSp++cSp s,some 24,kn * 2⟩::⟨b14,0,cSp s,some 24,2⟩::G) rfl mixed (by repeat (first | exact uU _ | refine uV rfl ?_)) rfl (by kernel_rfl) (by kernel_rfl) (locKa17 b2 b3 b11 bn b14 n k kn c1 aN wl k2 (some ⟨bd,0,none⟩) [(⟨bd,0,D.flatMap cDr,some 38,c1 * 4⟩ : Row)] D s y z left i0 i1 i2 i3) (sub_of_eq (by kernel_rfl)) ?_ ?_
   ·repeat' (first | exact AllF.done rfl | (refine AllF.step rfl ?_ ?_;·(first | exact (Ob.ng rfl (uK (fun env R hR=>by exact ⟨_,uM rfl rfl,rfl⟩) rfl (fun _=>rfl))).toR | exact (Ob.ng rfl (uK (fun env R hR=>by exact ⟨_,uF rfl rfl (te rfl) rfl (te rfl) (by decide),rfl⟩) rfl (fun _=>rfl))).toR | exact (Ob.ng rfl (uK (fun env R hR=>by exact ⟨_,uL rfl rfl (uO (te rfl) rfl (hR _ (qT _ (qH _))) rfl),rfl⟩) rfl (fun _=>rfl))).toR | (refine ObR.ng rfl ?_;(first | (exact fun env S hS hrd=>(StF.ofEv (uL rfl rfl (uO (te rfl) rfl (hrd 15 (qH _) _ (qH _)) rfl))).op.mono (fun v H' ⟨hv,hH⟩=>⟨(0,0),fun _=>hv,by rw [hH];exact List.Perm.refl _⟩))|(exact fun env S hS hrd=>(StF.ofEv (EvF.add64 (p:=(k : Int)) (q:=1) rfl rfl rfl (by omega) (by omega))).op.mono (fun v H' ⟨hv,hH⟩=>⟨(0,0),fun _=>hv,by rw [hH];exact List.Perm.refl _⟩))|(exact fun env S hS hrd=>(OpF.call (uT rfl (Args.cons rfl (Args.cons rfl (Args.cons rfl (Args.cons rfl Args.nil))))) (lawDraw (k + 1) k s.lo s.hi _)).mono (fun v H' ⟨hv,hH⟩=>⟨(0,0),fun _=>hv,by rw [hH];exact List.Perm.refl _⟩))|(exact fun env S hS hrd=>(StF.buildOne (cs:=cDr ⟨k + 1,k,s.lo,s.hi⟩) rfl elDr rfl rfl rfl (by decide) (by decide)).op.mono (fun v H' ⟨b,hv,hH⟩=>⟨(b,0),fun _=>hv,by rw [hH];exact List.Perm.refl _⟩))|(exact fun env S hS hrd=>(StF.appendOwn (i:=0) (news:=cDr ⟨k + 1,k,s.lo,s.hi⟩) rfl elDr rfl rfl rfl hfm rfl (Rd.own (qT _ (hrd 10 (qH _) _ (qH _)))) rfl (by omega)).op.mono (fun v H' ⟨b,c,hv,hH⟩=>⟨(b,c),fun _=>hv,by rw [hH];exact List.Perm.refl _⟩))|(exact fun env S hS hrd=>(StF.storeOne (i:=0) rfl rfl rfl rfl (te rfl) rfl rfl (Nat.le_of_ble_eq_true rfl)).op.mono (fun v H' ⟨hv,hH⟩=>⟨(0,0),fun h=>absurd rfl h,by rw [hH];exact List.Perm.refl _⟩)))))))
   ·intro env t ha hv
    refine ⟨_,ha,?_⟩
    clear hv ha
    show X _ _ _ _ (⟨(env 10).1,0,cDr ⟨k + 1,k,s.lo,s.hi⟩,some 38,1 * 4⟩::⟨(env 11).1,0,D.flatMap cDr++cDr ⟨k + 1,k,s.lo,s.hi⟩,some 38,(env 11).2 * 4⟩::⟨b11,0,[.int .i64 i0,.int .i64 i1,.int .i64 i2,.int .i64 i3,.slice (some ⟨(env 11).1,0,none⟩) (k + 1) (env 11).2,.slice (some ⟨b2,0,none⟩) wl k2],some 31,6⟩::⟨bn,0,L.flatMap cSp++cSp s,some 24,kn * 2⟩::⟨b14,0,cSp s,some 24,2⟩::G) _
    generalize (env 10).1 = bs2
    generalize (env 11).1 = bd2
    generalize (env 11).2 = cd2
    refine X.weakR (H' := ⟨bd2,0,D.flatMap cDr++cDr ⟨k + 1,k,s.lo,s.hi⟩,some 38,cd2 * 4⟩::⟨b11,0,[.int .i64 i0,.int .i64 i1,.int .i64 i2,.int .i64 i3,.slice (some ⟨bd2,0,none⟩) (k + 1) cd2,.slice (some ⟨b2,0,none⟩) wl k2],some 31,6⟩::⟨bn,0,L.flatMap cSp++cSp s,some 24,kn * 2⟩::G) (qC _ (qK _ (qK _ (qK _ (List.sublist_cons_self _ _))))) ?_
    refine X.permH (H' := ⟨bn,0,L.flatMap cSp++cSp s,some 24,kn * 2⟩::⟨b11,0,[.int .i64 i0,.int .i64 i1,.int .i64 i2,.int .i64 i3,.slice (some ⟨bd2,0,none⟩) (k + 1) cd2,.slice (some ⟨b2,0,none⟩) wl k2],some 31,6⟩::⟨bd2,0,D.flatMap cDr++cDr ⟨k + 1,k,s.lo,s.hi⟩,some 38,cd2 * 4⟩::G) (by (repeat (first | exact List.Perm.refl _ | refine List.Perm.trans (List.Perm.cons _ ?_) (List.perm_middle (l₁:=[])).symm | refine List.Perm.trans (List.Perm.cons _ ?_) (List.perm_middle (l₁:=[_])).symm | refine List.Perm.trans (List.Perm.cons _ ?_) (List.perm_middle (l₁:=[_,_])).symm | refine List.Perm.trans (List.Perm.cons _ ?_) (List.perm_middle (l₁:=[_,_,_])).symm | refine List.Perm.trans (List.Perm.cons _ ?_) (List.perm_middle (l₁:=[_,_,_,_])).symm | refine List.Perm.trans (List.Perm.cons _ ?_) (List.perm_middle (l₁:=[_,_,_,_,_])).symm | refine List.Perm.trans (List.Perm.cons _ ?_) (List.perm_middle (l₁:=[_,_,_,_,_,_])).symm | refine List.Perm.trans (List.Perm.cons _ ?_) (List.perm_middle (l₁:=[_,_,_,_,_,_,_])).symm | refine List.Perm.trans (List.Perm.cons _ ?_) (List.perm_middle (l₁:=[_,_,_,_,_,_,_,_])).symm ));done) ?_
    repeat' (first | (refine uP rfl ?_;(first | ((first | refine uN rfl ?_);(first | (refine uE (EvF.add64 (p:=(k : Int)) (q:=1) rfl rfl rfl (by omega) (by omega)) rfl rfl ?_)|(refine uE (uM rfl rfl) rfl rfl ?_)))))|(refine uD rfl ?_;refine hK _ _ ?_;clear hK K) | refine uR rfl (fun K hK=>?_))
    refine ⟨_,_,_,(by rw [show (k : Int) + 1 = ((k + 1 : Nat) : Int) by omega];exact (by repeat (first | exact uU _ | refine uV rfl ?_))),?_,⟨k + 1,_,some ⟨bd2,0,none⟩,cd2,_,_,rfl,by omega,.inr ⟨bn,kn,bd2,rfl,rfl,rfl,rfl⟩,rfl,rfl⟩,by omega⟩
    rw [hfI,hfD]
    exact qR _
 ·have hkn : k = n:=by omega
  subst hkn
  rcases hI with ⟨h0,_⟩ | ⟨b5,q5,bd,rfl,rfl,rfl,rfl⟩
  ·omega
  ·have htk : (gsOf B).take k = gsOf B:=List.take_of_length_le (by omega)
   rw [htk]
   have hlt' : ¬ (k : Int)<k:=by omega
   refine X.gen (fun G' hG=>?_)
   have hS : SlE G' (some ⟨b5,0,none⟩) cSp 2 (gsOf B):=SlE.ofRow (by rw [hG];exact qH _) (fun _ _=>rfl)
   have hGs : ∀ r ∈ G,r ∈ G' := fun r q=>by rw [hG];exact qT _ (qT _ (qT _ q))
   have m11 : (⟨b11,0,cBl (spB B (gsOf B)) ⟨some ⟨bd,0,none⟩,c1,some ⟨b2,0,none⟩,k2⟩,some 31,6⟩ : Row) ∈ G' := by rw [hG,hce,hn];exact qT _ (qH _)
   have hBb : BlOk G' (spB B (gsOf B)) ⟨some ⟨bd,0,none⟩,c1,some ⟨b2,0,none⟩,k2⟩:=⟨SlE.ofRow (by rw [hG];exact qT _ (qT _ (qH _))) (fun _ _=>rfl),m2.sub hGs,by show (spD 0 _).length ≤ _;rw [spD_len];omega,by have:=h.l.2;show B.weighs.length ≤ _;omega⟩
   clear hG
   repeat' (first | (refine ask_r19 B p ⟨some ⟨bd,0,none⟩,c1,some ⟨b2,0,none⟩,k2⟩ z left k aN b3 b11 b5 q5 cap3 6 ow3 (some 31) h hn hz haN hl0 hl1 hl2 _ _ (hGs _ m3) m11 hBb hS y hy ?_;exact (by repeat (first | exact uU _ | refine uV rfl ?_)))|(refine uP rfl ?_;(first | ((first | refine uN rfl ?_);(first | (refine uE (uQ (b:=false) rfl rfl rfl (congrArg some (decide_eq_false hlt'))) rfl rfl ?_)))))|(refine uD rfl ?_;refine hK _ _ ?_;clear hK K) | refine uS rfl ?_ | refine uR rfl (fun K hK=>?_)|(refine X.brk rfl ?_;repeat (first | refine blockX_hit rfl ?_ | refine blockX_miss (by decide) ?_))|(refine X.ite rfl rfl (fun hc=>?_);(first | (with_reducible refine Xb.f hc ?_)) <;> clear hc))
   all_goals try (exfalso;contradiction)
set_option maxHeartbeats 8000000 in
theorem coreAsk_spec (B : Bl) (p : Pb) (y z : Int) (hy : 0 ≤ y∧y ≤ 255) (hz : 0 ≤ z∧z ≤ 255) (H : List Row) (hd : SlE H p.a1 cDr 4 B.draws) (hw : SlE H p.a2 cDr 4 B.weighs) :
  Fc Tryz.prog 8 [.agg (cBl B p).toArray,.int .u8 y,.int .u8 z] H (fun v _=>v = .bool true):=by
 by_cases h : Rdy B
 ·have hB:=h.bl hd hw
  have h5:=h.ok.h5
  have hgl:=gs_len h.ok
  have kr:=fun S hS=>ready_yes B p S hS h
  have ka:=fun S hS=>kAsk_spec B p S hS
  obtain ⟨n,hn⟩ : ∃ n,n = (gsOf B).length:=⟨_,rfl⟩
  have hnL : B.layers.toNat = n:=by omega
  obtain ⟨a,e1,ha,e2,hl1,hl2⟩:=askT_facts (gradesOf B) n (n - 1)
  rw [show n - 1 + 1 = n by omega] at e1 e2
  have e3 : askB B = askT (gradesOf B) n n:=by unfold askB;rw [hnL]
  have hbd:=leavB_bd h (j:=a) (by omega)
  rw [← hn] at hbd
  obtain ⟨l,hl⟩ : ∃ l,l = leavB (gradesOf B) n a:=⟨_,rfl⟩
  rw [openE_rdy h [] (fun _ q=>absurd q List.not_mem_nil),uIf_pos rfl,uIf_pos rfl,e3,e1,e2, ← hl] at ka
  rw [← hl] at hbd
  have hl1' : ∀ i,i < n → l ≤ leavB (gradesOf B) n i:=fun i hi=>by rw [hl];exact hl1 i (by omega)
  have hl2' : ∀ i,i < a → l < leavB (gradesOf B) n i:=fun i hi=>by rw [hl];exact hl2 i hi
  have han : a < n:=by omega
  have hgn : (n : Int)=B.layers:=by omega
  have h1n : 1 ≤ n:=by omega
  clear e1 e2 e3 hl1 hl2 hgl ha
  refine Fc.mk (callable Tryz.call8) Tryz.func8 rfl Tryz.ntmps8 rfl ?_;dsimp only [fr]
  repeat' (first | (refine ask_loop B p y z l B.id B.layers B.dlo B.dhi n a _ _ _ _ B.weighs.length _ _ h hn hy hz han hl hl1' hl2' _ _ (fun _ _=>sp_cells B (gsOf B) _ rfl _) (qT _ (qT _ (qH _))) (SlE.ofRow (qT _ (qH _)) (fun _ _=>rfl)) (hB.sub (fun _ q=>(qT _ (qT _ (qT _ q))))) ?_;exact (by repeat (first | exact uU _ | refine uV rfl ?_)))|(refine uP rfl ?_;(first | ((first | refine uN rfl ?_ | (refine Xo.g rfl rfl ?_;with_reducible refine Xw.ff ?_));(first | (refine uE (notT rfl rfl) rfl rfl ?_)|(refine uE (uQ (b:=false) rfl rfl rfl (congrArg some (decide_eq_false (by omega)))) rfl rfl ?_)|(refine uE (uQ (b:=false) rfl rfl rfl (congrArg some (nd_f (by omega)))) rfl rfl ?_)|(refine uC (uT rfl Args.nil) rfl rfl (alive_spec _) ?_;rintro _ _ ⟨rfl,rfl⟩)|(refine uE (uL rfl rfl (uW (cs:=cBl B p) (te rfl) rfl (by (repeat (first | exact qH _ | apply qT));done) rfl)) rfl rfl ?_)|(refine uC (uT rfl (Args.cons rfl Args.nil)) rfl rfl (kr _ (hB.sub (fun _ q=>by repeat (first | exact q | apply qT)))) ?_;rintro _ _ ⟨rfl,rfl⟩)|(refine uC (uT rfl (Args.cons rfl Args.nil)) rfl rfl (ka _ (hB.sub (fun _ q=>by repeat (first | exact q | apply qT)))) ?_;rintro _ _ ⟨rfl,rfl⟩)|(refine uE (uX rfl rfl rfl) rfl rfl ?_)|(refine uE (uL (v := .int .i64 B.layers) rfl rfl (uO (cs:=cBl B p) (te rfl) rfl (by repeat (first | exact qH _ | apply qT)) rfl)) rfl rfl ?_)|(refine uC (uT rfl (Args.cons rfl Args.nil)) rfl rfl (twinB_spec B p _ (hB.sub (fun _ q=>by repeat (first | exact q | apply qT)))) ?_;rintro _ _ ⟨b1,k1,b2,k2,rfl,rfl⟩)|(refine Xg.st (StF.alloc rfl Tryz.zeroValue31 rfl) rfl rfl ?_;rintro _ _ ⟨bx,rfl,rfl⟩)|(refine Xg.st0 (uZ (i:=0) (vs:=[.int .i64 B.id,.int .i64 B.layers,.int .i64 B.dlo,.int .i64 B.dhi,.slice (some ⟨b1,0,none⟩) B.draws.length k1,.slice (some ⟨b2,0,none⟩) B.weighs.length k2]) rfl rfl rfl (te rfl) rfl rfl rfl rfl) rfl ?_;rintro _ _ ⟨rfl,rfl⟩;dsimp only [List.set])|(refine Xg.st0 (StF.storeOne (i:=0) rfl rfl rfl rfl (te rfl) rfl rfl (Nat.le_of_ble_eq_true rfl)) rfl ?_;rintro _ _ ⟨rfl,rfl⟩;dsimp only [List.set])|(refine uE (uM rfl rfl) rfl rfl ?_)|(refine uE (uA rfl rfl) rfl rfl ?_)|(refine uE (EvF.pickF rfl rfl rfl) rfl rfl ?_)|(refine uE (uF rfl rfl (te rfl) rfl (te rfl) (by decide)) rfl rfl ?_)|(refine Xg.st (StF.boxAgg rfl rfl) rfl rfl ?_;rintro _ _ ⟨bx,rfl,rfl⟩)))))|(refine uD rfl ?_;refine hK _ _ ?_;clear hK K) | refine uS rfl ?_ | refine uR rfl (fun K hK=>?_) | refine X.skip rfl ?_ | (refine X.ite rfl rfl (fun hc=>?_);(first | (with_reducible refine Xb.f hc ?_)) <;> clear hc))
  all_goals try (exfalso;contradiction)
 ·have kr:=fun S hd' hw' => ready_no B p S hd' hw' h
  refine Fc.mk (callable Tryz.call8) Tryz.func8 rfl Tryz.ntmps8 rfl ?_;dsimp only [fr]
  repeat' (first | (refine uP rfl ?_;(first | ((first | refine uN rfl ?_);(first | (refine uC (uT rfl Args.nil) rfl rfl (alive_spec _) ?_;rintro _ _ ⟨rfl,rfl⟩)|(refine uE (uL rfl rfl (uW (cs:=cBl B p) (te rfl) rfl (by (repeat (first | exact qH _ | apply qT));done) rfl)) rfl rfl ?_)|(refine uC (uT rfl (Args.cons rfl Args.nil)) rfl rfl (kr _ (hd.sub (fun _ q=>by repeat (first | exact q | apply qT))) (hw.sub (fun _ q=>by repeat (first | exact q | apply qT)))) ?_;rintro _ _ ⟨rfl,rfl⟩)|(refine uE (notF rfl rfl) rfl rfl ?_)|(refine uE (uM rfl rfl) rfl rfl ?_)|(refine uE (uA rfl rfl) rfl rfl ?_)|(refine uE (EvF.pickT rfl rfl rfl) rfl rfl ?_)|(refine Xg.st (StF.boxAgg rfl rfl) rfl rfl ?_;rintro _ _ ⟨bx,rfl,rfl⟩)))|(refine Xo.g rfl rfl ?_;(first | (with_reducible refine Xw.tf rfl rfl ?_)))))|(refine uD rfl ?_;refine hK _ _ ?_;clear hK K) | refine uS rfl ?_ | refine uR rfl (fun K hK=>?_) | refine X.ret rfl ?_ | (refine X.ite rfl rfl (fun hc=>?_);(first | (with_reducible refine Xb.t hc ?_)) <;> clear hc))
  all_goals try (exfalso;contradiction)
  all_goals exact ret_one (by simp) Tryz.results8 rfl (H' := _) (qR _) rfl
open Go Go.Fw Go.ChangeShapes Go.WideShapes
instance : Inhabited Sp:=⟨⟨0,0⟩⟩
instance : Inhabited Bx:=⟨⟨0,0⟩⟩
instance : Inhabited Mt:=⟨⟨0,0,0,0,0,0⟩⟩
def w64 (n : Int) : Prop:=(Lit.int .i64 n).wf = true
section
variable {H : Type} {enc : TypeId × Value → H} {w : World} {base : Nat} {spare : Nat → Bool} {held : Bool} {fuel : Nat} {cs : List Value} {x : DataW H × List MemPlace}
theorem open_i (h : DataW.trod enc Tryz.prog w base spare held fuel 3 cs = some x) : ∃ q : Int,cs = cI q∧w64 q:=trod_i (te rfl) h
theorem open_sp (h : DataW.trod enc Tryz.prog w base spare held fuel 24 cs = some x) : ∃ q : Sp,cs = cSp q∧(w64 q.lo∧w64 q.hi):=by
 obtain ⟨hl,hf⟩:=trod_st (te rfl) h
 obtain ⟨n0,y0,h0⟩:=hf 0 0 3 _ rfl (te rfl)
 obtain ⟨n1,y1,h1⟩:=hf 1 1 3 _ rfl (te rfl)
 match cs,hl with
 | [a,b],_ =>
  obtain ⟨lo,e0,w0⟩:=open_i h0
  obtain ⟨hi,e1,w1⟩:=open_i h1
  simp [cI] at e0 e1
  subst e0 e1
  exact ⟨⟨lo,hi⟩,rfl,w0,w1⟩
end
structure InRm (w : World) (R : Rm) (p : Pl) : Prop where
 ages : InSl w p.a1 cSp 2 R.ages
 boxes : InSl w p.a2 cBx 2 R.boxes
 mats : InSl w p.a3 cMt 6 R.mats
 mo : w64 R.months
 st : w64 R.step
 k1 : R.ages.length ≤ p.c1
 k2 : R.boxes.length ≤ p.c2
 k3 : R.mats.length ≤ p.c3
def rowsRm (R : Rm) (p : Pl) : List Row:=rowsOf p.a1 cSp R.ages++(rowsOf p.a2 cBx R.boxes++rowsOf p.a3 cMt R.mats)
theorem InRm.ok {w : World} {R : Rm} {p : Pl} {B : Nat} (h : InRm w R p) : ∀ r ∈ rowsRm R p,r.own = none∧r.ok B w:=by
 intro r hr
 rcases List.mem_append.1 hr with hr | hr
 ·exact h.ages.ok r hr
 ·rcases List.mem_append.1 hr with hr | hr
  ·exact h.boxes.ok r hr
  ·exact h.mats.ok r hr
section
variable {H : Type} {enc : TypeId × Value → H} {w : World} {base : Nat} {spare : Nat → Bool} {held : Bool} {v : Value} {d : DataW H} {p : List MemPlace} {r : Reach} {b0 : Nat}
end
open Go Go.Fw Go.ChangeShapes Go.WideShapes Go.ChangeAt Go.RowKit
set_option maxRecDepth 100000
instance : Inhabited Dr:=⟨⟨0,0,0,0⟩⟩
section
variable {H : Type} {enc : TypeId × Value → H} {w : World} {base : Nat} {spare : Nat → Bool} {held : Bool} {fuel : Nat} {cs : List Value} {x : DataW H × List MemPlace}
theorem open_dr (h : DataW.trod enc Tryz.prog w base spare held fuel 38 cs = some x) : ∃ q : Dr,cs = cDr q∧True:=by
 obtain ⟨hl,hf⟩:=trod_st (te rfl) h
 obtain ⟨n0,y0,h0⟩:=hf 0 0 3 _ rfl (te rfl)
 obtain ⟨n1,y1,h1⟩:=hf 1 1 3 _ rfl (te rfl)
 obtain ⟨n2,y2,h2⟩:=hf 2 2 24 _ rfl (te rfl)
 match cs,hl with
 | [a,b,c,d],_ =>
  obtain ⟨q0,e0,w0⟩:=open_i h0
  obtain ⟨q1,e1,w1⟩:=open_i h1
  obtain ⟨q2,e2,w2⟩:=open_sp h2
  simp [cI,cSp] at e0 e1 e2
  obtain ⟨e2,e3⟩:=e2
  subst e0 e1 e2 e3
  exact ⟨⟨q0,q1,q2.lo,q2.hi⟩,rfl,trivial⟩
theorem open_wg (h : DataW.trod enc Tryz.prog w base spare held fuel 41 cs = some x) : ∃ q : Dr,cs = cDr q∧True:=by
 obtain ⟨hl,hf⟩:=trod_st (te rfl) h
 obtain ⟨n0,y0,h0⟩:=hf 0 0 3 _ rfl (te rfl)
 obtain ⟨n1,y1,h1⟩:=hf 1 1 3 _ rfl (te rfl)
 obtain ⟨n2,y2,h2⟩:=hf 2 2 24 _ rfl (te rfl)
 match cs,hl with
 | [a,b,c,d],_ =>
  obtain ⟨q0,e0,w0⟩:=open_i h0
  obtain ⟨q1,e1,w1⟩:=open_i h1
  obtain ⟨q2,e2,w2⟩:=open_sp h2
  simp [cI,cSp] at e0 e1 e2
  obtain ⟨e2,e3⟩:=e2
  subst e0 e1 e2 e3
  exact ⟨⟨q0,q1,q2.lo,q2.hi⟩,rfl,trivial⟩
end
structure InBl (w : World) (B : Bl) (p : Pb) : Prop where
 draws : InSl w p.a1 cDr 4 B.draws
 weighs : InSl w p.a2 cDr 4 B.weighs
def rowsBl (B : Bl) (p : Pb) : List Row:=rowsOf p.a1 cDr B.draws++rowsOf p.a2 cDr B.weighs
theorem InBl.ok {w : World} {B : Bl} {p : Pb} {N : Nat} (h : InBl w B p) : ∀ r ∈ rowsBl B p,r.own = none∧r.ok N w:=by
 intro r hr
 rcases List.mem_append.1 hr with hr | hr
 ·exact h.draws.ok r hr
 ·exact h.weighs.ok r hr
section
variable {H : Type} {enc : TypeId × Value → H} {w : World} {base : Nat} {spare : Nat → Bool} {held : Bool} {v : Value} {d : DataW H} {p : List MemPlace} {r : Reach} {b0 : Nat}
theorem open_bale (hv : Value.okWide Tryz.prog w r b0 31 v) (h : DataW.Trod enc Tryz.prog w base spare held 31 v d p) : ∃ B pl,v = .agg (cBl B pl).toArray∧InBl w B pl:=by
 obtain ⟨fa,hu,_⟩:=ti_struct (te (T:=31) rfl)
 obtain ⟨⟨cs⟩,rfl,_⟩:=okWide_struct hu hv
 obtain ⟨fuel,hf⟩:=h
 obtain ⟨hl,hf⟩:=trod_st (te rfl) hf
 obtain ⟨n0,y0,h0⟩:=hf 0 0 3 _ rfl (te rfl)
 obtain ⟨n1,y1,h1⟩:=hf 1 1 3 _ rfl (te rfl)
 obtain ⟨n2,y2,h2⟩:=hf 2 2 24 _ rfl (te rfl)
 obtain ⟨n3,y3,h3⟩:=hf 3 4 28 _ rfl (te rfl)
 obtain ⟨n4,y4,h4⟩:=hf 4 5 29 _ rfl (te rfl)
 match cs,hl with
 | [a,b,c,d,e,f],_ =>
  obtain ⟨q0,e0,w0⟩:=open_i h0
  obtain ⟨q1,e1,w1⟩:=open_i h1
  obtain ⟨q2,e2,w2⟩:=open_sp h2
  simp [cI,cSp,Value.cells] at e0 e1 e2
  obtain ⟨l3,a3,c3,e3,i3,_,k3⟩:=open_sl (te rfl) (te rfl) rfl (by decide) (fun _ _ _=>open_dr) (fun _=>rfl) h3
  obtain ⟨l4,a4,c4,e4,i4,_,k4⟩:=open_sl (te rfl) (te rfl) rfl (by decide) (fun _ _ _=>open_wg) (fun _=>rfl) h4
  obtain ⟨ea,eb⟩:=e2
  subst e0 e1 ea eb e3 e4
  exact ⟨⟨q0,q1,q2.lo,q2.hi,l3,l4⟩,⟨a3,c3,a4,c4⟩,rfl,i3,i4⟩
end
theorem ownK : ownKnob Tryz.prog.godebug = none:=by kernel_rfl
theorem laidO : laidOutB Tryz.prog = true:=by kernel_rfl
theorem InBl.dr {w : World} {B : Bl} {p : Pb} {H : List Row} (h : InBl w B p) (hm : ∀ r ∈ rowsBl B p,r ∈ H) : SlE H p.a1 cDr 4 B.draws:=h.draws.sl (fun r hr=>hm r (List.mem_append_left _ hr))
theorem InBl.we {w : World} {B : Bl} {p : Pb} {H : List Row} (h : InBl w B p) (hm : ∀ r ∈ rowsBl B p,r ∈ H) : SlE H p.a2 cDr 4 B.weighs:=h.weighs.sl (fun r hr=>hm r (List.mem_append_right _ hr))
def u8 (n : Int) : Prop:=0 ≤ n∧n ≤ 255
section
variable {H : Type} {enc : TypeId × Value → H} {w : World} {base : Nat} {spare : Nat → Bool} {held : Bool} {v : Value} {d : DataW H} {p : List MemPlace} {r : Reach} {b0 : Nat}
theorem u8_wf {n : Int} (h : (Lit.int .u8 n).wf = true) : u8 n:=by
 simp [Lit.wf,IntKind.min,IntKind.max,IntKind.signed,IntKind.bits] at h
 exact ⟨by omega,by omega⟩
theorem open_u8 (hv : Value.okWide Tryz.prog w r b0 5 v) (h : DataW.Trod enc Tryz.prog w base spare held 5 v d p) : ∃ n,v = .int .u8 n∧u8 n:=by
 obtain ⟨n,h1,_,_,h2⟩:=Go.ChangeShapes.open_int Tryz.underlying5 hv h
 exact ⟨n,h1,u8_wf h2⟩
end
section
variable {H : Type} {enc : TypeId × Value → H} {w : World} {base : Nat} {spare : Nat → Bool} {held : Bool} {v : Value} {d : DataW H} {p : List MemPlace} {r : Reach} {b0 fuel : Nat} {cs : List Value} {x : DataW H × List MemPlace}
end
theorem coreAsk_run (B : Bl) (pB : Pb) (y : Int) (z : Int) (w : World) (hy : u8 y) (hz : u8 z) (hB : InBl w B pB) :
  Calls Tryz.prog 8 #[.agg (cBl B pB).toArray,.int .u8 y,.int .u8 z] w fun e w' => e = .returned (.bool true)∧Below w.heap.size w w' :=
 Fc.calls (H:=rowsBl B pB) (coreAsk_spec B pB y z hy hz _ (hB.dr (fun _ h=>h)) (hB.we (fun _ h=>h))) (fun r hr=>by
  exact hB.ok r hr
 )
theorem coreAsk_lifted (os : Os) (started : os.Started) (H : Type) (enc : TypeId × Value → H) :
  ReturnsInHanded {} Tryz.checked os 8 .any (Rows.coreAskSpec.pre6 enc Tryz.prog Tryz.f8 Rows.coreAskRow.domain false) (Rows.coreAskSpec.post enc Tryz.prog Tryz.f8 false true false false):=by
 refine returnsInHanded_of_change (C:=Tryz.checked) ownK started (by kernel_rfl) Tryz.func8
  (ChangeSpec.witness6 (enc:=enc) (C:=Tryz.checked) false ⟨#[], #[.agg (cBl Bz pzb).toArray,.int .u8 0,.int .u8 0],[]⟩ 8 (by kernel_rfl) (by kernel_rfl) (by kernel_rfl) (by kernel_rfl)) ?_
 intro W base args ds gs before hval0 hW hcnd _
 have hval : ∀ (j : Nat) t v,Tryz.f8.params[j]? = some t → args[j]? = some v → Value.okWide Tryz.prog W .any base t v:=hval0
 have hW' := hW
 obtain ⟨p,q,hA0,hV,rfl,hfz,hnd⟩:=hW
 have hA : DataW.TrodAll enc Tryz.prog W 0 (fun _=>true) true Tryz.f8.params.toList args.toList ds p:=hA0
 rw [Tryz.params8] at hA hval
 obtain ⟨v0,vs0,d0,ds0,p0,q0,hargs,rfl,rfl,h0,r0⟩:=trodAll_cons hA
 obtain ⟨v1,vs1,d1,ds1,p1,q1,rfl,rfl,rfl,h1,r1⟩:=trodAll_cons r0
 obtain ⟨v2,vs2,d2,ds2,p2,q2,rfl,rfl,rfl,h2,r2⟩:=trodAll_cons r1
 obtain ⟨rfl,rfl,rfl⟩:=trodAll_nil r2
 obtain rfl : args = #[v0,v1,v2]:=by cases args;simp_all
 obtain ⟨rfl,rfl⟩:=trodVars_none hV
 have lt : ∀ {t v d ps},DataW.Trod enc Tryz.prog W 0 (fun _=>true) true t v d ps → ∀ x ∈ ps,x.block < W.heap.size:=fun h=>by obtain ⟨m,hm⟩:=h;exact DataW.trod_lt m _ _ _ hm
 obtain ⟨B,pB,rfl,hB⟩:=open_bale (hval 0 _ v0 rfl rfl) h0
 obtain ⟨y,rfl,hy⟩:=open_u8 (hval 1 _ v1 rfl rfl) h1
 obtain ⟨z,rfl,hz⟩:=open_u8 (hval 2 _ v2 rfl rfl) h2
 clear hA0 hval0
 refine (coreAsk_run B pB y z W hy hz hB).mono fun e W' ⟨he,bel⟩=>?_
 subst he
 exact ⟨_,rfl,_,_,_,[],_,[],hW',trodAll_mk1 (shut_bool Tryz.underlying4 _),(trodAll_cons_mk (Below.trod laidO (by kernel_rfl) (of_decide_eq_true (by kernel_rfl)) h0 bel (lt h0)) (trodAll_cons_mk (Below.trod laidO (by kernel_rfl) (of_decide_eq_true (by kernel_rfl)) h1 bel (lt h1)) (trodAll_cons_mk (Below.trod laidO (by kernel_rfl) (of_decide_eq_true (by kernel_rfl)) h2 bel (lt h2)) trodAll_mk0))),rfl,bel.frame _,fun h=>by cases h⟩
theorem coreAsk_over : Rows.coreAskRow.holds Tryz.pinned (OpenSpec.ofChange Rows.coreAskSpec) :=
 OpenClaim.holds_of_wide 8 Tryz.f8 rfl rfl rfl rfl rfl rfl rfl ⟨rfl,rfl,rfl,rfl,rfl⟩ rfl rfl rfl rfl rfl (by kernel_rfl) Tryz.func8 (by kernel_rfl)
  (of_decide_eq_true (by kernel_rfl)) (by unfold Func.isWrapper;first | (rw [if_pos (by decide +kernel)];kernel_rfl)|(rw [if_neg (by decide +kernel)];exact ⟨rfl,rfl⟩))
  (fun os started H enc _=>coreAsk_lifted os started H enc)
theorem coreAsk_proved : Rows.CoreAskSaid:=coreAsk_over
#print axioms coreAsk_proved
end Go.Proofs.YtbpcbdbclijomaaGreat
