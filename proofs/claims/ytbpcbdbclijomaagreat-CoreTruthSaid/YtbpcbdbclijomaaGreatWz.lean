/- CoreTruth: for every bale and list of bytes the law returns true (of each truth that is chosen, the layers, the best and the worst grade, the kind, and where one picking ends are within what is told; the examples are as told), and each argument reads afterwards as before. No condition. -/
import Derived.Test.YtbpcbdbclijomaaGreatW06
import Derived.OpenShut
import Derived.ProofKit
import Derived.Test.YtbpcbdbclijomaaGreatRows
import Derived.WalkKit
import Derived.ChangeOld
import Derived.ShutString
set_option linter.unusedVariables false
set_option linter.unusedSimpArgs false
namespace Go.Proofs.YtbpcbdbclijomaaGreat
open Go Go.Fw
set_option maxRecDepth 10000
def stpG (i : Nat) (s : Sp) (x : Dr) : Sp:=if x.val = (i : Int) then ⟨max s.lo x.lo,min s.hi x.hi⟩ else s
theorem stpG_snoc (i : Nat) (L : List Dr) (x : Dr) : (L++[x]).foldl (stpG i) ⟨1,9⟩ = stpG i (L.foldl (stpG i) ⟨1,9⟩) x:=by
 rw [List.foldl_append]
 rfl
theorem stepG_at {g : List Sp} {i : Nat} {x : Dr} (hi : i < g.length) (hx : 0 ≤ x.val) : spAt (stepG g x) i = stpG i (spAt g i) x:=by
 unfold stepG stpG
 by_cases q : x.val = (i : Int)
 ·rw [if_pos q,show x.val.toNat = i by omega]
  unfold spAt
  rw [List.getD_eq_getElem?_getD,List.getElem?_set_self hi]
  rfl
 ·rw [if_neg q]
  unfold spAt
  rw [List.getD_eq_getElem?_getD,List.getElem?_set_ne (by omega), ← List.getD_eq_getElem?_getD]
theorem foldG_at (L : List Dr) : ∀ (g : List Sp) (i : Nat),i < g.length → (∀ x ∈ L,0 ≤ x.val) → spAt (L.foldl stepG g) i = L.foldl (stpG i) (spAt g i):=by
 induction L with
 | nil=>exact fun _ _ _ _=>rfl
 | cons x L ih =>
  intro g i hi hx
  rw [List.foldl_cons,List.foldl_cons,ih _ _ (by rw [stepG_len];exact hi) (fun y hy=>hx y (List.mem_cons_of_mem _ hy)),stepG_at hi (hx x List.mem_cons_self)]
theorem gs_fold {B : Bl} (h : baleOk B) {i : Nat} (hi : (i : Int)<B.layers) : (gsOf B)[i]? = some (B.draws.foldl (stpG i) ⟨1,9⟩):=by
 have h5:=h.h5
 have hl : (gradesOf B).length = 5:=gradesOf_len h
 have e : spAt (gradesOf B) i = B.draws.foldl (stpG i) ⟨1,9⟩:=by
  unfold gradesOf
  rw [foldG_at _ _ _ (by rw [initG_len (by omega)];omega) (fun x hx=>((h.2.2.2.1.2.2 x hx).1 _ List.mem_cons_self).1)]
  congr 1
  unfold initG spAt
  rw [List.getD_eq_getElem?_getD,List.getElem?_append_left (by rw [List.length_replicate];omega),List.getElem?_replicate,if_pos (by omega)]
  rfl
 unfold gsOf
 rw [List.getElem?_take_of_lt (by omega),spAt_get (by omega),e]
theorem ev_eq {P : Program} {n : Nat} {H : List Row} {F : FS} {o : Oper} {p q : Int} (h : EvF P n H F o (.int .i64 p)) (e : p = q) : EvF P n H F o (.int .i64 q):=e ▸ h
def chN (by_ : List Int) (i : Nat) (s : Sp) : Int:=if by_.length = 0 then s.lo else s.lo + by_.getD (i % by_.length) 0 % (s.hi - s.lo + 1)
def chL (by_ : List Int) (G : List Sp) : List Int:=G.mapIdx (chN by_)
theorem chL_len (by_ : List Int) (G : List Sp) : (chL by_ G).length = G.length:=List.length_mapIdx
theorem chL_get {by_ : List Int} {G : List Sp} {i : Nat} {s : Sp} (h : G[i]? = some s) : (chL by_ G)[i]? = some (chN by_ i s):=by
 unfold chL
 rw [List.getElem?_mapIdx,h]
 rfl
def tsKc16 : List TOp:=[⟨some 53,[],[],[]⟩,⟨some 54,[],[],[]⟩,⟨some 55,[],[],[]⟩,⟨some 56,[],[],[]⟩,⟨some 57,[3],[3],[]⟩,⟨some 58,[2,3,4],[2,4],[]⟩,⟨some 59,[1,2,3,4,5],[1,5],[]⟩,⟨some 60,[1,2,3,4,5,6],[6],[]⟩,⟨some 61,[1,2,3,4,5,6,7],[7],[]⟩,⟨some 62,[],[],[]⟩,⟨some 63,[9],[9],[]⟩,⟨some 64,[],[],[]⟩,⟨some 65,[11],[11],[]⟩,⟨some 66,[9,10,11,12],[10,12],[]⟩,⟨some 67,[9,10,11,12,13],[13],[]⟩,⟨some 68,[1,2,3,4,5,6,7,8,9,10,11,12,13,14],[8,14],[]⟩,⟨some 69,[0,1,2,3,4,5,6,7,8,9,10,11,12,13,14,15],[0,15],[]⟩,⟨some 11,[0,1,2,3,4,5,6,7,8,9,10,11,12,13,14,15,16],[16],[]⟩]
def valKc16 (b2 b8 bb oo len cb n kk m : Nat) (out : Value) (y : Int) (s : Sp) (k : Nat) (env : Env) : Value :=
 match k with
 | 0 => .int .i64 s.lo
 | 1 => .slice (some ⟨bb,oo,none⟩) len cb
 | 2 => .int .i64 kk
 | 3 => .slice (some ⟨bb,oo,none⟩) len cb
 | 4 => .int .i64 len
 | 5 => .int .i64 m
 | 6 => .pointer (some ⟨bb,oo + m * 1,none⟩)
 | 7 => .int .u8 y
 | 8 => .int .i64 y
 | 9 => .pointer (some ⟨b8,1,none⟩)
 | 10 => .int .i64 s.hi
 | 11 => .pointer (some ⟨b8,0,none⟩)
 | 12 => .int .i64 s.lo
 | 13 => .int .i64 (s.hi - s.lo)
 | 14 => .int .i64 (s.hi - s.lo + 1)
 | 15 => .int .i64 (y % (s.hi - s.lo + 1))
 | 16 => .int .i64 (s.lo + y % (s.hi - s.lo + 1))
 | 17 => .int .i64 (s.lo + y % (s.hi - s.lo + 1))
 | _=>undef
def rowsKc16 (b2 b8 bb oo len cb n kk m : Nat) (out : Value) (y : Int) (s : Sp) (k : Nat) (env : Env) : List Row :=
 match k with
 | _=>[]
theorem locKc16 (b2 b8 bb oo len cb n kk m : Nat) (out : Value) (y : Int) (s : Sp) : ∀ k env i q9,i ≠ k → (tAt tsKc16 k).sup.contains i = false → valKc16 b2 b8 bb oo len cb n kk m out y s k (upd env i q9)=valKc16 b2 b8 bb oo len cb n kk m out y s k env∧rowsKc16 b2 b8 bb oo len cb n kk m out y s k (upd env i q9)=rowsKc16 b2 b8 bb oo len cb n kk m out y s k env:=by
 intro k env i q hk hs
 have hu : ∀ j,j ≠ i → upd env i q j = env j:=fun j hj=>by unfold upd;rw [if_neg hj]
 match k,hk,hs with
 | 0,_,_=>exact ⟨rfl,rfl⟩
 | 1,_,_=>exact ⟨rfl,rfl⟩
 | 2,_,_=>exact ⟨rfl,rfl⟩
 | 3,_,_=>exact ⟨rfl,rfl⟩
 | 4,_,_=>exact ⟨rfl,rfl⟩
 | 5,_,_=>exact ⟨rfl,rfl⟩
 | 6,_,_=>exact ⟨rfl,rfl⟩
 | 7,_,_=>exact ⟨rfl,rfl⟩
 | 8,_,_=>exact ⟨rfl,rfl⟩
 | 9,_,_=>exact ⟨rfl,rfl⟩
 | 10,_,_=>exact ⟨rfl,rfl⟩
 | 11,_,_=>exact ⟨rfl,rfl⟩
 | 12,_,_=>exact ⟨rfl,rfl⟩
 | 13,_,_=>exact ⟨rfl,rfl⟩
 | 14,_,_=>exact ⟨rfl,rfl⟩
 | 15,_,_=>exact ⟨rfl,rfl⟩
 | 16,_,_=>exact ⟨rfl,rfl⟩
 | 17,_,_=>exact ⟨rfl,rfl⟩
 | _ + 18,_,_=>exact ⟨rfl,rfl⟩
def rdKc16 (_ : Nat) : List Nat:=[]
set_option maxHeartbeats 8000000 in
theorem chosen_spec (B : Bl) (p : Pb) (l : List Int) (a : Option Addr) (c : Nat) (H : List Row) (h : Rdy B) (hB : BlOk H B p) (hl : SlE H a cU 1 l) (h8 : ∀ x ∈ l,0 ≤ x∧x ≤ 255) :
  Fc Tryz.prog 31 [.agg (cBl B p).toArray,.slice a l.length c] H (fun v H' => ∃ b q,(chL l (gsOf B)).length ≤ q∧v = .tuple #[.slice (some ⟨b,0,none⟩) (chL l (gsOf B)).length q,.bool true]∧H' = ⟨b,0,(chL l (gsOf B)).flatMap cI,some 3,q * 1⟩::H):=by
 obtain ⟨a1,c1,a2,c2⟩:=p
 have h5:=h.ok.h5
 have hgl:=gs_len h.ok
 obtain ⟨n,hn⟩ : ∃ n,n = (gsOf B).length:=⟨_,rfl⟩
 have hcl:=chL_len l (gsOf B)
 have hdl:=h.l.1
 have hgf:=fun (i : Nat) (hi : (i : Int)<B.layers)=>gs_fold h.ok (i:=i) hi
 obtain ⟨C,hC⟩ : ∃ C,C = chL l (gsOf B):=⟨_,rfl⟩
 rw [← hC] at hcl ⊢
 refine Fc.mk (callable Tryz.call31) Tryz.func31 rfl Tryz.ntmps31 rfl ?_;dsimp only [fr]
 repeat' (first | (refine uP rfl ?_;(first | ((first | refine uN rfl ?_);(first | (refine uE (uL (v := .int .i64 B.layers) rfl rfl (uO (cs:=cBl B ⟨a1,c1,a2,c2⟩) (te rfl) rfl (by repeat (first | exact qH _ | apply qT)) rfl)) rfl rfl ?_)|(refine uE (uM rfl rfl) rfl rfl ?_)|(refine uE (uA rfl rfl) rfl rfl ?_)|(refine uE (uF rfl rfl (te rfl) rfl (te rfl) (by decide)) rfl rfl ?_)|(refine Xg.st (StF.boxAgg rfl rfl) rfl rfl ?_;rintro _ _ ⟨bx,rfl,rfl⟩)))))|(refine uD rfl ?_;refine hK _ _ ?_;clear hK K) | refine uS rfl ?_ | refine uR rfl (fun K hK=>?_) | refine X.block rfl ?_)
 generalize bx = b2
 rw [show B.layers = n from by omega]
 refine X.lp rfl (fun q F' H' => ∃ (k : Nat) (out : Value) (Z : List Row),q = n - k∧k ≤ n∧OutI (C.take k) out Z∧Z++⟨b2,0,cBl B ⟨a1,c1,a2,c2⟩,some 31,6⟩::H = H' ∧
   F' = [(1,.slice a l.length c),(2,.pointer (some ⟨b2,0,none⟩)),(6,out),(13,.int .i64 n),(14,.int .i64 (k : Nat))])
  n [(1,.slice a l.length c),(2,.pointer (some ⟨b2,0,none⟩)),(6,.slice none 0 0),(13,.int .i64 n),(14,.int .i64 (0 : Nat))] (⟨b2,0,cBl B ⟨a1,c1,a2,c2⟩,some 31,6⟩::H) (by repeat (first | exact uU _ | refine uV rfl ?_)) (qR _) ⟨0,_,[],by omega,by omega,.inl ⟨List.take_zero,rfl,rfl⟩,rfl,rfl⟩ ?_
 rintro _ _ _ ⟨k,out,Z,rfl,hk,hO,rfl,rfl⟩
 by_cases hlt : k < n
 ·have hlt' : (k : Int)<n:=by omega
  have hg9:=hgf k (by omega)
  obtain ⟨s9,hs9⟩ : ∃ s,s = B.draws.foldl (stpG k) ⟨1,9⟩:=⟨_,rfl⟩
  rw [← hs9] at hg9
  have hsv:=gs_ok h.ok h.can s9 (List.mem_of_getElem? hg9)
  have hx : C[k]? = some (chN l k s9):=by rw [hC];exact chL_get hg9
  have htk : C.take (k + 1)=C.take k++[chN l k s9]:=take_snoc hx
  have hln : (C.take k).length = k:=by rw [List.length_take];omega
  repeat' (first | (refine uP rfl ?_;(first | ((first | refine uN rfl ?_);(first | (refine uE (uQ (b:=true) rfl rfl rfl (congrArg some (decide_eq_true hlt'))) rfl rfl ?_)|(refine uC (uT rfl (Args.cons rfl (Args.cons rfl Args.nil))) rfl rfl (lawSpan 1 9 _) ?_;rintro _ _ ⟨rfl,rfl⟩)|(refine Xg.st (StF.alloc rfl Tryz.zeroValue24 rfl) rfl rfl ?_;rintro _ _ ⟨bx,rfl,rfl⟩)|(refine Xg.st0 (uZ (i:=0) (vs:=cSp ⟨1,9⟩) rfl rfl rfl (te rfl) rfl rfl rfl rfl) rfl ?_;rintro _ _ ⟨rfl,rfl⟩;dsimp only [List.set])|(refine uE (uL (v := .slice a1 B.draws.length c1) rfl rfl (uO (b:=b2) (cs:=cBl B ⟨a1,c1,a2,c2⟩) (te rfl) rfl (qT _ (List.mem_append_right _ (qH _))) rfl)) rfl rfl ?_)|(refine uE (uY rfl rfl (te rfl)) rfl rfl ?_)|(refine uE (uM rfl rfl) rfl rfl ?_)|(refine uE (uA rfl rfl) rfl rfl ?_)|(refine uE (uF rfl rfl (te rfl) rfl (te rfl) (by decide)) rfl rfl ?_)))))|(refine uD rfl ?_;refine hK _ _ ?_;clear hK K) | refine uS rfl ?_ | refine uR rfl (fun K hK=>?_) | refine X.block rfl ?_ | refine X.skip rfl ?_ | (refine X.ite rfl rfl (fun hc=>?_);(first | (with_reducible refine Xb.t hc ?_)) <;> clear hc))
  generalize bx = b8
  refine X.lp rfl (fun q F' H' => ∃ (j : Nat) (s : Sp),q = B.draws.length - j∧j ≤ B.draws.length∧s = (B.draws.take j).foldl (stpG k) ⟨1,9⟩∧⟨b8,0,cSp s,some 24,2⟩::(Z++⟨b2,0,cBl B ⟨a1,c1,a2,c2⟩,some 31,6⟩::H)=H' ∧
    F' = [(1,.slice a l.length c),(2,.pointer (some ⟨b2,0,none⟩)),(6,out),(7,.int .i64 (k : Nat)),(8,.pointer (some ⟨b8,0,none⟩)),(13,.int .i64 n),(14,.int .i64 (k : Nat)),(19,.slice a1 B.draws.length c1),(20,.int .i64 B.draws.length),(21,.int .i64 (j : Nat))])
   B.draws.length [(1,.slice a l.length c),(2,.pointer (some ⟨b2,0,none⟩)),(6,out),(7,.int .i64 (k : Nat)),(8,.pointer (some ⟨b8,0,none⟩)),(13,.int .i64 n),(14,.int .i64 (k : Nat)),(19,.slice a1 B.draws.length c1),(20,.int .i64 B.draws.length),(21,.int .i64 (0 : Nat))] _ (by repeat (first | exact uU _ | refine uV rfl ?_)) (qR _) ⟨0,⟨1,9⟩,by omega,by omega,rfl,rfl,rfl⟩ ?_
  rintro _ _ _ ⟨j,s,rfl,hj,hs,rfl,rfl⟩
  by_cases hjl : j < B.draws.length
  ·have hjl' : (j : Int)<B.draws.length:=by omega
   obtain ⟨ab,oo,x,hae,hxj⟩:=hB.1.elem (i:=j) hjl
   dsimp only at hae
   subst hae
   have hst : (B.draws.take (j + 1)).foldl (stpG k) ⟨1,9⟩ = stpG k s x:=by rw [take_snoc hxj,stpG_snoc, ← hs]
   have hB2 : ∀ r,BlOk (r::(Z++⟨b2,0,cBl B ⟨some ⟨ab,oo,none⟩,c1,a2,c2⟩,some 31,6⟩::H)) B ⟨some ⟨ab,oo,none⟩,c1,a2,c2⟩:=fun r=>hB.sub (fun _ q=>qT _ (List.mem_append_right _ (qT _ q)))
   clear hs
   by_cases hq : x.val = (k : Int)
   ·unfold stpG at hst
    rw [if_pos hq] at hst
    repeat' (first | (refine uP rfl ?_;(first | ((first | refine uN rfl ?_);(first | (refine uE (uQ (b:=true) rfl rfl rfl (congrArg some (decide_eq_true hjl'))) rfl rfl ?_)|(refine uE (uL rfl rfl (LoadV.elA0 (hB2 _).1 hxj (te rfl) rfl (fun _ hm=>hm) rfl)) rfl rfl ?_)|(refine Xg.st (StF.alloc rfl Tryz.zeroValue38 rfl) rfl rfl ?_;rintro _ _ ⟨bx,rfl,rfl⟩)|(refine Xg.st0 (uZ (i:=0) (vs:=cDr x) rfl rfl rfl (te rfl) rfl rfl rfl rfl) rfl ?_;rintro _ _ ⟨rfl,rfl⟩;dsimp only [List.set])|(refine uE (uL rfl rfl (uO (te rfl) rfl (by repeat (first | exact qH _ | apply qT)) rfl)) rfl rfl ?_)|(refine uE (uQ (b:=true) rfl rfl rfl (congrArg some (decide_eq_true hq))) rfl rfl ?_)|(refine uE (EvF.max64 rfl rfl rfl) rfl rfl ?_)|(refine uE (EvF.min64 rfl rfl rfl) rfl rfl ?_)|(refine uC (uT rfl (Args.cons rfl (Args.cons rfl Args.nil))) rfl rfl (lawSpan _ _ _) ?_;rintro _ _ ⟨rfl,rfl⟩)|(refine Xg.st0 (uZ (i:=1) (vs:=cSp ⟨max s.lo x.lo,min s.hi x.hi⟩) rfl rfl rfl (te rfl) rfl rfl rfl rfl) rfl ?_;rintro _ _ ⟨rfl,rfl⟩;dsimp only [List.set])|(refine uE (uM rfl rfl) rfl rfl ?_)|(refine uE (EvF.add64 rfl rfl rfl (by omega) (by omega)) rfl rfl ?_)|(refine uE (uF rfl rfl (te rfl) rfl (te rfl) (by decide)) rfl rfl ?_)|(refine uE (uJ rfl rfl rfl (te rfl) (te rfl) (by omega) (by omega)) rfl rfl ?_)))))|(refine uD rfl ?_;refine hK _ _ ?_;clear hK K) | refine uS rfl ?_ | refine uR rfl (fun K hK=>?_) | refine X.block rfl ?_ | refine X.skip rfl ?_ | (refine X.ite rfl rfl (fun hc=>?_);(first | (with_reducible refine Xb.t hc ?_)) <;> clear hc))
    exact ⟨_,_,_,(by repeat (first | exact uU _ | refine uV rfl ?_)),(by (repeat (first | exact qR _ | apply qC));done),⟨j + 1,_,rfl,by omega,hst.symm,rfl,rfl⟩,by omega⟩
   ·unfold stpG at hst
    rw [if_neg hq] at hst
    repeat' (first | (refine uP rfl ?_;(first | ((first | refine uN rfl ?_);(first | (refine uE (uQ (b:=true) rfl rfl rfl (congrArg some (decide_eq_true hjl'))) rfl rfl ?_)|(refine uE (uL rfl rfl (LoadV.elA0 (hB2 _).1 hxj (te rfl) rfl (fun _ hm=>hm) rfl)) rfl rfl ?_)|(refine Xg.st (StF.alloc rfl Tryz.zeroValue38 rfl) rfl rfl ?_;rintro _ _ ⟨bx,rfl,rfl⟩)|(refine Xg.st0 (uZ (i:=0) (vs:=cDr x) rfl rfl rfl (te rfl) rfl rfl rfl rfl) rfl ?_;rintro _ _ ⟨rfl,rfl⟩;dsimp only [List.set])|(refine uE (uL rfl rfl (uO (te rfl) rfl (by repeat (first | exact qH _ | apply qT)) rfl)) rfl rfl ?_)|(refine uE (uQ (b:=false) rfl rfl rfl (congrArg some (decide_eq_false hq))) rfl rfl ?_)|(refine uE (uM rfl rfl) rfl rfl ?_)|(refine uE (EvF.add64 rfl rfl rfl (by omega) (by omega)) rfl rfl ?_)|(refine uE (uF rfl rfl (te rfl) rfl (te rfl) (by decide)) rfl rfl ?_)|(refine uE (uJ rfl rfl rfl (te rfl) (te rfl) (by omega) (by omega)) rfl rfl ?_)))))|(refine uD rfl ?_;refine hK _ _ ?_;clear hK K) | refine uS rfl ?_ | refine uR rfl (fun K hK=>?_) | refine X.block rfl ?_ | refine X.skip rfl ?_ | (refine X.ite rfl rfl (fun hc=>?_);(first | (with_reducible refine Xb.t hc ?_)|(with_reducible refine Xb.f hc ?_)) <;> clear hc))
    exact ⟨_,_,_,(by repeat (first | exact uU _ | refine uV rfl ?_)),(by (repeat (first | exact qR _ | apply qC));done),⟨j + 1,_,rfl,by omega,hst.symm,rfl,rfl⟩,by omega⟩
  ·have hjl' : ¬ (j : Int)<B.draws.length:=by omega
   rw [List.take_of_length_le (by omega), ← hs9] at hs
   subst hs
   clear hs9
   have hgt' : ¬ s.lo > s.hi:=by omega
   by_cases h0 : l.length = 0
   ·have h0' : ¬ ((l.length : Nat) : Int) > 0:=by omega
    have hxe : chN l k s = s.lo:=by unfold chN;rw [if_pos h0]
    rw [hxe] at htk hx
    rcases hO with ⟨hO1,rfl,rfl⟩ | ⟨b0,q0,rfl,rfl⟩
    ·obtain rfl : k = 0:=by rw [hO1] at hln;exact hln.symm
     repeat' (first | (refine uP rfl ?_;(first | ((first | refine uN rfl ?_);(first | (refine uE (uQ (b:=false) rfl rfl rfl (congrArg some (decide_eq_false hjl'))) rfl rfl ?_)|(refine uE (uQ (b:=false) rfl rfl rfl (congrArg some (decide_eq_false hgt'))) rfl rfl ?_)|(refine uE (uQ (b:=false) rfl rfl rfl (congrArg some (decide_eq_false h0'))) rfl rfl ?_)|(refine uE (uY rfl rfl (te rfl)) rfl rfl ?_)|(refine uE (uL rfl rfl (uO (te rfl) rfl (by repeat (first | exact qH _ | apply qT)) rfl)) rfl rfl ?_)|(refine Xg.st (StF.buildOne (cs:=[.int .i64 s.lo]) rfl el55 rfl rfl rfl (by decide) (by decide)) rfl rfl ?_;rintro _ _ ⟨bs,rfl,rfl⟩)|(refine Xg.st (StF.appendNew rfl el55 rfl rfl (by decide) rfl (Rd.own (qH _)) (by decide)) rfl rfl ?_;rintro _ _ ⟨bn,kn,rfl,rfl⟩)|(refine uE (uM rfl rfl) rfl rfl ?_)|(refine uE (uA rfl rfl) rfl rfl ?_)|(refine uE (EvF.add64 rfl rfl rfl (by omega) (by omega)) rfl rfl ?_)|(refine uE (uF rfl rfl (te rfl) rfl (te rfl) (by decide)) rfl rfl ?_)))))|(refine uD rfl ?_;refine hK _ _ ?_;clear hK K) | refine uS rfl ?_ | refine uR rfl (fun K hK=>?_)|(refine X.brk rfl ?_;repeat (first | refine blockX_hit rfl ?_ | refine blockX_miss (by decide) ?_)) | refine X.skip rfl ?_ | (refine X.ite rfl rfl (fun hc=>?_);(first | (with_reducible refine Xb.f hc ?_)) <;> clear hc))
     refine ⟨_,_,_,(by rw [show ((0 : Nat) : Int) + 1 = ((0 + 1 : Nat) : Int) by omega];exact (by repeat (first | exact uU _ | refine uV rfl ?_))),?_,⟨0 + 1,_,[⟨bn,0,([s.lo]).flatMap cI,some 3,kn * 1⟩],rfl,by omega,?_,rfl,rfl⟩,by omega⟩
     ·exact qK _ (qC _ (qC _ (qR _)))
     ·rw [htk,hO1];exact .inr ⟨_,_,rfl,rfl⟩
    ·rw [hln]
     have hlen : ((C.take k).flatMap cI).length = k * 1:=by rw [lenI,hln]
     repeat' (first | (refine uP rfl ?_;(first | ((first | refine uN rfl ?_);(first | (refine uE (uQ (b:=false) rfl rfl rfl (congrArg some (decide_eq_false hjl'))) rfl rfl ?_)|(refine uE (uQ (b:=false) rfl rfl rfl (congrArg some (decide_eq_false hgt'))) rfl rfl ?_)|(refine uE (uQ (b:=false) rfl rfl rfl (congrArg some (decide_eq_false h0'))) rfl rfl ?_)|(refine uE (uY rfl rfl (te rfl)) rfl rfl ?_)|(refine uE (uL rfl rfl (uO (te rfl) rfl (by repeat (first | exact qH _ | apply qT)) rfl)) rfl rfl ?_)|(refine Xg.st (StF.buildOne (cs:=[.int .i64 s.lo]) rfl el55 rfl rfl rfl (by decide) (by decide)) rfl rfl ?_;rintro _ _ ⟨bs,rfl,rfl⟩)|(refine Xg.st (StF.appendOwn (i:=2) rfl el55 rfl rfl rfl hlen rfl (Rd.own (qH _)) rfl (by omega)) rfl rfl ?_;rintro _ _ ⟨bn,kn,rfl,rfl⟩;dsimp only [List.eraseIdx])|(refine uE (uM rfl rfl) rfl rfl ?_)|(refine uE (uA rfl rfl) rfl rfl ?_)|(refine uE (EvF.add64 rfl rfl rfl (by omega) (by omega)) rfl rfl ?_)|(refine uE (uF rfl rfl (te rfl) rfl (te rfl) (by decide)) rfl rfl ?_)))))|(refine uD rfl ?_;refine hK _ _ ?_;clear hK K) | refine uS rfl ?_ | refine uR rfl (fun K hK=>?_)|(refine X.brk rfl ?_;repeat (first | refine blockX_hit rfl ?_ | refine blockX_miss (by decide) ?_)) | refine X.skip rfl ?_ | (refine X.ite rfl rfl (fun hc=>?_);(first | (with_reducible refine Xb.f hc ?_)) <;> clear hc))
     refine ⟨_,_,_,(by rw [show (k : Int) + 1 = ((k + 1 : Nat) : Int) by omega];exact (by repeat (first | exact uU _ | refine uV rfl ?_))),?_,⟨k + 1,_,[⟨bn,0,(C.take k++[s.lo]).flatMap cI,some 3,kn * 1⟩],rfl,by omega,?_,rfl,rfl⟩,by omega⟩
     ·rw [List.flatMap_append]
      exact qK _ (qC _ (qC _ (qR _)))
     ·rw [htk]
      exact .inr ⟨_,_,by rw [List.length_append,hln];rfl,rfl⟩
   ·have h0' : ((l.length : Nat) : Int) > 0:=by omega
    obtain ⟨m,hm⟩ : ∃ m,m = k % l.length:=⟨_,rfl⟩
    have hml : m < l.length:=by rw [hm];exact Nat.mod_lt _ (by omega)
    have hmk : m ≤ k:=by rw [hm];exact Nat.mod_le _ _
    have hm' : (k : Int) % (l.length : Int)=m:=by rw [hm];omega
    obtain ⟨bb,oo,y,hae,hy⟩:=hl.elem (i:=m) hml
    subst hae
    have hy8:=h8 y (List.mem_of_getElem? hy)
    have hxe : chN l k s = s.lo + y % (s.hi - s.lo + 1):=by
     unfold chN
     rw [if_neg h0, ← hm,List.getD_eq_getElem?_getD,hy]
     rfl
    rw [hxe] at htk hx
    have hm0:=Int.emod_nonneg y (show s.hi - s.lo + 1 ≠ 0 by omega)
    have hm1:=Int.emod_lt_of_pos y (show 0 < s.hi - s.lo + 1 by omega)
    repeat' (first | (refine uP rfl ?_;(first | ((first | refine uN rfl ?_);(first | (refine uE (uQ (b:=false) rfl rfl rfl (congrArg some (decide_eq_false hjl'))) rfl rfl ?_)|(refine uE (uQ (b:=false) rfl rfl rfl (congrArg some (decide_eq_false hgt'))) rfl rfl ?_)|(refine uE (uQ (b:=true) rfl rfl rfl (congrArg some (decide_eq_true h0'))) rfl rfl ?_)|(refine uE (uY rfl rfl (te rfl)) rfl rfl ?_)|(refine uE (uL rfl rfl (uO (te rfl) rfl (by repeat (first | exact qH _ | apply qT)) rfl)) rfl rfl ?_)|(refine uE (uM rfl rfl) rfl rfl ?_)|(refine uE (uA rfl rfl) rfl rfl ?_)|(refine uE (uF rfl rfl (te rfl) rfl (te rfl) (by decide)) rfl rfl ?_)))))|(refine uD rfl ?_;refine hK _ _ ?_;clear hK K) | refine uS rfl ?_ | refine uR rfl (fun K hK=>?_)|(refine X.brk rfl ?_;repeat (first | refine blockX_hit rfl ?_ | refine blockX_miss (by decide) ?_)) | refine X.skip rfl ?_ | (refine X.ite rfl rfl (fun hc=>?_);(first | (with_reducible refine Xb.t hc ?_)|(with_reducible refine Xb.f hc ?_)) <;> clear hc))
    refine X.weak (F' := [(1,.slice (some ⟨bb,oo,none⟩) l.length c),(2,.pointer (some ⟨b2,0,none⟩)),(6,out),(7,.int .i64 (k : Nat)),(8,.pointer (some ⟨b8,0,none⟩)),(11,.int .i64 s.lo),(13,.int .i64 n),(14,.int .i64 (k : Nat))]) (H' := ⟨b8,0,cSp s,some 24,2⟩::(Z++⟨b2,0,cBl B ⟨a1,c1,a2,c2⟩,some 31,6⟩::H)) (by repeat (first | exact uU _ | refine uV rfl ?_)) (qR _) ?_
    have hl9 : SlE (⟨b8,0,cSp s,some 24,2⟩::(Z++⟨b2,0,cBl B ⟨a1,c1,a2,c2⟩,some 31,6⟩::H)) (some ⟨bb,oo,none⟩) cU 1 l:=hl.sub (fun _ q=>qT _ (List.mem_append_right _ (qT _ q)))
    refine X.regionRs [] tsKc16 rdKc16 [1,2,6,7,8,13,14] [(1,.slice (some ⟨bb,oo,none⟩) l.length c),(2,.pointer (some ⟨b2,0,none⟩)),(6,out),(7,.int .i64 k),(8,.pointer (some ⟨b8,0,none⟩)),(13,.int .i64 n),(14,.int .i64 k)] (valKc16 b2 b8 bb oo l.length c n k m out y s) (rowsKc16 b2 b8 bb oo l.length c n k m out y s) (fun _=>(0,0)) (⟨b8,0,cSp s,some 24,2⟩::(Z++⟨b2,0,cBl B ⟨a1,c1,a2,c2⟩,some 31,6⟩::H)) rfl mixed (by repeat (first | exact uU _ | refine uV rfl ?_)) rfl (by kernel_rfl) (by kernel_rfl) (locKc16 b2 b8 bb oo l.length c n k m out y s) (fun i d hi=>by cases hi) (qR _) [(17,11,.int .i64 s.lo)] (by intro e he;simp only [List.mem_cons,List.not_mem_nil,or_false] at he;rcases he with rfl <;> exact ⟨rfl,Nat.le_of_ble_eq_true rfl⟩) (by intro e he;simp only [List.mem_cons,List.not_mem_nil,or_false] at he;rcases he with rfl <;> exact rfl) ?_ ?_
    ·repeat' (first | exact AllF.done rfl | (refine AllF.step rfl ?_ ?_;·(first | fail | (refine Ob.toR ?_;((first | refine Ob.ng rfl ?_);(first | exact uK (fun env R hR=>by exact ⟨_,uM rfl rfl,rfl⟩) rfl (fun _=>rfl) | exact uK (fun env R hR=>by exact ⟨_,uA rfl rfl,rfl⟩) rfl (fun _=>rfl) | exact uK (fun env R hR=>by exact ⟨_,uF rfl rfl (te rfl) rfl (te rfl) (by decide),rfl⟩) rfl (fun _=>rfl) | exact uK (fun env R hR=>by exact ⟨_,uY rfl rfl (te rfl),rfl⟩) rfl (fun _=>rfl) | exact uK (fun env R hR=>by exact ⟨_,uL rfl rfl (uO (te rfl) rfl (hR _ (qH _)) rfl),rfl⟩) rfl (fun _=>rfl)|(exact uK (fun env S hS=>⟨_,ev_eq (EvF.rem64 (p:=(k : Int)) (q:=(l.length : Int)) rfl rfl rfl (by omega) (by omega)) hm',rfl⟩) rfl (fun _=>rfl))|((refine uK (fun env S hS=>⟨.pointer (some ⟨bb,oo + m * 1,none⟩),?_,rfl⟩) rfl (fun _=>rfl);exact uJ (i:=(m : Int)) (off:=oo) (b:=bb) (T:=54) (len:=l.length) rfl rfl rfl (te rfl) (te rfl) (by omega) (by omega)))|(exact uK (fun env S hS=>⟨.int .u8 y,uL rfl rfl (LoadV.el0 (n:=m) (hl9.sub hS) hy (te rfl) rfl (fun _ h=>h) rfl),rfl⟩) rfl (fun _=>rfl))|(exact uK (fun env S hS=>⟨_,EvF.conv rfl rfl u8_und int_und (by omega) (by omega),rfl⟩) rfl (fun _=>rfl))|(exact uK (fun env S hS=>⟨_,EvF.sub64 (p:=s.hi) (q:=s.lo) rfl rfl rfl (by omega) (by omega),rfl⟩) rfl (fun _=>rfl))|(exact uK (fun env S hS=>⟨_,EvF.add64 (p:=s.hi - s.lo) (q:=1) rfl rfl rfl (by omega) (by omega),rfl⟩) rfl (fun _=>rfl))|(exact uK (fun env S hS=>⟨_,EvF.rem64 (p:=y) (q:=s.hi - s.lo + 1) rfl rfl rfl (by omega) (by omega),rfl⟩) rfl (fun _=>rfl))|(exact uK (fun env S hS=>⟨_,EvF.add64 (p:=s.lo) (q:=y % (s.hi - s.lo + 1)) rfl rfl rfl (by omega) (by omega),rfl⟩) rfl (fun _=>rfl))))))))
    ·intro env t ha2 hv;refine ⟨_,ha2.cons (hv 17 11 (Nat.le_of_ble_eq_true rfl) rfl),?_⟩;clear hv ha2
     show X _ _ _ ((11,.int .i64 (s.lo + y % (s.hi - s.lo + 1)))::[(1,.slice (some ⟨bb,oo,none⟩) l.length c),(2,.pointer (some ⟨b2,0,none⟩)),(6,out),(7,.int .i64 (k : Nat)),(8,.pointer (some ⟨b8,0,none⟩)),(13,.int .i64 n),(14,.int .i64 (k : Nat))]) (⟨b8,0,cSp s,some 24,2⟩::(Z++⟨b2,0,cBl B ⟨a1,c1,a2,c2⟩,some 31,6⟩::H)) _
     obtain ⟨x,hxx⟩ : ∃ x,x = s.lo + y % (s.hi - s.lo + 1):=⟨_,rfl⟩
     rw [← hxx] at htk ⊢
     rcases hO with ⟨hO1,rfl,rfl⟩ | ⟨b0,q0,rfl,rfl⟩
     ·obtain rfl : k = 0:=by rw [hO1] at hln;exact hln.symm
      repeat' (first | (refine uP rfl ?_;(first | ((first | refine uN rfl ?_);(first | (refine Xg.st (StF.buildOne (cs:=[.int .i64 x]) rfl el55 rfl rfl rfl (by decide) (by decide)) rfl rfl ?_;rintro _ _ ⟨bs,rfl,rfl⟩)|(refine Xg.st (StF.appendNew rfl el55 rfl rfl (by decide) rfl (Rd.own (qH _)) (by decide)) rfl rfl ?_;rintro _ _ ⟨bn,kn,rfl,rfl⟩)|(refine uE (uM rfl rfl) rfl rfl ?_)|(refine uE (uA rfl rfl) rfl rfl ?_)|(refine uE (EvF.add64 rfl rfl rfl (by omega) (by omega)) rfl rfl ?_)))))|(refine uD rfl ?_;refine hK _ _ ?_;clear hK K) | refine uR rfl (fun K hK=>?_))
      refine ⟨_,_,_,(by rw [show ((0 : Nat) : Int) + 1 = ((0 + 1 : Nat) : Int) by omega];exact (by repeat (first | exact uU _ | refine uV rfl ?_))),?_,⟨0 + 1,_,[⟨bn,0,([x]).flatMap cI,some 3,kn * 1⟩],rfl,by omega,?_,rfl,rfl⟩,by omega⟩
      ·exact qK _ (qC _ (qC _ (qR _)))
      ·rw [htk,hO1];exact .inr ⟨_,_,rfl,rfl⟩
     ·rw [hln]
      have hlen : ((C.take k).flatMap cI).length = k * 1:=by rw [lenI,hln]
      repeat' (first | (refine uP rfl ?_;(first | ((first | refine uN rfl ?_);(first | (refine Xg.st (StF.buildOne (cs:=[.int .i64 x]) rfl el55 rfl rfl rfl (by decide) (by decide)) rfl rfl ?_;rintro _ _ ⟨bs,rfl,rfl⟩)|(refine Xg.st (StF.appendOwn (i:=2) rfl el55 rfl rfl rfl hlen rfl (Rd.own (qH _)) rfl (by omega)) rfl rfl ?_;rintro _ _ ⟨bn,kn,rfl,rfl⟩;dsimp only [List.eraseIdx])|(refine uE (uM rfl rfl) rfl rfl ?_)|(refine uE (uA rfl rfl) rfl rfl ?_)|(refine uE (EvF.add64 rfl rfl rfl (by omega) (by omega)) rfl rfl ?_)))))|(refine uD rfl ?_;refine hK _ _ ?_;clear hK K) | refine uR rfl (fun K hK=>?_))
      refine ⟨_,_,_,(by rw [show (k : Int) + 1 = ((k + 1 : Nat) : Int) by omega];exact (by repeat (first | exact uU _ | refine uV rfl ?_))),?_,⟨k + 1,_,[⟨bn,0,(C.take k++[x]).flatMap cI,some 3,kn * 1⟩],rfl,by omega,?_,rfl,rfl⟩,by omega⟩
      ·rw [List.flatMap_append]
       exact qK _ (qC _ (qC _ (qR _)))
      ·rw [htk]
       exact .inr ⟨_,_,by rw [List.length_append,hln];rfl,rfl⟩
 ·have hkn : k = n:=by omega
  subst hkn
  have hlt' : ¬ (k : Int)<k:=by omega
  rw [List.take_of_length_le (by omega)] at hO
  rcases hO with ⟨hO1,_⟩ | ⟨b0,q0,rfl,rfl⟩
  ·rw [hO1] at hcl
   change 0 = _ at hcl
   omega
  ·refine X.capLe (q:=0) rfl (fun hcap=>?_)
   rw [lenI] at hcap
   rw [hcl, ← hn]
   repeat' (first | (refine uP rfl ?_;(first | ((first | refine uN rfl ?_);(first | (refine uE (uQ (b:=false) rfl rfl rfl (congrArg some (decide_eq_false hlt'))) rfl rfl ?_)|(refine uE (uM rfl rfl) rfl rfl ?_)|(refine uE (uA rfl rfl) rfl rfl ?_)))))|(refine uD rfl ?_;refine hK _ _ ?_;clear hK K) | refine uS rfl ?_ | refine uR rfl (fun K hK=>?_)|(refine X.brk rfl ?_;repeat (first | refine blockX_hit rfl ?_ | refine blockX_miss (by decide) ?_)) | refine X.ret rfl ?_ | (refine X.ite rfl rfl (fun hc=>?_);(first | (with_reducible refine Xb.f hc ?_)) <;> clear hc))
   exact ret_two (by simp) Tryz.results31 rfl rfl (H' := ⟨b0,0,C.flatMap cI,some 3,q0 * 1⟩::H) (qK _ (List.sublist_cons_self _ _)) ⟨_,_,by omega,rfl,rfl⟩
theorem InG_map : ∀ (G : List Sp) (f : Nat → Sp → Int),(∀ i s,G[i]? = some s → s.lo ≤ f i s∧f i s ≤ s.hi) → InG G (G.mapIdx f)
 | [],_,_=>trivial
 | s::G,f,h=>by
  rw [List.mapIdx_cons]
  exact ⟨h 0 s rfl,InG_map G (fun i=>f (i + 1)) (fun i s' hs=>h (i + 1) s' (by rw [List.getElem?_cons_succ];exact hs))⟩
theorem chN_bd {by_ : List Int} (h8 : ∀ x ∈ by_,0 ≤ x∧x ≤ 255) (i : Nat) {s : Sp} (hs : s.lo ≤ s.hi) : s.lo ≤ chN by_ i s∧chN by_ i s ≤ s.hi:=by
 unfold chN
 split
 ·omega
 ·have:=Int.emod_nonneg (by_.getD (i % by_.length) 0) (show s.hi - s.lo + 1 ≠ 0 by omega)
  have:=Int.emod_lt_of_pos (by_.getD (i % by_.length) 0) (show 0 < s.hi - s.lo + 1 by omega)
  omega
theorem chL_in {by_ : List Int} (h8 : ∀ x ∈ by_,0 ≤ x∧x ≤ 255) {G : List Sp} (hG : GOk G) : InG G (chL by_ G) :=
 InG_map G (chN by_) (fun i _ hs=>chN_bd h8 i (hG _ (List.mem_of_getElem? hs)).2.1)
theorem InG_get : ∀ {G : List Sp} {t : List Int} {i : Nat} {s : Sp},InG G t → G[i]? = some s → ∃ x,t[i]? = some x∧s.lo ≤ x∧x ≤ s.hi
 | [],_,_,_,_,h=>by cases h
 | _::_,[],_,_,h,_=>h.elim
 | _::_,x::_,0,_,h,hs=>by
  obtain rfl:=Option.some.inj hs
  exact ⟨x,rfl,h.1⟩
 | _::G,_::t,i + 1,s,h,hs=>InG_get (G:=G) (t:=t) (i:=i) h.2 hs
theorem InG_mem {G : List Sp} {t : List Int} (h : InG G t) {x : Int} (hx : x ∈ t) : ∃ s ∈ G,s.lo ≤ x∧x ≤ s.hi:=by
 obtain ⟨i,hi⟩:=List.mem_iff_getElem?.1 hx
 have hl:=(List.getElem?_eq_some_iff.1 hi).1
 rw [InG_len _ _ h] at hl
 obtain ⟨y,hy,h1⟩:=InG_get h (List.getElem?_eq_getElem hl)
 rw [hi] at hy
 obtain rfl:=Option.some.inj hy
 exact ⟨_,List.getElem_mem hl,h1⟩
theorem InG_sp {G : List Sp} {t : List Int} (h : InG G t) {s : Sp} (hs : s ∈ G) : ∃ x ∈ t,s.lo ≤ x∧x ≤ s.hi:=by
 obtain ⟨i,hi⟩:=List.mem_iff_getElem?.1 hs
 obtain ⟨x,hx,h1⟩:=InG_get h hi
 exact ⟨x,List.mem_of_getElem? hx,h1⟩
theorem InG_bd {G : List Sp} {t : List Int} (hG : GOk G) (h : InG G t) {x : Int} (hx : x ∈ t) : 1 ≤ x∧x ≤ 9:=by
 obtain ⟨s,hs,h1⟩:=InG_mem h hx
 have:=hG s hs
 omega
def loF (t : List Int) : Int:=t.foldl min 9
def hiF (t : List Int) : Int:=t.foldl max 1
theorem fmin_le : ∀ (t : List Int) (a : Int),t.foldl min a ≤ a ∧ ∀ x ∈ t,t.foldl min a ≤ x
 | [],a=>⟨Int.le_refl _,fun _ h=>absurd h List.not_mem_nil⟩
 | y::t,a=>by
  obtain ⟨h1,h2⟩:=fmin_le t (min a y)
  rw [List.foldl_cons]
  refine ⟨by omega,fun x hx=>?_⟩
  rcases List.mem_cons.1 hx with rfl | q
  ·omega
  ·exact h2 x q
theorem fmin_ge : ∀ (t : List Int) (a c : Int),c ≤ a → (∀ x ∈ t,c ≤ x) → c ≤ t.foldl min a
 | [],_,_,h,_=>h
 | y::t,a,c,h,hx=>by
  rw [List.foldl_cons]
  exact fmin_ge t _ c (by have:=hx y List.mem_cons_self;omega) (fun x q=>hx x (List.mem_cons_of_mem _ q))
theorem fmax_ge : ∀ (t : List Int) (a : Int),a ≤ t.foldl max a ∧ ∀ x ∈ t,x ≤ t.foldl max a
 | [],a=>⟨Int.le_refl _,fun _ h=>absurd h List.not_mem_nil⟩
 | y::t,a=>by
  obtain ⟨h1,h2⟩:=fmax_ge t (max a y)
  rw [List.foldl_cons]
  refine ⟨by omega,fun x hx=>?_⟩
  rcases List.mem_cons.1 hx with rfl | q
  ·omega
  ·exact h2 x q
theorem fmax_le : ∀ (t : List Int) (a c : Int),a ≤ c → (∀ x ∈ t,x ≤ c) → t.foldl max a ≤ c
 | [],_,_,h,_=>h
 | y::t,a,c,h,hx=>by
  rw [List.foldl_cons]
  exact fmax_le t _ c (by have:=hx y List.mem_cons_self;omega) (fun x q=>hx x (List.mem_cons_of_mem _ q))
theorem bestF_le : ∀ (G : List Sp) (a : Sp),bestF G a = ⟨(G.map (·.lo)).foldl min a.lo,(G.map (·.hi)).foldl min a.hi⟩
 | [],_=>rfl
 | s::G,a=>bestF_le G ⟨min a.lo s.lo,min a.hi s.hi⟩
theorem worstF_le : ∀ (G : List Sp) (a : Sp),worstF G a = ⟨(G.map (·.lo)).foldl max a.lo,(G.map (·.hi)).foldl max a.hi⟩
 | [],_=>rfl
 | s::G,a=>worstF_le G ⟨max a.lo s.lo,max a.hi s.hi⟩
theorem best_in {G : List Sp} {t : List Int} (hG : GOk G) (h : InG G t) {a : Sp} (ha : a ∈ G) : ((bestF G a).lo ≤ loF t∧loF t ≤ (bestF G a).hi)∧((worstF G a).lo ≤ hiF t∧hiF t ≤ (worstF G a).hi)∧(bestF G a).lo ≤ (worstF G a).lo∧(bestF G a).hi ≤ (worstF G a).hi:=by
 rw [bestF_le,worstF_le]
 have mlo : ∀ s ∈ G,s.lo ∈ G.map (·.lo):=fun s hs=>List.mem_map.2 ⟨s,hs,rfl⟩
 have mhi : ∀ s ∈ G,s.hi ∈ G.map (·.hi):=fun s hs=>List.mem_map.2 ⟨s,hs,rfl⟩
 have a1:=fmin_le (G.map (·.lo)) a.lo
 have a2:=fmin_le (G.map (·.hi)) a.hi
 have a3:=fmax_ge (G.map (·.lo)) a.lo
 have a4:=fmax_ge (G.map (·.hi)) a.hi
 have a5:=fmin_le t 9
 have a6:=fmax_ge t 1
 have hag:=hG a ha
 refine ⟨⟨?_,?_⟩,⟨?_,?_⟩,?_,?_⟩
 ·refine fmin_ge t 9 _ (by show (G.map (·.lo)).foldl min a.lo ≤ 9;omega) (fun x hx=>?_)
  obtain ⟨s,hs,h1⟩:=InG_mem h hx
  have:=a1.2 _ (mlo s hs)
  show (G.map (·.lo)).foldl min a.lo ≤ x
  omega
 ·refine fmin_ge _ _ _ ?_ (fun y hy=>?_)
  ·obtain ⟨x,hx,h1⟩:=InG_sp h ha
   have:=a5.2 x hx
   show t.foldl min 9 ≤ a.hi
   omega
  ·obtain ⟨s,hs,rfl⟩:=List.mem_map.1 hy
   obtain ⟨x,hx,h1⟩:=InG_sp h hs
   have:=a5.2 x hx
   show t.foldl min 9 ≤ s.hi
   omega
 ·refine fmax_le _ _ _ ?_ (fun y hy=>?_)
  ·obtain ⟨x,hx,h1⟩:=InG_sp h ha
   have:=a6.2 x hx
   show a.lo ≤ t.foldl max 1
   omega
  ·obtain ⟨s,hs,rfl⟩:=List.mem_map.1 hy
   obtain ⟨x,hx,h1⟩:=InG_sp h hs
   have:=a6.2 x hx
   show s.lo ≤ t.foldl max 1
   omega
 ·refine fmax_le t 1 _ (by show 1 ≤ (G.map (·.hi)).foldl max a.hi;omega) (fun x hx=>?_)
  obtain ⟨s,hs,h1⟩:=InG_mem h hx
  have:=a4.2 _ (mhi s hs)
  show x ≤ (G.map (·.hi)).foldl max a.hi
  omega
 ·show (G.map (·.lo)).foldl min a.lo ≤ (G.map (·.lo)).foldl max a.lo
  omega
 ·show (G.map (·.hi)).foldl min a.hi ≤ (G.map (·.hi)).foldl max a.hi
  omega
theorem of_bd (L : List (List Int)) (k : Int) : ofKind L k = 0∨ofKind L k = 1∨ofKind L k = 2:=by
 unfold ofKind knb
 split
 ·split
  ·exact .inr (.inl rfl)
  ·exact .inl rfl
 ·exact .inr (.inr rfl)
theorem of_own {L : List (List Int)} {t : List Int} (ht : t ∈ L) : ofKind L (kindF t) ≠ 0:=by
 have : L.any (fun u=>decide (kindF u = kindF t)) = true:=List.any_eq_true.2 ⟨t,ht,by simp⟩
 unfold ofKind knb
 rw [this]
 split <;> decide
theorem of_two {L : List (List Int)} {k : Int} : ofKind L k = 2 ↔ ∀ u ∈ L,kindF u = k:=by
 unfold ofKind knb
 cases h : L.any (fun t => !decide (kindF t = k))
 ·rw [List.any_eq_false] at h
  refine ⟨fun _ u hu=>?_,fun _=>rfl⟩
  have:=h u hu
  simpa using this
 ·obtain ⟨u,hu,h2⟩:=List.any_eq_true.1 h
  constructor
  ·rw [if_pos rfl]
   intro e
   split at e <;> cases e
  ·intro e
   have:=e u hu
   simp [this] at h2
theorem of_zero {L : List (List Int)} (hne : L ≠ []) {k : Int} : ofKind L k = 0 ↔ ∀ u ∈ L,kindF u ≠ k:=by
 unfold ofKind knb
 cases h : L.any (fun t=>decide (kindF t = k))
 ·rw [List.any_eq_false] at h
  have h9 : ∀ u ∈ L,kindF u ≠ k:=fun u hu=>by simpa using h u hu
  have : L.any (fun t => !decide (kindF t = k)) = true:=by
   obtain ⟨u,hu⟩:=List.exists_mem_of_ne_nil _ hne
   exact List.any_eq_true.2 ⟨u,hu,by simp [h9 u hu]⟩
  rw [this]
  exact ⟨fun _=>h9,fun _=>rfl⟩
 ·obtain ⟨u,hu,h2⟩:=List.any_eq_true.1 h
  constructor
  ·intro e
   split at e <;> cases e
  ·intro e
   exact absurd (of_decide_eq_true h2) (e u hu)
def suN (v : Int → Int) : Nat → Nat
 | 0=>0
 | k + 1=>suN v k + if v ((k : Int) + 1)=2 then 1 else 0
def myN (v : Int → Int) : Nat → Nat
 | 0=>0
 | k + 1=>myN v k + if v ((k : Int) + 1)=0 then 0 else 1
theorem kinds_fin {L : List (List Int)} {t : List Int} (ht : t ∈ L) : myN (ofKind L) 4 ≠ 0∧(suN (ofKind L) 4 = 1 ↔ myN (ofKind L) 4 = 1)∧suN (ofKind L) 4 ≤ 1:=by
 have hne : L ≠ []:=fun h=>by rw [h] at ht;cases ht
 have ho:=of_own ht
 have b:=fun k=>of_bd L k
 have h1 : ofKind L (kindF t)=2 → ∀ k,k ≠ kindF t → ofKind L k = 0:=fun e k hk=>(of_zero hne).2 (fun u hu q=>hk (by rw [← of_two.1 e u hu];exact q.symm))
 have h2 : ∀ k,k ≠ kindF t → ofKind L k ≠ 2:=fun k hk e=>hk (of_two.1 e t ht).symm
 have h3 : (∀ k,k ≠ kindF t → (k = 1∨k = 2∨k = 3∨k = 4) → ofKind L k = 0) → ofKind L (kindF t)=2:=fun e=>of_two.2 (fun u hu=>by
  apply Classical.byContradiction
  intro q
  exact (of_zero hne).1 (e (kindF u) q (kindF_four u)) u hu rfl)
 have e1 : suN (ofKind L) 4 = ((if ofKind L 1 = 2 then 1 else 0) + (if ofKind L 2 = 2 then 1 else 0) + (if ofKind L 3 = 2 then 1 else 0) + if ofKind L 4 = 2 then 1 else 0):=by
  show 0 + _ + _ + _ + _ = _
  rw [Nat.zero_add]
  rfl
 have e2 : myN (ofKind L) 4 = ((if ofKind L 1 = 0 then 0 else 1) + (if ofKind L 2 = 0 then 0 else 1) + (if ofKind L 3 = 0 then 0 else 1) + if ofKind L 4 = 0 then 0 else 1):=by
  show 0 + _ + _ + _ + _ = _
  rw [Nat.zero_add]
  rfl
 rw [e1,e2]
 clear e1 e2
 rcases kindF_four t with q | q | q | q <;> rw [q] at ho h1 h2 h3
 ·have g1:=h2 2 (by decide);have g2:=h2 3 (by decide);have g3:=h2 4 (by decide)
  by_cases e : ofKind L 1 = 2
  ·rw [e,h1 e 2 (by decide),h1 e 3 (by decide),h1 e 4 (by decide)]
   decide
  ·have g4 : ¬ (ofKind L 2 = 0∧ofKind L 3 = 0∧ofKind L 4 = 0):=fun ⟨z1,z2,z3⟩=>e (h3 (fun k hk hh=>by rcases hh with rfl | rfl | rfl | rfl <;> first | exact absurd rfl hk | assumption))
   have g5 : ofKind L 1 = 1:=by rcases b 1 with x | x | x <;> first | exact absurd x ho | exact absurd x e | exact x
   rw [g5]
   clear h1 h2 h3
   rcases b 2 with x | x | x <;> rcases b 3 with y | y | y <;> rcases b 4 with z | z | z <;> first | exact absurd x g1 | exact absurd y g2 | exact absurd z g3 | (rw [x,y,z];decide) | exact absurd ⟨x,y,z⟩ g4
 ·have g1:=h2 1 (by decide);have g2:=h2 3 (by decide);have g3:=h2 4 (by decide)
  by_cases e : ofKind L 2 = 2
  ·rw [e,h1 e 1 (by decide),h1 e 3 (by decide),h1 e 4 (by decide)]
   decide
  ·have g4 : ¬ (ofKind L 1 = 0∧ofKind L 3 = 0∧ofKind L 4 = 0):=fun ⟨z1,z2,z3⟩=>e (h3 (fun k hk hh=>by rcases hh with rfl | rfl | rfl | rfl <;> first | exact absurd rfl hk | assumption))
   have g5 : ofKind L 2 = 1:=by rcases b 2 with x | x | x <;> first | exact absurd x ho | exact absurd x e | exact x
   rw [g5]
   clear h1 h2 h3
   rcases b 1 with x | x | x <;> rcases b 3 with y | y | y <;> rcases b 4 with z | z | z <;> first | exact absurd x g1 | exact absurd y g2 | exact absurd z g3 | (rw [x,y,z];decide) | exact absurd ⟨x,y,z⟩ g4
 ·have g1:=h2 1 (by decide);have g2:=h2 2 (by decide);have g3:=h2 4 (by decide)
  by_cases e : ofKind L 3 = 2
  ·rw [e,h1 e 1 (by decide),h1 e 2 (by decide),h1 e 4 (by decide)]
   decide
  ·have g4 : ¬ (ofKind L 1 = 0∧ofKind L 2 = 0∧ofKind L 4 = 0):=fun ⟨z1,z2,z3⟩=>e (h3 (fun k hk hh=>by rcases hh with rfl | rfl | rfl | rfl <;> first | exact absurd rfl hk | assumption))
   have g5 : ofKind L 3 = 1:=by rcases b 3 with x | x | x <;> first | exact absurd x ho | exact absurd x e | exact x
   rw [g5]
   clear h1 h2 h3
   rcases b 1 with x | x | x <;> rcases b 2 with y | y | y <;> rcases b 4 with z | z | z <;> first | exact absurd x g1 | exact absurd y g2 | exact absurd z g3 | (rw [x,y,z];decide) | exact absurd ⟨x,y,z⟩ g4
 ·have g1:=h2 1 (by decide);have g2:=h2 2 (by decide);have g3:=h2 3 (by decide)
  by_cases e : ofKind L 4 = 2
  ·rw [e,h1 e 1 (by decide),h1 e 2 (by decide),h1 e 3 (by decide)]
   decide
  ·have g4 : ¬ (ofKind L 1 = 0∧ofKind L 2 = 0∧ofKind L 3 = 0):=fun ⟨z1,z2,z3⟩=>e (h3 (fun k hk hh=>by rcases hh with rfl | rfl | rfl | rfl <;> first | exact absurd rfl hk | assumption))
   have g5 : ofKind L 4 = 1:=by rcases b 4 with x | x | x <;> first | exact absurd x ho | exact absurd x e | exact x
   rw [g5]
   clear h1 h2 h3
   rcases b 1 with x | x | x <;> rcases b 2 with y | y | y <;> rcases b 3 with z | z | z <;> first | exact absurd x g1 | exact absurd y g2 | exact absurd z g3 | (rw [x,y,z];decide) | exact absurd ⟨x,y,z⟩ g4
theorem kind_alike {l : List Int} : kindF l = 1 ↔ alikeB l = true:=by
 unfold kindF
 by_cases h : alikeB l = true
 ·rw [if_pos h]
  exact ⟨fun _=>h,fun _=>rfl⟩
 ·rw [if_neg h]
  refine ⟨fun e=>?_,fun e=>absurd e h⟩
  exfalso
  split at e
  ·cases e
  ·split at e <;> cases e
theorem kind_cuts {l : List Int} (h : kindF l = 2) : (cutsF l).lo ≤ (cutsF l).hi:=by
 unfold kindF at h
 split at h
 ·cases h
 ·split at h
  ·assumption
  ·split at h <;> cases h
theorem cutLo_le (l : List Int) (hi : Int) (k : Nat) (hk : alikeB (l.drop k)=true) : ∀ (n : Nat) (lo : Int),0 ≤ lo → lo ≤ k → cutLo l hi n lo ≤ k
 | 0,_,_,h=>h
 | n + 1,lo,h0,h=>by
  show (if lo ≤ hi∧alikeB (l.drop lo.toNat)=false then cutLo l hi n (lo + 1) else lo)≤_
  split
  ·rename_i q
   by_cases e : lo = (k : Int)
   ·have : lo.toNat = k:=by omega
    rw [this,hk] at q
    exact absurd q.2 (by decide)
   ·exact cutLo_le l hi k hk n (lo + 1) (by omega) (by omega)
  ·exact h
theorem cutHi_ge (l : List Int) (lo : Int) (k : Nat) (hk : alikeB (l.take k)=true) : ∀ (n : Nat) (hi : Int),(k : Int)≤hi → (k : Int)≤cutHi l lo n hi
 | 0,_,h=>h
 | n + 1,hi,h=>by
  show _ ≤ (if lo ≤ hi∧alikeB (l.take hi.toNat)=false then cutHi l lo n (hi - 1) else hi)
  split
  ·rename_i q
   by_cases e : hi = (k : Int)
   ·have : hi.toNat = k:=by omega
    rw [this,hk] at q
    exact absurd q.2 (by decide)
   ·exact cutHi_ge l lo k hk n (hi - 1) (by omega)
  ·exact h
theorem cuts_has {l : List Int} {k : Nat} (h1 : 1 ≤ k) (h2 : k < l.length) (ha : kindF (l.take k)=1) (hb : kindF (l.drop k)=1) : (cutsF l).lo ≤ k∧(k : Int)≤(cutsF l).hi :=
 ⟨cutLo_le l _ k (kind_alike.1 hb) _ 1 (by decide) (by omega),cutHi_ge l _ k (kind_alike.1 ha) _ _ (by omega)⟩
theorem cutF_le : ∀ (L : List (List Int)) (a : Sp),(L.foldl cutStep a).lo ≤ a.lo∧a.hi ≤ (L.foldl cutStep a).hi ∧ ∀ t ∈ L,kindF t = 2 → (L.foldl cutStep a).lo ≤ (cutsF t).lo∧(cutsF t).hi ≤ (L.foldl cutStep a).hi
 | [],a=>⟨Int.le_refl _,Int.le_refl _,fun _ h=>absurd h List.not_mem_nil⟩
 | y::L,a=>by
  obtain ⟨h1,h2,h3⟩:=cutF_le L (cutStep a y)
  rw [List.foldl_cons]
  have h4 : (cutStep a y).lo ≤ a.lo∧a.hi ≤ (cutStep a y).hi∧(kindF y = 2 → (cutStep a y).lo ≤ (cutsF y).lo∧(cutsF y).hi ≤ (cutStep a y).hi):=by
   unfold cutStep
   split
   ·dsimp only
    exact ⟨by omega,by omega,fun _=>by omega⟩
   ·exact ⟨Int.le_refl _,Int.le_refl _,fun q=>by contradiction⟩
  refine ⟨by omega,by omega,fun t ht q=>?_⟩
  rcases List.mem_cons.1 ht with rfl | m
  ·have:=h4.2.2 q
   omega
  ·exact h3 t m q
theorem cutF_none : ∀ (L : List (List Int)) (a : Sp),(∀ t ∈ L,kindF t ≠ 2) → L.foldl cutStep a = a
 | [],_,_=>rfl
 | y::L,a,h=>by
  rw [List.foldl_cons,show cutStep a y = a from if_neg (h y List.mem_cons_self)]
  exact cutF_none L a (fun t ht=>h t (List.mem_cons_of_mem _ ht))
theorem cut_two {L : List (List Int)} (hne : L ≠ []) {n : Int} (hn : 0 < n) : ofKind L 2 ≠ 0 ↔ (cutT n L).lo ≤ (cutT n L).hi:=by
 unfold cutT
 constructor
 ·intro h
  obtain ⟨t,ht,q⟩ : ∃ t ∈ L,kindF t = 2:=by
   apply Classical.byContradiction
   intro q
   exact h ((of_zero hne).2 (fun u hu e=>q ⟨u,hu,e⟩))
  have h1:=(cutF_le L ⟨n,0⟩).2.2 t ht q
  have h2:=kind_cuts q
  omega
 ·intro h e
  rw [cutF_none L ⟨n,0⟩ ((of_zero hne).1 e)] at h
  change n ≤ 0 at h
  omega
theorem cut_has {L : List (List Int)} {t : List Int} (ht : t ∈ L) (q : kindF t = 2) (n : Int) {k : Nat} (h1 : 1 ≤ k) (h2 : k < t.length) (ha : kindF (t.take k)=1) (hb : kindF (t.drop k)=1) : (cutT n L).lo ≤ k∧(k : Int)≤(cutT n L).hi:=by
 have h3:=(cutF_le L ⟨n,0⟩).2.2 t ht q
 have h4:=cuts_has h1 h2 ha hb
 unfold cutT
 omega
theorem lawIn3 (n : Int) (s : Sp) (h1 : n ≥ s.lo) (h2 : n ≤ s.hi) (H : List Row) : Fc Tryz.prog 32 [.int .i64 n,.agg (cSp s).toArray] H (fun v H' => v = .bool true∧H' = H):=by
 refine Fc.mk (callable Tryz.call32) Tryz.func32 rfl Tryz.ntmps32 rfl ?_;dsimp only [fr]
 repeat' (first | (refine uP rfl ?_;(first | ((first | refine uN rfl ?_ | (refine Xo.g rfl rfl ?_;with_reducible refine Xw.tt ?_));(first | (refine uE (uQ (b:=true) rfl rfl rfl (congrArg some (decide_eq_true h1))) rfl rfl ?_)|(refine uE (uQ (b:=true) rfl rfl rfl (congrArg some (decide_eq_true h2))) rfl rfl ?_)|(refine uE (uM rfl rfl) rfl rfl ?_)|(refine uE (uA rfl rfl) rfl rfl ?_)|(refine uE (EvF.pickT rfl rfl rfl) rfl rfl ?_)|(refine uE (uF rfl rfl (te rfl) rfl (te rfl) (by decide)) rfl rfl ?_)|(refine uE (uL rfl rfl (uO (te rfl) rfl (qH _) rfl)) rfl rfl ?_)|(refine Xg.st (StF.boxAgg rfl rfl) rfl rfl ?_;rintro _ _ ⟨bx,rfl,rfl⟩)))))|(refine uD rfl ?_;refine hK _ _ ?_;clear hK K) | refine uS rfl ?_ | refine uR rfl (fun K hK=>?_) | refine X.ret rfl ?_)
 all_goals try (exfalso;contradiction)
 exact ret_one (by simp) Tryz.results32 rfl (H' := H) (by repeat (first | exact qR _ | apply qK | apply qC)) ⟨rfl,rfl⟩
theorem kof_take {t : List Int} {b6 q6 : Nat} {S : List Row} (h6 : SlE S (some ⟨b6,0,none⟩) cI 1 t) (hq6 : t.length ≤ q6) (h5t : t.length ≤ 5) (hv : ∀ x ∈ t,1 ≤ x∧x ≤ 9) {k : Nat} (h1 : 1 ≤ k) (h2 : k < t.length) :
  Fc Tryz.prog 35 [.slice (some ⟨b6,0,none⟩) k q6] S (fun v H' => v = .int .i64 (kindF (t.take k))∧H' = S):=by
 have hl : (t.take k).length = k:=by rw [List.length_take];omega
 have:=rKindOf_spec (t.take k) (some ⟨b6,0,none⟩) q6 S (sleTake h6 k) (by omega) (by omega) (by omega) (fun x hx=>hv x (List.mem_of_mem_take hx))
 rwa [hl] at this
theorem kof_drop {t : List Int} {b6 q6 : Nat} {S : List Row} (h6 : SlE S (some ⟨b6,0,none⟩) cI 1 t) (hq6 : t.length ≤ q6) (h5t : t.length ≤ 5) (hv : ∀ x ∈ t,1 ≤ x∧x ≤ 9) {k : Nat} (h1 : 1 ≤ k) (h2 : k < t.length) :
  Fc Tryz.prog 35 [.slice (sfrom (some ⟨b6,0,none⟩) q6 k 1) (t.length - k) (q6 - k)] S (fun v H' => v = .int .i64 (kindF (t.drop k))∧H' = S):=by
 have hl : (t.drop k).length = t.length - k:=by rw [List.length_drop]
 have:=rKindOf_spec (t.drop k) (sfrom (some ⟨b6,0,none⟩) q6 k 1) (q6 - k) S (sleFrom h6 hq6 k) (by omega) (by omega) (by omega) (fun x hx=>hv x (List.mem_of_mem_drop hx))
 rwa [hl] at this
set_option maxHeartbeats 8000000 in
theorem tru_r34 (B : Bl) (p : Pb) (t : List Int) (own : Int) (b2 b6 q6 cap2 : Nat) (ow2 : Option Kd) (h : Rdy B) (ht : t ∈ truthsB B) (h1t : 1 ≤ t.length) (h5t : t.length ≤ 5) (hq6 : t.length ≤ q6) (hv : ∀ x ∈ t,1 ≤ x∧x ≤ 9) (hown : own = kindF t) (F : FS) (G : List Row)
  (m2 : (⟨b2,0,cBl B p,ow2,cap2⟩ : Row) ∈ G) (hB : BlOk G B p) (h6 : SlE G (some ⟨b6,0,none⟩) cI 1 t) (hF : Sub [(2,.pointer (some ⟨b2,0,none⟩)),(5,.bool true),(6,.slice (some ⟨b6,0,none⟩) t.length q6),(18,.int .i64 own)] F) : X Tryz.prog 224 (csnd (csnd (csnd (csnd (csnd (csnd (csnd (csnd (csnd (csnd (csnd (csnd (csnd (csnd (cof Tryz.f4))))))))))))))) F G (retX Tryz.prog Tryz.f4 (fun v _=>v = .bool true)):=by
 refine X.weak hF (qR _) ?_
 have hne : truthsB B ≠ []:=fun e=>by rw [e] at ht;cases ht
 have h5:=h.ok.h5
 have kc:=fun S hS=>kCut_spec B p S hS
 have kk:=fun S hS=>kKind_spec B p 2 S hS
 have hop:=openE_rdy h [] (fun _ q=>absurd q List.not_mem_nil)
 rw [openE_rdy h [2] (fun n hn=>by rw [List.mem_singleton.1 hn];omega),uIf_pos rfl] at kk
 have hct:=cut_two hne (n:=B.layers) (by omega)
 by_cases hk : ofKind (truthsB B) 2 = 0
 ·have hlo : (cutT B.layers (truthsB B)).lo > (cutT B.layers (truthsB B)).hi:=by
   have : ¬ (cutT B.layers (truthsB B)).lo ≤ (cutT B.layers (truthsB B)).hi:=fun q=>hct.2 q hk
   omega
  rw [show cutB B = (⟨0,0⟩,6) from by unfold cutB;rw [if_pos hop,if_pos hlo]] at kc
  have ho2 : own ≠ 2:=fun e=>(of_zero hne).1 hk t ht (by rw [← hown];exact e)
  rw [hk] at kk
  dsimp only at kc
  repeat' (first | (refine uP rfl ?_;(first | ((first | refine uN rfl ?_ | (refine Xo.g rfl rfl ?_;with_reducible refine Xw.tt ?_)|(refine Xo.g rfl rfl ?_;with_reducible refine Xw.ff ?_));(first | (refine uE (uL rfl rfl (uW (b:=b2) (cs:=cBl B p) (te rfl) rfl (by (repeat (first | exact m2 | apply qT));done) rfl)) rfl rfl ?_)|(refine uC (uT rfl (Args.cons rfl Args.nil)) rfl rfl (kc _ (hB.sub (fun _ q=>by repeat (first | exact q | apply qT)))) ?_;rintro _ _ ⟨rfl,e9⟩;have e9:=e9.symm;subst e9)|(refine uC (uT rfl (Args.cons rfl (Args.cons rfl Args.nil))) rfl rfl (kk _ (hB.sub (fun _ q=>by repeat (first | exact q | apply qT)))) ?_;rintro _ _ ⟨rfl,e9⟩;have e9:=e9.symm;subst e9)|(refine uE (uX rfl rfl rfl) rfl rfl ?_)|(refine Xg.st (StF.alloc rfl Tryz.zeroValue24 rfl) rfl rfl ?_;rintro _ _ ⟨bx,rfl,rfl⟩)|(refine Xg.st0 (uZ (i:=0) (vs:=cSp ⟨0,0⟩) rfl rfl rfl (te rfl) rfl rfl rfl rfl) rfl ?_;rintro _ _ ⟨rfl,rfl⟩;dsimp only [List.set])|(refine uE (uQ (b:=false) rfl rfl rfl (congrArg some (decide_eq_false (by omega)))) rfl rfl ?_)|(refine uE (uQ (b:=true) rfl rfl rfl (congrArg some (nd_t (by omega)))) rfl rfl ?_)|(refine uE (uQ (b:=false) rfl rfl rfl (congrArg some (nd_f (by omega)))) rfl rfl ?_)|(refine uE (EvF.cmpB (b:=false) rfl rfl rfl Tryz.underlying4 rfl) rfl rfl ?_)|(refine uE (uM rfl rfl) rfl rfl ?_)|(refine uE (uA rfl rfl) rfl rfl ?_)|(refine uE (EvF.pickT rfl rfl rfl) rfl rfl ?_)|(refine uE (EvF.pickF rfl rfl rfl) rfl rfl ?_)))))|(refine uD rfl ?_;refine hK _ _ ?_;clear hK K) | refine uS rfl ?_ | refine uR rfl (fun K hK=>?_) | refine X.skip rfl ?_ | refine X.ret rfl ?_ | (refine X.ite rfl rfl (fun hc=>?_);(first | (with_reducible refine Xb.t hc ?_)|(with_reducible refine Xb.f hc ?_)) <;> clear hc))
  all_goals try (exfalso;contradiction)
  all_goals exact ret_one (by simp) Tryz.results4 rfl (H' := _) (qR _) rfl
 ·have hlo : (cutT B.layers (truthsB B)).lo ≤ (cutT B.layers (truthsB B)).hi:=hct.1 hk
  obtain ⟨C,hC⟩ : ∃ C,C = cutT B.layers (truthsB B):=⟨_,rfl⟩
  rw [show cutB B = (C,0) from by unfold cutB;rw [if_pos hop,if_neg (by omega),hC]] at kc
  dsimp only at kc
  obtain ⟨w,hw⟩ : ∃ w,w = ofKind (truthsB B) 2:=⟨_,rfl⟩
  rw [← hw] at kk hk
  by_cases ho : own = 2
  ·have hch:=fun k (h1 : 1 ≤ k) (h2 : k < t.length) ha hb=>cut_has ht (by rw [← hown];exact ho) B.layers (k:=k) h1 h2 ha hb
   rw [← hC] at hch
   clear hlo hC hw hct hop hne
   subst ho
   repeat' (first | (refine uP rfl ?_;(first | ((first | refine uN rfl ?_ | (refine Xo.g rfl rfl ?_;with_reducible refine Xw.ff ?_));(first | (refine uE (uL rfl rfl (uW (b:=b2) (cs:=cBl B p) (te rfl) rfl (by (repeat (first | exact m2 | apply qT));done) rfl)) rfl rfl ?_)|(refine uC (uT rfl (Args.cons rfl Args.nil)) rfl rfl (kc _ (hB.sub (fun _ q=>by repeat (first | exact q | apply qT)))) ?_;rintro _ _ ⟨rfl,e9⟩;have e9:=e9.symm;subst e9)|(refine uC (uT rfl (Args.cons rfl (Args.cons rfl Args.nil))) rfl rfl (kk _ (hB.sub (fun _ q=>by repeat (first | exact q | apply qT)))) ?_;rintro _ _ ⟨rfl,e9⟩;have e9:=e9.symm;subst e9)|(refine uE (uX rfl rfl rfl) rfl rfl ?_)|(refine Xg.st (StF.alloc rfl Tryz.zeroValue24 rfl) rfl rfl ?_;rintro _ _ ⟨bx,rfl,rfl⟩)|(refine Xg.st0 (uZ (i:=0) (vs:=cSp C) rfl rfl rfl (te rfl) rfl rfl rfl rfl) rfl ?_;rintro _ _ ⟨rfl,rfl⟩;dsimp only [List.set])|(refine uE (uQ (b:=false) rfl rfl rfl (congrArg some (nd_f (Eq.refl (0 : Int))))) rfl rfl ?_)|(refine uE (uQ (b:=true) rfl rfl rfl (congrArg some (decide_eq_true (Eq.refl (0 : Int))))) rfl rfl ?_)|(refine uE (uQ (b:=true) rfl rfl rfl (congrArg some (nd_t hk))) rfl rfl ?_)|(refine uE (uQ (b:=false) rfl rfl rfl (congrArg some (nd_f (by omega)))) rfl rfl ?_)|(refine uE (EvF.cmpB (b:=false) rfl rfl rfl Tryz.underlying4 rfl) rfl rfl ?_)|(refine uE (uM rfl rfl) rfl rfl ?_)|(refine uE (uA rfl rfl) rfl rfl ?_)|(refine uE (EvF.pickF rfl rfl rfl) rfl rfl ?_)))|(refine Xo.g rfl rfl ?_;(first | (with_reducible refine Xw.ft rfl rfl ?_)))))|(refine uD rfl ?_;refine hK _ _ ?_;clear hK K) | refine uS rfl ?_ | refine uR rfl (fun K hK=>?_) | refine X.block rfl ?_ | refine X.skip rfl ?_ | (refine X.ite rfl rfl (fun hc=>?_);(first | (with_reducible refine Xb.f hc ?_)) <;> clear hc))
   all_goals try (exfalso;contradiction)
   generalize bx = b24
   refine X.lp rfl (fun q F' H' => ∃ k : Nat,q = t.length - k∧1 ≤ k∧k ≤ t.length∧⟨b24,0,cSp C,some 24,2⟩::G = H'∧F' = [(5,.bool true),(6,.slice (some ⟨b6,0,none⟩) t.length q6),(24,.pointer (some ⟨b24,0,none⟩)),(28,.int .i64 (k : Nat))])
    (t.length - 1) [(5,.bool true),(6,.slice (some ⟨b6,0,none⟩) t.length q6),(24,.pointer (some ⟨b24,0,none⟩)),(28,.int .i64 (1 : Nat))] _ (by repeat (first | exact uU _ | refine uV rfl ?_)) (qR _) ⟨1,by omega,by omega,by omega,rfl,rfl⟩ ?_
   rintro _ _ _ ⟨k,rfl,h1k,hk5,rfl,rfl⟩
   by_cases hlt : k < t.length
   ·have hlt' : (k : Int)<t.length:=by omega
    have h69 : SlE (⟨b24,0,cSp C,some 24,2⟩::G) (some ⟨b6,0,none⟩) cI 1 t:=h6.sub (fun _ q=>qT _ q)
    have ka:=kof_take h69 hq6 h5t hv h1k hlt
    have kb:=kof_drop h69 hq6 h5t hv h1k hlt
    have hc9:=hch k h1k hlt
    obtain ⟨x,hx⟩ : ∃ x,x = kindF (t.take k):=⟨_,rfl⟩
    obtain ⟨y,hy⟩ : ∃ y,y = kindF (t.drop k):=⟨_,rfl⟩
    rw [← hx] at ka hc9
    rw [← hy] at kb hc9
    clear hx hy hch hown
    by_cases hx1 : x = 1
    ·by_cases hy1 : y = 1
     ·obtain ⟨g1,g2⟩:=hc9 hx1 hy1
      repeat' (first | (refine uP rfl ?_;(first | ((first | refine uN rfl ?_ | (refine Xo.g rfl rfl ?_;with_reducible refine Xw.tt ?_));(first | (refine uE (uQ (b:=true) rfl rfl rfl (congrArg some (decide_eq_true hlt'))) rfl rfl ?_)|(refine uE (uY rfl rfl (te rfl)) rfl rfl ?_)|(refine uE (EvF.sliceTo (hh:=k) rfl rfl (te rfl) (te rfl) rfl (by omega)) rfl rfl ?_)|(refine uE (EvF.sliceFrom (lo:=k) rfl rfl (te rfl) (te rfl) rfl (by omega) (by omega)) rfl rfl ?_)|(refine uC (uT rfl (Args.cons rfl Args.nil)) rfl rfl (ka) ?_;rintro _ _ ⟨rfl,rfl⟩)|(refine uC (uT rfl (Args.cons rfl Args.nil)) rfl rfl (kb) ?_;rintro _ _ ⟨rfl,rfl⟩)|(refine uE (uQ (b:=true) rfl rfl rfl (congrArg some (decide_eq_true hx1))) rfl rfl ?_)|(refine uE (uQ (b:=true) rfl rfl rfl (congrArg some (decide_eq_true hy1))) rfl rfl ?_)|(refine uE (uL rfl rfl (uW (cs:=cSp C) (te rfl) rfl (qH _) rfl)) rfl rfl ?_)|(refine uC (uT rfl (Args.cons rfl (Args.cons rfl Args.nil))) rfl rfl (lawIn3 _ _ g1 g2 _) ?_;rintro _ _ ⟨rfl,rfl⟩)|(refine uE (notT rfl rfl) rfl rfl ?_)|(refine uE (EvF.add64 (p:=(k : Int)) (q:=1) rfl rfl rfl (by omega) (by omega)) rfl rfl ?_)|(refine uE (uM rfl rfl) rfl rfl ?_)|(refine uE (uA rfl rfl) rfl rfl ?_)|(refine uE (EvF.pickT rfl rfl rfl) rfl rfl ?_)))))|(refine uD rfl ?_;refine hK _ _ ?_;clear hK K) | refine uS rfl ?_ | refine uR rfl (fun K hK=>?_) | refine X.block rfl ?_ | refine X.skip rfl ?_ | (refine X.ite rfl rfl (fun hc=>?_);(first | (with_reducible refine Xb.t hc ?_)|(with_reducible refine Xb.f hc ?_)) <;> clear hc))
      all_goals try (exfalso;contradiction)
      exact ⟨_,_,_,(by rw [show (k : Int) + 1 = ((k + 1 : Nat) : Int) by omega];exact (by repeat (first | exact uU _ | refine uV rfl ?_))),qR _,⟨k + 1,rfl,by omega,by omega,rfl,rfl⟩,by omega⟩
     ·repeat' (first | (refine uP rfl ?_;(first | ((first | refine uN rfl ?_ | (refine Xo.g rfl rfl ?_;with_reducible refine Xw.tt ?_));(first | (refine uE (uQ (b:=true) rfl rfl rfl (congrArg some (decide_eq_true hlt'))) rfl rfl ?_)|(refine uE (uY rfl rfl (te rfl)) rfl rfl ?_)|(refine uE (EvF.sliceTo (hh:=k) rfl rfl (te rfl) (te rfl) rfl (by omega)) rfl rfl ?_)|(refine uE (EvF.sliceFrom (lo:=k) rfl rfl (te rfl) (te rfl) rfl (by omega) (by omega)) rfl rfl ?_)|(refine uC (uT rfl (Args.cons rfl Args.nil)) rfl rfl (ka) ?_;rintro _ _ ⟨rfl,rfl⟩)|(refine uC (uT rfl (Args.cons rfl Args.nil)) rfl rfl (kb) ?_;rintro _ _ ⟨rfl,rfl⟩)|(refine uE (uQ (b:=true) rfl rfl rfl (congrArg some (decide_eq_true hx1))) rfl rfl ?_)|(refine uE (uQ (b:=false) rfl rfl rfl (congrArg some (decide_eq_false hy1))) rfl rfl ?_)|(refine uE (EvF.add64 (p:=(k : Int)) (q:=1) rfl rfl rfl (by omega) (by omega)) rfl rfl ?_)|(refine uE (uM rfl rfl) rfl rfl ?_)|(refine uE (uA rfl rfl) rfl rfl ?_)|(refine uE (EvF.pickT rfl rfl rfl) rfl rfl ?_)|(refine uE (EvF.pickF rfl rfl rfl) rfl rfl ?_)))|(refine Xo.g rfl rfl ?_;(first | (with_reducible refine Xw.ft rfl rfl ?_)))))|(refine uD rfl ?_;refine hK _ _ ?_;clear hK K) | refine uS rfl ?_ | refine uR rfl (fun K hK=>?_) | refine X.block rfl ?_ | refine X.skip rfl ?_ | (refine X.ite rfl rfl (fun hc=>?_);(first | (with_reducible refine Xb.t hc ?_)|(with_reducible refine Xb.f hc ?_)) <;> clear hc))
      all_goals try (exfalso;contradiction)
      exact ⟨_,_,_,(by rw [show (k : Int) + 1 = ((k + 1 : Nat) : Int) by omega];exact (by repeat (first | exact uU _ | refine uV rfl ?_))),qR _,⟨k + 1,rfl,by omega,by omega,rfl,rfl⟩,by omega⟩
    ·repeat' (first | (refine uP rfl ?_;(first | ((first | refine uN rfl ?_);(first | (refine uE (uQ (b:=true) rfl rfl rfl (congrArg some (decide_eq_true hlt'))) rfl rfl ?_)|(refine uE (uY rfl rfl (te rfl)) rfl rfl ?_)|(refine uE (EvF.sliceTo (hh:=k) rfl rfl (te rfl) (te rfl) rfl (by omega)) rfl rfl ?_)|(refine uC (uT rfl (Args.cons rfl Args.nil)) rfl rfl (ka) ?_;rintro _ _ ⟨rfl,rfl⟩)|(refine uE (uQ (b:=false) rfl rfl rfl (congrArg some (decide_eq_false hx1))) rfl rfl ?_)|(refine uE (EvF.add64 (p:=(k : Int)) (q:=1) rfl rfl rfl (by omega) (by omega)) rfl rfl ?_)|(refine uE (uM rfl rfl) rfl rfl ?_)|(refine uE (uA rfl rfl) rfl rfl ?_)|(refine uE (EvF.pickF rfl rfl rfl) rfl rfl ?_)))|(refine Xo.g rfl rfl ?_;(first | (with_reducible refine Xw.ft rfl rfl ?_)))))|(refine uD rfl ?_;refine hK _ _ ?_;clear hK K) | refine uS rfl ?_ | refine uR rfl (fun K hK=>?_) | refine X.block rfl ?_ | refine X.skip rfl ?_ | (refine X.ite rfl rfl (fun hc=>?_);(first | (with_reducible refine Xb.t hc ?_)|(with_reducible refine Xb.f hc ?_)) <;> clear hc))
     all_goals try (exfalso;contradiction)
     exact ⟨_,_,_,(by rw [show (k : Int) + 1 = ((k + 1 : Nat) : Int) by omega];exact (by repeat (first | exact uU _ | refine uV rfl ?_))),qR _,⟨k + 1,rfl,by omega,by omega,rfl,rfl⟩,by omega⟩
   ·have hlt' : ¬ (k : Int)<t.length:=by omega
    repeat' (first | (refine uP rfl ?_;(first | ((first | refine uN rfl ?_);(first | (refine uE (uQ (b:=false) rfl rfl rfl (congrArg some (decide_eq_false hlt'))) rfl rfl ?_)|(refine uE (uY rfl rfl (te rfl)) rfl rfl ?_)|(refine uE (uM rfl rfl) rfl rfl ?_)|(refine uE (uA rfl rfl) rfl rfl ?_)))))|(refine uD rfl ?_;refine hK _ _ ?_;clear hK K) | refine uS rfl ?_ | refine uR rfl (fun K hK=>?_)|(refine X.brk rfl ?_;repeat (first | refine blockX_hit rfl ?_ | refine blockX_miss (by decide) ?_)) | refine X.ret rfl ?_ | (refine X.ite rfl rfl (fun hc=>?_);(first | (with_reducible refine Xb.f hc ?_)) <;> clear hc))
    exact ret_one (by simp) Tryz.results4 rfl (H' := _) (qR _) rfl
  ·repeat' (first | (refine uP rfl ?_;(first | ((first | refine uN rfl ?_ | (refine Xo.g rfl rfl ?_;with_reducible refine Xw.ff ?_));(first | (refine uE (uL rfl rfl (uW (b:=b2) (cs:=cBl B p) (te rfl) rfl (by (repeat (first | exact m2 | apply qT));done) rfl)) rfl rfl ?_)|(refine uC (uT rfl (Args.cons rfl Args.nil)) rfl rfl (kc _ (hB.sub (fun _ q=>by repeat (first | exact q | apply qT)))) ?_;rintro _ _ ⟨rfl,e9⟩;have e9:=e9.symm;subst e9)|(refine uC (uT rfl (Args.cons rfl (Args.cons rfl Args.nil))) rfl rfl (kk _ (hB.sub (fun _ q=>by repeat (first | exact q | apply qT)))) ?_;rintro _ _ ⟨rfl,e9⟩;have e9:=e9.symm;subst e9)|(refine uE (uX rfl rfl rfl) rfl rfl ?_)|(refine Xg.st (StF.alloc rfl Tryz.zeroValue24 rfl) rfl rfl ?_;rintro _ _ ⟨bx,rfl,rfl⟩)|(refine Xg.st0 (uZ (i:=0) (vs:=cSp C) rfl rfl rfl (te rfl) rfl rfl rfl rfl) rfl ?_;rintro _ _ ⟨rfl,rfl⟩;dsimp only [List.set])|(refine uE (uQ (b:=false) rfl rfl rfl (congrArg some (nd_f (Eq.refl (0 : Int))))) rfl rfl ?_)|(refine uE (uQ (b:=true) rfl rfl rfl (congrArg some (decide_eq_true (Eq.refl (0 : Int))))) rfl rfl ?_)|(refine uE (uQ (b:=true) rfl rfl rfl (congrArg some (nd_t hk))) rfl rfl ?_)|(refine uE (uQ (b:=true) rfl rfl rfl (congrArg some (nd_t ho))) rfl rfl ?_)|(refine uE (EvF.cmpB (b:=false) rfl rfl rfl Tryz.underlying4 rfl) rfl rfl ?_)|(refine uE (uM rfl rfl) rfl rfl ?_)|(refine uE (uA rfl rfl) rfl rfl ?_)|(refine uE (EvF.pickF rfl rfl rfl) rfl rfl ?_)))|(refine Xo.g rfl rfl ?_;(first | (with_reducible refine Xw.ft rfl rfl ?_)))))|(refine uD rfl ?_;refine hK _ _ ?_;clear hK K) | refine uS rfl ?_ | refine uR rfl (fun K hK=>?_) | refine X.skip rfl ?_ | refine X.ret rfl ?_ | (refine X.ite rfl rfl (fun hc=>?_);(first | (with_reducible refine Xb.t hc ?_)|(with_reducible refine Xb.f hc ?_)) <;> clear hc))
   all_goals try (exfalso;contradiction)
   exact ret_one (by simp) Tryz.results4 rfl (H' := _) (qR _) rfl
theorem suN_le (v : Int → Int) : ∀ k,suN v k ≤ k∧myN v k ≤ k
 | 0=>⟨Nat.le_refl _,Nat.le_refl _⟩
 | k + 1=>by
  obtain ⟨h1,h2⟩:=suN_le v k
  show suN v k + (if _ then 1 else 0)≤k + 1∧myN v k + (if _ then 0 else 1)≤k + 1
  split <;> split <;> omega
set_option maxHeartbeats 8000000 in
theorem tru_r21 (B : Bl) (p : Pb) (t : List Int) (own : Int) (b2 b6 q6 cap2 : Nat) (ow2 : Option Kd) (h : Rdy B) (ht : t ∈ truthsB B) (h1t : 1 ≤ t.length) (h5t : t.length ≤ 5) (hq6 : t.length ≤ q6) (hv : ∀ x ∈ t,1 ≤ x∧x ≤ 9) (hown : own = kindF t) (F : FS) (G : List Row)
  (m2 : (⟨b2,0,cBl B p,ow2,cap2⟩ : Row) ∈ G) (hB : BlOk G B p) (h6 : SlE G (some ⟨b6,0,none⟩) cI 1 t) (hF : Sub [(2,.pointer (some ⟨b2,0,none⟩)),(5,.bool true),(6,.slice (some ⟨b6,0,none⟩) t.length q6),(18,.int .i64 own)] F) : X Tryz.prog 224 (csnd (csnd (csnd (csnd (csnd (csnd (csnd (csnd (csnd (csnd (csnd (cof Tryz.f4)))))))))))) F G (retX Tryz.prog Tryz.f4 (fun v _=>v = .bool true)):=by
 refine X.weak hF (qR _) ?_
 have hne : truthsB B ≠ []:=fun e=>by rw [e] at ht;cases ht
 have kk:=fun S (k : Int) hS=>kKind_spec B p k S hS
 repeat' (first | (refine uP rfl ?_;(first | ((first | refine uN rfl ?_);(first | (refine uE (uA rfl rfl) rfl rfl ?_)))))|(refine uD rfl ?_;refine hK _ _ ?_;clear hK K) | refine uS rfl ?_ | refine uR rfl (fun K hK=>?_) | refine X.block rfl ?_)
 refine X.lp rfl (fun q F' H' => ∃ k : Nat,q = 4 - k∧k ≤ 4∧G = H'∧F' = [(2,.pointer (some ⟨b2,0,none⟩)),(5,.bool true),(6,.slice (some ⟨b6,0,none⟩) t.length q6),(18,.int .i64 own),(19,.int .i64 (suN (ofKind (truthsB B)) k)),(20,.int .i64 (myN (ofKind (truthsB B)) k)),(21,.int .i64 ((k : Nat) + 1))])
  4 [(2,.pointer (some ⟨b2,0,none⟩)),(5,.bool true),(6,.slice (some ⟨b6,0,none⟩) t.length q6),(18,.int .i64 own),(19,.int .i64 (suN (ofKind (truthsB B)) 0)),(20,.int .i64 (myN (ofKind (truthsB B)) 0)),(21,.int .i64 ((0 : Nat) + 1))] _ (by repeat (first | exact uU _ | refine uV rfl ?_)) (qR _) ⟨0,by omega,by omega,rfl,rfl⟩ ?_
 rintro _ _ _ ⟨k,rfl,hk4,rfl,rfl⟩
 have hle:=suN_le (ofKind (truthsB B)) k
 by_cases hlt : k < 4
 ·have hlt' : (k : Int) + 1 ≤ 4:=by omega
  have kj:=fun S hS=>kk S ((k : Int) + 1) hS
  rw [openE_rdy h [(k : Int) + 1] (fun n hn=>by rw [List.mem_singleton.1 hn];omega),uIf_pos rfl] at kj
  have hsu : suN (ofKind (truthsB B)) (k + 1)=suN (ofKind (truthsB B)) k + if ofKind (truthsB B) ((k : Int) + 1)=2 then 1 else 0:=rfl
  have hmy : myN (ofKind (truthsB B)) (k + 1)=myN (ofKind (truthsB B)) k + if ofKind (truthsB B) ((k : Int) + 1)=0 then 0 else 1:=rfl
  have hb:=of_bd (truthsB B) ((k : Int) + 1)
  have ho : (k : Int) + 1 = own → ofKind (truthsB B) ((k : Int) + 1) ≠ 0:=fun e=>by rw [e,hown];exact of_own ht
  have hn : (k : Int) + 1 ≠ own → ofKind (truthsB B) ((k : Int) + 1) ≠ 2:=fun e q=>e (by rw [hown];exact (of_two.1 q t ht).symm)
  obtain ⟨w,hw⟩ : ∃ w,w = ofKind (truthsB B) ((k : Int) + 1):=⟨_,rfl⟩
  rw [← hw] at kj hsu hmy hb ho hn
  obtain ⟨c,hc⟩ : ∃ c,c = suN (ofKind (truthsB B)) k:=⟨_,rfl⟩
  obtain ⟨d,hd⟩ : ∃ d,d = myN (ofKind (truthsB B)) k:=⟨_,rfl⟩
  rw [← hc] at hsu hle ⊢
  rw [← hd] at hmy hle ⊢
  clear hw hc hd hown kk
  by_cases hq : (k : Int) + 1 = own
  ·have hw0:=ho hq
   rcases hb with rfl | rfl | rfl
   ·exact absurd rfl hw0
   ·change _ = c + 0 at hsu
    change _ = d + 1 at hmy
    clear ho hn hw0
    repeat' (first | (refine uP rfl ?_;(first | ((first | refine uN rfl ?_ | (refine Xo.g rfl rfl ?_;with_reducible refine Xw.tt ?_)|(refine Xo.g rfl rfl ?_;with_reducible refine Xw.ff ?_));(first | (refine uE (uQ (b:=true) rfl rfl rfl (congrArg some (decide_eq_true hlt'))) rfl rfl ?_)|(refine uE (uL rfl rfl (uW (b:=b2) (cs:=cBl B p) (te rfl) rfl (by (repeat (first | exact m2 | apply qT));done) rfl)) rfl rfl ?_)|(refine uC (uT rfl (Args.cons rfl (Args.cons rfl Args.nil))) rfl rfl (kj _ (hB.sub (fun _ q=>by repeat (first | exact q | apply qT)))) ?_;rintro _ _ ⟨rfl,e9⟩;have e9:=e9.symm;subst e9)|(refine uE (uX rfl rfl rfl) rfl rfl ?_)|(refine uE (uQ (b:=false) rfl rfl rfl (congrArg some (nd_f (Eq.refl (0 : Int))))) rfl rfl ?_)|(refine uE (uQ (b:=true) rfl rfl rfl (congrArg some (decide_eq_true (by omega)))) rfl rfl ?_)|(refine uE (uQ (b:=true) rfl rfl rfl (congrArg some (nd_t (by omega)))) rfl rfl ?_)|(refine uE (uQ (b:=false) rfl rfl rfl (congrArg some (nd_f (by omega)))) rfl rfl ?_)|(refine uE (EvF.add64 (p:=(d : Int)) (q:=1) rfl rfl rfl (by omega) (by omega)) rfl rfl ?_)|(refine uE (EvF.add64 (p:=(k : Int) + 1) (q:=1) rfl rfl rfl (by omega) (by omega)) rfl rfl ?_)|(refine uE (uM rfl rfl) rfl rfl ?_)|(refine uE (uA rfl rfl) rfl rfl ?_)|(refine uE (EvF.pickT rfl rfl rfl) rfl rfl ?_)|(refine uE (EvF.pickF rfl rfl rfl) rfl rfl ?_)))|(refine Xo.g rfl rfl ?_;(first | (with_reducible refine Xw.ft rfl rfl ?_)))))|(refine uD rfl ?_;refine hK _ _ ?_;clear hK K) | refine uS rfl ?_ | refine uR rfl (fun K hK=>?_) | refine X.block rfl ?_ | refine X.skip rfl ?_ | (refine X.ite rfl rfl (fun hc=>?_);(first | (with_reducible refine Xb.t hc ?_)|(with_reducible refine Xb.f hc ?_)) <;> clear hc))
    all_goals try (exfalso;contradiction)
    exact ⟨_,_,_,(by rw [hsu,hmy,show (((k + 1 : Nat) : Int)) = (k : Int) + 1 by omega,show ((c + 0 : Nat) : Int)=c by omega,show ((d + 1 : Nat) : Int)=(d : Int) + 1 by omega];exact (by repeat (first | exact uU _ | refine uV rfl ?_))),qR _,⟨k + 1,rfl,by omega,rfl,rfl⟩,by omega⟩
   ·change _ = c + 1 at hsu
    change _ = d + 1 at hmy
    clear ho hn hw0
    repeat' (first | (refine uP rfl ?_;(first | ((first | refine uN rfl ?_ | (refine Xo.g rfl rfl ?_;with_reducible refine Xw.tt ?_)|(refine Xo.g rfl rfl ?_;with_reducible refine Xw.ff ?_));(first | (refine uE (uQ (b:=true) rfl rfl rfl (congrArg some (decide_eq_true hlt'))) rfl rfl ?_)|(refine uE (uL rfl rfl (uW (b:=b2) (cs:=cBl B p) (te rfl) rfl (by (repeat (first | exact m2 | apply qT));done) rfl)) rfl rfl ?_)|(refine uC (uT rfl (Args.cons rfl (Args.cons rfl Args.nil))) rfl rfl (kj _ (hB.sub (fun _ q=>by repeat (first | exact q | apply qT)))) ?_;rintro _ _ ⟨rfl,e9⟩;have e9:=e9.symm;subst e9)|(refine uE (uX rfl rfl rfl) rfl rfl ?_)|(refine uE (uQ (b:=false) rfl rfl rfl (congrArg some (nd_f (Eq.refl (0 : Int))))) rfl rfl ?_)|(refine uE (uQ (b:=true) rfl rfl rfl (congrArg some (decide_eq_true (by omega)))) rfl rfl ?_)|(refine uE (uQ (b:=true) rfl rfl rfl (congrArg some (nd_t (by omega)))) rfl rfl ?_)|(refine uE (uQ (b:=false) rfl rfl rfl (congrArg some (nd_f (by omega)))) rfl rfl ?_)|(refine uE (EvF.add64 (p:=(c : Int)) (q:=1) rfl rfl rfl (by omega) (by omega)) rfl rfl ?_)|(refine uE (EvF.add64 (p:=(d : Int)) (q:=1) rfl rfl rfl (by omega) (by omega)) rfl rfl ?_)|(refine uE (EvF.add64 (p:=(k : Int) + 1) (q:=1) rfl rfl rfl (by omega) (by omega)) rfl rfl ?_)|(refine uE (uM rfl rfl) rfl rfl ?_)|(refine uE (uA rfl rfl) rfl rfl ?_)|(refine uE (EvF.pickT rfl rfl rfl) rfl rfl ?_)|(refine uE (EvF.pickF rfl rfl rfl) rfl rfl ?_)))|(refine Xo.g rfl rfl ?_;(first | (with_reducible refine Xw.ft rfl rfl ?_)))))|(refine uD rfl ?_;refine hK _ _ ?_;clear hK K) | refine uS rfl ?_ | refine uR rfl (fun K hK=>?_) | refine X.block rfl ?_ | refine X.skip rfl ?_ | (refine X.ite rfl rfl (fun hc=>?_);(first | (with_reducible refine Xb.t hc ?_)|(with_reducible refine Xb.f hc ?_)) <;> clear hc))
    all_goals try (exfalso;contradiction)
    exact ⟨_,_,_,(by rw [hsu,hmy,show (((k + 1 : Nat) : Int)) = (k : Int) + 1 by omega,show ((c + 1 : Nat) : Int)=(c : Int) + 1 by omega,show ((d + 1 : Nat) : Int)=(d : Int) + 1 by omega];exact (by repeat (first | exact uU _ | refine uV rfl ?_))),qR _,⟨k + 1,rfl,by omega,rfl,rfl⟩,by omega⟩
  ·have hw0:=hn hq
   rcases hb with rfl | rfl | rfl
   ·change _ = c + 0 at hsu
    change _ = d + 0 at hmy
    clear ho hn hw0
    repeat' (first | (refine uP rfl ?_;(first | ((first | refine uN rfl ?_ | (refine Xo.g rfl rfl ?_;with_reducible refine Xw.tt ?_)|(refine Xo.g rfl rfl ?_;with_reducible refine Xw.ff ?_));(first | (refine uE (uQ (b:=true) rfl rfl rfl (congrArg some (decide_eq_true hlt'))) rfl rfl ?_)|(refine uE (uL rfl rfl (uW (b:=b2) (cs:=cBl B p) (te rfl) rfl (by (repeat (first | exact m2 | apply qT));done) rfl)) rfl rfl ?_)|(refine uC (uT rfl (Args.cons rfl (Args.cons rfl Args.nil))) rfl rfl (kj _ (hB.sub (fun _ q=>by repeat (first | exact q | apply qT)))) ?_;rintro _ _ ⟨rfl,e9⟩;have e9:=e9.symm;subst e9)|(refine uE (uX rfl rfl rfl) rfl rfl ?_)|(refine uE (uQ (b:=false) rfl rfl rfl (congrArg some (nd_f (Eq.refl (0 : Int))))) rfl rfl ?_)|(refine uE (uQ (b:=false) rfl rfl rfl (congrArg some (decide_eq_false (by omega)))) rfl rfl ?_)|(refine uE (uQ (b:=true) rfl rfl rfl (congrArg some (nd_t (by omega)))) rfl rfl ?_)|(refine uE (EvF.add64 (p:=(k : Int) + 1) (q:=1) rfl rfl rfl (by omega) (by omega)) rfl rfl ?_)|(refine uE (uM rfl rfl) rfl rfl ?_)|(refine uE (uA rfl rfl) rfl rfl ?_)|(refine uE (EvF.pickT rfl rfl rfl) rfl rfl ?_)|(refine uE (EvF.pickF rfl rfl rfl) rfl rfl ?_)))|(refine Xo.g rfl rfl ?_;(first | (with_reducible refine Xw.ft rfl rfl ?_)))))|(refine uD rfl ?_;refine hK _ _ ?_;clear hK K) | refine uS rfl ?_ | refine uR rfl (fun K hK=>?_) | refine X.block rfl ?_ | refine X.skip rfl ?_ | (refine X.ite rfl rfl (fun hc=>?_);(first | (with_reducible refine Xb.t hc ?_)|(with_reducible refine Xb.f hc ?_)) <;> clear hc))
    all_goals try (exfalso;contradiction)
    exact ⟨_,_,_,(by rw [hsu,hmy,show (((k + 1 : Nat) : Int)) = (k : Int) + 1 by omega,show ((c + 0 : Nat) : Int)=c by omega,show ((d + 0 : Nat) : Int)=d by omega];exact (by repeat (first | exact uU _ | refine uV rfl ?_))),qR _,⟨k + 1,rfl,by omega,rfl,rfl⟩,by omega⟩
   ·change _ = c + 0 at hsu
    change _ = d + 1 at hmy
    clear ho hn hw0
    repeat' (first | (refine uP rfl ?_;(first | ((first | refine uN rfl ?_ | (refine Xo.g rfl rfl ?_;with_reducible refine Xw.tt ?_)|(refine Xo.g rfl rfl ?_;with_reducible refine Xw.ff ?_));(first | (refine uE (uQ (b:=true) rfl rfl rfl (congrArg some (decide_eq_true hlt'))) rfl rfl ?_)|(refine uE (uL rfl rfl (uW (b:=b2) (cs:=cBl B p) (te rfl) rfl (by (repeat (first | exact m2 | apply qT));done) rfl)) rfl rfl ?_)|(refine uC (uT rfl (Args.cons rfl (Args.cons rfl Args.nil))) rfl rfl (kj _ (hB.sub (fun _ q=>by repeat (first | exact q | apply qT)))) ?_;rintro _ _ ⟨rfl,e9⟩;have e9:=e9.symm;subst e9)|(refine uE (uX rfl rfl rfl) rfl rfl ?_)|(refine uE (uQ (b:=false) rfl rfl rfl (congrArg some (nd_f (Eq.refl (0 : Int))))) rfl rfl ?_)|(refine uE (uQ (b:=false) rfl rfl rfl (congrArg some (decide_eq_false (by omega)))) rfl rfl ?_)|(refine uE (uQ (b:=true) rfl rfl rfl (congrArg some (nd_t (by omega)))) rfl rfl ?_)|(refine uE (EvF.add64 (p:=(d : Int)) (q:=1) rfl rfl rfl (by omega) (by omega)) rfl rfl ?_)|(refine uE (EvF.add64 (p:=(k : Int) + 1) (q:=1) rfl rfl rfl (by omega) (by omega)) rfl rfl ?_)|(refine uE (uM rfl rfl) rfl rfl ?_)|(refine uE (uA rfl rfl) rfl rfl ?_)|(refine uE (EvF.pickT rfl rfl rfl) rfl rfl ?_)|(refine uE (EvF.pickF rfl rfl rfl) rfl rfl ?_)))|(refine Xo.g rfl rfl ?_;(first | (with_reducible refine Xw.ft rfl rfl ?_)))))|(refine uD rfl ?_;refine hK _ _ ?_;clear hK K) | refine uS rfl ?_ | refine uR rfl (fun K hK=>?_) | refine X.block rfl ?_ | refine X.skip rfl ?_ | (refine X.ite rfl rfl (fun hc=>?_);(first | (with_reducible refine Xb.t hc ?_)|(with_reducible refine Xb.f hc ?_)) <;> clear hc))
    all_goals try (exfalso;contradiction)
    exact ⟨_,_,_,(by rw [hsu,hmy,show (((k + 1 : Nat) : Int)) = (k : Int) + 1 by omega,show ((c + 0 : Nat) : Int)=c by omega,show ((d + 1 : Nat) : Int)=(d : Int) + 1 by omega];exact (by repeat (first | exact uU _ | refine uV rfl ?_))),qR _,⟨k + 1,rfl,by omega,rfl,rfl⟩,by omega⟩
   ·exact absurd rfl hw0
 ·obtain rfl : k = 4:=by omega
  obtain ⟨f1,f2,f3⟩:=kinds_fin ht
  obtain ⟨c,hc⟩ : ∃ c,c = suN (ofKind (truthsB B)) 4:=⟨_,rfl⟩
  obtain ⟨d,hd⟩ : ∃ d,d = myN (ofKind (truthsB B)) 4:=⟨_,rfl⟩
  rw [← hc] at f2 f3 ⊢
  rw [← hd] at f1 f2 ⊢
  clear hle hlt
  by_cases hc1 : c = 1
  ·have hd1:=f2.1 hc1
   repeat' (first | (refine tru_r34 B p t own b2 b6 q6 _ _ h ht h1t h5t hq6 hv hown _ _ m2 hB h6 ?_;exact (by repeat (first | exact uU _ | refine uV rfl ?_)))|(refine uP rfl ?_;(first | ((first | refine uN rfl ?_ | (refine Xo.g rfl rfl ?_;with_reducible refine Xw.ff ?_));(first | (refine uE (uQ (b:=true) rfl rfl rfl (congrArg some (decide_eq_true (by omega)))) rfl rfl ?_)|(refine uE (uQ (b:=false) rfl rfl rfl (congrArg some (decide_eq_false (by omega)))) rfl rfl ?_)|(refine uE (EvF.cmpB (b:=false) rfl rfl rfl Tryz.underlying4 rfl) rfl rfl ?_)|(refine uE (uM rfl rfl) rfl rfl ?_)|(refine uE (EvF.pickF rfl rfl rfl) rfl rfl ?_)))))|(refine uD rfl ?_;refine hK _ _ ?_;clear hK K) | refine uS rfl ?_ | refine uR rfl (fun K hK=>?_)|(refine X.brk rfl ?_;repeat (first | refine blockX_hit rfl ?_ | refine blockX_miss (by decide) ?_)) | refine X.skip rfl ?_ | (refine X.ite rfl rfl (fun hc=>?_);(first | (with_reducible refine Xb.f hc ?_)) <;> clear hc))
   all_goals try (exfalso;contradiction)
  ·have hd1 : ¬ d = 1:=fun e=>hc1 (f2.2 e)
   repeat' (first | (refine tru_r34 B p t own b2 b6 q6 _ _ h ht h1t h5t hq6 hv hown _ _ m2 hB h6 ?_;exact (by repeat (first | exact uU _ | refine uV rfl ?_)))|(refine uP rfl ?_;(first | ((first | refine uN rfl ?_ | (refine Xo.g rfl rfl ?_;with_reducible refine Xw.ff ?_));(first | (refine uE (uQ (b:=false) rfl rfl rfl (congrArg some (decide_eq_false (by omega)))) rfl rfl ?_)|(refine uE (EvF.cmpB (b:=false) rfl rfl rfl Tryz.underlying4 rfl) rfl rfl ?_)|(refine uE (uM rfl rfl) rfl rfl ?_)|(refine uE (EvF.pickF rfl rfl rfl) rfl rfl ?_)))))|(refine uD rfl ?_;refine hK _ _ ?_;clear hK K) | refine uS rfl ?_ | refine uR rfl (fun K hK=>?_)|(refine X.brk rfl ?_;repeat (first | refine blockX_hit rfl ?_ | refine blockX_miss (by decide) ?_)) | refine X.skip rfl ?_ | (refine X.ite rfl rfl (fun hc=>?_);(first | (with_reducible refine Xb.f hc ?_)) <;> clear hc))
   all_goals try (exfalso;contradiction)
set_option maxHeartbeats 8000000 in
theorem tru_r16 (B : Bl) (p : Pb) (t : List Int) (b2 b6 q6 cap2 : Nat) (ow2 : Option Kd) (h : Rdy B) (hi : InG (gsOf B) t) (hq6 : t.length ≤ q6) (F : FS) (G : List Row)
  (m2 : (⟨b2,0,cBl B p,ow2,cap2⟩ : Row) ∈ G) (hB : BlOk G B p) (h6 : SlE G (some ⟨b6,0,none⟩) cI 1 t) (hF : Sub [(2,.pointer (some ⟨b2,0,none⟩)),(5,.bool true),(6,.slice (some ⟨b6,0,none⟩) t.length q6),(8,.int .i64 (loF t)),(9,.int .i64 (hiF t))] F) : X Tryz.prog 224 (csnd (csnd (csnd (csnd (csnd (csnd (csnd (cof Tryz.f4)))))))) F G (retX Tryz.prog Tryz.f4 (fun v _=>v = .bool true)):=by
 refine X.weak hF (qR _) ?_
 have h5:=h.ok.h5
 have hgl:=gs_len h.ok
 have htl:=InG_len _ _ hi
 have hG9:=gs_ok h.ok h.can
 have hv : ∀ x ∈ t,1 ≤ x∧x ≤ 9:=fun x hx=>InG_bd hG9 hi hx
 have ht : t ∈ truthsB B:=(mem_exts (gsOf B) t).2 hi
 have kb:=fun S hS=>kbest_spec B p S hS
 have kw:=fun S hS=>kworst_spec B p S hS
 rw [openE_rdy h [] (fun _ q=>absurd q List.not_mem_nil),spIf_pos rfl] at kb kw
 have ha : spAt (gradesOf B) 0 ∈ gsOf B:=by
  have h0 : (gsOf B)[0]? = some (spAt (gradesOf B) 0):=by
   rw [← spAt_gs (B:=B) (by rw [← gsOf_len h.ok];omega)]
   exact spAt_get (by omega)
  exact List.mem_of_getElem? h0
 have hbi:=best_in hG9 hi ha
 change ∀ S,_ → Fc _ _ _ _ (fun v H' => v = .tuple #[.agg (cSp (bestF (gsOf B) (spAt (gradesOf B) 0))).toArray,.int .i64 0]∧H' = S) at kb
 change ∀ S,_ → Fc _ _ _ _ (fun v H' => v = .tuple #[.agg (cSp (worstF (gsOf B) (spAt (gradesOf B) 0))).toArray,.int .i64 0]∧H' = S) at kw
 obtain ⟨Sb,hSb⟩ : ∃ s,s = bestF (gsOf B) (spAt (gradesOf B) 0):=⟨_,rfl⟩
 obtain ⟨Sw,hSw⟩ : ∃ s,s = worstF (gsOf B) (spAt (gradesOf B) 0):=⟨_,rfl⟩
 rw [← hSb] at kb hbi
 rw [← hSw] at kw hbi
 obtain ⟨⟨g1,g2⟩,⟨g3,g4⟩,g5,g6⟩:=hbi
 obtain ⟨lo,hlo⟩ : ∃ x,x = loF t:=⟨_,rfl⟩
 obtain ⟨hh,hhi⟩ : ∃ x,x = hiF t:=⟨_,rfl⟩
 rw [← hlo] at g1 g2 ⊢
 rw [← hhi] at g3 g4 ⊢
 clear hSb hSw hlo hhi ha
 have h1t : 1 ≤ t.length:=by omega
 have h5t : t.length ≤ 5:=by omega
 have kq:=fun S hS=>rKindOf_spec t (some ⟨b6,0,none⟩) q6 S hS (by omega) (by omega) hq6 hv
 clear hgl
 repeat' (first | (refine tru_r21 B p t (kindF t) b2 b6 q6 _ _ h ht h1t h5t hq6 hv rfl _ _ (qT _ (qT _ m2)) (hB.sub (fun _ q=>qT _ (qT _ q))) (h6.sub (fun _ q=>qT _ (qT _ q))) ?_;exact (by repeat (first | exact uU _ | refine uV rfl ?_)))|(refine uP rfl ?_;(first | ((first | refine uN rfl ?_ | (refine Xo.g rfl rfl ?_;with_reducible refine Xw.ff ?_));(first | (refine uE (uL rfl rfl (uW (b:=b2) (cs:=cBl B p) (te rfl) rfl (by (repeat (first | exact m2 | apply qT));done) rfl)) rfl rfl ?_)|(refine uC (uT rfl (Args.cons rfl Args.nil)) rfl rfl (kb _ (hB.sub (fun _ q=>by repeat (first | exact q | apply qT)))) ?_;rintro _ _ ⟨rfl,e9⟩;have e9:=e9.symm;subst e9)|(refine uC (uT rfl (Args.cons rfl Args.nil)) rfl rfl (kw _ (hB.sub (fun _ q=>by repeat (first | exact q | apply qT)))) ?_;rintro _ _ ⟨rfl,e9⟩;have e9:=e9.symm;subst e9)|(refine uE (uX rfl rfl rfl) rfl rfl ?_)|(refine Xg.st (StF.alloc rfl Tryz.zeroValue24 rfl) rfl rfl ?_;rintro _ _ ⟨bx,rfl,rfl⟩)|(refine Xg.st0 (uZ (i:=0) (vs:=cSp Sb) rfl rfl rfl (te rfl) rfl rfl rfl rfl) rfl ?_;rintro _ _ ⟨rfl,rfl⟩;dsimp only [List.set])|(refine Xg.st0 (uZ (i:=0) (vs:=cSp Sw) rfl rfl rfl (te rfl) rfl rfl rfl rfl) rfl ?_;rintro _ _ ⟨rfl,rfl⟩;dsimp only [List.set])|(refine uE (uQ (b:=false) rfl rfl rfl (congrArg some (nd_f (Eq.refl (0 : Int))))) rfl rfl ?_)|(refine uE (uL rfl rfl (uW (te rfl) rfl (by repeat (first | exact qH _ | apply qT)) rfl)) rfl rfl ?_)|(refine uC (uT rfl (Args.cons rfl (Args.cons rfl Args.nil))) rfl rfl (lawIn3 _ _ g1 g2 _) ?_;rintro _ _ ⟨rfl,rfl⟩)|(refine uC (uT rfl (Args.cons rfl (Args.cons rfl Args.nil))) rfl rfl (lawIn3 _ _ g3 g4 _) ?_;rintro _ _ ⟨rfl,rfl⟩)|(refine uE (notT rfl rfl) rfl rfl ?_)|(refine uE (uL rfl rfl (uO (te rfl) rfl (by repeat (first | exact qH _ | apply qT)) rfl)) rfl rfl ?_)|(refine uE (uQ (b:=false) rfl rfl rfl (congrArg some (decide_eq_false (by omega)))) rfl rfl ?_)|(refine uC (uT rfl (Args.cons rfl Args.nil)) rfl rfl (kq _ (h6.sub (fun _ q=>by repeat (first | exact q | apply qT)))) ?_;rintro _ _ ⟨rfl,e9⟩;have e9:=e9.symm;subst e9)|(refine uE (uM rfl rfl) rfl rfl ?_)|(refine uE (uA rfl rfl) rfl rfl ?_)|(refine uE (EvF.pickF rfl rfl rfl) rfl rfl ?_)|(refine uE (uF rfl rfl (te rfl) rfl (te rfl) (by decide)) rfl rfl ?_)))))|(refine uD rfl ?_;refine hK _ _ ?_;clear hK K) | refine uS rfl ?_ | refine uR rfl (fun K hK=>?_) | refine X.skip rfl ?_ | (refine X.ite rfl rfl (fun hc=>?_);(first | (with_reducible refine Xb.f hc ?_)) <;> clear hc))
 all_goals try (exfalso;contradiction)
theorem fold_snoc {f : Int → Int → Int} {t : List Int} {k : Nat} {x : Int} (h : t[k]? = some x) (a : Int) : (t.take (k + 1)).foldl f a = f ((t.take k).foldl f a) x:=by
 rw [take_snoc h,List.foldl_append]
 rfl
set_option maxHeartbeats 8000000 in
theorem coreTruth_spec (B : Bl) (p : Pb) (l : List Int) (al : Option Addr) (cl : Nat) (h8 : ∀ x ∈ l,0 ≤ x∧x ≤ 255) (H : List Row) (hd : SlE H p.a1 cDr 4 B.draws) (hw : SlE H p.a2 cDr 4 B.weighs) (hl : SlE H al cU 1 l) :
  Fc Tryz.prog 4 [.agg (cBl B p).toArray,.slice al l.length cl] H (fun v _=>v = .bool true):=by
 by_cases h : Rdy B
 ·have hB:=h.bl hd hw
  have h5:=h.ok.h5
  have hgl:=gs_len h.ok
  have kr:=fun S hS=>ready_yes B p S hS h
  have kch:=fun S hS hl' => chosen_spec B p l al cl S h hS hl' h8
  have hi:=chL_in h8 (gs_ok h.ok h.can)
  obtain ⟨t,ht⟩ : ∃ t,t = chL l (gsOf B):=⟨_,rfl⟩
  rw [← ht] at hi
  simp only [← ht] at kch
  clear ht
  have htl:=InG_len _ _ hi
  refine Fc.mk (callable Tryz.call4) Tryz.func4 rfl Tryz.ntmps4 rfl ?_;dsimp only [fr]
  repeat' (first | (refine uP rfl ?_;(first | ((first | refine uN rfl ?_ | (refine Xo.g rfl rfl ?_;with_reducible refine Xw.ff ?_));(first | (refine uC (uT rfl Args.nil) rfl rfl (alive_spec _) ?_;rintro _ _ ⟨rfl,rfl⟩)|(refine uE (uL rfl rfl (uW (cs:=cBl B p) (te rfl) rfl (by (repeat (first | exact qH _ | apply qT));done) rfl)) rfl rfl ?_)|(refine uC (uT rfl (Args.cons rfl Args.nil)) rfl rfl (kr _ (hB.sub (fun _ h=>by repeat (first | exact h | apply qT)))) ?_;rintro _ _ ⟨rfl,rfl⟩)|(refine uE (notT rfl rfl) rfl rfl ?_)|(refine uC (uT rfl (Args.cons rfl (Args.cons rfl Args.nil))) rfl rfl (kch _ (hB.sub (fun _ h=>by repeat (first | exact h | apply qT))) (hl.sub (fun _ h=>by repeat (first | exact h | apply qT)))) ?_;rintro _ _ ⟨b6,q6,hq6,rfl,rfl⟩)|(refine uE (uX rfl rfl rfl) rfl rfl ?_)|(refine uE (uY rfl rfl (te rfl)) rfl rfl ?_)|(refine uE (uM rfl rfl) rfl rfl ?_)|(refine uE (uA rfl rfl) rfl rfl ?_)|(refine uE (EvF.pickF rfl rfl rfl) rfl rfl ?_)|(refine Xg.st (StF.boxAgg rfl rfl) rfl rfl ?_;rintro _ _ ⟨bx,rfl,rfl⟩)))))|(refine uD rfl ?_;refine hK _ _ ?_;clear hK K) | refine uS rfl ?_ | refine uR rfl (fun K hK=>?_) | refine X.block rfl ?_ | refine X.skip rfl ?_ | (refine X.ite rfl rfl (fun hc=>?_);(first | (with_reducible refine Xb.f hc ?_)) <;> clear hc))
  all_goals try (exfalso;contradiction)
  generalize bx = b2
  refine X.lp rfl (fun q F' H' => ∃ k : Nat,q = t.length - k∧k ≤ t.length∧⟨b6,0,t.flatMap cI,some 3,q6 * 1⟩::⟨b2,0,cBl B p,some 31,6⟩::H = H'∧F' = [(2,.pointer (some ⟨b2,0,none⟩)),(5,.bool true),(6,.slice (some ⟨b6,0,none⟩) t.length q6),(8,.int .i64 ((t.take (k : Nat)).foldl min 9)),(9,.int .i64 ((t.take (k : Nat)).foldl max 1)),(46,.slice (some ⟨b6,0,none⟩) t.length q6),(47,.int .i64 t.length),(48,.int .i64 (k : Nat))])
   t.length [(2,.pointer (some ⟨b2,0,none⟩)),(5,.bool true),(6,.slice (some ⟨b6,0,none⟩) t.length q6),(8,.int .i64 ((t.take (0 : Nat)).foldl min 9)),(9,.int .i64 ((t.take (0 : Nat)).foldl max 1)),(46,.slice (some ⟨b6,0,none⟩) t.length q6),(47,.int .i64 t.length),(48,.int .i64 (0 : Nat))] _ (by repeat (first | exact uU _ | refine uV rfl ?_)) (qR _) ⟨0,by omega,by omega,rfl,rfl⟩ ?_
  rintro _ _ _ ⟨k,rfl,hk,rfl,rfl⟩
  obtain ⟨G,hG⟩ : ∃ G : List Row,⟨b6,0,t.flatMap cI,some 3,q6 * 1⟩::⟨b2,0,cBl B p,some 31,6⟩::H = G:=⟨_,rfl⟩
  have m2 : (⟨b2,0,cBl B p,some 31,6⟩ : Row) ∈ G:=by rw [← hG];exact qT _ (qH _)
  have h6 : SlE G (some ⟨b6,0,none⟩) cI 1 t:=by rw [← hG];exact SlE.ofRow (qH _) (fun _ _=>rfl)
  have hBG : BlOk G B p:=by rw [← hG];exact hB.sub (fun _ q=>qT _ (qT _ q))
  rw [hG]
  by_cases hlt : k < t.length
  ·have hlt' : (k : Int)<t.length:=by omega
   obtain ⟨s,hs⟩ : ∃ s,(gsOf B)[k]? = some s:=⟨_,List.getElem?_eq_getElem (by omega)⟩
   obtain ⟨x,hx,g1,g2⟩:=InG_get hi hs
   have hsp9 : spAt (gradesOf B) (k : Int).toNat = s:=by
    show spAt (gradesOf B) k = s
    rw [← spAt_gs (B:=B) (by rw [← gsOf_len h.ok];omega)]
    unfold spAt
    rw [List.getD_eq_getElem?_getD,hs]
    rfl
   have kl:=fun S hS=>klayer_spec B p (k : Int) S hS
   rw [show openE B ⟨[(k : Int)],[],[],[]⟩ = 0 from oE h.ok h.can (fun m hm=>by rw [List.mem_singleton.1 hm];exact ⟨by show (0 : Int)≤k;omega,by show (k : Int)≤B.layers - 1;omega⟩) (fun _ h=>absurd h List.not_mem_nil) (fun _ h=>absurd h List.not_mem_nil) (fun _ h=>absurd h List.not_mem_nil),spIf_pos rfl,hsp9] at kl
   have hf1:=fold_snoc (f:=min) hx 9
   have hf2:=fold_snoc (f:=max) hx 1
   obtain ⟨u,hu⟩ : ∃ u,u = (t.take k).foldl min 9:=⟨_,rfl⟩
   obtain ⟨w,hw9⟩ : ∃ w,w = (t.take k).foldl max 1:=⟨_,rfl⟩
   rw [← hu] at hf1 ⊢
   rw [← hw9] at hf2 ⊢
   clear hu hw9 hs hsp9
   repeat' (first | (refine uP rfl ?_;(first | ((first | refine uN rfl ?_ | (refine Xo.g rfl rfl ?_;with_reducible refine Xw.ff ?_));(first | (refine uE (uQ (b:=true) rfl rfl rfl (congrArg some (decide_eq_true hlt'))) rfl rfl ?_)|(refine uE (uJ (i:=(k : Int)) rfl rfl rfl (te rfl) (te rfl) (by omega) (by omega)) rfl rfl ?_)|(refine uE (uL (v := .int .i64 x) rfl rfl (LoadV.el0 (n:=k) (h6.sub (fun _ h=>by repeat (first | exact h | apply qT))) hx (te rfl) rfl (fun _ h=>h) rfl)) rfl rfl ?_)|(refine uE (uL rfl rfl (uW (b:=b2) (cs:=cBl B p) (te rfl) rfl (by (repeat (first | exact m2 | apply qT));done) rfl)) rfl rfl ?_)|(refine uC (uT rfl (Args.cons rfl (Args.cons rfl Args.nil))) rfl rfl (kl _ (hBG.sub (fun _ h=>by repeat (first | exact h | apply qT)))) ?_;rintro _ _ ⟨rfl,e9⟩;have e9:=e9.symm;subst e9)|(refine uE (uX rfl rfl rfl) rfl rfl ?_)|(refine Xg.st (StF.alloc rfl Tryz.zeroValue24 rfl) rfl rfl ?_;rintro _ _ ⟨bx,rfl,rfl⟩)|(refine Xg.st0 (uZ (i:=0) (vs:=cSp s) rfl rfl rfl (te rfl) rfl rfl rfl rfl) rfl ?_;rintro _ _ ⟨rfl,rfl⟩;dsimp only [List.set])|(refine uE (uQ (b:=false) rfl rfl rfl (congrArg some (nd_f (Eq.refl (0 : Int))))) rfl rfl ?_)|(refine uE (uL rfl rfl (uW (cs:=cSp s) (te rfl) rfl (qH _) rfl)) rfl rfl ?_)|(refine uC (uT rfl (Args.cons rfl (Args.cons rfl Args.nil))) rfl rfl (lawIn3 _ _ g1 g2 _) ?_;rintro _ _ ⟨rfl,rfl⟩)|(refine uE (notT rfl rfl) rfl rfl ?_)|(refine uE (EvF.min64 rfl rfl rfl) rfl rfl ?_)|(refine uE (EvF.max64 rfl rfl rfl) rfl rfl ?_)|(refine uE (EvF.add64 (p:=(k : Int)) (q:=1) rfl rfl rfl (by omega) (by omega)) rfl rfl ?_)|(refine uE (uM rfl rfl) rfl rfl ?_)|(refine uE (uA rfl rfl) rfl rfl ?_)|(refine uE (EvF.pickF rfl rfl rfl) rfl rfl ?_)))))|(refine uD rfl ?_;refine hK _ _ ?_;clear hK K) | refine uS rfl ?_ | refine uR rfl (fun K hK=>?_) | refine X.block rfl ?_ | refine X.skip rfl ?_ | (refine X.ite rfl rfl (fun hc=>?_);(first | (with_reducible refine Xb.t hc ?_)|(with_reducible refine Xb.f hc ?_)) <;> clear hc))
   all_goals try (exfalso;contradiction)
   exact ⟨_,_,_,(by rw [hf1,hf2,show (((k + 1 : Nat) : Int)) = (k : Int) + 1 by omega];exact (by repeat (first | exact uU _ | refine uV rfl ?_))),(List.sublist_cons_self _ _),⟨k + 1,rfl,by omega,rfl,rfl⟩,by omega⟩
  ·have hlt' : ¬ (k : Int)<t.length:=by omega
   rw [List.take_of_length_le (by omega)]
   change X _ _ _ [(2,.pointer (some ⟨b2,0,none⟩)),(5,.bool true),(6,.slice (some ⟨b6,0,none⟩) t.length q6),(8,.int .i64 (loF t)),(9,.int .i64 (hiF t)),(46,.slice (some ⟨b6,0,none⟩) t.length q6),(47,.int .i64 t.length),(48,.int .i64 (k : Nat))] _ _
   repeat' (first | (refine tru_r16 B p t b2 b6 q6 _ _ h hi hq6 _ _ m2 hBG h6 ?_;exact (by repeat (first | exact uU _ | refine uV rfl ?_)))|(refine uP rfl ?_;(first | ((first | refine uN rfl ?_);(first | (refine uE (uQ (b:=false) rfl rfl rfl (congrArg some (decide_eq_false hlt'))) rfl rfl ?_)))))|(refine uD rfl ?_;refine hK _ _ ?_;clear hK K) | refine uS rfl ?_ | refine uR rfl (fun K hK=>?_)|(refine X.brk rfl ?_;repeat (first | refine blockX_hit rfl ?_ | refine blockX_miss (by decide) ?_))|(refine X.ite rfl rfl (fun hc=>?_);(first | (with_reducible refine Xb.f hc ?_)) <;> clear hc))
   all_goals try (exfalso;contradiction)
 ·have kr:=fun S hd' hw' => ready_no B p S hd' hw' h
  refine Fc.mk (callable Tryz.call4) Tryz.func4 rfl Tryz.ntmps4 rfl ?_;dsimp only [fr]
  repeat' (first | (refine uP rfl ?_;(first | ((first | refine uN rfl ?_);(first | (refine uC (uT rfl Args.nil) rfl rfl (alive_spec _) ?_;rintro _ _ ⟨rfl,rfl⟩)|(refine uE (uL rfl rfl (uW (cs:=cBl B p) (te rfl) rfl (by (repeat (first | exact qH _ | apply qT));done) rfl)) rfl rfl ?_)|(refine uC (uT rfl (Args.cons rfl Args.nil)) rfl rfl (kr _ (hd.sub (fun _ h=>by repeat (first | exact h | apply qT))) (hw.sub (fun _ h=>by repeat (first | exact h | apply qT)))) ?_;rintro _ _ ⟨rfl,rfl⟩)|(refine uE (notF rfl rfl) rfl rfl ?_)|(refine uE (uM rfl rfl) rfl rfl ?_)|(refine uE (uA rfl rfl) rfl rfl ?_)|(refine uE (EvF.pickT rfl rfl rfl) rfl rfl ?_)|(refine Xg.st (StF.boxAgg rfl rfl) rfl rfl ?_;rintro _ _ ⟨bx,rfl,rfl⟩)))|(refine Xo.g rfl rfl ?_;(first | (with_reducible refine Xw.tf rfl rfl ?_)))))|(refine uD rfl ?_;refine hK _ _ ?_;clear hK K) | refine uS rfl ?_ | refine uR rfl (fun K hK=>?_) | refine X.ret rfl ?_ | (refine X.ite rfl rfl (fun hc=>?_);(first | (with_reducible refine Xb.t hc ?_)) <;> clear hc))
  all_goals try (exfalso;contradiction)
  all_goals exact ret_one (by simp) Tryz.results4 rfl (H' := _) (qR _) rfl
open Go Go.Fw Go.ChangeShapes Go.WideShapes
instance : Inhabited Sp:=⟨⟨0,0⟩⟩
instance : Inhabited Bx:=⟨⟨0,0⟩⟩
instance : Inhabited Mt:=⟨⟨0,0,0,0,0,0⟩⟩
def w64 (n : Int) : Prop:=(Lit.int .i64 n).wf = true
section
variable {H : Type} {enc : TypeId × Value → H} {w : World} {base : Nat} {spare : Nat → Bool} {held : Bool} {fuel : Nat} {cs : List Value} {x : DataW H × List MemPlace}
theorem open_i (h : DataW.trod enc Tryz.prog w base spare held fuel 3 cs = some x) : ∃ q : Int,cs = cI q∧w64 q:=trod_i (te rfl) h
theorem open_sp (h : DataW.trod enc Tryz.prog w base spare held fuel 24 cs = some x) : ∃ q : Sp,cs = cSp q∧(w64 q.lo∧w64 q.hi):=by
 obtain ⟨hl,hf⟩:=trod_st (te rfl) h
 obtain ⟨n0,y0,h0⟩:=hf 0 0 3 _ rfl (te rfl)
 obtain ⟨n1,y1,h1⟩:=hf 1 1 3 _ rfl (te rfl)
 match cs,hl with
 | [a,b],_ =>
  obtain ⟨lo,e0,w0⟩:=open_i h0
  obtain ⟨hi,e1,w1⟩:=open_i h1
  simp [cI] at e0 e1
  subst e0 e1
  exact ⟨⟨lo,hi⟩,rfl,w0,w1⟩
end
structure InRm (w : World) (R : Rm) (p : Pl) : Prop where
 ages : InSl w p.a1 cSp 2 R.ages
 boxes : InSl w p.a2 cBx 2 R.boxes
 mats : InSl w p.a3 cMt 6 R.mats
 mo : w64 R.months
 st : w64 R.step
 k1 : R.ages.length ≤ p.c1
 k2 : R.boxes.length ≤ p.c2
 k3 : R.mats.length ≤ p.c3
def rowsRm (R : Rm) (p : Pl) : List Row:=rowsOf p.a1 cSp R.ages++(rowsOf p.a2 cBx R.boxes++rowsOf p.a3 cMt R.mats)
theorem InRm.ok {w : World} {R : Rm} {p : Pl} {B : Nat} (h : InRm w R p) : ∀ r ∈ rowsRm R p,r.own = none∧r.ok B w:=by
 intro r hr
 rcases List.mem_append.1 hr with hr | hr
 ·exact h.ages.ok r hr
 ·rcases List.mem_append.1 hr with hr | hr
  ·exact h.boxes.ok r hr
  ·exact h.mats.ok r hr
section
variable {H : Type} {enc : TypeId × Value → H} {w : World} {base : Nat} {spare : Nat → Bool} {held : Bool} {v : Value} {d : DataW H} {p : List MemPlace} {r : Reach} {b0 : Nat}
end
open Go Go.Fw Go.ChangeShapes Go.WideShapes Go.ChangeAt Go.RowKit
set_option maxRecDepth 100000
instance : Inhabited Dr:=⟨⟨0,0,0,0⟩⟩
section
variable {H : Type} {enc : TypeId × Value → H} {w : World} {base : Nat} {spare : Nat → Bool} {held : Bool} {fuel : Nat} {cs : List Value} {x : DataW H × List MemPlace}
theorem open_dr (h : DataW.trod enc Tryz.prog w base spare held fuel 38 cs = some x) : ∃ q : Dr,cs = cDr q∧True:=by
 obtain ⟨hl,hf⟩:=trod_st (te rfl) h
 obtain ⟨n0,y0,h0⟩:=hf 0 0 3 _ rfl (te rfl)
 obtain ⟨n1,y1,h1⟩:=hf 1 1 3 _ rfl (te rfl)
 obtain ⟨n2,y2,h2⟩:=hf 2 2 24 _ rfl (te rfl)
 match cs,hl with
 | [a,b,c,d],_ =>
  obtain ⟨q0,e0,w0⟩:=open_i h0
  obtain ⟨q1,e1,w1⟩:=open_i h1
  obtain ⟨q2,e2,w2⟩:=open_sp h2
  simp [cI,cSp] at e0 e1 e2
  obtain ⟨e2,e3⟩:=e2
  subst e0 e1 e2 e3
  exact ⟨⟨q0,q1,q2.lo,q2.hi⟩,rfl,trivial⟩
theorem open_wg (h : DataW.trod enc Tryz.prog w base spare held fuel 41 cs = some x) : ∃ q : Dr,cs = cDr q∧True:=by
 obtain ⟨hl,hf⟩:=trod_st (te rfl) h
 obtain ⟨n0,y0,h0⟩:=hf 0 0 3 _ rfl (te rfl)
 obtain ⟨n1,y1,h1⟩:=hf 1 1 3 _ rfl (te rfl)
 obtain ⟨n2,y2,h2⟩:=hf 2 2 24 _ rfl (te rfl)
 match cs,hl with
 | [a,b,c,d],_ =>
  obtain ⟨q0,e0,w0⟩:=open_i h0
  obtain ⟨q1,e1,w1⟩:=open_i h1
  obtain ⟨q2,e2,w2⟩:=open_sp h2
  simp [cI,cSp] at e0 e1 e2
  obtain ⟨e2,e3⟩:=e2
  subst e0 e1 e2 e3
  exact ⟨⟨q0,q1,q2.lo,q2.hi⟩,rfl,trivial⟩
end
structure InBl (w : World) (B : Bl) (p : Pb) : Prop where
 draws : InSl w p.a1 cDr 4 B.draws
 weighs : InSl w p.a2 cDr 4 B.weighs
def rowsBl (B : Bl) (p : Pb) : List Row:=rowsOf p.a1 cDr B.draws++rowsOf p.a2 cDr B.weighs
theorem InBl.ok {w : World} {B : Bl} {p : Pb} {N : Nat} (h : InBl w B p) : ∀ r ∈ rowsBl B p,r.own = none∧r.ok N w:=by
 intro r hr
 rcases List.mem_append.1 hr with hr | hr
 ·exact h.draws.ok r hr
 ·exact h.weighs.ok r hr
section
variable {H : Type} {enc : TypeId × Value → H} {w : World} {base : Nat} {spare : Nat → Bool} {held : Bool} {v : Value} {d : DataW H} {p : List MemPlace} {r : Reach} {b0 : Nat}
theorem open_bale (hv : Value.okWide Tryz.prog w r b0 31 v) (h : DataW.Trod enc Tryz.prog w base spare held 31 v d p) : ∃ B pl,v = .agg (cBl B pl).toArray∧InBl w B pl:=by
 obtain ⟨fa,hu,_⟩:=ti_struct (te (T:=31) rfl)
 obtain ⟨⟨cs⟩,rfl,_⟩:=okWide_struct hu hv
 obtain ⟨fuel,hf⟩:=h
 obtain ⟨hl,hf⟩:=trod_st (te rfl) hf
 obtain ⟨n0,y0,h0⟩:=hf 0 0 3 _ rfl (te rfl)
 obtain ⟨n1,y1,h1⟩:=hf 1 1 3 _ rfl (te rfl)
 obtain ⟨n2,y2,h2⟩:=hf 2 2 24 _ rfl (te rfl)
 obtain ⟨n3,y3,h3⟩:=hf 3 4 28 _ rfl (te rfl)
 obtain ⟨n4,y4,h4⟩:=hf 4 5 29 _ rfl (te rfl)
 match cs,hl with
 | [a,b,c,d,e,f],_ =>
  obtain ⟨q0,e0,w0⟩:=open_i h0
  obtain ⟨q1,e1,w1⟩:=open_i h1
  obtain ⟨q2,e2,w2⟩:=open_sp h2
  simp [cI,cSp,Value.cells] at e0 e1 e2
  obtain ⟨l3,a3,c3,e3,i3,_,k3⟩:=open_sl (te rfl) (te rfl) rfl (by decide) (fun _ _ _=>open_dr) (fun _=>rfl) h3
  obtain ⟨l4,a4,c4,e4,i4,_,k4⟩:=open_sl (te rfl) (te rfl) rfl (by decide) (fun _ _ _=>open_wg) (fun _=>rfl) h4
  obtain ⟨ea,eb⟩:=e2
  subst e0 e1 ea eb e3 e4
  exact ⟨⟨q0,q1,q2.lo,q2.hi,l3,l4⟩,⟨a3,c3,a4,c4⟩,rfl,i3,i4⟩
end
theorem ownK : ownKnob Tryz.prog.godebug = none:=by kernel_rfl
theorem laidO : laidOutB Tryz.prog = true:=by kernel_rfl
theorem InBl.dr {w : World} {B : Bl} {p : Pb} {H : List Row} (h : InBl w B p) (hm : ∀ r ∈ rowsBl B p,r ∈ H) : SlE H p.a1 cDr 4 B.draws:=h.draws.sl (fun r hr=>hm r (List.mem_append_left _ hr))
theorem InBl.we {w : World} {B : Bl} {p : Pb} {H : List Row} (h : InBl w B p) (hm : ∀ r ∈ rowsBl B p,r ∈ H) : SlE H p.a2 cDr 4 B.weighs:=h.weighs.sl (fun r hr=>hm r (List.mem_append_right _ hr))
def u8 (n : Int) : Prop:=0 ≤ n∧n ≤ 255
section
variable {H : Type} {enc : TypeId × Value → H} {w : World} {base : Nat} {spare : Nat → Bool} {held : Bool} {v : Value} {d : DataW H} {p : List MemPlace} {r : Reach} {b0 : Nat}
theorem u8_wf {n : Int} (h : (Lit.int .u8 n).wf = true) : u8 n:=by
 simp [Lit.wf,IntKind.min,IntKind.max,IntKind.signed,IntKind.bits] at h
 exact ⟨by omega,by omega⟩
end
section
variable {H : Type} {enc : TypeId × Value → H} {w : World} {base : Nat} {spare : Nat → Bool} {held : Bool} {v : Value} {d : DataW H} {p : List MemPlace} {r : Reach} {b0 fuel : Nat} {cs : List Value} {x : DataW H × List MemPlace}
theorem open_cU (h : DataW.trod enc Tryz.prog w base spare held fuel 5 cs = some x) : ∃ q : Int,cs = cU q∧u8 q:=by
 obtain ⟨n,h1,h2⟩:=trod_i (te rfl) h
 exact ⟨n,h1,u8_wf h2⟩
theorem open_u8s (hv : Value.okWide Tryz.prog w r b0 54 v) (h : DataW.Trod enc Tryz.prog w base spare held 54 v d p) : ∃ (l : List Int) (a : Option Addr) (c : Nat),v = .slice a l.length c∧InSl w a cU 1 l ∧ ∀ x ∈ l,u8 x:=by
 obtain ⟨a,len,cap,rfl⟩:=okWide_slice Tryz.underlying54 hv
 obtain ⟨fuel,hf⟩:=h
 obtain ⟨l,a,c,e,hi,ho,_⟩:=open_sl (te rfl) (te rfl) rfl (by decide) (fun _ _ _=>open_cU) (fun _=>rfl) hf
 exact ⟨l,a,c,e,hi,ho⟩
end
theorem coreTruth_run (B : Bl) (pB : Pb) (l : List Int) (al : Option Addr) (cl : Nat) (w : World) (h8l : ∀ x ∈ l,u8 x) (hB : InBl w B pB) (hl : InSl w al cU 1 l) :
  Calls Tryz.prog 4 #[.agg (cBl B pB).toArray,.slice al l.length cl] w fun e w' => e = .returned (.bool true)∧Below w.heap.size w w' :=
 Fc.calls (H:=rowsBl B pB++(rowsOf al cU l)) (coreTruth_spec B pB l al cl h8l _ (hB.dr (fun _ h=>(List.mem_append_left _ h))) (hB.we (fun _ h=>(List.mem_append_left _ h))) (hl.sl (fun _ h=>(List.mem_append_right _ h)))) (fun r hr=>by
  rcases List.mem_append.1 hr with hr | hr
  ·exact hB.ok r hr
  exact hl.ok r hr
 )
theorem coreTruth_lifted (os : Os) (started : os.Started) (H : Type) (enc : TypeId × Value → H) :
  ReturnsInHanded {} Tryz.checked os 4 .any (Rows.coreTruthSpec.pre6 enc Tryz.prog Tryz.f4 Rows.coreTruthRow.domain false) (Rows.coreTruthSpec.post enc Tryz.prog Tryz.f4 false true false false):=by
 refine returnsInHanded_of_change (C:=Tryz.checked) ownK started (by kernel_rfl) Tryz.func4
  (ChangeSpec.witness6 (enc:=enc) (C:=Tryz.checked) false ⟨#[], #[.agg (cBl Bz pzb).toArray,.slice none 0 0],[]⟩ 8 (by kernel_rfl) (by kernel_rfl) (by kernel_rfl) (by kernel_rfl)) ?_
 intro W base args ds gs before hval0 hW hcnd _
 have hval : ∀ (j : Nat) t v,Tryz.f4.params[j]? = some t → args[j]? = some v → Value.okWide Tryz.prog W .any base t v:=hval0
 have hW' := hW
 obtain ⟨p,q,hA0,hV,rfl,hfz,hnd⟩:=hW
 have hA : DataW.TrodAll enc Tryz.prog W 0 (fun _=>true) true Tryz.f4.params.toList args.toList ds p:=hA0
 rw [Tryz.params4] at hA hval
 obtain ⟨v0,vs0,d0,ds0,p0,q0,hargs,rfl,rfl,h0,r0⟩:=trodAll_cons hA
 obtain ⟨v1,vs1,d1,ds1,p1,q1,rfl,rfl,rfl,h1,r1⟩:=trodAll_cons r0
 obtain ⟨rfl,rfl,rfl⟩:=trodAll_nil r1
 obtain rfl : args = #[v0,v1]:=by cases args;simp_all
 obtain ⟨rfl,rfl⟩:=trodVars_none hV
 have lt : ∀ {t v d ps},DataW.Trod enc Tryz.prog W 0 (fun _=>true) true t v d ps → ∀ x ∈ ps,x.block < W.heap.size:=fun h=>by obtain ⟨m,hm⟩:=h;exact DataW.trod_lt m _ _ _ hm
 obtain ⟨B,pB,rfl,hB⟩:=open_bale (hval 0 _ v0 rfl rfl) h0
 obtain ⟨l,al,cl,rfl,hl,h8l⟩:=open_u8s (hval 1 _ v1 rfl rfl) h1
 clear hA0 hval0
 refine (coreTruth_run B pB l al cl W h8l hB hl).mono fun e W' ⟨he,bel⟩=>?_
 subst he
 exact ⟨_,rfl,_,_,_,[],_,[],hW',trodAll_mk1 (shut_bool Tryz.underlying4 _),(trodAll_cons_mk (Below.trod laidO (by kernel_rfl) (of_decide_eq_true (by kernel_rfl)) h0 bel (lt h0)) (trodAll_cons_mk (Below.trod laidO (by kernel_rfl) (of_decide_eq_true (by kernel_rfl)) h1 bel (lt h1)) trodAll_mk0)),rfl,bel.frame _,fun h=>by cases h⟩
theorem coreTruth_over : Rows.coreTruthRow.holds Tryz.pinned (OpenSpec.ofChange Rows.coreTruthSpec) :=
 OpenClaim.holds_of_wide 4 Tryz.f4 rfl rfl rfl rfl rfl rfl rfl ⟨rfl,rfl,rfl,rfl,rfl⟩ rfl rfl rfl rfl rfl (by kernel_rfl) Tryz.func4 (by kernel_rfl)
  (of_decide_eq_true (by kernel_rfl)) (by unfold Func.isWrapper;first | (rw [if_pos (by decide +kernel)];kernel_rfl)|(rw [if_neg (by decide +kernel)];exact ⟨rfl,rfl⟩))
  (fun os started H enc _=>coreTruth_lifted os started H enc)
theorem coreTruth_proved : Rows.CoreTruthSaid:=coreTruth_over
#print axioms coreTruth_proved
end Go.Proofs.YtbpcbdbclijomaaGreat
