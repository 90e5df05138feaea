/- Own work: contracts of functions, from rows of what is known of the memory; contracts of functions, from rows of what is known of the memory; contracts of functions, from rows of what is known of the memory; contracts of functions, from rows of what is known of the memory; Own work: rounds of relaxation. No condition.; Own work: loops and iterators with marks. No condition.; Own work: iterators that are deterministic. No condition.; contracts of functions, from rows of what is known of the memory; contracts of functions, from rows of what is known of the memory; Own work: unsigned numbers of 64 bits. No condition.; contracts of functions, from rows of what is known of the memory; contracts of functions, from rows of what is known of the memory; contracts of functions, from rows of what is known of t -/
import Derived.Test.YtbpcbdbclijomaaGreatW03
import Derived.WideKeyRuns
set_option linter.unusedVariables false
set_option linter.unusedSimpArgs false
namespace Go.Proofs.YtbpcbdbclijomaaGreat
open Go Go.Fw
set_option maxRecDepth 10000
theorem notT {n : Nat} {H : List Row} {F : FS} {o : Oper} {T : TypeId} {x : Operand} (h : o.op = .unOp .not T x) (hx : evF F x = some (.bool true)) : EvF Tryz.prog n H F o (.bool false):=EvF.not h hx
theorem notF {n : Nat} {H : List Row} {F : FS} {o : Oper} {T : TypeId} {x : Operand} (h : o.op = .unOp .not T x) (hx : evF F x = some (.bool false)) : EvF Tryz.prog n H F o (.bool true):=EvF.not h hx
theorem cutLo_stop {l : List Int} {hi lo : Int} {k : Nat} (h : ¬ (lo ≤ hi∧alikeB (l.drop lo.toNat)=false)) : cutLo l hi k lo = lo:=by
 cases k with
 | zero=>rfl
 | succ k=>unfold cutLo;rw [if_neg h]
theorem cutHi_stop {l : List Int} {hi lo : Int} {k : Nat} (h : ¬ (lo ≤ hi∧alikeB (l.take hi.toNat)=false)) : cutHi l lo k hi = hi:=by
 cases k with
 | zero=>rfl
 | succ k=>unfold cutHi;rw [if_neg h]
set_option maxHeartbeats 1000000 in
theorem cuts_spec (l : List Int) (a : Option Addr) (c : Nat) (H : List Row) (hl : SlE H a cI 1 l) (hb : l.length ≤ 1000) (h0 : 0 < l.length) (hc : l.length ≤ c) (hv : ∀ x ∈ l,0 ≤ x∧x ≤ 100) :
  Fc Tryz.prog 64 [.slice a l.length c] H (fun v H' => v = .agg (cSp (cutsF l)).toArray∧H' = H):=by
 have k1 : ∀ (S : List Row) (k : Nat),SlE S a cI 1 l → k < l.length → Fc Tryz.prog 104 [.slice (sfrom a c k 1) (l.length - k) (c - k)] S (fun v H' => v = .bool (alikeB (l.drop k))∧H' = S):=by
  intro S k hS hk
  have w:=areAlike_spec (l.drop k) (sfrom a c k 1) (c - k) S (sleFrom hS hc k) (by rw [List.length_drop];omega) (by rw [List.length_drop];omega) (fun x hx=>hv x (List.mem_of_mem_drop hx))
  rwa [List.length_drop] at w
 have k2 : ∀ (S : List Row) (k : Nat),SlE S a cI 1 l → 0 < k → k ≤ l.length → Fc Tryz.prog 104 [.slice a k c] S (fun v H' => v = .bool (alikeB (l.take k))∧H' = S):=by
  intro S k hS hk1 hk
  have w:=areAlike_spec (l.take k) a c S (sleTake hS k) (by rw [List.length_take];omega) (by rw [List.length_take];omega) (fun x hx=>hv x (List.mem_of_mem_take hx))
  rwa [List.length_take,Nat.min_eq_left hk] at w
 obtain ⟨hi,hhi⟩ : ∃ hi : Int,hi = l.length - 1:=⟨_,rfl⟩
 obtain ⟨lF,hlF⟩ : ∃ lF : Int,lF = cutLo l hi l.length 1:=⟨_,rfl⟩
 obtain ⟨a1,a2,a3,a4⟩:=cutLo_spec l hi l.length 1 (by omega)
 rw [← hlF] at a1 a2 a3 a4
 have hcF : cutsF l = ⟨lF,cutHi l lF l.length hi⟩:=by unfold cutsF;rw [hlF,hhi]
 refine Fc.mk (callable Tryz.call64) Tryz.func64 rfl Tryz.ntmps64 rfl ?_;dsimp only [fr]
 repeat' (first | (refine uP rfl ?_;(first | ((first | refine uN rfl ?_);(first | (refine uE (EvF.sub64 (p:=(l.length : Int)) (q:=1) rfl rfl rfl (by omega) (by omega)) rfl rfl ?_)|(refine uE (EvF.build (cs:=cSp ⟨1,l.length - 1⟩) rfl (ArgsP.cons rfl (ArgsP.cons rfl ArgsP.nil)) (te rfl) (Places.cons (te rfl) (Places.cons (te rfl) Places.nil)) Tryz.zeroValue24 rfl) rfl rfl ?_)|(refine uE (uM rfl rfl) rfl rfl ?_)|(refine uE (uY rfl rfl (te rfl)) rfl rfl ?_)|(refine Xg.st (StF.alloc rfl Tryz.zeroValue24 rfl) rfl rfl ?_;rintro _ _ ⟨bx,rfl,rfl⟩)|(refine Xg.st0 (uZ (i:=0) rfl rfl rfl (te rfl) rfl rfl rfl rfl) rfl ?_;rintro _ _ ⟨rfl,rfl⟩;dsimp only [List.set])))))|(refine uD rfl ?_;refine hK _ _ ?_;clear hK K) | refine uS rfl ?_ | refine uR rfl (fun K hK=>?_) | refine X.block rfl ?_)
 rename_i b2
 obtain ⟨b3,rfl⟩ : ∃ b3,b3 = bx:=⟨_,rfl⟩
 rw [← hhi]
 refine X.lp rfl (fun q F' H' => ∃ k : Nat,q = l.length - k∧1 ≤ k∧k ≤ l.length∧lF = cutLo l hi (l.length + 1 - k) k∧⟨b3,0,cSp ⟨(k : Nat),hi⟩,some 24,2⟩::⟨b2,0,cSp ⟨0,0⟩,some 24,2⟩::H = H' ∧
   F' = [(0,.slice a l.length c),(2,.pointer (some ⟨b2,0,none⟩)),(3,.pointer (some ⟨b3,0,none⟩))])
  (l.length - 1) [(0,.slice a l.length c),(2,.pointer (some ⟨b2,0,none⟩)),(3,.pointer (some ⟨b3,0,none⟩))] _ (by repeat (first | exact uU _ | refine uV rfl ?_)) (by (repeat (first | exact qR _ | apply qC));done) ⟨1,rfl,by omega,by omega,hlF,rfl,rfl⟩ ?_
 rintro _ _ H2 ⟨k,rfl,hk1,hk,hlo,hH,rfl⟩
 subst hH
 have hS : ∀ S : List Row,(∀ r ∈ H,r ∈ S) → SlE S a cI 1 l:=fun S hs=>hl.sub hs
 by_cases hq : (k : Int)≤hi∧alikeB (l.drop k)=false
 ·have hk2 : k < l.length:=by omega
  obtain ⟨hq1,hq2⟩:=hq
  have k1' : ∀ S,SlE S a cI 1 l → Fc Tryz.prog 104 [.slice (sfrom a c k 1) (l.length - k) (c - k)] S (fun v H' => v = .bool false∧H' = S):=fun S hs=>by
   have:=k1 S k hs hk2
   rwa [hq2] at this
  repeat' (first | (refine uP rfl ?_;(first | ((first | refine uN rfl ?_ | (refine Xo.g rfl rfl ?_;with_reducible refine Xw.tt ?_));(first | (refine uE (notF rfl rfl) rfl rfl ?_)|(refine uE (uQ (b:=true) rfl rfl rfl (congrArg some (decide_eq_true (by omega)))) rfl rfl ?_)|(refine uE (EvF.sliceFrom (lo:=k) rfl rfl (te rfl) (te rfl) rfl (by omega) (by omega)) rfl rfl ?_)|(refine uC (uT rfl (Args.cons rfl Args.nil)) rfl rfl (k1' _ (hS _ (fun _ h=>by repeat (first | exact h | apply qT)))) ?_;rintro _ H9 ⟨rfl,hH9⟩;subst H9)|(refine uE (EvF.add64 (p:=(k : Int)) (q:=1) rfl rfl rfl (by omega) (by omega)) rfl rfl ?_)|(refine uE (uM rfl rfl) rfl rfl ?_)|(refine uE (EvF.pickT rfl rfl rfl) rfl rfl ?_)|(refine uE (uF rfl rfl (te rfl) rfl (te rfl) (by decide)) rfl rfl ?_)|(refine uE (uL rfl rfl (uO (te rfl) rfl (qH _) rfl)) rfl rfl ?_)|(refine Xg.st0 (StF.storeOne (i:=0) rfl rfl rfl rfl (te rfl) rfl rfl (Nat.le_of_ble_eq_true rfl)) rfl ?_;rintro _ _ ⟨rfl,rfl⟩;dsimp only [List.set])))))|(refine uD rfl ?_;refine hK _ _ ?_;clear hK K) | refine uS rfl ?_ | refine uR rfl (fun K hK=>?_) | refine X.block rfl ?_ | refine X.skip rfl ?_ | (refine X.ite rfl rfl (fun hc=>?_);(first | (with_reducible refine Xb.t hc ?_)) <;> clear hc))
  refine ⟨_,_,_,(by repeat (first | exact uU _ | refine uV rfl ?_)),(by (repeat (first | exact qR _ | apply qC));done),⟨k + 1,rfl,by omega,by omega,?_,rfl,rfl⟩,by omega⟩
  rw [hlo,show l.length + 1 - k = (l.length + 1 - (k + 1)) + 1 by omega]
  show (if (k : Int)≤hi∧alikeB (l.drop (k : Int).toNat)=false then _ else _)=_
  rw [if_pos ⟨hq1,hq2⟩]
  rfl
 ·obtain rfl : lF = k:=by rw [hlo];exact cutLo_stop hq
  have hal : (k : Int)≤hi → alikeB (l.drop k)=true:=fun h=>by
   cases e : alikeB (l.drop k) with
   | true=>rfl
   | false=>exact absurd ⟨h,e⟩ hq
  have k1' : ∀ S,(k : Int)≤hi → SlE S a cI 1 l → Fc Tryz.prog 104 [.slice (sfrom a c k 1) (l.length - k) (c - k)] S (fun v H' => v = .bool true∧H' = S):=fun S h hs=>by
   have:=k1 S k hs (by omega)
   rwa [hal h] at this
  by_cases hq1 : (k : Int)≤hi
  all_goals (repeat' (first | (refine uP rfl ?_;(first | ((first | refine uN rfl ?_ | (refine Xo.g rfl rfl ?_;with_reducible refine Xw.tt ?_));(first | (refine uE (notT rfl rfl) rfl rfl ?_)|(refine uE (uQ (b:=true) rfl rfl rfl (congrArg some (decide_eq_true (by omega)))) rfl rfl ?_)|(refine uE (uQ (b:=false) rfl rfl rfl (congrArg some (decide_eq_false (by omega)))) rfl rfl ?_)|(refine uE (EvF.sliceFrom (lo:=k) rfl rfl (te rfl) (te rfl) rfl (by omega) (by omega)) rfl rfl ?_)|(refine uC (uT rfl (Args.cons rfl Args.nil)) rfl rfl (k1' _ hq1 (hS _ (fun _ h=>by repeat (first | exact h | apply qT)))) ?_;rintro _ H9 ⟨rfl,hH9⟩;subst H9)|(refine uE (uM rfl rfl) rfl rfl ?_)|(refine uE (EvF.pickT rfl rfl rfl) rfl rfl ?_)|(refine uE (EvF.pickF rfl rfl rfl) rfl rfl ?_)|(refine uE (uF rfl rfl (te rfl) rfl (te rfl) (by decide)) rfl rfl ?_)|(refine uE (uL rfl rfl (uO (te rfl) rfl (qH _) rfl)) rfl rfl ?_)))|(refine Xo.g rfl rfl ?_;(first | (with_reducible refine Xw.ft rfl rfl ?_)))))|(refine uD rfl ?_;refine hK _ _ ?_;clear hK K) | refine uS rfl ?_ | refine uR rfl (fun K hK=>?_) | refine X.block rfl ?_ | (refine X.brk rfl ?_;repeat (first | refine blockX_hit rfl ?_ | refine blockX_miss (by decide) ?_))|(refine X.ite rfl rfl (fun hc=>?_);(first | (with_reducible refine Xb.f hc ?_)) <;> clear hc)))
  all_goals (refine X.lp rfl (fun q F' H' => ∃ j : Nat,q = j + 1∧(j : Int)≤hi∧(k : Int)≤j + 1∧cutHi l k l.length hi = cutHi l k (j + 1) j∧⟨b3,0,cSp ⟨(k : Nat),(j : Nat)⟩,some 24,2⟩::⟨b2,0,cSp ⟨0,0⟩,some 24,2⟩::H = H'∧F' = [(0,.slice a l.length c),(2,.pointer (some ⟨b2,0,none⟩)),(3,.pointer (some ⟨b3,0,none⟩))]) l.length [(0,.slice a l.length c),(2,.pointer (some ⟨b2,0,none⟩)),(3,.pointer (some ⟨b3,0,none⟩))] _ (by repeat (first | exact uU _ | refine uV rfl ?_)) (by (repeat (first | exact qR _ | apply qC));done) ⟨l.length - 1,by omega,by omega,by omega,by rw [show l.length - 1 + 1 = l.length by omega,show ((l.length - 1 : Nat) : Int)=hi by omega],by rw [show ((l.length - 1 : Nat) : Int)=hi by omega],rfl⟩ ?_)
  all_goals (rintro _ _ H2 ⟨j,rfl,hj,hkj,hhF,hH,rfl⟩;subst hH)
  all_goals (by_cases hr : (k : Int)≤j∧alikeB (l.take j)=false)
  all_goals first
   |(have hj1 : 0 < j:=by omega
     obtain ⟨hr1,hr2⟩:=hr
     have k2' : ∀ S,SlE S a cI 1 l → Fc Tryz.prog 104 [.slice a j c] S (fun v H' => v = .bool false∧H' = S):=fun S hs=>by
      have:=k2 S j hs hj1 (by omega)
      rwa [hr2] at this
     all_goals (repeat' (first | (refine uP rfl ?_;(first | ((first | refine uN rfl ?_ | (refine Xo.g rfl rfl ?_;with_reducible refine Xw.tt ?_));(first | (refine uE (notF rfl rfl) rfl rfl ?_)|(refine uE (uQ (b:=true) rfl rfl rfl (congrArg some (decide_eq_true (by omega)))) rfl rfl ?_)|(refine uE (EvF.sliceTo (hh:=j) rfl rfl (te rfl) (te rfl) rfl (by omega)) rfl rfl ?_)|(refine uC (uT rfl (Args.cons rfl Args.nil)) rfl rfl (k2' _ (hS _ (fun _ h=>by repeat (first | exact h | apply qT)))) ?_;rintro _ H9 ⟨rfl,hH9⟩;subst H9)|(refine uE (EvF.sub64 (p:=(j : Int)) (q:=1) rfl rfl rfl (by omega) (by omega)) rfl rfl ?_)|(refine uE (uM rfl rfl) rfl rfl ?_)|(refine uE (EvF.pickT rfl rfl rfl) rfl rfl ?_)|(refine uE (uF rfl rfl (te rfl) rfl (te rfl) (by decide)) rfl rfl ?_)|(refine uE (uL rfl rfl (uO (te rfl) rfl (qH _) rfl)) rfl rfl ?_)|(refine Xg.st0 (StF.storeOne (i:=0) rfl rfl rfl rfl (te rfl) rfl rfl (Nat.le_of_ble_eq_true rfl)) rfl ?_;rintro _ _ ⟨rfl,rfl⟩;dsimp only [List.set])))))|(refine uD rfl ?_;refine hK _ _ ?_;clear hK K) | refine uS rfl ?_ | refine uR rfl (fun K hK=>?_) | refine X.block rfl ?_ | refine X.skip rfl ?_ | (refine X.ite rfl rfl (fun hc=>?_);(first | (with_reducible refine Xb.t hc ?_)) <;> clear hc)))
     refine ⟨_,_,_,(by repeat (first | exact uU _ | refine uV rfl ?_)),(by (repeat (first | exact qR _ | apply qC));done),⟨j - 1,rfl,by omega,by omega,?_,by rw [show ((j - 1 : Nat) : Int)=j - 1 by omega];rfl,rfl⟩,by omega⟩
     rw [hhF,show j - 1 + 1 = j by omega]
     show (if (k : Int)≤j∧alikeB (l.take (j : Int).toNat)=false then _ else _)=_
     rw [if_pos ⟨hr1,hr2⟩,show ((j - 1 : Nat) : Int)=j - 1 by omega])
   |(have hst : cutHi l k l.length hi = j:=by rw [hhF];exact cutHi_stop hr
     have hal : (k : Int)≤j → alikeB (l.take j)=true:=fun h=>by
      cases e : alikeB (l.take j) with
      | true=>rfl
      | false=>exact absurd ⟨h,e⟩ hr
     have k2' : ∀ S,(k : Int)≤j → SlE S a cI 1 l → Fc Tryz.prog 104 [.slice a j c] S (fun v H' => v = .bool true∧H' = S):=fun S h hs=>by
      have:=k2 S j hs (by omega) (by omega)
      rwa [hal h] at this
     rw [hst] at hcF
     rw [hcF]
     by_cases hr1 : (k : Int)≤j
     all_goals (repeat' (first | (refine uP rfl ?_;(first | ((first | refine uN rfl ?_ | (refine Xo.g rfl rfl ?_;with_reducible refine Xw.tt ?_));(first | (refine uE (notT rfl rfl) rfl rfl ?_)|(refine uE (uQ (b:=true) rfl rfl rfl (congrArg some (decide_eq_true (by omega)))) rfl rfl ?_)|(refine uE (uQ (b:=false) rfl rfl rfl (congrArg some (decide_eq_false (by omega)))) rfl rfl ?_)|(refine uE (EvF.sliceTo (hh:=j) rfl rfl (te rfl) (te rfl) rfl (by omega)) rfl rfl ?_)|(refine uC (uT rfl (Args.cons rfl Args.nil)) rfl rfl (k2' _ hr1 (hS _ (fun _ h=>by repeat (first | exact h | apply qT)))) ?_;rintro _ H9 ⟨rfl,hH9⟩;subst H9)|(refine uE (uM rfl rfl) rfl rfl ?_)|(refine uE (EvF.pickT rfl rfl rfl) rfl rfl ?_)|(refine uE (EvF.pickF rfl rfl rfl) rfl rfl ?_)|(refine uE (uF rfl rfl (te rfl) rfl (te rfl) (by decide)) rfl rfl ?_)|(refine uE (uL rfl rfl (uO (te rfl) rfl (qH _) rfl)) rfl rfl ?_)|(refine uE (uL rfl rfl (uW (te rfl) rfl (qH _) rfl)) rfl rfl ?_)|(refine Xg.st0 (uZ (i:=1) rfl rfl rfl (te rfl) rfl rfl rfl rfl) rfl ?_;rintro _ _ ⟨rfl,rfl⟩;dsimp only [List.set])))|(refine Xo.g rfl rfl ?_;(first | (with_reducible refine Xw.ft rfl rfl ?_)))))|(refine uD rfl ?_;refine hK _ _ ?_;clear hK K) | refine uS rfl ?_ | refine uR rfl (fun K hK=>?_)|(refine X.brk rfl ?_;repeat (first | refine blockX_hit rfl ?_ | refine blockX_miss (by decide) ?_)) | refine X.ret rfl ?_ | (refine X.ite rfl rfl (fun hc=>?_);(first | (with_reducible refine Xb.f hc ?_)) <;> clear hc)))
     all_goals exact ret_one (v := .agg (cSp ⟨k,j⟩).toArray) (by simp) Tryz.results64 ⟨_,rfl,uW (te rfl) rfl (by repeat (first | exact qH _ | apply qT)) rfl⟩ (H' := H) (by (repeat (first | exact qR _ | apply qC));done) ⟨rfl,rfl⟩)
end Go.Proofs.YtbpcbdbclijomaaGreat
namespace Go.Fw
open Go Go.RowKit
section
variable {P : Program} {H : List Row} {F : FS} {n : Nat} {o : Oper}
end
/-- a slice of a whole array -/
theorem EvF.sliceArrOf {P : Program} {n : Nat} {H : List Row} {F : FS} {o : Oper} {T e : TypeId} {x : Operand} {b off len s y : Nat} {ti : TI} (h : o.op = .slice T x none none none) (hx : evF F x = some (.pointer (some ⟨b,off,none⟩))) (hT : tiOf P T = some ⟨.ar len e,s,y⟩) (he : tiOf P e = some ti) :
  EvF P n H F o (.slice (some ⟨b,off,none⟩) len len):=by
 unfold EvF EvOp
 intro t ha B w0 w hS
 have hu:=ti_array hT
 have hsz:=ti_size he w
 have hxv:=ha.ev hx
 have hbd : (Instr.sliceBounds false len len none none none).run P w = .ok (0,len,len) w:=by
  simp [Instr.sliceBounds]
 simp [execOp,h,hxv,Instr.sliceAt,Instr.sureAddr,underlying,hu,hbd,hsz,add_none]
structure Sp where
 lo : Int
 hi : Int
def cSp (s : Sp) : List Value:=[.int .i64 s.lo,.int .i64 s.hi]
theorem one_sp (e : Sp) : (cSp e).all (·.oneCell') = true:=rfl
def cI (x : Int) : List Value:=[.int .i64 x]
theorem lenI (l : List Int) : (l.flatMap cI).length = l.length * 1:=flat_len (fun _ _=>rfl)
theorem drop_cons {α : Type} {l : List α} {k : Nat} {e : α} (h : l[k]? = some e) : l.drop k = e::l.drop (k + 1):=by
 have:=(List.getElem?_eq_some_iff.1 h)
 obtain ⟨hk,rfl⟩:=this
 exact List.drop_eq_getElem_cons hk
theorem take_snoc {α : Type} {l : List α} {k : Nat} {e : α} (h : l[k]? = some e) : l.take (k + 1)=l.take k++[e]:=by
 rw [List.take_add_one,h];rfl
theorem sleNil {α : Type} {H : List Row} {a : Option Addr} {enc : α → List Value} {sz : Nat} : SlE H a enc sz []:=⟨fun _ h=>absurd h List.not_mem_nil,fun h=>absurd h (Nat.lt_irrefl 0)⟩
/-- the first place of which something is so -/
def IdxR {α : Type} (p : α → Bool) (l : List α) (z : Int) : Prop:=(z = -1 ∧ ∀ e ∈ l,p e = false) ∨ ∃ k e,z = ((k : Nat) : Int)∧l[k]? = some e∧p e = true ∧ ∀ i e,i < k → l[i]? = some e → p e = false
theorem IdxR.ge {α : Type} {p : α → Bool} {l : List α} {z : Int} (h : IdxR p l z) : z ≥ 0 ↔ ∃ e ∈ l,p e = true:=by
 rcases h with ⟨rfl,h⟩ | ⟨k,e,rfl,he,hp,_⟩
 ·exact ⟨fun q=>absurd q (by decide),fun ⟨e,he,hp⟩=>by rw [h e he] at hp;cases hp⟩
 ·exact ⟨fun _=>⟨e,List.mem_of_getElem? he,hp⟩,fun _=>by omega⟩
section
variable {P : Program} {F : FS} {H H' : List Row} {fn : Func} {R : Value → List Row → Prop} {Ds : List Nat}
theorem retT_one {e : Exit} (he : e = .normal∨e = .ret) {r : ResultVar} {v : Value} (hr : fn.results = #[r]) (h : ResF P F H r v) (hs : H'.Sublist H) (hR : R v H') : retT P fn R e F Ds H:=⟨he,v,H',(by unfold ResX;exact fun _ _ ha=>ResV.one hr (h.i ha)),hs,hR⟩
theorem retT_two {e : Exit} (he : e = .normal∨e = .ret) {r r' : ResultVar} {v v' : Value} (hr : fn.results = #[r,r']) (h : ResF P F H r v) (h' : ResF P F H r' v') (hs : H'.Sublist H) (hR : R (.tuple #[v,v']) H') : retT P fn R e F Ds H:=⟨he,_,H',(by unfold ResX;exact fun _ _ ha=>ResV.two hr (h.i ha) (h'.i ha)),hs,hR⟩
end
/-- once one loop over a function is behind -/
theorem XT.of1 {P : Program} {n : Nat} {c : Code} {F : FS} {D : Nat} {H : List Row} {Q : QTT} (h : X P n c F (H++[dRow D]) (fun e F' H' => ∃ H'',(H''++[dRow D]).Sublist H'∧Q e F' [D] H'')) : XT P n c F [D] H Q:=XT.ofX h
theorem set_cI (c : List Int) (i : Nat) (y : Int) : (c.flatMap cI).set i (.int .i64 y)=(c.set i y).flatMap cI:=by
 induction c generalizing i with
 | nil=>rfl
 | cons a c ih =>
  cases i with
  | zero=>rfl
  | succ i =>
   show Value.int .i64 a::(c.flatMap cI).set i _ = Value.int .i64 a::(c.set i y).flatMap cI
   rw [ih i]
theorem StF.storeI {P : Program} {n : Nat} {H : List Row} {F : FS} {o : Oper} {T : TypeId} {a x : Operand} {q b p i cap : Nat} {el : TypeId} {c : List Int} {y : Int} {ti : TI} (h : o.op = .store T a x) (hx : evF F a = some (.pointer (some ⟨b,p,none⟩))) (hv : evF F x = some (.int .i64 y)) (hT : tiOf P T = some ti) (hn : ti.size = 1) (hi : H[q]? = some ⟨b,0,c.flatMap cI,some el,cap⟩)
  (hp : p = i) (hl : i < c.length) : StF P n H F o (fun u H' => u = undef∧H' = H.set q ⟨b,0,(c.set i y).flatMap cI,some el,cap⟩):=by
 subst hp
 have:=StF.storeOne (P:=P) (n:=n) (H:=H) h hx hv rfl hT hn hi (by rw [lenI];omega)
 rwa [set_cI] at this
def gt0 (l : List Int) (i : Nat) : Int:=l.getD i 0
/-- how far numbers lie above others, all together -/
def above (y : Nat → Int) (l : List Int) (n : Nat) : Nat:=((List.range n).map (fun i=>(gt0 l i - y i).toNat)).sum
/-- how many numbers are settled -/
def done (m : Nat → Int) (l : List Int) (n : Nat) : Nat:=((List.range n).filter (fun i=>decide (gt0 l i = m i))).length
theorem mvM {α : Type} (d : α) (M Hb E : List α) : (d::(M++Hb)++E).Perm (Hb++E++(d::M)):=by
 have h1 : (d::(M++Hb)++E)=(d::M)++(Hb++E):=by simp
 rw [h1];exact List.perm_append_comm
theorem mvN {α : Type} (a d : α) (M Hb E : List α) : (a::d::(M++Hb)++E).Perm (Hb++(a::d::(M++E))):=by
 have h1 : (a::d::(M++Hb)++E)=(a::d::M)++Hb++E:=by simp
 have h2 : (Hb++(a::d::(M++E))) = Hb++(a::d::M)++E:=by simp
 rw [h1,h2];exact List.perm_append_comm.append_right E
theorem mvO {α : Type} (d : α) (M Hb E : List α) : (Hb++(d::(M++E))).Perm (d::(M++Hb++E)):=by
 have h1 : (d::(M++Hb++E)) = (d::M)++Hb++E:=by simp
 have h2 : (Hb++(d::(M++E))) = Hb++(d::M)++E:=by simp
 rw [h1,h2];exact List.perm_append_comm.append_right E
section
variable {P : Program} {n : Nat} {c : Code} {F : FS} {Ds : List Nat} {H : List Row} {Q : QTT}
end
section
end
abbrev ngT (Q : QTT) : QTT
 | .goto _,_,_,_=>False
 | e,F,Ds,H=>Q e F Ds H
theorem XT.scope {P : Program} {n : Nat} {c : Code} {F : FS} {Ds : List Nat} {H : List Row} {Q : QTT} (h : c = .scope (cfst c)) (hx : XT P n (cfst c) F Ds H (ngT Q)) : XT P n c F Ds H Q:=by
 unfold XT at hx ⊢
 intro t ha B w0 w hS
 rw [h]
 refine wpIn_scope_straight (wpIn_mono (hx t ha B w0 w hS) ?_)
 rintro e a w' ⟨Ds',F',H',hd,ha',hq,hS'⟩
 cases e with
 | goto l=>exact hq.elim
 | _=>exact ⟨Ds',F',H',hd,ha',hq,hS'⟩
def allOk {α : Type} (ok : List α → Bool) (pre : List α) : Prop := ∀ q,q <+: pre → q ≠ [] → ok q = true
theorem nd_f {p : Prop} [Decidable p] (h : p) : (!decide p)=false:=by rw [decide_eq_true h];rfl
theorem nd_t {p : Prop} [Decidable p] (h : ¬ p) : (!decide p)=true:=by rw [decide_eq_false h];rfl
/-- yield is called in a region that draws its order -/
theorem OpF.yield {P : Program} {n : Nat} {H : List Row} {F : FS} {o : Oper} {g : Operand} {l : Nat} {al : List Operand} {tys : Array TypeId} {vs : List Value} {R : Value → List Row → Prop} (h : o.op = .call { callee := .value g,args:=al.toArray,argTypes:=tys })
  (hg : evF F g = some (.func (.yield l) #[] #[])) (hv : Args F al vs) (hY : Yc P l vs H R) : OpF P n H F o R:=by
 intro t ha ρ ds B w0 w hS k Q hk
 unfold Yc at hY
 obtain ⟨fn,tmps,assign,body,h1,h2⟩:=hY B w0 w hS
 have hrun : (execOp (Fw.ev t) o).run P w = .ok (.round l fn tmps assign body) w:=by
  have e:=ha.ev hg
  have e2:=hv.ev ha
  simp [execOp,h,resolve,e,Deferred.ofValue,invoke,e2,callFunc,h1]
 unfold Oper.wpIn
 refine ⟨fun _ _=>trivial,?_⟩
 rw [eval_ev,sem_round hrun,Oper.uponIn_round]
 refine ⟨(fun h=>by cases h),?_⟩
 refine RoundIn.mono (F:=wf ρ) h2 ?_
 rintro e w' ⟨v,H',rfl,hR,hS'⟩
 simp only [put_act]
 exact hk v w' H' hS' hR
end Go.Fw
namespace Go.Proofs.YtbpcbdbclijomaaGreat
open Go Go.Fw
set_option maxRecDepth 10000
def tsKc1 : List TOp:=[⟨some 8,[],[],[]⟩,⟨some 9,[0],[0],[]⟩,⟨some 10,[0,1],[1],[]⟩,⟨some 11,[],[],[]⟩,⟨some 12,[],[],[]⟩,⟨some 13,[4],[4],[]⟩,⟨some 14,[4,5],[5],[]⟩,⟨some 15,[3,4,5,6],[3,6],[]⟩,⟨some 16,[3,4,5,6,7],[7],[]⟩,⟨some 3,[0,1,2],[2],[]⟩,⟨some 4,[0,1,2,3,4,5,6,7,8,9],[8],[]⟩]
def valKc1 (b off n c : Nat) (f g : Int) (k : Nat) (env : Env) : Value :=
 match k with
 | 0 => .slice (some ⟨b,off,none⟩) n c
 | 1 => .pointer (some ⟨b,off + 0 * 1,none⟩)
 | 2 => .int .i64 f
 | 3 => .slice (some ⟨b,off,none⟩) n c
 | 4 => .slice (some ⟨b,off,none⟩) n c
 | 5 => .int .i64 n
 | 6 => .int .i64 (n - 1)
 | 7 => .pointer (some ⟨b,off + (n - 1 : Nat) * 1,none⟩)
 | 8 => .int .i64 g
 | 9 => .int .i64 f
 | 10 => .int .i64 g
 | _=>undef
def rowsKc1 (b off n c : Nat) (f g : Int) (k : Nat) (env : Env) : List Row :=
 match k with
 | _=>[]
theorem locKc1 (b off n c : Nat) (f g : Int) : ∀ k env i q9,i ≠ k → (tAt tsKc1 k).sup.contains i = false → valKc1 b off n c f g k (upd env i q9)=valKc1 b off n c f g k env∧rowsKc1 b off n c f g k (upd env i q9)=rowsKc1 b off n c f g k env:=by
 intro k env i q hk hs
 have hu : ∀ j,j ≠ i → upd env i q j = env j:=fun j hj=>by unfold upd;rw [if_neg hj]
 match k,hk,hs with
 | 0,_,_=>exact ⟨rfl,rfl⟩
 | 1,_,_=>exact ⟨rfl,rfl⟩
 | 2,_,_=>exact ⟨rfl,rfl⟩
 | 3,_,_=>exact ⟨rfl,rfl⟩
 | 4,_,_=>exact ⟨rfl,rfl⟩
 | 5,_,_=>exact ⟨rfl,rfl⟩
 | 6,_,_=>exact ⟨rfl,rfl⟩
 | 7,_,_=>exact ⟨rfl,rfl⟩
 | 8,_,_=>exact ⟨rfl,rfl⟩
 | 9,_,_=>exact ⟨rfl,rfl⟩
 | 10,_,_=>exact ⟨rfl,rfl⟩
 | _ + 11,_,_=>exact ⟨rfl,rfl⟩
theorem mid_at {l : List Int} {i : Nat} {x : Int} (hi : i + 2 < l.length + 1) (hx : l[i + 1]? = some x) (hb : i + 1 < l.length - 1) : (midL l)[i]? = some x:=by
 unfold midL
 rw [List.getElem?_take,if_pos (by omega),List.getElem?_drop,show 1 + i = i + 1 by omega,hx]
theorem mid_len (l : List Int) : (midL l).length = l.length - 2:=by
 unfold midL
 rw [List.length_take,List.length_drop]
 omega
set_option maxHeartbeats 1000000 in
theorem isFalse_spec (l : List Int) (a : Option Addr) (c : Nat) (H : List Row) (hl : SlE H a cI 1 l) (hb : l.length ≤ 1000) (h0 : 0 < l.length) (hv : ∀ x ∈ l,0 ≤ x∧x ≤ 100) :
  Fc Tryz.prog 105 [.slice a l.length c] H (fun v H' => v = .bool (falseF l)∧H' = H):=by
 obtain ⟨b,off,f,rfl,hf⟩:=hl.elem (i:=0) (by omega)
 obtain ⟨g,hg⟩ : ∃ g,l[l.length - 1]? = some g:=⟨_,List.getElem?_eq_getElem (by omega)⟩
 have hfv:=hv f (List.mem_of_getElem? hf)
 have hgv:=hv g (List.mem_of_getElem? hg)
 have hF : falseF l = ((midL l).all (fun x=>decide (max f g ≤ x)) && ((midL l).any (fun x=>decide (max f g + 2 ≤ x)) && alikeB [f,g])):=by
  have e1 : l.headD 0 = f:=by rw [List.headD_eq_head?_getD,List.head?_eq_getElem?,hf];rfl
  have e2 : l.getLastD 0 = g:=by rw [List.getLastD_eq_getLast?,List.getLast?_eq_getElem?,hg];rfl
  unfold falseF
  rw [e1,e2]
 rw [hF]
 have k1 : ∀ (S : List Row) (d q : Nat),SlE S (some ⟨d,0,none⟩) cI 1 [f,g] → Fc Tryz.prog 104 [.slice (some ⟨d,0,none⟩) 2 q] S (fun v H' => v = .bool (alikeB [f,g])∧H' = S):=fun S d q hS =>
  areAlike_spec [f,g] (some ⟨d,0,none⟩) q S hS (by simp) (by simp) (fun x hx=>by
   rcases List.mem_cons.1 hx with rfl | hx
   ·exact hfv
   ·rw [List.mem_singleton.1 hx];exact hgv)
 obtain ⟨w0,hw0⟩ : ∃ w0,w0 = max f g:=⟨_,rfl⟩
 have hw1 : 0 ≤ w0∧w0 ≤ 100:=by
  rw [hw0]
  rcases Int.le_total f g with w | w
  ·rw [Int.max_eq_right w];exact hgv
  ·rw [Int.max_eq_left w];exact hfv
 rw [← hw0]
 have hml:=mid_len l
 obtain ⟨n,hn⟩ : ∃ n,n = l.length:=⟨_,rfl⟩
 rw [← hn] at hb h0 hg hml ⊢
 have hnn : (n - 1 : Nat)=((n : Int) - 1).toNat:=by omega
 refine Fc.mk (callable Tryz.call105) Tryz.func105 rfl Tryz.ntmps105 rfl ?_;dsimp only [fr]
 repeat' (first | (refine uP rfl ?_;(first | ((first | refine uN rfl ?_);(first | (refine uE (uA rfl rfl) rfl rfl ?_)))))|(refine uD rfl ?_;refine hK _ _ ?_;clear hK K) | refine uS rfl ?_ | refine uR rfl (fun K hK=>?_))
 refine X.regionOb tsKc1 [0,2] [(0,.slice (some ⟨b,off,none⟩) n c),(2,.bool false)] (valKc1 b off n c f g) (rowsKc1 b off n c f g) (fun _=>(0,0)) (H) rfl mixed (by repeat (first | exact uU _ | refine uV rfl ?_)) rfl (by kernel_rfl) (locKc1 b off n c f g) (qR _) ?_ ?_
 ·repeat' (first | exact AllF.done rfl | (refine AllF.step rfl ?_ ?_;·(first | fail | ((first | refine Ob.ng rfl ?_);(first | exact uK (fun env R hR=>by exact ⟨_,uM rfl rfl,rfl⟩) rfl (fun _=>rfl) | exact uK (fun env R hR=>by exact ⟨_,uA rfl rfl,rfl⟩) rfl (fun _=>rfl) | exact uK (fun env R hR=>by exact ⟨_,uY rfl rfl (te rfl),rfl⟩) rfl (fun _=>rfl)|((refine uK (fun env S hS=>⟨.pointer (some ⟨b,off + 0 * 1,none⟩),?_,rfl⟩) rfl (fun _=>rfl);exact uJ (i:=0) (off:=off) (b:=b) (T:=49) (e:=3) (len:=n) rfl rfl rfl (te rfl) (te rfl) (by omega) (by omega)))|((refine uK (fun env S hS=>⟨.pointer (some ⟨b,off + (n - 1 : Nat) * 1,none⟩),?_,rfl⟩) rfl (fun _=>rfl);rw [hnn];exact uJ (i:=((n : Int) - 1)) (off:=off) (b:=b) (T:=49) (e:=3) (len:=n) rfl rfl rfl (te rfl) (te rfl) (by omega) (by omega)))|(exact uK (fun env S hS=>⟨.int .i64 f,uL rfl rfl (LoadV.el0 (n:=0) (hl.sub hS) hf (te rfl) rfl (fun _ h=>h) rfl),rfl⟩) rfl (fun _=>rfl))|(exact uK (fun env S hS=>⟨.int .i64 g,uL rfl rfl (LoadV.el0 (n:=n - 1) (hl.sub hS) hg (te rfl) rfl (fun _ h=>h) rfl),rfl⟩) rfl (fun _=>rfl))|(exact uK (fun env S hS=>⟨_,EvF.sub64 (p:=(n : Int)) (q:=1) rfl rfl rfl (by omega) (by omega),rfl⟩) rfl (fun _=>rfl)))))))
 ·intro env t ha2 hv;refine ⟨_,(ha2.cons (hv 9 3 (Nat.le_of_ble_eq_true rfl) rfl)).cons (hv 10 4 (Nat.le_of_ble_eq_true rfl) rfl),?_⟩;clear hv ha2
  show X _ _ _ [(4,.int .i64 g),(3,.int .i64 f),(0,.slice (some ⟨b,off,none⟩) n c),(2,.bool false)] H _
  have hmm:=hw0.symm
  repeat' (first | (refine uP rfl ?_;(first | ((first | refine uN rfl ?_);(first | (refine uE (EvF.max64 (p:=f) (q:=g) rfl rfl rfl) rfl rfl ?_)|(refine uE (uM rfl rfl) rfl rfl ?_)|(refine uE (uA rfl rfl) rfl rfl ?_)))))|(refine uD rfl ?_;refine hK _ _ ?_;clear hK K) | refine uS rfl ?_ | refine uR rfl (fun K hK=>?_) | refine X.block rfl ?_)
  rw [hmm]
  refine X.lp rfl (fun q F' H' => ∃ (i : Nat) (w : Bool),q = n - i∧(i + 2 < n + 1∨i = 0)∧(∀ x ∈ (midL l).take i,w0 ≤ x)∧w = ((midL l).take i).any (fun x=>decide (w0 + 2 ≤ x))∧H = H' ∧
   F' = [(0,.slice (some ⟨b,off,none⟩) n c),(3,.int .i64 f),(4,.int .i64 g),(5,.int .i64 w0),(6,.bool w),(7,.int .i64 ((i : Nat) + 1))])
   n [(0,.slice (some ⟨b,off,none⟩) n c),(3,.int .i64 f),(4,.int .i64 g),(5,.int .i64 w0),(6,.bool false),(7,.int .i64 ((0 : Nat) + 1))] _ (by repeat (first | exact uU _ | refine uV rfl ?_)) (by repeat (first | exact qR _ | apply qK | apply qC)) ⟨0,false,by omega,.inr rfl,fun x hx=>absurd hx List.not_mem_nil,rfl,rfl,rfl⟩ ?_
  rintro _ _ H2 ⟨i,w,rfl,hi,hal,hw,hH,rfl⟩
  subst hH
  by_cases hq : (i : Int) + 1 < n - 1
  ·obtain ⟨x,hx⟩ : ∃ x,l[i + 1]? = some x:=⟨_,List.getElem?_eq_getElem (by omega)⟩
   have hm:=mid_at (by omega) hx (by omega)
   have hxv:=hv x (List.mem_of_getElem? hx)
   have htk : (midL l).take (i + 1)=(midL l).take i++[x]:=take_snoc hm
   by_cases hlt : x < w0
   ·have hno : (midL l).all (fun x=>decide (w0 ≤ x)) = false:=by
     rw [← Bool.not_eq_true,List.all_eq_true]
     intro h
     have:=h x (List.mem_of_getElem? hm)
     rw [decide_eq_true_eq] at this
     omega
    rw [hno]
    repeat' (first | (refine uP rfl ?_;(first | ((first | refine uN rfl ?_);(first | (refine uE (uQ (b:=true) rfl rfl rfl (congrArg some (decide_eq_true (by omega)))) rfl rfl ?_)|(refine uE (EvF.sub64 (p:=(n : Int)) (q:=1) rfl rfl rfl (by omega) (by omega)) rfl rfl ?_)|(refine uE (uJ (i:=(i : Int) + 1) rfl rfl rfl (te rfl) (te rfl) (by omega) (by omega)) rfl rfl ?_)|(refine uE (uL (v := .int .i64 x) rfl rfl (LoadV.el0 (n:=i + 1) hl hx (te rfl) rfl (fun _ h=>h) rfl)) rfl rfl ?_)|(refine uE (uM rfl rfl) rfl rfl ?_)|(refine uE (uA rfl rfl) rfl rfl ?_)|(refine uE (uY rfl rfl (te rfl)) rfl rfl ?_)))))|(refine uD rfl ?_;refine hK _ _ ?_;clear hK K) | refine uS rfl ?_ | refine uR rfl (fun K hK=>?_) | refine X.block rfl ?_ | refine X.skip rfl ?_ | refine X.ret rfl ?_ | (refine X.ite rfl rfl (fun hc=>?_);(first | (with_reducible refine Xb.t hc ?_)) <;> clear hc))
    exact ret_one (by simp) Tryz.results105 rfl (H' := H) (by repeat (first | exact qR _ | apply qK | apply qC)) ⟨rfl,rfl⟩
   ·have hal' : ∀ y ∈ (midL l).take (i + 1),w0 ≤ y:=fun y hy=>by
     rw [htk,List.mem_append,List.mem_singleton] at hy
     rcases hy with h | rfl
     ·exact hal y h
     ·omega
    have hw' : (((midL l).take (i + 1)).any (fun x=>decide (w0 + 2 ≤ x))) = (w || decide (w0 + 2 ≤ x)):=by
     rw [htk,List.any_append, ← hw]
     simp
    cases hww : w
    ·by_cases hge : x ≥ w0 + 2
     all_goals (rw [hww] at hw')
     all_goals (repeat' (first | (refine uP rfl ?_;(first | ((first | refine uN rfl ?_ | (refine Xo.g rfl rfl ?_;with_reducible refine Xw.ff ?_));(first | (refine uE (uQ (b:=true) rfl rfl rfl (congrArg some (decide_eq_true (by omega)))) rfl rfl ?_)|(refine uE (uQ (b:=false) rfl rfl rfl (congrArg some (decide_eq_false (by omega)))) rfl rfl ?_)|(refine uE (EvF.sub64 (p:=(n : Int)) (q:=1) rfl rfl rfl (by omega) (by omega)) rfl rfl ?_)|(refine uE (EvF.add64 (p:=w0) (q:=2) rfl rfl rfl (by omega) (by omega)) rfl rfl ?_)|(refine uE (EvF.add64 (p:=(i : Int) + 1) (q:=1) rfl rfl rfl (by omega) (by omega)) rfl rfl ?_)|(refine uE (uJ (i:=(i : Int) + 1) rfl rfl rfl (te rfl) (te rfl) (by omega) (by omega)) rfl rfl ?_)|(refine uE (uL (v := .int .i64 x) rfl rfl (LoadV.el0 (n:=i + 1) hl hx (te rfl) rfl (fun _ h=>h) rfl)) rfl rfl ?_)|(refine uE (uM rfl rfl) rfl rfl ?_)|(refine uE (uA rfl rfl) rfl rfl ?_)|(refine uE (EvF.pickF rfl rfl rfl) rfl rfl ?_)|(refine uE (uY rfl rfl (te rfl)) rfl rfl ?_)))))|(refine uD rfl ?_;refine hK _ _ ?_;clear hK K) | refine uS rfl ?_ | refine uR rfl (fun K hK=>?_) | refine X.block rfl ?_ | refine X.skip rfl ?_ | (refine X.ite rfl rfl (fun hc=>?_);(first | (with_reducible refine Xb.t hc ?_)|(with_reducible refine Xb.f hc ?_)) <;> clear hc)))
     all_goals (refine ⟨_,_,_,(by rw [show (i : Int) + 1 + 1 = ((i + 1 : Nat) : Int) + 1 by omega];exact (by repeat (first | exact uU _ | refine uV rfl ?_))),(by repeat (first | exact qR _ | apply qK | apply qC)),⟨i + 1,_,rfl,.inl (by omega),hal',?_,rfl,rfl⟩,by omega⟩)
     all_goals (rw [hw'];symm;first | exact decide_eq_true hge | exact decide_eq_false hge)
    ·rw [hww] at hw'
     repeat' (first | (refine uP rfl ?_;(first | ((first | refine uN rfl ?_);(first | (refine uE (uQ (b:=true) rfl rfl rfl (congrArg some (decide_eq_true (by omega)))) rfl rfl ?_)|(refine uE (uQ (b:=false) rfl rfl rfl (congrArg some (decide_eq_false (by omega)))) rfl rfl ?_)|(refine uE (EvF.sub64 (p:=(n : Int)) (q:=1) rfl rfl rfl (by omega) (by omega)) rfl rfl ?_)|(refine uE (EvF.add64 (p:=(i : Int) + 1) (q:=1) rfl rfl rfl (by omega) (by omega)) rfl rfl ?_)|(refine uE (uJ (i:=(i : Int) + 1) rfl rfl rfl (te rfl) (te rfl) (by omega) (by omega)) rfl rfl ?_)|(refine uE (uL (v := .int .i64 x) rfl rfl (LoadV.el0 (n:=i + 1) hl hx (te rfl) rfl (fun _ h=>h) rfl)) rfl rfl ?_)|(refine uE (uM rfl rfl) rfl rfl ?_)|(refine uE (uA rfl rfl) rfl rfl ?_)|(refine uE (EvF.pickT rfl rfl rfl) rfl rfl ?_)|(refine uE (uY rfl rfl (te rfl)) rfl rfl ?_)))|(refine Xo.g rfl rfl ?_;(first | (with_reducible refine Xw.tf rfl rfl ?_)))))|(refine uD rfl ?_;refine hK _ _ ?_;clear hK K) | refine uS rfl ?_ | refine uR rfl (fun K hK=>?_) | refine X.block rfl ?_ | refine X.skip rfl ?_ | (refine X.ite rfl rfl (fun hc=>?_);(first | (with_reducible refine Xb.t hc ?_)|(with_reducible refine Xb.f hc ?_)) <;> clear hc))
     refine ⟨_,_,_,(by rw [show (i : Int) + 1 + 1 = ((i + 1 : Nat) : Int) + 1 by omega];exact (by repeat (first | exact uU _ | refine uV rfl ?_))),(by repeat (first | exact qR _ | apply qK | apply qC)),⟨i + 1,_,rfl,.inl (by omega),hal',?_,rfl,rfl⟩,by omega⟩
     rw [hw'];rfl
  ·have htk : (midL l).take i = midL l:=List.take_of_length_le (by omega)
   rw [htk] at hal hw
   have hyes : (midL l).all (fun x=>decide (w0 ≤ x)) = true:=List.all_eq_true.2 (fun x hx=>decide_eq_true (hal x hx))
   rw [hyes, ← hw,Bool.true_and]
   cases hww : w
   ·repeat' (first | (refine uP rfl ?_;(first | ((first | refine uN rfl ?_);(first | (refine uE (uQ (b:=false) rfl rfl rfl (congrArg some (decide_eq_false (by omega)))) rfl rfl ?_)|(refine uE (EvF.sub64 (p:=(n : Int)) (q:=1) rfl rfl rfl (by omega) (by omega)) rfl rfl ?_)|(refine uE (uM rfl rfl) rfl rfl ?_)|(refine uE (uA rfl rfl) rfl rfl ?_)|(refine uE (EvF.pickF rfl rfl rfl) rfl rfl ?_)|(refine uE (uY rfl rfl (te rfl)) rfl rfl ?_)))|(refine Xo.g rfl rfl ?_;(first | (with_reducible refine Xw.ft rfl rfl ?_)))))|(refine uD rfl ?_;refine hK _ _ ?_;clear hK K) | refine uS rfl ?_ | refine uR rfl (fun K hK=>?_)|(refine X.brk rfl ?_;repeat (first | refine blockX_hit rfl ?_ | refine blockX_miss (by decide) ?_)) | refine X.ret rfl ?_ | (refine X.ite rfl rfl (fun hc=>?_);(first | (with_reducible refine Xb.f hc ?_)) <;> clear hc))
    exact ret_one (by simp) Tryz.results105 rfl (H' := H) (by repeat (first | exact qR _ | apply qK | apply qC)) ⟨rfl,rfl⟩
   ·repeat' (first | (refine uP rfl ?_;(first | ((first | refine uN rfl ?_ | (refine Xo.g rfl rfl ?_;with_reducible refine Xw.tt ?_));(first | (refine uE (uQ (b:=false) rfl rfl rfl (congrArg some (decide_eq_false (by omega)))) rfl rfl ?_)|(refine uE (EvF.sub64 (p:=(n : Int)) (q:=1) rfl rfl rfl (by omega) (by omega)) rfl rfl ?_)|(refine Xg.st (StF.buildTwo rfl el55 rfl rfl rfl rfl rfl rfl (by decide) (by decide)) rfl rfl ?_;rintro _ _ ⟨bo,rfl,rfl⟩)|(refine uC (uT rfl (Args.cons rfl Args.nil)) rfl rfl (k1 _ _ _ (SlE.ofRow (l:=[f,g]) (qH _) (fun _ _=>rfl))) ?_;rintro _ H9 ⟨rfl,hH9⟩;subst H9)|(refine uE (uM rfl rfl) rfl rfl ?_)|(refine uE (uA rfl rfl) rfl rfl ?_)|(refine uE (EvF.pickT rfl rfl rfl) rfl rfl ?_)|(refine uE (uY rfl rfl (te rfl)) rfl rfl ?_)))))|(refine uD rfl ?_;refine hK _ _ ?_;clear hK K) | refine uS rfl ?_ | refine uR rfl (fun K hK=>?_)|(refine X.brk rfl ?_;repeat (first | refine blockX_hit rfl ?_ | refine blockX_miss (by decide) ?_)) | refine X.ret rfl ?_ | (refine X.ite rfl rfl (fun hc=>?_);(first | (with_reducible refine Xb.f hc ?_)) <;> clear hc))
    exact ret_one (by simp) Tryz.results105 rfl (H' := H) (by repeat (first | exact qR _ | apply qK | apply qC)) ⟨rfl,rfl⟩
theorem kindOf_spec (l : List Int) (a : Option Addr) (c : Nat) (H : List Row) (hl : SlE H a cI 1 l) (hb : l.length ≤ 1000) (h0 : 0 < l.length) (hc : l.length ≤ c) (hv : ∀ x ∈ l,0 ≤ x∧x ≤ 100) :
  Fc Tryz.prog 63 [.slice a l.length c] H (fun v H' => v = .int .i64 (kindF l)∧H' = H):=by
 have k1 : ∀ S,SlE S a cI 1 l → Fc Tryz.prog 64 [.slice a l.length c] S (fun v H' => v = .agg (cSp (cutsF l)).toArray∧H' = S):=fun S hS=>cuts_spec l a c S hS hb h0 hc hv
 have k2 : ∀ S,SlE S a cI 1 l → Fc Tryz.prog 104 [.slice a l.length c] S (fun v H' => v = .bool (alikeB l)∧H' = S):=fun S hS=>areAlike_spec l a c S hS hb h0 hv
 have k3 : ∀ S,SlE S a cI 1 l → Fc Tryz.prog 105 [.slice a l.length c] S (fun v H' => v = .bool (falseF l)∧H' = S):=fun S hS=>isFalse_spec l a c S hS hb h0 hv
 have hF : kindF l = if alikeB l = true then 1 else if (cutsF l).lo ≤ (cutsF l).hi then 2 else if falseF l = true then 3 else 4:=rfl
 rw [hF]
 generalize cutsF l = C at k1 hF ⊢
 generalize alikeB l = A at k2 hF ⊢
 generalize falseF l = E at k3 hF ⊢
 clear hF
 have hS : ∀ S : List Row,(∀ r ∈ H,r ∈ S) → SlE S a cI 1 l:=fun S hs=>hl.sub hs
 refine Fc.mk (callable Tryz.call63) Tryz.func63 rfl Tryz.ntmps63 rfl ?_;dsimp only [fr]
 cases A
 ·by_cases hq : C.lo ≤ C.hi
  ·rw [if_neg (by decide),if_pos hq]
   repeat' (first | (refine uP rfl ?_;(first | ((first | refine uN rfl ?_);(first | (refine uE (uQ (b:=true) rfl rfl rfl (congrArg some (decide_eq_true (by omega)))) rfl rfl ?_)|(refine uC (uT rfl (Args.cons rfl Args.nil)) rfl rfl (k1 _ (hS _ (fun _ h=>by repeat (first | exact h | apply qT)))) ?_;rintro _ H9 ⟨rfl,hH9⟩;subst H9)|(refine uC (uT rfl (Args.cons rfl Args.nil)) rfl rfl (k2 _ (hS _ (fun _ h=>by repeat (first | exact h | apply qT)))) ?_;rintro _ H9 ⟨rfl,hH9⟩;subst H9)|(refine uE (uM rfl rfl) rfl rfl ?_)|(refine uE (uA rfl rfl) rfl rfl ?_)|(refine uE (uF rfl rfl (te rfl) rfl (te rfl) (by decide)) rfl rfl ?_)|(refine uE (uL rfl rfl (uO (te rfl) rfl (qH _) rfl)) rfl rfl ?_)|(refine Xg.st (StF.alloc rfl Tryz.zeroValue24 rfl) rfl rfl ?_;rintro _ _ ⟨bx,rfl,rfl⟩)|(refine Xg.st0 (uZ (i:=0) rfl rfl rfl (te rfl) rfl rfl rfl rfl) rfl ?_;rintro _ _ ⟨rfl,rfl⟩;dsimp only [List.set])))))|(refine uD rfl ?_;refine hK _ _ ?_;clear hK K) | refine uS rfl ?_ | refine uR rfl (fun K hK=>?_) | refine X.block rfl ?_ | refine X.ret rfl ?_ | (refine X.ite rfl rfl (fun hc=>?_);(first | (with_reducible refine Xb.t hc ?_)|(with_reducible refine Xb.f hc ?_)) <;> clear hc))
   exact ret_one (by simp) Tryz.results63 rfl (H' := H) (by repeat (first | exact qR _ | apply qK | apply qC)) ⟨rfl,rfl⟩
  ·rw [if_neg (by decide),if_neg hq]
   cases E
   all_goals (repeat' (first | (refine uP rfl ?_;(first | ((first | refine uN rfl ?_);(first | (refine uE (uQ (b:=false) rfl rfl rfl (congrArg some (decide_eq_false (by omega)))) rfl rfl ?_)|(refine uC (uT rfl (Args.cons rfl Args.nil)) rfl rfl (k1 _ (hS _ (fun _ h=>by repeat (first | exact h | apply qT)))) ?_;rintro _ H9 ⟨rfl,hH9⟩;subst H9)|(refine uC (uT rfl (Args.cons rfl Args.nil)) rfl rfl (k2 _ (hS _ (fun _ h=>by repeat (first | exact h | apply qT)))) ?_;rintro _ H9 ⟨rfl,hH9⟩;subst H9)|(refine uC (uT rfl (Args.cons rfl Args.nil)) rfl rfl (k3 _ (hS _ (fun _ h=>by repeat (first | exact h | apply qT)))) ?_;rintro _ H9 ⟨rfl,hH9⟩;subst H9)|(refine uE (uM rfl rfl) rfl rfl ?_)|(refine uE (uA rfl rfl) rfl rfl ?_)|(refine uE (uF rfl rfl (te rfl) rfl (te rfl) (by decide)) rfl rfl ?_)|(refine uE (uL rfl rfl (uO (te rfl) rfl (qH _) rfl)) rfl rfl ?_)|(refine Xg.st (StF.alloc rfl Tryz.zeroValue24 rfl) rfl rfl ?_;rintro _ _ ⟨bx,rfl,rfl⟩)|(refine Xg.st0 (uZ (i:=0) rfl rfl rfl (te rfl) rfl rfl rfl rfl) rfl ?_;rintro _ _ ⟨rfl,rfl⟩;dsimp only [List.set])))))|(refine uD rfl ?_;refine hK _ _ ?_;clear hK K) | refine uS rfl ?_ | refine uR rfl (fun K hK=>?_) | refine X.block rfl ?_ | refine X.skip rfl ?_ | refine X.ret rfl ?_ | (refine X.ite rfl rfl (fun hc=>?_);(first | (with_reducible refine Xb.t hc ?_)|(with_reducible refine Xb.f hc ?_)) <;> clear hc)))
   all_goals exact ret_one (by simp) Tryz.results63 rfl (H' := H) (by repeat (first | exact qR _ | apply qK | apply qC)) ⟨rfl,rfl⟩
 ·rw [if_pos rfl]
  repeat' (first | (refine uP rfl ?_;(first | ((first | refine uN rfl ?_);(first | (refine uC (uT rfl (Args.cons rfl Args.nil)) rfl rfl (k1 _ (hS _ (fun _ h=>by repeat (first | exact h | apply qT)))) ?_;rintro _ H9 ⟨rfl,hH9⟩;subst H9)|(refine uC (uT rfl (Args.cons rfl Args.nil)) rfl rfl (k2 _ (hS _ (fun _ h=>by repeat (first | exact h | apply qT)))) ?_;rintro _ H9 ⟨rfl,hH9⟩;subst H9)|(refine uE (uM rfl rfl) rfl rfl ?_)|(refine uE (uA rfl rfl) rfl rfl ?_)|(refine Xg.st (StF.alloc rfl Tryz.zeroValue24 rfl) rfl rfl ?_;rintro _ _ ⟨bx,rfl,rfl⟩)|(refine Xg.st0 (uZ (i:=0) rfl rfl rfl (te rfl) rfl rfl rfl rfl) rfl ?_;rintro _ _ ⟨rfl,rfl⟩;dsimp only [List.set])))))|(refine uD rfl ?_;refine hK _ _ ?_;clear hK K) | refine uS rfl ?_ | refine uR rfl (fun K hK=>?_) | refine X.block rfl ?_ | refine X.ret rfl ?_ | (refine X.ite rfl rfl (fun hc=>?_);(first | (with_reducible refine Xb.t hc ?_)) <;> clear hc))
  exact ret_one (by simp) Tryz.results63 rfl (H' := H) (by repeat (first | exact qR _ | apply qK | apply qC)) ⟨rfl,rfl⟩
end Go.Proofs.YtbpcbdbclijomaaGreat
namespace Go.Fw
open Go Go.RowKit
section
variable {P : Program} {H : List Row} {F : FS} {n : Nat} {o : Oper}
end
section
variable {P : Program} {H : List Row} {F : FS} {n : Nat} {o : Oper}
end
section
variable {P : Program} {H : List Row} {F : FS} {n : Nat} {o : Oper}
theorem StF.insertM {T kt e : TypeId} {m key val : Operand} {kd : IntKind} {i b clock : Nat} {l : List Ent} {k : Int} {v : Value} (h : o.op = .insert T m key val) (hT : P.underlying T = some (.map kt e)) (hk : P.underlying kt = some (.int kd))
  (hm : evF F m = some (.map (some b))) (hx : evF F key = some (.int kd k)) (hv : evF F val = some v) (hi : H[i]? = some (mRow b kd l clock)) (hl : keysM l) :
  StF P n H F o (fun u H' => u = undef∧H' = H.set i (mRow b kd (insM l clock k v) (clkM l clock k))):=by
 have h0:=StF.mapUpdate (P:=P) (n:=n) (H:=H) (F:=F) (o:={ o with op := .mapUpdate T m key val }) (T:=T) (kt:=kt) (e:=e) (m:=m) (key:=key) (val:=val) rfl hT hk hm hx hv hi hl
 unfold StF StepOp at h0 ⊢
 intro t ha B w0 w hS
 obtain ⟨v',w',H',h1,h2⟩:=h0 t ha B w0 w hS
 refine ⟨v',w',H',?_,h2⟩
 have e : execOp (Fw.ev t) o = execOp (Fw.ev t) { o with op := .mapUpdate T m key val }:=by simp [execOp,h]
 rw [e]
 exact h1
end
structure KeyEq {κ : Type} [DecidableEq κ] (P : Program) (kt : TypeId) (enc : κ → Value) : Prop where
 chk : ∀ em a w,(Instr.checkKey em 10000 kt (enc a)).run P w = .ok () w
 wide : (match P.underlying kt with | some (.array _ _) | some (.struct _)=>true | _=>false)=true
 eq : ∀ a b w,(Op.equal kt (enc a) (enc b)).run P w = .ok (decide (a = b)) w
 same : ∀ a,Instr.sameBits 10000 (enc a) (enc a)=true
section
variable {κ : Type}
def mK (enc : κ → Value) (e : κ × Value × Nat) : MapEntry:=⟨enc e.1,e.2.1,e.2.2⟩
def mKs (enc : κ → Value) (l : List (κ × Value × Nat)) : Array MapEntry:=(l.map (mK enc)).toArray
def kRow (b : Nat) (enc : κ → Value) (l : List (κ × Value × Nat)) (clock : Nat) : Row:=oRow b (.map (mKs enc l) clock)
def keysK (l : List (κ × Value × Nat)) : Prop:=(l.map (·.1)).Nodup
theorem keysK_inj {l : List (κ × Value × Nat)} (hl : keysK l) {i j : Nat} {a b : κ × Value × Nat} (ha : l[i]? = some a) (hb : l[j]? = some b) (h : a.1 = b.1) : i = j:=by
 obtain ⟨hi,he⟩:=List.getElem?_eq_some_iff.1 ha
 obtain ⟨hj,hf⟩:=List.getElem?_eq_some_iff.1 hb
 have:=(List.nodup_iff_pairwise_ne.1 hl)
 rw [List.pairwise_map] at this
 rcases Nat.lt_trichotomy i j with q | q | q
 ·exact absurd (by rw [he,hf];exact h) (List.pairwise_iff_getElem.1 this i j hi hj q)
 ·exact q
 ·exact absurd (by rw [he,hf];exact h.symm) (List.pairwise_iff_getElem.1 this j i hj hi q)
variable {P : Program} {H : List Row} {F : FS} {n : Nat} {o : Oper}
theorem StF.makeMapK {T : TypeId} (enc : κ → Value) (h : o.op = .makeMap T none) : StF P n H F o (fun v H' => ∃ b,v = .map (some b)∧H' = kRow b enc [] 0::H):=by
 unfold StF StepOp
 intro t ha B w0 w hS
 refine ⟨_,_,_,.inl ?_,hS.allocObj (.map #[] 0),_,rfl,rfl⟩
 simp [execOp,h,Instr.makeMap,newObj,Sem.run,World.alloc_eq]
end
section
variable {κ : Type} [DecidableEq κ]
def atK (l : List (κ × Value × Nat)) (k : κ) : Option Value:=(l.find? (fun e=>decide (k = e.1))).map (·.2.1)
def insK (l : List (κ × Value × Nat)) (clock : Nat) (k : κ) (v : Value) : List (κ × Value × Nat):=if l.any (fun e=>decide (k = e.1)) then l.map (fun e=>if k = e.1 then (e.1,v,e.2.2) else e) else l++[(k,v,clock)]
def clkK (l : List (κ × Value × Nat)) (clock : Nat) (k : κ) : Nat:=if l.any (fun e=>decide (k = e.1)) then clock else clock + 1
variable {P : Program} {H : List Row} {F : FS} {n : Nat} {o : Oper} {kt : TypeId} {enc : κ → Value}
theorem run_ask (hK : KeyEq P kt enc) (k : κ) (w : World) : ∀ (l : List (κ × Value × Nat)) (i : Nat),
  (Instr.findAsking kt (enc k) (l.map (mK enc)) i).run P w = .ok (match l.findIdx? (fun e=>decide (k = e.1)) with | some j=>some (i + j,(l.getD j (k,undef,0)).2.1) | none=>none) w
 | [],i=>by simp [Instr.findAsking]
 | e::l,i=>by
  rw [List.map_cons]
  unfold Instr.findAsking
  have he:=hK.eq k e.1 w
  have hm : (mK enc e).key = enc e.1:=rfl
  rw [hm,List.findIdx?_cons]
  by_cases h : k = e.1
  ·have h2 : decide (k = e.1)=true:=decide_eq_true h
   rw [h2] at he ⊢
   simp [he,mK]
  ·have h2 : decide (k = e.1)=false:=decide_eq_false h
   rw [h2] at he ⊢
   have ih:=run_ask hK k w l (i + 1)
   simp only [Bool.false_eq_true,if_false]
   cases hf : l.findIdx? (fun e=>decide (k = e.1)) with
   | none=>rw [hf] at ih;simp [he,ih]
   | some j=>rw [hf] at ih;simp [he,ih,Nat.add_assoc,Nat.add_comm 1 j]
theorem run_findK (hK : KeyEq P kt enc) (l : List (κ × Value × Nat)) (k : κ) (w : World) :
  (Instr.findKey kt (enc k) (mKs enc l).toList).run P w = .ok (match l.findIdx? (fun e=>decide (k = e.1)) with | some j=>some (j,(l.getD j (k,undef,0)).2.1) | none=>none) w:=by
 rw [run_findKey_eq w hK.wide]
 have h:=run_ask hK k w l 0
 have : (mKs enc l).toList = l.map (mK enc):=by simp [mKs]
 rw [this]
 simp only [Nat.zero_add] at h
 exact h
theorem findK_some {l : List (κ × Value × Nat)} {k : κ} {j : Nat} (hj : l.findIdx? (fun e=>decide (k = e.1)) = some j) : ∃ e,l[j]? = some e∧k = e.1∧l.find? (fun e=>decide (k = e.1)) = some e∧l.any (fun e=>decide (k = e.1)) = true:=by
 obtain ⟨hj1,hj2,hj3⟩:=List.findIdx?_eq_some_iff_getElem.1 hj
 refine ⟨l[j],List.getElem?_eq_getElem hj1,of_decide_eq_true hj2,?_,List.any_eq_true.2 ⟨_,List.getElem_mem hj1,hj2⟩⟩
 rw [List.find?_eq_some_iff_getElem]
 exact ⟨hj2,j,hj1,rfl,fun i hi=>by have:=hj3 i hi;simpa using this⟩
theorem findK_none {l : List (κ × Value × Nat)} {k : κ} (hj : l.findIdx? (fun e=>decide (k = e.1)) = none) : l.find? (fun e=>decide (k = e.1)) = none∧l.any (fun e=>decide (k = e.1)) = false:=by
 have h:=List.findIdx?_eq_none_iff.1 hj
 refine ⟨List.find?_eq_none.2 (fun x hx=>by have:=h x hx;simpa using this),?_⟩
 rw [List.any_eq_false]
 intro e he
 have:=h e he
 simpa using this
/-- x, ok := m[k] -/
theorem EvF.lookupK {T e : TypeId} {m key : Operand} {b clock : Nat} {l : List (κ × Value × Nat)} {k : κ} {z : Value} (hK : KeyEq P kt enc) (h : o.op = .lookup T m key true) (hT : P.underlying T = some (.map kt e))
  (hm : evF F m = some (.map (some b))) (hx : evF F key = some (enc k)) (hi : kRow b enc l clock ∈ H) (hz : ∀ w,(zeroValue e).run P w = .ok z w) : EvF P n H F o (.tuple #[(atK l k).getD z,.bool (atK l k).isSome]):=by
 unfold EvF EvOp
 intro t ha B w0 w hS
 have hb : w.heap[b]? = some (.map (mKs enc l) clock):=(hS.ok _ hi).2.2
 have e1:=ha.ev hm
 have e2:=ha.ev hx
 have hf:=run_findK hK l k w
 cases hj : l.findIdx? (fun e=>decide (k = e.1)) with
 | none =>
  rw [hj] at hf
  have : atK l k = none:=by unfold atK;rw [(findK_none hj).1];rfl
  rw [this]
  simp [execOp,h,Instr.lookup,e1,e2,run_underlying hT,MapKept.run_getObj_map hb,hK.chk,hf,hz]
 | some j =>
  obtain ⟨a,hje,hek,hfd,hany⟩:=findK_some hj
  rw [hj] at hf
  have : atK l k = some a.2.1:=by unfold atK;rw [hfd];rfl
  rw [this]
  have hgd : (l.getD j (k,undef,0)) = a:=by rw [List.getD_eq_getElem?_getD,hje];rfl
  simp only [hgd] at hf
  simp [execOp,h,Instr.lookup,e1,e2,run_underlying hT,MapKept.run_getObj_map hb,hK.chk,hf]
theorem StF.updateK {T e : TypeId} {m key val : Operand} {i b clock : Nat} {l : List (κ × Value × Nat)} {k : κ} {v : Value} (hK : KeyEq P kt enc) (h : o.op = .mapUpdate T m key val) (hT : P.underlying T = some (.map kt e))
  (hm : evF F m = some (.map (some b))) (hx : evF F key = some (enc k)) (hv : evF F val = some v) (hi : H[i]? = some (kRow b enc l clock)) (hl : keysK l) :
  StF P n H F o (fun u H' => u = undef∧H' = H.set i (kRow b enc (insK l clock k v) (clkK l clock k))):=by
 unfold StF StepOp
 intro t ha B w0 w hS
 have hb : w.heap[b]? = some (.map (mKs enc l) clock):=(hS.ok _ (List.mem_of_getElem? hi)).2.2
 have e1:=ha.ev hm
 have e2:=ha.ev hx
 have e3:=ha.ev hv
 refine ⟨undef,w.putObj b (.map (mKs enc (insK l clock k v)) (clkK l clock k)),_,.inr ⟨?_,rfl⟩,hS.putAt hi _,rfl,rfl⟩
 have hf:=run_findK hK l k w
 cases hj : l.findIdx? (fun e=>decide (k = e.1)) with
 | none =>
  have hany:=(findK_none hj).2
  rw [hj] at hf
  have hi1 : insK l clock k v = l++[(k,v,clock)]:=by unfold insK;rw [if_neg (by simp [hany])]
  have hi2 : clkK l clock k = clock + 1:=by unfold clkK;rw [if_neg (by simp [hany])]
  rw [hi1,hi2]
  have he : (mKs enc l).push ⟨enc k,v,clock⟩ = mKs enc (l++[(k,v,clock)]):=by simp [mKs,mK]
  simp [execOp,h,Instr.mapUpdate,e1,e2,e3,run_underlying hT,MapKept.run_getObj_map hb,hK.chk,hf,MapKept.run_setObj_map _ hb,he,World.putObj]
 | some j =>
  obtain ⟨a,hje,hek,hfd,hany⟩:=findK_some hj
  rw [hj] at hf
  have hi1 : insK l clock k v = l.map (fun e=>if k = e.1 then (e.1,v,e.2.2) else e):=by unfold insK;rw [if_pos hany]
  have hi2 : clkK l clock k = clock:=by unfold clkK;rw [if_pos hany]
  rw [hi1,hi2]
  have hkj : ((mKs enc l)[j]?.map (·.key)).getD (enc k)=enc k:=by simp [mKs,hje,mK,hek]
  have he : (mKs enc l).modify j (fun e=>{ e with key:=enc k,val:=v }) = mKs enc (l.map (fun e=>if k = e.1 then (e.1,v,e.2.2) else e)):=by
   unfold mKs
   rw [modify_list]
   congr 1
   apply List.ext_getElem?
   intro x
   rw [List.getElem?_modify,List.getElem?_map,List.getElem?_map,List.getElem?_map]
   cases hx : l[x]? with
   | none=>simp
   | some c =>
    by_cases hxj : j = x
    ·subst hxj
     rw [hje] at hx
     obtain rfl:=Option.some.inj hx
     simp [mK,hek]
    ·have hne : ¬ k = c.1:=fun q=>hxj (keysK_inj hl hje hx (by rw [← hek,q]))
     simp [hxj,hne]
  have hst : (Instr.keyThatStays (enc k) (enc k)).run P w = .ok (enc k) w:=by simp [Instr.keyThatStays,hK.same]
  simp [execOp,h,Instr.mapUpdate,e1,e2,e3,run_underlying hT,MapKept.run_getObj_map hb,hK.chk,hf,hkj,hst,MapKept.run_setObj_map _ hb,he,World.putObj]
end
/-- what an iterator does, if each round's end is known: xs come, each as some α tells whose value it is, and of which Mem says where it lies -/
def ItdM (P : Program) {α β : Type} (f : FuncId) (cap : List Value) (E : List Row) (xs : List β) (encs : α → List Value) (val : α → β) (Mem : α → List Row → Prop) : Prop :=
 Callable P f ∧ ∀ (l : Nat) (h : List β → List Row) (ok : List β → Bool) (hx : List β → List Row),
  (∀ pre x,(pre++[val x]) <+: xs → allOk ok pre → ∀ E',Mem x E' → Yc P l (encs x) (h pre++E') (fun v H' => v = .bool (ok (pre++[val x]))∧H' = (if ok (pre++[val x]) then h (pre++[val x]) else hx (pre++[val x]))++E')) →
  Fc P f (.func (.yield l) #[] #[]::cap) (h []++E) (fun _ H' => (allOk ok xs∧H' = h xs++E) ∨ ∃ pre,pre <+: xs∧ok pre = false∧H' = hx pre++E)
theorem XT.rangeDM {P : Program} {n : Nat} {c : Code} {F : FS} {Ds : List Nat} {H : List Row} {Q : QTT} {α β : Type} {val : α → β} {Mem : α → List Row → Prop} {g : Operand} {ps : List Nat} {assign body : Code} {f : FuncId} {cap : List Value} {E : List Row} {xs : List β} {encs : α → List Value}
  (h : c = .rangeFunc g ps.toArray assign body) (hg : evF F g = some (.func (.func f) #[] cap.toArray)) (hI : ItdM P f cap E xs encs val Mem) (hmono : ∀ x E E',Mem x E → (∀ r ∈ E,r ∈ E') → Mem x E') (hps : ps.all (fun p=>Nat.blt p n)=true) (hen : ∀ x,(encs x).length = ps.length)
  (hb : List β → List Row) (ok : List β → Bool) (hx : List β → List Row) (cx : Code) (hH : H = hb []++E)
  (hround : ∀ pre x,(pre++[val x]) <+: xs → allOk ok pre → ∀ Z,Mem x Z → X P n assign (zipF ps (encs x) F) (hb pre++Z) (fun e F1 H1=>e = .normal ∧ ∃ Hb1,(Hb1++Z).Sublist H1 ∧ ∀ Z',Mem x Z' → X P n body F1 (Hb1++Z') (bodyX (fun Hb=>ok (pre++[val x]) = true∧Hb = hb (pre++[val x])) (fun c Hb=>c = cx∧ok (pre++[val x]) = false∧Hb = hx (pre++[val x])) Z')))
  (hdone : ∀ D,allOk ok xs → Q .normal F (D::Ds) (hb xs++E))
  (hret : ∀ D pre,cx = .ret → pre <+: xs → ok pre = false → Q .ret F (D::Ds) (hx pre++E))
  (hexit : ∀ D id pre,cx = .exit id → pre <+: xs → ok pre = false → Q (.exit id) F (D::Ds) (hx pre++E))
  (honly : cx = .ret ∨ ∃ id,cx = .exit id) : XT P n c F Ds H Q:=by
 subst h hH
 unfold XT
 intro t ha B w0 w hS
 obtain ⟨M,hM⟩ : ∃ M,M = Ds.map dRow:=⟨_,rfl⟩
 have hS : St B w0 ((M++hb [])++E) w:=hS.perm (by rw [hM,List.append_assoc];exact List.perm_append_comm)
 refine wpIn_rangeFunc ?_
 intro fn _
 obtain ⟨hcall,hit⟩:=hI
 obtain ⟨rec,hrec⟩ : ∃ rec : LoopState → Option Code → Loop,rec = fun st pe=>{ state:=st,pending:=pe,fn,tmps:=t.toArray,params:=ps.toArray,assign,body,defers:=w.heap.size }:=⟨_,rfl⟩
 have hg' : Act.eval ⟨t.toArray,Ds.map dMk⟩ g = .func (.func f) #[] cap.toArray:=by rw [eval_ev];exact ha.ev hg
 have hS1:=hS.allocObj (.deferred (some []))
 have hS2:=hS1.allocObj (.loop (rec .ready none))
 refine ⟨w.heap.size + 1,[dMk w.heap.size],(w.alloc (.deferred (some []))).alloc (.loop (rec .ready none)),{ target := .fn (.func f) cap.toArray,args := #[.func (.yield (w.heap.size + 1)) #[] #[]] },(w.alloc (.deferred (some []))).alloc (.loop (rec .ready none)),f,
  #[.func (.yield (w.heap.size + 1)) #[] #[]]++cap.toArray,(w.alloc (.deferred (some []))).alloc (.loop (rec .ready none)),?_,?_,fun _ _=>trivial,?_,(fun h=>by cases h),?_⟩
 ·rw [hrec];exact run_enterLoop_outer fn _ _ _ _
 ·simp only [resolve,hg']
  simp [Deferred.ofValue,Act.eval]
 ·unfold Callable at hcall
  simp [invoke]
  exact hcall _ _
 have hsz : (w.alloc (.deferred (some []))).heap.size = w.heap.size + 1:=size_alloc' _ _
 rw [hsz] at hS2
 -- the round
 have key:=hit (w.heap.size + 1)
  (fun pre=>lRow (w.heap.size + 1) (rec .ready none)::dRow w.heap.size::(M++hb pre)) ok
  (fun pre=>lRow (w.heap.size + 1) (rec .done (some cx))::dRow w.heap.size::(M++hx pre)) ?_
 ·unfold Fc at key
  have hc:=key.2 B w0 _ hS2
  have e1 : (#[Value.func (.yield (w.heap.size + 1)) #[] #[]]++cap.toArray)=(Value.func (.yield (w.heap.size + 1)) #[] #[]::cap).toArray:=by simp
  rw [e1]
  refine (callsIn_wide (n:=0)).2 (hc.mono ?_)
  rintro e w' ⟨v,H',rfl,hJ,hS'⟩
  rcases hJ with ⟨hok,rfl⟩ | ⟨pre,hpx,hno,rfl⟩
  ·have hl : w'.heap[w.heap.size + 1]? = some (.loop (rec .ready none)):=hS'.obj (List.mem_cons_self ..)
   have hS3:=(hS'.putObj (.loop { rec .ready none with state := .exhausted })).tail
   refine ⟨none,w'.putObj (w.heap.size + 1) (.loop { rec .ready none with state := .exhausted }),?_,?_⟩
   ·have:=run_endLoop (P:=P) hl (by rw [hrec];simp)
    rw [this];rw [hrec]
   ·refine ⟨w.heap.size::Ds,F,hb xs++E,rfl,?_,hdone _ hok,?_⟩
    ·simpa using ha
    ·refine hS3.perm ?_
     rw [List.map_cons, ← hM]
     exact (mvM _ _ _ _).symm
  ·have hl : w'.heap[w.heap.size + 1]? = some (.loop (rec .done (some cx))):=hS'.obj (List.mem_cons_self ..)
   have hS3:=(hS'.putObj (.loop { rec .done (some cx) with state := .exhausted })).tail
   refine ⟨some cx,w'.putObj (w.heap.size + 1) (.loop { rec .done (some cx) with state := .exhausted }),?_,?_⟩
   ·have:=run_endLoop (P:=P) hl (by rw [hrec];simp)
    rw [this];rw [hrec]
   ·have hS4 : St B w0 ((hx pre++E)++(w.heap.size::Ds).map dRow) (w'.putObj (w.heap.size + 1) (.loop { rec .done (some cx) with state := .exhausted })):=by
     refine hS3.perm ?_
     rw [List.map_cons, ← hM]
     exact (mvM _ _ _ _).symm
    rcases honly with hc | ⟨id,hc⟩
    ·rw [hc];exact wpIn_ret ⟨w.heap.size::Ds,F,hx pre++E,rfl,by simpa using ha,hret _ _ hc hpx hno,by rw [hc] at hS4;exact hS4⟩
    ·rw [hc];exact wpIn_exit ⟨w.heap.size::Ds,F,hx pre++E,rfl,by simpa using ha,hexit _ _ _ hc hpx hno,by rw [hc] at hS4;exact hS4⟩
 ·rintro pre x hpre hall E' hME
  unfold Yc
  intro B w0 w' hS'
  have hl : w'.heap[w.heap.size + 1]? = some (.loop (rec .ready none)):=hS'.obj (List.mem_cons_self ..)
  have hy:=run_yield (P:=P) (args:=(encs x).toArray) hl (by rw [hrec];simp [hen])
  rw [hrec] at hy
  refine ⟨_,_,_,_,hy,roundIn_of_wpIn (F:=Fence.wide) trivial ?_⟩
  have hag:=ag_zipF ps (encs x) F t.toArray (by simpa using ha) hps
  have hx:=hround pre x hpre hall (lRow (w.heap.size + 1) (rec .ready none)::dRow w.heap.size::(M++E')) (hmono _ _ _ hME (fun r h=>List.Mem.tail _ (List.Mem.tail _ (List.mem_append_right _ h))))
  unfold X W at hx
  have hx1:=hx _ hag (some (w.heap.size + 1)) [] B w0 w' (hS'.perm (mvN _ _ _ _ _).symm)
  refine wpIn_mono (F:=Fence.wide.inRound (w.heap.size + 1)) (by rw [Array.toArray_toList] at hx1;exact hx1) ?_
  rintro e a1 w1 ⟨hd1,H1,⟨F1,ha1,he1,Hb1,hs1,hbody⟩,hS1'⟩
  subst he1
  have hS1'' : St B w0 (lRow (w.heap.size + 1) (rec .ready none)::(Hb1++(dRow w.heap.size::(M++E')))) w1:=(hS1'.sub hs1).perm (by simpa using List.perm_middle.symm)
  have hl1 : w1.heap[w.heap.size + 1]? = some (.loop (rec .ready none)):=hS1''.obj (List.mem_cons_self ..)
  have hS1b:=hS1''.putObj (.loop { rec .ready none with state := .busy })
  have hb1:=hbody (lRow (w.heap.size + 1) { rec .ready none with state := .busy }::dRow w.heap.size::(M++E')) (hmono _ _ _ hME (fun r h=>List.Mem.tail _ (List.Mem.tail _ (List.mem_append_right _ h))))
  have hb2:=hb1 _ ha1 (some (w.heap.size + 1)) [] B w0 _ (hS1b.perm (by simp [lRow]))
  refine ⟨_,run_beginRound hl1 (by rw [hrec]),?_⟩
  rw [act_eta hd1]
  refine wpIn_mono (F:=Fence.wide.inRound (w.heap.size + 1)) hb2 ?_
  rintro e a2 w2 ⟨hd2,H2,⟨F2,ha2,Hb2,hs2,hq⟩,hS2'⟩
  have hS2'' : St B w0 (lRow (w.heap.size + 1) { rec .ready none with state := .busy }::(Hb2++(dRow w.heap.size::(M++E')))) w2:=(hS2'.sub hs2).perm (by simpa using List.perm_middle.symm)
  have hl2 : w2.heap[w.heap.size + 1]? = some (.loop { rec .ready none with state := .busy }):=hS2''.obj (List.mem_cons_self ..)
  have fin : ∀ jump : Option Code,∃ w3,(Instr.endRound (w.heap.size + 1) jump).run P w2 = .ok (.bool jump.isNone) w3∧St B w0 ((lRow (w.heap.size + 1) (rec (if jump.isNone then .ready else .done) jump)::dRow w.heap.size::(M++Hb2))++E') w3:=by
   intro jump
   have h1:=run_endRound (P:=P) jump hl2
   have h2:=hS2''.putObj (.loop { { rec .ready none with state:=LoopState.busy } with state:=if jump.isNone then .ready else .done,pending:=jump })
   have h3 : ({ { rec .ready none with state:=LoopState.busy } with state:=if jump.isNone then .ready else .done,pending:=jump } : Loop)=rec (if jump.isNone then .ready else .done) jump:=by rw [hrec]
   rw [h3] at h2
   have h4 : (Instr.endRound (w.heap.size + 1) jump).run P w2 = .ok (.bool jump.isNone) (w2.putObj (w.heap.size + 1) (.loop (rec (if jump.isNone then .ready else .done) jump))):=by rw [h1];rw [hrec]
   refine ⟨_,h4,h2.perm ?_⟩
   simp only [lRow,List.cons_append]
   refine List.Perm.cons _ ?_
   exact (mvO _ _ _ _).symm
  cases e with
  | normal =>
   obtain ⟨w3,h1,h2⟩:=fin none
   obtain ⟨hq1,hq2⟩:=hq
   subst hq2
   refine ⟨_,w3,h1,_,_,rfl,⟨by rw [hq1];rfl,?_⟩,h2⟩
   rw [hq1];rfl
  | ret =>
   obtain ⟨w3,h1,h2⟩:=fin (some .ret)
   obtain ⟨hq0,hq1,hq2⟩:=hq
   subst hq2
   refine ⟨_,w3,h1,_,_,rfl,⟨by rw [hq1];rfl,?_⟩,h2⟩
   rw [hq1, ← hq0];rfl
  | exit id =>
   obtain ⟨w3,h1,h2⟩:=fin (some (.exit id))
   obtain ⟨hq0,hq1,hq2⟩:=hq
   subst hq2
   refine ⟨_,w3,h1,_,_,rfl,⟨by rw [hq1];rfl,?_⟩,h2⟩
   rw [hq1, ← hq0];rfl
  | goto l=>exact hq.elim
  | panic ch=>exact hq.elim
  | outgrown=>exact hq.elim
section
variable {P : Program} {n : Nat} {H : List Row} {F : FS} {o : Oper}
/-- a slice's beginning, with no room behind it -/
theorem EvF.sliceCap {T e : TypeId} {x q q' : Operand} {a : Option Addr} {len cap hh s y : Nat} {kk kk' : IntKind} {ti : TI} (h : o.op = .slice T x none (some q) (some q')) (hx : evF F x = some (.slice a len cap)) (hT : tiOf P T = some ⟨.sl e,s,y⟩) (he : tiOf P e = some ti) (hq : evF F q = some (.int kk (hh : Int))) (hq' : evF F q' = some (.int kk' (hh : Int))) (h1 : hh ≤ cap) :
  EvF P n H F o (.slice a hh hh):=by
 unfold EvF EvOp
 intro t ha B w0 w hS
 have hu:=ti_slice hT
 have hsz:=ti_size he w
 have hxv:=ha.ev hx
 have hqv:=ha.ev hq
 have hqv' := ha.ev hq'
 have hbd : (Instr.sliceBounds true len cap none (some (.int kk (hh : Int))) (some (.int kk' (hh : Int)))).run P w = .ok (0,hh,hh) w:=by
  simp [Instr.sliceBounds,Instr.sliceBound,asIntOf,h1]
 have e1 : (if hh = 0 then a else Option.map (fun x=>x.add (0 * ti.size)) a)=a:=by
  split
  ·rfl
  ·cases a <;> simp [add_zero']
 simp only [Nat.zero_mul] at e1
 simp [execOp,h,hxv,hqv,hqv',Instr.sliceAt,Instr.slice,underlying,hu,hbd,hsz,e1]
theorem appendFull {α : Type} {enc : α → List Value} {l : List α} {B : Nat} {w0 w : World} {T e : TypeId} {sz y ty : Nat} (hT : ElT P T e sz y) (hS : St B w0 H w) {m c : Nat} {news : List Value} {a : Addr} (ao : Option Addr) (hs : SlE H ao enc sz l)
  (hm : 0 < m) (hl : news.length = m * sz) (hn : Rd H a news) (hbig : (l.length + m) * (y + 1)≤140737488355328) :
  ∃ b' cap' w',(Builtin.append_ #[T,T] ty #[.slice ao l.length l.length,.slice (some a) m c]).run P w = .ok (.slice (some ⟨b',0,none⟩) (l.length + m) (cap' + (l.length + m))) w'∧St B w0 (⟨b',0,l.flatMap enc++news,some e,(cap' + (l.length + m)) * sz⟩::H) w' := by
 obtain ⟨ht,inf,z,hinf,hz,rfl,rfl,hzs⟩:=hT
 have hb0 : l.length + m ≤ 140737488355328:=Nat.le_trans (Nat.le_mul_of_pos_right _ (Nat.succ_pos _)) hbig
 have hb1 : (l.length + m) * inf.bytes ≤ 140737488355328:=Nat.le_trans (Nat.mul_le_mul_left _ (Nat.le_succ _)) hbig
 have hnews:=hn.cell hS
 have hge:=grownCap_ge w (l.length + m) l.length e
 have hlen : (l.flatMap enc).length = l.length * inf.size:=flat_len hs.1
 have hrun : (Builtin.append_ #[T,T] ty #[.slice ao l.length l.length,.slice (some a) m c]).run P w =
   .ok (.slice (some ⟨w.heap.size,0,none⟩) (l.length + m) (grownCap w (l.length + m) l.length e)) (w.drew.alloc (.cells ((l.flatMap enc).toArray++news.toArray++Builtin.zeroCells z.cells (grownCap w (l.length + m) l.length e - (l.length + m))) e)):=by
  cases l with
  | nil =>
   cases ao with
   | none =>
    have:=run_append_nil (P:=P) w T ty e inf z ht hinf hz a m c news hl hnews hm (by omega) (Nat.le_trans (by simpa using hb1) (by decide : (140737488355328 : Nat)≤281474976710656))
    simpa using this
   | some b =>
    have:=run_append_grow (P:=P) w T ty e inf z ht hinf hz b 0 0 [] (by simp) (by simp) a m c news hl hnews (by omega) (by omega) (growslice_fits (by omega) (by simpa using hb1))
    simpa using this
  | cons q r =>
   obtain ⟨b,off,rfl,_⟩:=hs.2 (by simp)
   exact run_append_grow (P:=P) w T ty e inf z ht hinf hz ⟨b,off,none⟩ _ _ _ hlen (hs.rd.cell hS) a m c news hl hnews (by omega) (by omega) (growslice_fits (by omega) hb1)
 refine ⟨w.heap.size,grownCap w (l.length + m) l.length e - (l.length + m),_,by rw [Nat.sub_add_cancel hge];exact hrun,?_⟩
 rw [Nat.sub_add_cancel hge]
 have hS2:=(hS.drewN 1).allocPre (l.flatMap enc++news) (Builtin.zeroCells z.cells (grownCap w (l.length + m) l.length e - (l.length + m))).toList e
 have e3 : (l.flatMap enc++news++(Builtin.zeroCells z.cells (grownCap w (l.length + m) l.length e - (l.length + m))).toList).length = grownCap w (l.length + m) l.length e * inf.size:=by
  simp only [List.length_append,Array.length_toList,size_zeroCells,hzs,hl,hlen, ← Nat.add_mul]
  congr 1;omega
 rw [e3] at hS2
 have e4 : (l.flatMap enc++news++(Builtin.zeroCells z.cells (grownCap w (l.length + m) l.length e - (l.length + m))).toList).toArray = (l.flatMap enc).toArray++news.toArray++Builtin.zeroCells z.cells (grownCap w (l.length + m) l.length e - (l.length + m)):=by
  apply Array.ext';simp
 rw [e4] at hS2
 exact hS2
/-- onto what has no room behind it -/
theorem StF.appendFull {α : Type} {enc : α → List Value} {l : List α} {T e : TypeId} {x y : Operand} {sz by' m c : Nat} {news : List Value} {a : Addr} {ao : Option Addr} (h : isAppend o x y T) (hT : ElT P T e sz by') (hx : evF F x = some (.slice ao l.length l.length)) (hs : SlE H ao enc sz l) (hy : evF F y = some (.slice (some a) m c))
  (hm : 0 < m) (hl : news.length = m * sz) (hn : Rd H a news) (hbig : (l.length + m) * (by' + 1)≤140737488355328) :
  StF P n H F o (fun v H' => ∃ b' cap',v = .slice (some ⟨b',0,none⟩) (l.length + m) (cap' + (l.length + m))∧H' = ⟨b',0,l.flatMap enc++news,some e,(cap' + (l.length + m)) * sz⟩::H):=by
 unfold StF StepOp
 intro t ha B w0 w hS
 obtain ⟨b',cap',w',hr,h4⟩:=Fw.appendFull hT hS ao hs hm hl hn hbig (ty:=o.type) (c:=c)
 exact ⟨_,w',_,.inl (run_append_op h (by rw [ha.ev hx,ha.ev hy];exact hr)),h4,b',cap',rfl,rfl⟩
end
end Go.Fw
namespace Go.Proofs.YtbpcbdbclijomaaGreat
open Go Go.Fw
set_option maxRecDepth 10000
theorem allOk_snoc {α : Type} {ok : List α → Bool} {pre : List α} {x : α} (h : allOk ok pre) (hx : ok (pre++[x]) = true) : allOk ok (pre++[x]):=by
 intro q hq hne
 rcases List.prefix_concat_iff.1 hq with rfl | h1
 ·exact hx
 ·exact h q h1 hne
/-- how a run over what an iterator yields ends -/
def fin {β : Type} (ok : List β → Bool) (hh hx : List β → List Row) : List β → List β → Bool × List Row
 | d,[]=>(true,hh d)
 | d,y::r=>if ok (d++[y]) = true then fin ok hh hx (d++[y]) r else (false,hx (d++[y]))
theorem fin_all {β : Type} {ok : List β → Bool} {hh hx : List β → List Row} : ∀ (ys d : List β),allOk ok (d++ys) → fin ok hh hx d ys = (true,hh (d++ys))
 | [],d,_=>by rw [List.append_nil];rfl
 | y::r,d,h=>by
  have h1 : ok (d++[y]) = true:=h _ (by rw [show d++y::r = (d++[y])++r by simp];exact List.prefix_append _ _) (by simp)
  show (if ok (d++[y]) = true then _ else _)=_
  rw [if_pos h1,fin_all r (d++[y]) (by rw [List.append_assoc];exact h),List.append_assoc]
  rfl
theorem fin_app {β : Type} {ok : List β → Bool} {hh hx : List β → List Row} : ∀ (ys d zs : List β),fin ok hh hx d (ys++zs)=if (fin ok hh hx d ys).1 = true then fin ok hh hx (d++ys) zs else fin ok hh hx d ys
 | [],d,zs=>by rw [List.append_nil,List.nil_append];exact (if_pos rfl).symm
 | y::r,d,zs=>by
  by_cases h : ok (d++[y]) = true
  ·have e1 : fin ok hh hx d (y::(r++zs)) = fin ok hh hx (d++[y]) (r++zs):=if_pos h
   have e2 : fin ok hh hx d (y::r)=fin ok hh hx (d++[y]) r:=if_pos h
   rw [List.cons_append,e1,e2,fin_app r,List.append_assoc]
   rfl
  ·have e1 : fin ok hh hx d (y::(r++zs)) = (false,hx (d++[y])):=if_neg h
   have e2 : fin ok hh hx d (y::r)=(false,hx (d++[y])):=if_neg h
   rw [List.cons_append,e1,e2]
   exact (if_neg (fun h=>Bool.noConfusion h)).symm
theorem fin_true {β : Type} {ok : List β → Bool} {hh hx : List β → List Row} : ∀ (ys d : List β),allOk ok d → (fin ok hh hx d ys).1 = true → allOk ok (d++ys)∧(fin ok hh hx d ys).2 = hh (d++ys)
 | [],d,h,_=>by rw [List.append_nil];exact ⟨h,rfl⟩
 | y::r,d,h,ht=>by
  unfold fin at ht ⊢
  by_cases hq : ok (d++[y]) = true
  ·rw [if_pos hq] at ht ⊢
   have:=fin_true r (d++[y]) (allOk_snoc h hq) ht
   rwa [List.append_assoc] at this
  ·rw [if_neg hq] at ht;cases ht
theorem fin_false {β : Type} {ok : List β → Bool} {hh hx : List β → List Row} : ∀ (ys d : List β),(fin ok hh hx d ys).1 = false → ∃ q,q <+: d++ys∧ok q = false∧(fin ok hh hx d ys).2 = hx q
 | [],d,ht=>by cases ht
 | y::r,d,ht=>by
  unfold fin at ht ⊢
  by_cases hq : ok (d++[y]) = true
  ·rw [if_pos hq] at ht ⊢
   have:=fin_false r (d++[y]) ht
   rwa [List.append_assoc] at this
  ·rw [if_neg hq]
   refine ⟨d++[y],?_,by simpa using hq,rfl⟩
   rw [show d++y::r = (d++[y])++r by simp]
   exact List.prefix_append _ _
/-- the truths whose first grades are told -/
def under (G : List Sp) (pre : List Int) : List (List Int):=(exts G).map (pre ++ ·)
def stepU (s : Sp) (G : List Sp) (pre : List Int) (k : Nat) : List (List Int):=under G (pre++[s.lo + k])
theorem under_cons (s : Sp) (G : List Sp) (pre : List Int) : under (s::G) pre = (List.range (s.hi - s.lo + 1).toNat).flatMap (stepU s G pre):=by
 unfold under stepU under
 rw [exts,List.map_flatMap]
 congr 1
 funext k
 rw [List.map_map]
 congr 1
 funext t
 simp
theorem under_nil (pre : List Int) : under [] pre = [pre]:=by simp [under,exts]
def encG (x : Option Addr × Nat × List Int) : List Value:=[.slice x.1 x.2.2.length x.2.1]
def valG (x : Option Addr × Nat × List Int) : List Int:=x.2.2
def MemG (x : Option Addr × Nat × List Int) (E : List Row) : Prop:=SlE E x.1 cI 1 x.2.2∧x.2.2.length ≤ x.2.1
def tsKr1 : List TOp:=[⟨some 33,[],[],[]⟩,⟨some 34,[],[],[]⟩,⟨some 35,[],[],[]⟩,⟨some 36,[],[],[]⟩,⟨some 37,[1,2,3],[1,2,3],[]⟩,⟨some 38,[],[],[]⟩,⟨some 39,[5],[5],[]⟩,⟨some 40,[1,2,3,4,5,6],[4,6],[6]⟩,⟨some 41,[],[],[]⟩,⟨some 42,[0,1,2,3,4,5,6,7,8],[0,7,8],[11]⟩,⟨some 43,[0,1,2,3,4,5,6,7,8,9],[9],[]⟩,⟨none,[],[],[]⟩]
def valKr1 (b3 y n c : Nat) (a : Option Addr) (B : Bl) (p : Pb) (g : List Sp) (pre : List Int) (x : Int) (u : Bool) (hp hn : List Row) (k : Nat) (env : Env) : Value :=
 match k with
 | 0 => .agg (cPr B p g).toArray
 | 1 => .slice a n c
 | 2 => .int .i64 (n : Nat)
 | 3 => .int .i64 (n : Nat)
 | 4 => .slice a n n
 | 5 => .int .i64 x
 | 6 => .slice (some ⟨(env 6).1,0,none⟩) 1 1
 | 7 => .slice (some ⟨(env 7).1,0,none⟩) (n + 1) ((env 7).2 + (n + 1))
 | 8 => .func (.yield y) #[] #[]
 | 9 => .bool u
 | 10 => .bool (!u)
 | _=>undef
def rowsKr1 (b3 y n c : Nat) (a : Option Addr) (B : Bl) (p : Pb) (g : List Sp) (pre : List Int) (x : Int) (u : Bool) (hp hn : List Row) (k : Nat) (env : Env) : List Row :=
 match k with
 | 6=>[⟨(env 6).1,0,[Value.int .i64 x],some 3,1 * 1⟩]
 | 7=>[⟨(env 7).1,0,pre.flatMap cI++[Value.int .i64 x],some 3,((env 7).2 + (n + 1)) * 1⟩]
 | 9=>hn
 | 11=>hp
 | _=>[]
theorem locKr1 (b3 y n c : Nat) (a : Option Addr) (B : Bl) (p : Pb) (g : List Sp) (pre : List Int) (x : Int) (u : Bool) (hp hn : List Row) : ∀ k env i q9,i ≠ k → (tAt tsKr1 k).sup.contains i = false → valKr1 b3 y n c a B p g pre x u hp hn k (upd env i q9)=valKr1 b3 y n c a B p g pre x u hp hn k env∧rowsKr1 b3 y n c a B p g pre x u hp hn k (upd env i q9)=rowsKr1 b3 y n c a B p g pre x u hp hn k env:=by
 intro k env i q hk hs
 have hu : ∀ j,j ≠ i → upd env i q j = env j:=fun j hj=>by unfold upd;rw [if_neg hj]
 match k,hk,hs with
 | 0,_,_=>exact ⟨rfl,rfl⟩
 | 1,_,_=>exact ⟨rfl,rfl⟩
 | 2,_,_=>exact ⟨rfl,rfl⟩
 | 3,_,_=>exact ⟨rfl,rfl⟩
 | 4,_,_=>exact ⟨rfl,rfl⟩
 | 5,_,_=>exact ⟨rfl,rfl⟩
 | 6,hk,hs=>exact ⟨by simp only [valKr1,hu 6 (fun e=>hk e.symm)],by simp only [rowsKr1,hu 6 (fun e=>hk e.symm)]⟩
 | 7,hk,hs=>exact ⟨by simp only [valKr1,hu 7 (fun e=>hk e.symm)],by simp only [rowsKr1,hu 7 (fun e=>hk e.symm)]⟩
 | 8,_,_=>exact ⟨rfl,rfl⟩
 | 9,_,_=>exact ⟨rfl,rfl⟩
 | 10,_,_=>exact ⟨rfl,rfl⟩
 | 11,_,_=>exact ⟨rfl,rfl⟩
 | _ + 12,_,_=>exact ⟨rfl,rfl⟩
def rdKr1 (k : Nat) : List Nat:=match k with
 | 9=>[7]
 | _=>[]
theorem grow_spec {y : Nat} {hh : List (List Int) → List Row} {ok : List (List Int) → Bool} {hx : List (List Int) → List Row} (B : Bl) (p : Pb) (g : List Sp) (xs : List (List Int)) (hg : g.length = 5) (h5 : 1 ≤ B.layers∧B.layers ≤ 5) (hgr : ∀ s ∈ g,(-1000 ≤ s.lo∧s.lo ≤ 1000) ∧ -1000 ≤ s.hi∧s.hi ≤ 1000)
  (hY : ∀ pre x,(pre++[valG x]) <+: xs → allOk ok pre → ∀ E',MemG x E' → Yc Tryz.prog y (encG x) (hh pre++E') (fun v H' => v = .bool (ok (pre++[valG x]))∧H' = (if ok (pre++[valG x]) then hh (pre++[valG x]) else hx (pre++[valG x]))++E')) :
  ∀ (m : Nat) (pre : List Int) (a : Option Addr) (c : Nat) (done : List (List Int)) (E : List Row),pre.length + m = B.layers.toNat → SlE E a cI 1 pre → pre.length ≤ c → (done++under ((g.take B.layers.toNat).drop pre.length) pre) <+: xs → allOk ok done →
   Fc Tryz.prog 103 [.agg (cPr B p g).toArray,.slice a pre.length c,.func (.yield y) #[] #[]] (hh done++E)
    (fun v H' => v = .bool (fin ok hh hx done (under ((g.take B.layers.toNat).drop pre.length) pre)).1∧H' = (fin ok hh hx done (under ((g.take B.layers.toNat).drop pre.length) pre)).2++E):=by
 obtain ⟨n5,hn5⟩ : ∃ n5,n5 = B.layers.toNat:=⟨_,rfl⟩
 have hB : B.layers = (n5 : Int):=by omega
 rw [← hn5]
 have hgl : (g.take n5).length = n5:=by rw [List.length_take];omega
 intro m
 induction m with
 | zero =>
  intro pre a c done E hm hs hc hpre hok
  rw [List.drop_eq_nil_of_le (by omega),under_nil] at hpre ⊢
  have hyy:=hY done (a,c,pre) hpre hok
  have hyr : ∀ r : Row,Yc Tryz.prog y [.slice a pre.length c] (r::(hh done++E)) (fun v H' => v = .bool (ok (done++[pre]))∧H' = (if ok (done++[pre]) then hh (done++[pre]) else hx (done++[pre]))++(r::E)):=fun r=>by
   have h:=hyy (r::E) ⟨hs.sub (fun _ h=>qT _ h),hc⟩
   unfold Yc at h ⊢
   intro B w0 w hS
   exact h B w0 w (hS.perm List.perm_middle)
  have hf : fin ok hh hx done [pre] = (ok (done++[pre]),if ok (done++[pre]) then hh (done++[pre]) else hx (done++[pre])):=by
   show (if ok (done++[pre]) = true then _ else _)=_
   cases ok (done++[pre])
   ·rfl
   ·rfl
  rw [hf]
  refine Fc.mk (callable Tryz.call103) Tryz.func103 rfl Tryz.ntmps103 rfl ?_;dsimp only [fr]
  repeat' (first | (refine uP rfl ?_;(first | ((first | refine uN rfl ?_);(first | (refine uE (uQ (b:=true) rfl rfl rfl (congrArg some (decide_eq_true (show (pre.length : Int)=B.layers by omega)))) rfl rfl ?_)|(refine Xg.yield rfl rfl (Args.cons rfl Args.nil) rfl rfl (hyr _) ?_;rintro _ _ ⟨rfl,rfl⟩)|(refine uE (uM rfl rfl) rfl rfl ?_)|(refine uE (uA rfl rfl) rfl rfl ?_)|(refine uE (uF rfl rfl (te rfl) rfl (te rfl) (by decide)) rfl rfl ?_)|(refine uE (uY rfl rfl (te rfl)) rfl rfl ?_)|(refine uE (uL rfl rfl (uO (te rfl) rfl (qH _) rfl)) rfl rfl ?_)|(refine Xg.st (StF.boxAgg rfl rfl) rfl rfl ?_;rintro _ _ ⟨bx,rfl,rfl⟩)))))|(refine uD rfl ?_;refine hK _ _ ?_;clear hK K) | refine uS rfl ?_ | refine uR rfl (fun K hK=>?_) | refine X.ret rfl ?_ | (refine X.ite rfl rfl (fun hc=>?_);(first | (with_reducible refine Xb.t hc ?_)) <;> clear hc))
  exact ret_one (by simp) Tryz.results103 rfl (H' := _) (List.Sublist.append (qR _) (List.sublist_cons_self _ _)) ⟨rfl,rfl⟩
 | succ m ih =>
  intro pre a c done E hm hs hc hpre hok
  obtain ⟨s,hs5⟩ : ∃ s,g[pre.length]? = some s:=⟨_,List.getElem?_eq_getElem (by omega)⟩
  have hsv:=hgr s (List.mem_of_getElem? hs5)
  have hdr : (g.take n5).drop pre.length = s::(g.take n5).drop (pre.length + 1):=by
   have h1 : (g.take n5)[pre.length]? = some s:=by rw [List.getElem?_take,if_pos (by omega)];exact hs5
   obtain ⟨h2,h3⟩:=List.getElem?_eq_some_iff.1 h1
   rw [← h3];exact List.drop_eq_getElem_cons h2
  obtain ⟨G,hG⟩ : ∃ G,G = (g.take n5).drop (pre.length + 1):=⟨_,rfl⟩
  rw [hdr, ← hG,under_cons] at hpre ⊢
  obtain ⟨N,hN⟩ : ∃ N,N = (s.hi - s.lo + 1).toNat:=⟨_,rfl⟩
  rw [← hN] at hpre ⊢
  have ih' : ∀ (x : Int) (a' : Option Addr) (c' : Nat) (done' : List (List Int)) (E' : List Row),SlE E' a' cI 1 (pre++[x]) → pre.length + 1 ≤ c' → (done'++under G (pre++[x])) <+: xs → allOk ok done' →
    Fc Tryz.prog 103 [.agg (cPr B p g).toArray,.slice a' (pre.length + 1) c',.func (.yield y) #[] #[]] (hh done'++E')
     (fun v H' => v = .bool (fin ok hh hx done' (under G (pre++[x]))).1∧H' = (fin ok hh hx done' (under G (pre++[x]))).2++E'):=fun x a' c' done' E' h1 h2 h3 h4=>by
   have hl1 : (pre++[x]).length = pre.length + 1:=by simp
   have:=ih (pre++[x]) a' c' done' E' (by rw [hl1];omega) h1 (by rw [hl1];exact h2) (by rw [hl1, ← hG];exact h3) h4
   rwa [hl1, ← hG] at this
  obtain ⟨n,hn⟩ : ∃ n,n = pre.length:=⟨_,rfl⟩
  rw [← hn] at hs5 hm hc ih' ⊢
  have hge : ∀ (r : List Row) (b : Nat),SlE (⟨b,0,cPr B p g,some 91,(cPr B p g).length⟩::r) (some ⟨b,0 + 6,none⟩) cSp 2 g:=fun r b=>by
   have:=slePr (B:=B) (p:=p) (g:=g) (b:=b) (cap:=(cPr B p g).length) (ow:=some 91) (n:=5) (H:=⟨b,0,cPr B p g,some 91,(cPr B p g).length⟩::r) (qH _)
   rwa [List.take_of_length_le (by omega)] at this
  refine Fc.mk (callable Tryz.call103) Tryz.func103 rfl Tryz.ntmps103 rfl ?_;dsimp only [fr]
  repeat' (first | (refine uP rfl ?_;(first | ((first | refine uN rfl ?_);(first | (refine uE (uQ (b:=false) rfl rfl rfl (congrArg some (decide_eq_false (show ¬ (n : Int)=B.layers by omega)))) rfl rfl ?_)|(refine uE (EvF.indexArray (i:=(n : Int)) (len:=5) rfl rfl rfl (te rfl) (te rfl) (by omega) (by omega)) rfl rfl ?_)|(refine uE (uL rfl rfl (LoadV.el1 (hge _ _) hs5 (te rfl) rfl (fun _ hm=>hm) rfl)) rfl rfl ?_)|(refine uE (uM rfl rfl) rfl rfl ?_)|(refine uE (uA rfl rfl) rfl rfl ?_)|(refine uE (uF rfl rfl (te rfl) rfl (te rfl) (by decide)) rfl rfl ?_)|(refine uE (uY rfl rfl (te rfl)) rfl rfl ?_)|(refine uE (uL rfl rfl (uO (te rfl) rfl (qH _) rfl)) rfl rfl ?_)|(refine Xg.st (StF.boxAgg rfl rfl) rfl rfl ?_;rintro _ _ ⟨bx,rfl,rfl⟩)))))|(refine uD rfl ?_;refine hK _ _ ?_;clear hK K) | refine uS rfl ?_ | refine uR rfl (fun K hK=>?_) | refine X.block rfl ?_ | refine X.skip rfl ?_ | (refine X.ite rfl rfl (fun hc=>?_);(first | (with_reducible refine Xb.f hc ?_)) <;> clear hc))
  rename Nat=>b3
  refine X.permH (H' := hh done++(⟨b3,0,cPr B p g,some 91,(cPr B p g).length⟩::E)) List.perm_middle ?_
  have hroot : allOk ok (done++(List.range 0).flatMap (stepU s G pre)):=by rw [List.range_zero,List.flatMap_nil,List.append_nil];exact hok
  refine X.lp rfl (fun q F' H' => ∃ j : Nat,q = N - j∧j ≤ N∧allOk ok (done++(List.range j).flatMap (stepU s G pre))∧hh (done++(List.range j).flatMap (stepU s G pre))++(⟨b3,0,cPr B p g,some 91,(cPr B p g).length⟩::E)=H' ∧
    F' = [(1,.slice a n c),(2,.func (.yield y) #[] #[]),(3,.pointer (some ⟨b3,0,none⟩)),(6,.bool false),(7,.int .i64 n),(8,.int .i64 (s.lo + (j : Nat)))])
   N [(1,.slice a n c),(2,.func (.yield y) #[] #[]),(3,.pointer (some ⟨b3,0,none⟩)),(6,.bool false),(7,.int .i64 n),(8,.int .i64 (s.lo + (0 : Nat)))] (hh (done++(List.range 0).flatMap (stepU s G pre))++(⟨b3,0,cPr B p g,some 91,(cPr B p g).length⟩::E)) (by rw [show s.lo + ((0 : Nat) : Int)=s.lo by omega];exact (by repeat (first | exact uU _ | refine uV rfl ?_))) (by rw [List.range_zero,List.flatMap_nil,List.append_nil];exact qR _) ⟨0,by omega,by omega,hroot,rfl,rfl⟩ ?_
  clear hroot
  rintro _ _ _ ⟨j,rfl,hj,hallj,rfl,rfl⟩
  have hgE : ∀ r : List Row,SlE (r++(⟨b3,0,cPr B p g,some 91,(cPr B p g).length⟩::E)) (some ⟨b3,0 + 6,none⟩) cSp 2 g:=fun r=>(hge E b3).sub (fun _ h=>List.mem_append_right _ h)
  by_cases hlt : j < N
  ·have hb1 : s.lo + (j : Nat)≤s.hi:=by omega
   obtain ⟨zs,hzs⟩ : ∃ zs,zs = under G (pre++[s.lo + (j : Nat)]):=⟨_,rfl⟩
   have hst : (List.range (j + 1)).flatMap (stepU s G pre)=(List.range j).flatMap (stepU s G pre)++zs:=by
    rw [List.range_succ,List.flatMap_append,hzs]
    simp [stepU]
   obtain ⟨rest,hrest⟩ : ∃ rest,(List.range N).flatMap (stepU s G pre)=(List.range (j + 1)).flatMap (stepU s G pre)++rest:=by
    obtain ⟨d,rfl⟩ : ∃ d,N = (j + 1) + d:=⟨N - (j + 1),by omega⟩
    rw [List.range_add,List.flatMap_append]
    exact ⟨_,rfl⟩
   obtain ⟨dj,hdj⟩ : ∃ dj,dj = done++(List.range j).flatMap (stepU s G pre):=⟨_,rfl⟩
   have hdz : done++(List.range (j + 1)).flatMap (stepU s G pre)=dj++zs:=by rw [hst,hdj,List.append_assoc]
   have hprej : (dj++zs) <+: xs:=by
    rw [← hdz]
    refine List.IsPrefix.trans ?_ hpre
    rw [hrest, ← List.append_assoc]
    exact List.prefix_append _ _
   rw [← hdj] at hallj ⊢
   obtain ⟨u,hu⟩ : ∃ u,u = (fin ok hh hx dj zs).1:=⟨_,rfl⟩
   obtain ⟨hn',hhn⟩ : ∃ hn',hn' = (fin ok hh hx dj zs).2:=⟨_,rfl⟩
   obtain ⟨x,hxx⟩ : ∃ x,x = s.lo + (j : Nat):=⟨_,rfl⟩
   rw [← hxx] at hb1 hzs ⊢
   have hca : ∀ (S : List Row) (b q : Nat),(⟨b,0,pre.flatMap cI++[Value.int .i64 x],some 3,(q + (n + 1)) * 1⟩ : Row) ∈ S → Fc Tryz.prog 103 [.agg (cPr B p g).toArray,.slice (some ⟨b,0,none⟩) (n + 1) (q + (n + 1)),.func (.yield y) #[] #[]] ((hh dj++[])++S) (fun v H' => v = .bool u∧H' = hn'++S):=fun S b q hm=>by
    have hsl : SlE S (some ⟨b,0,none⟩) cI 1 (pre++[x]):=SlE.ofRow (cap:=(q + (n + 1)) * 1) (ow:=some 3) (by rw [List.flatMap_append];exact hm) (fun _ _=>rfl)
    rw [List.append_nil,hu,hhn,hzs]
    exact ih' x _ _ dj S hsl (by omega) (by rw [← hzs];exact hprej) hallj
   clear ih ih'
   repeat' (first | (refine uP rfl ?_;(first | ((first | refine uN rfl ?_);(first | (refine uE (uQ (b:=true) rfl rfl rfl (congrArg some (decide_eq_true hb1))) rfl rfl ?_)|(refine uE (EvF.indexArray (i:=(n : Int)) (len:=5) rfl rfl rfl (te rfl) (te rfl) (by omega) (by omega)) rfl rfl ?_)|(refine uE (uL rfl rfl (LoadV.el1 (hgE _) hs5 (te rfl) rfl (fun _ hm=>hm) rfl)) rfl rfl ?_)|(refine uE (uM rfl rfl) rfl rfl ?_)|(refine uE (uF rfl rfl (te rfl) rfl (te rfl) (by decide)) rfl rfl ?_)))))|(refine uD rfl ?_;refine hK _ _ ?_;clear hK K) | refine uS rfl ?_ | refine uR rfl (fun K hK=>?_) | refine X.block rfl ?_ | refine X.skip rfl ?_ | (refine X.ite rfl rfl (fun hc=>?_);(first | (with_reducible refine Xb.t hc ?_)) <;> clear hc))
   refine X.permH (H' := (hh dj++[])++(⟨b3,0,cPr B p g,some 91,(cPr B p g).length⟩::E)) (by rw [List.append_nil]) ?_
   refine X.regionRd tsKr1 rdKr1 [1,2,3,6,7,8] [(1,.slice a n c),(2,.func (.yield y) #[] #[]),(3,.pointer (some ⟨b3,0,none⟩)),(6,.bool false),(7,.int .i64 (n : Nat)),(8,.int .i64 x)] (valKr1 b3 y n c a B p g pre x u (hh dj) hn') (rowsKr1 b3 y n c a B p g pre x u (hh dj) hn') (fun _=>(0,0)) (⟨b3,0,cPr B p g,some 91,(cPr B p g).length⟩::E) rfl mixed (by repeat (first | exact uU _ | refine uV rfl ?_)) rfl (by kernel_rfl) (by kernel_rfl) (locKr1 b3 y n c a B p g pre x u (hh dj) hn') (qR _) ?_ ?_
   ·repeat' (first | exact AllF.done rfl | (refine AllF.step rfl ?_ ?_;·(first | exact (Ob.ng rfl (uK (fun env R hR=>by exact ⟨_,uM rfl rfl,rfl⟩) rfl (fun _=>rfl))).toR | exact (Ob.ng rfl (uK (fun env R hR=>by exact ⟨_,EvF.not rfl rfl,rfl⟩) rfl (fun _=>rfl))).toR | (refine ObR.ng rfl ?_;(first | (exact fun env S hS hrd=>(StF.ofEv (uL rfl rfl (uW (T:=91) (cs:=cPr B p g) (te rfl) rfl (hS _ (qH _)) (lenPr hg)))).op.mono (fun v H' ⟨hv,hH⟩=>⟨(0,0),fun _=>hv,by rw [hH];exact List.Perm.refl _⟩))|(exact fun env S hS hrd=>(StF.ofEv (EvF.sliceCap (hh:=n) (kk := .i64) (kk' := .i64) rfl rfl (te rfl) (te rfl) rfl rfl hc)).op.mono (fun v H' ⟨hv,hH⟩=>⟨(0,0),fun _=>hv,by rw [hH];exact List.Perm.refl _⟩))|(exact fun env S hS hrd=>(StF.buildOne rfl el55 rfl rfl rfl (by decide) (by decide)).op.mono (fun v H' ⟨b,hv,hH⟩=>⟨(b,0),fun _=>hv,by rw [hH];exact List.Perm.refl _⟩))|(exact fun env S hS hrd=>(StF.appendFull (l:=pre) (ao:=a) (m:=1) (c:=1) (news:=[Value.int .i64 x]) rfl el55 (by rw [← hn];rfl) (hs.sub (fun r h=>List.mem_append_right _ (hS r (qT _ h)))) rfl (by decide) rfl (Rd.own (qH _)) (by omega)).op.drop (fun v H' ⟨b,q,hv,hH⟩=>⟨⟨b,0,pre.flatMap cI++[Value.int .i64 x],some 3,(q + (n + 1)) * 1⟩::S,by rw [hH,hn];exact qK _ (List.sublist_cons_self _ _),(b,q),fun _=>by rw [hv, ← hn];rfl,List.Perm.refl _⟩))|(exact fun env S hS hrd=>(OpF.call (uT rfl (Args.cons rfl (Args.cons rfl (Args.cons rfl Args.nil)))) (hca S _ _ (hrd 7 (qH _) _ (qH _)))).mono (fun v H' ⟨hv,hH⟩=>⟨(0,0),fun _=>hv,by rw [hH];exact List.Perm.refl _⟩)))))))
   ·intro env t ha2 hv;refine ⟨_,ha2.cons (hv 10 43 (Nat.le_of_ble_eq_true rfl) rfl),?_⟩;clear hv ha2
    show X _ _ _ _ (⟨(env 7).1,0,pre.flatMap cI++[Value.int .i64 x],some 3,((env 7).2 + (n + 1)) * 1⟩::((hn'++[])++(⟨b3,0,cPr B p g,some 91,(cPr B p g).length⟩::E))) _
    rw [List.append_nil]
    cases hub : u
    ·have hfn : fin ok hh hx done ((List.range N).flatMap (stepU s G pre)) = (false,hn'):=by
      rw [hrest,hst,List.append_assoc,fin_app,fin_all _ _ (by rw [← hdj];exact hallj),if_pos rfl, ← hdj,fin_app,if_neg (by rw [← hu,hub];decide)]
      rw [hub] at hu
      rw [hhn,hu]
     rw [hfn]
     repeat' (first | (refine uP rfl ?_;(first | ((first | refine uN rfl ?_);(first | (refine uE (uM rfl rfl) rfl rfl ?_)|(refine uE (uA rfl rfl) rfl rfl ?_)|(refine uE (EvF.add64 rfl rfl rfl (by omega) (by omega)) rfl rfl ?_)))))|(refine uD rfl ?_;refine hK _ _ ?_;clear hK K) | refine uS rfl ?_ | refine uR rfl (fun K hK=>?_) | refine X.skip rfl ?_ | refine X.ret rfl ?_ | (refine X.ite rfl rfl (fun hc=>?_);(first | (with_reducible refine Xb.caseB hc (fun h=>?_) (fun h=>?_))) <;> clear hc))
     all_goals try (exfalso;contradiction)
     exact ret_one (by simp) Tryz.results103 rfl (H' := _) (qC _ (List.Sublist.append (qR _) (List.sublist_cons_self _ _))) ⟨rfl,rfl⟩
    ·obtain ⟨hal2,hh2⟩:=fin_true zs dj hallj (by rw [← hu];exact hub)
     rw [hh2] at hhn
     rw [← hdz] at hal2 hhn
     rw [hhn,hxx]
     repeat' (first | (refine uP rfl ?_;(first | ((first | refine uN rfl ?_);(first | (refine uE (EvF.add64 (p:=s.lo + (j : Nat)) (q:=1) rfl rfl rfl (by omega) (by omega)) rfl rfl ?_)|(refine uE (uM rfl rfl) rfl rfl ?_)|(refine uE (uA rfl rfl) rfl rfl ?_)))))|(refine uD rfl ?_;refine hK _ _ ?_;clear hK K) | refine uS rfl ?_ | refine uR rfl (fun K hK=>?_) | refine X.skip rfl ?_ | refine X.ret rfl ?_ | (refine X.ite rfl rfl (fun hc=>?_);(first | (with_reducible refine Xb.caseB hc (fun h=>?_) (fun h=>?_))) <;> clear hc))
     all_goals try (exfalso;contradiction)
     exact ⟨_,_,_,(by rw [show s.lo + (j : Nat) + 1 = s.lo + ((j + 1 : Nat) : Int) by omega];exact (by repeat (first | exact uU _ | refine uV rfl ?_))),List.sublist_cons_self _ _,⟨j + 1,rfl,by omega,hal2,rfl,rfl⟩,by omega⟩
  ·obtain rfl : j = N:=by omega
   have hb1 : ¬ (s.lo + (j : Nat)≤s.hi):=by omega
   rw [fin_all _ _ hallj]
   repeat' (first | (refine uP rfl ?_;(first | ((first | refine uN rfl ?_);(first | (refine uE (uQ (b:=false) rfl rfl rfl (congrArg some (decide_eq_false hb1))) rfl rfl ?_)|(refine uE (EvF.indexArray (i:=(n : Int)) (len:=5) rfl rfl rfl (te rfl) (te rfl) (by omega) (by omega)) rfl rfl ?_)|(refine uE (uL rfl rfl (LoadV.el1 (hgE _) hs5 (te rfl) rfl (fun _ hm=>hm) rfl)) rfl rfl ?_)|(refine uE (uM rfl rfl) rfl rfl ?_)|(refine uE (uA rfl rfl) rfl rfl ?_)|(refine uE (uF rfl rfl (te rfl) rfl (te rfl) (by decide)) rfl rfl ?_)))))|(refine uD rfl ?_;refine hK _ _ ?_;clear hK K) | refine uS rfl ?_ | refine uR rfl (fun K hK=>?_)|(refine X.brk rfl ?_;repeat (first | refine blockX_hit rfl ?_ | refine blockX_miss (by decide) ?_)) | refine X.ret rfl ?_ | (refine X.ite rfl rfl (fun hc=>?_);(first | (with_reducible refine Xb.f hc ?_)) <;> clear hc))
   exact ret_one (by simp) Tryz.results103 rfl (H' := _) (List.Sublist.append (qR _) (List.sublist_cons_self _ _)) ⟨rfl,rfl⟩
theorem under_root (G : List Sp) : under G [] = exts G:=by
 unfold under
 simp
theorem truths_it (B : Bl) (p : Pb) (g : List Sp) (b : Nat) (ow : Option Kd) (cap : Nat) (E : List Row) (hm : ⟨b,0,cPr B p g,ow,cap⟩ ∈ E) (hg : g.length = 5) (h5 : 1 ≤ B.layers∧B.layers ≤ 5) (hgr : ∀ s ∈ g,(-1000 ≤ s.lo∧s.lo ≤ 1000) ∧ -1000 ≤ s.hi∧s.hi ≤ 1000) :
  ItdM Tryz.prog 102 [.pointer (some ⟨b,0,none⟩)] E (exts (g.take B.layers.toNat)) encG valG MemG:=by
 refine ⟨callable Tryz.call102,fun y hh ok hx hY=>?_⟩
 have k0:=grow_spec B p g (exts (g.take B.layers.toNat)) hg h5 hgr hY B.layers.toNat [] none 0 [] E (Nat.zero_add _) sleNil (Nat.le_refl _) (by rw [List.length_nil,List.drop_zero,under_root,List.nil_append];exact List.prefix_refl _) (fun q hq hne=>absurd (List.prefix_nil.1 hq) hne)
 rw [List.length_nil,List.drop_zero,under_root] at k0
 refine Fc.mk (callable Tryz.call102) Tryz.func102 rfl Tryz.ntmps102 rfl ?_;dsimp only [fr]
 repeat' (first | (refine uP rfl ?_;(first | ((first | refine uN rfl ?_);(first | (refine uE (uL rfl rfl (uW (te rfl) rfl (List.mem_append_right _ hm) (lenPr hg))) rfl rfl ?_)|(refine uC (uT rfl (Args.cons rfl (Args.cons rfl (Args.cons rfl Args.nil)))) rfl rfl k0 ?_;rintro _ _ ⟨rfl,rfl⟩)|(refine uE (uM rfl rfl) rfl rfl ?_)))))|(refine uD rfl ?_;refine hK _ _ ?_;clear hK K) | refine uR rfl (fun K hK=>?_))
 cases hf : (fin ok hh hx [] (exts (g.take B.layers.toNat))).1
 ·obtain ⟨q,h1,h2,h3⟩:=fin_false _ _ hf
  rw [h3]
  exact ret_none (by simp) Tryz.results102 (H' := _) (qR _) (.inr ⟨q,h1,h2,rfl⟩)
 ·obtain ⟨h1,h2⟩:=fin_true _ _ (fun q hq hne=>absurd (List.prefix_nil.1 hq) hne) hf
  rw [h2]
  exact ret_none (by simp) Tryz.results102 (H' := _) (qR _) (.inl ⟨h1,rfl⟩)
theorem truths_spec (B : Bl) (p : Pb) (g : List Sp) (H : List Row) :
  Fc Tryz.prog 62 [.agg (cPr B p g).toArray] H (fun v H' => ∃ b,v = .func (.func 102) #[] #[.pointer (some ⟨b,0,none⟩)]∧H' = ⟨b,0,cPr B p g,some 91,(cPr B p g).length⟩::H):=by
 refine Fc.mk (callable Tryz.call62) Tryz.func62 rfl Tryz.ntmps62 rfl ?_;dsimp only [fr]
 repeat' (first | (refine uP rfl ?_;(first | ((first | refine uN rfl ?_);(first | (refine uE (EvF.makeFunc (fl:=[]) rfl Args.nil (Args.cons rfl Args.nil)) rfl rfl ?_)|(refine uE (uA rfl rfl) rfl rfl ?_)|(refine Xg.st (StF.boxAgg rfl rfl) rfl rfl ?_;rintro _ _ ⟨bx,rfl,rfl⟩)))))|(refine uD rfl ?_;refine hK _ _ ?_;clear hK K) | refine uS rfl ?_ | refine uR rfl (fun K hK=>?_) | refine X.ret rfl ?_)
 exact ret_one (by simp) Tryz.results62 rfl (H' := _) (qR _) ⟨_,rfl,rfl⟩
def vI : Value → Int
 | .int _ n=>n
 | _=>0
theorem it_more {l pre rest : List Ent} (hp : (pre++rest).Perm l) {e : Ent} (he : e ∈ l) (hs : e.2.2 ∉ pre.map (·.2.2)) : ∃ rest',((pre++[e])++rest').Perm l:=by
 have hm : e ∈ pre++rest:=hp.mem_iff.2 he
 rcases List.mem_append.1 hm with h | h
 ·exact absurd (List.mem_map.2 ⟨e,h,rfl⟩) hs
 ·obtain ⟨a,b,rfl⟩:=List.append_of_mem h
  refine ⟨a++b,List.Perm.trans ?_ hp⟩
  rw [List.append_assoc]
  exact List.Perm.append_left _ (List.perm_middle (l₁:=a)).symm
theorem it_len {l pre rest : List Ent} (hp : (pre++rest).Perm l) : pre.length ≤ l.length:=by
 have:=hp.length_eq
 rw [List.length_append] at this
 omega
def qfM (pre : List Ent) (m : Int) (e : Ent) : Bool := !((pre.map (·.2.2)).contains e.2.2 && decide (vI e.2.1 < m))
theorem qfM_nil (l : List Ent) (m : Int) : l.filter (qfM [] m)=l:=List.filter_eq_self.2 fun e _=>by simp [qfM]
theorem born_eq {l : List Ent} (hn : (l.map (·.2.2)).Nodup) {x e : Ent} (hx : x ∈ l) (he : e ∈ l) (h : x.2.2 = e.2.2) : x = e:=by
 obtain ⟨i,hi,rfl⟩:=List.mem_iff_getElem.1 hx
 obtain ⟨j,hj,rfl⟩:=List.mem_iff_getElem.1 he
 have hp:=List.pairwise_iff_getElem.1 (List.nodup_iff_pairwise_ne.1 hn)
 rcases Nat.lt_trichotomy i j with q | q | q
 ·exact absurd (by rw [List.getElem_map,List.getElem_map];exact h) (hp i j (by simpa using hi) (by simpa using hj) q)
 ·subst q;rfl
 ·exact absurd (by rw [List.getElem_map,List.getElem_map];exact h.symm) (hp j i (by simpa using hj) (by simpa using hi) q)
theorem seen_other {pre : List Ent} {e x : Ent} (h : ¬ x.2.2 = e.2.2) : ((pre++[e]).map (·.2.2)).contains x.2.2 = (pre.map (·.2.2)).contains x.2.2:=by
 rw [Bool.eq_iff_iff,List.contains_iff_mem,List.contains_iff_mem,List.map_append,List.mem_append]
 exact ⟨fun q=>q.elim id (fun q=>absurd (List.mem_singleton.1 q) h),.inl⟩
theorem qfM_keep {l pre : List Ent} {m : Int} (hn : (l.map (·.2.2)).Nodup) {e : Ent} (he : e ∈ l) (hv : ¬ vI e.2.1 < m) : l.filter (qfM pre m)=l.filter (qfM (pre++[e]) m):=by
 refine List.filter_congr fun x hx=>?_
 unfold qfM
 congr 1
 by_cases h : x.2.2 = e.2.2
 ·obtain rfl:=born_eq hn hx he h
  simp [hv]
 ·rw [seen_other h]
theorem qfM_del {l pre : List Ent} {m : Int} (hn : (l.map (·.2.2)).Nodup) (hk : keysM l) {e : Ent} (he : e ∈ l) (hv : vI e.2.1 < m) : delM (l.filter (qfM pre m)) e.1 = l.filter (qfM (pre++[e]) m):=by
 unfold delM
 rw [List.filter_filter]
 refine List.filter_congr fun x hx=>?_
 unfold qfM
 by_cases h : x.2.2 = e.2.2
 ·obtain rfl:=born_eq hn hx he h
  simp [hv]
 ·have : x.1 ≠ e.1:=by
   intro q
   obtain ⟨i,hi,rfl⟩:=List.mem_iff_getElem.1 hx
   obtain ⟨j,hj,rfl⟩:=List.mem_iff_getElem.1 he
   have:=keys_inj hk (List.getElem?_eq_getElem hi) (List.getElem?_eq_getElem hj) q
   subst this
   exact h rfl
  rw [seen_other h]
  simp [this]
theorem keys_filter {l : List Ent} (hk : keysM l) (p : Ent → Bool) : keysM (l.filter p):=(List.filter_sublist.map _).nodup hk
theorem qfM_end {l pre : List Ent} {m : Int} (h : ∀ e ∈ l.filter (qfM pre m),e.2.2 ∈ pre.map (·.2.2)) : l.filter (qfM pre m)=l.filter (fun e=>decide (m ≤ vI e.2.1)):=by
 refine List.filter_congr fun x hx=>?_
 by_cases hv : m ≤ vI x.2.1
 ·rw [decide_eq_true hv]
  unfold qfM
  rw [decide_eq_false (by omega),Bool.and_false]
  rfl
 ·rw [decide_eq_false hv]
  cases hq : qfM pre m x with
  | false=>rfl
  | true =>
   have h1:=h x (List.mem_filter.2 ⟨hx,hq⟩)
   unfold qfM at hq
   rw [List.contains_iff_mem.2 h1,decide_eq_true (by omega)] at hq
   cases hq
theorem cntK_snoc (L : List (List Int)) (t : List Int) (k : Int) : cntK (L++[t]) k = cntK L k + if kindF t = k then 1 else 0:=by
 unfold cntK
 rw [List.filter_append,List.length_append]
 congr 1
 by_cases h : kindF t = k
 ·rw [if_pos h,List.filter_cons_of_pos (by simpa using h)];rfl
 ·rw [if_neg h,List.filter_cons_of_neg (by simpa using h)];rfl
theorem cntK_le (L : List (List Int)) (k : Int) : cntK L k ≤ L.length:=List.length_filter_le _ _
/-- the map of kinds, each with how many truths are of it -/
def cntE (L : List (List Int)) : List Ent:=[(1,.int .i64 (cntK L 1),0),(2,.int .i64 (cntK L 2),1),(3,.int .i64 (cntK L 3),2),(4,.int .i64 (cntK L 4),3)]
def kindsE (L : List (List Int)) : List Ent:=(cntE L).filter (fun e=>decide (1 ≤ vI e.2.1))
theorem cntE_keys (L : List (List Int)) : keysM (cntE L):=by unfold keysM cntE;simp
theorem cntE_born (L : List (List Int)) : ((cntE L).map (·.2.2)).Nodup:=by unfold cntE;simp
theorem cntE_clk (L : List (List Int)) : ∀ e ∈ cntE L,e.2.2 < 4:=by
 intro e he
 unfold cntE at he
 simp only [List.mem_cons,List.not_mem_nil,or_false] at he
 rcases he with rfl | rfl | rfl | rfl <;> dsimp only <;> omega
theorem cntE_val (L : List (List Int)) : ∀ e ∈ cntE L,e.2.1 = .int .i64 (cntK L e.1):=by
 intro e he
 unfold cntE at he
 simp only [List.mem_cons,List.not_mem_nil,or_false] at he
 rcases he with rfl | rfl | rfl | rfl <;> rfl
theorem cntE_step (L : List (List Int)) (t : List Int) : insM (cntE L) 4 (kindF t) (.int .i64 ((cntK L (kindF t) : Nat) + 1)) = cntE (L++[t])∧clkM (cntE L) 4 (kindF t)=4∧(atM (cntE L) (kindF t)).getD (.int .i64 0) = .int .i64 (cntK L (kindF t)):=by
 have hs:=cntK_snoc L t
 obtain ⟨k,hk⟩ : ∃ k,k = kindF t:=⟨_,rfl⟩
 rw [← hk] at hs ⊢
 rcases (hk ▸ kindF_four t : k = 1∨k = 2∨k = 3∨k = 4) with rfl | rfl | rfl | rfl
 all_goals (unfold cntE;rw [hs 1,hs 2,hs 3,hs 4];simp [insM,clkM,atM])
theorem exts_len : ∀ (G : List Sp),(∀ s ∈ G,(0 ≤ s.lo∧s.lo ≤ 100)∧0 ≤ s.hi∧s.hi ≤ 100) → (exts G).length ≤ 101 ^ G.length
 | [],_=>Nat.le_refl _
 | s::G,h=>by
  have h1:=h s List.mem_cons_self
  have ih:=exts_len G (fun x hx=>h x (List.mem_cons_of_mem _ hx))
  unfold exts
  rw [List.length_flatMap,List.length_cons,Nat.pow_succ,Nat.mul_comm]
  have h2 : ((List.range (s.hi - s.lo + 1).toNat).map (fun (k : Nat)=>((exts G).map ((s.lo + k) :: ·)).length)) = List.replicate (s.hi - s.lo + 1).toNat (exts G).length:=by
   rw [List.eq_replicate_iff]
   refine ⟨by rw [List.length_map,List.length_range],fun b hb=>?_⟩
   obtain ⟨k,_,rfl⟩:=List.mem_map.1 hb
   rw [List.length_map]
  rw [h2,List.sum_replicate_nat]
  exact Nat.mul_le_mul (by omega) ih
theorem exts_in (G : List Sp) (h : ∀ s ∈ G,(0 ≤ s.lo∧s.lo ≤ 100)∧0 ≤ s.hi∧s.hi ≤ 100) : ∀ t ∈ exts G,∀ x ∈ t,0 ≤ x∧x ≤ 100:=by
 intro t ht
 have:=(mem_exts G t).1 ht
 clear ht
 induction G generalizing t with
 | nil=>cases t with
  | nil=>intro x hx;cases hx
  | cons y t=>exact this.elim
 | cons s G ih=>cases t with
  | nil=>exact this.elim
  | cons y t =>
   intro x hx
   have h1:=h s List.mem_cons_self
   rcases List.mem_cons.1 hx with rfl | hx
   ·have:=this.1;omega
   ·exact ih (fun s hs=>h s (List.mem_cons_of_mem _ hs)) t this.2 x hx
theorem maps_und : Tryz.prog.underlying 133 = some (.map 3 3):=by kernel_rfl
theorem int_und : Tryz.prog.underlying 3 = some (.int .i64):=by kernel_rfl
def tsKk1 : List TOp:=[⟨some 12,[],[],[]⟩,⟨some 13,[],[],[]⟩,⟨some 14,[1],[1],[]⟩,⟨some 15,[0,1,2],[0,2],[]⟩,⟨some 16,[0,1,2,3],[3],[]⟩,⟨none,[0,1,2,3,4],[0,2,4],[6]⟩,⟨none,[],[],[]⟩]
def valKk1 (b1 b3 bm n c : Nat) (a : Option Addr) (kd m : Int) (l lq : List Ent) (k : Nat) (env : Env) : Value :=
 match k with
 | 0 => .map (some bm)
 | 1 => .slice a n c
 | 2 => .int .i64 kd
 | 3 => .int .i64 m
 | 4 => .int .i64 (m + 1)
 | 5=>undef
 | _=>undef
def rowsKk1 (b1 b3 bm n c : Nat) (a : Option Addr) (kd m : Int) (l lq : List Ent) (k : Nat) (env : Env) : List Row :=
 match k with
 | 5=>[mRow bm .i64 lq 4]
 | 6=>[mRow bm .i64 l 4]
 | _=>[]
theorem locKk1 (b1 b3 bm n c : Nat) (a : Option Addr) (kd m : Int) (l lq : List Ent) : ∀ k env i q9,i ≠ k → (tAt tsKk1 k).sup.contains i = false → valKk1 b1 b3 bm n c a kd m l lq k (upd env i q9)=valKk1 b1 b3 bm n c a kd m l lq k env∧rowsKk1 b1 b3 bm n c a kd m l lq k (upd env i q9)=rowsKk1 b1 b3 bm n c a kd m l lq k env:=by
 intro k env i q hk hs
 have hu : ∀ j,j ≠ i → upd env i q j = env j:=fun j hj=>by unfold upd;rw [if_neg hj]
 match k,hk,hs with
 | 0,_,_=>exact ⟨rfl,rfl⟩
 | 1,_,_=>exact ⟨rfl,rfl⟩
 | 2,_,_=>exact ⟨rfl,rfl⟩
 | 3,_,_=>exact ⟨rfl,rfl⟩
 | 4,_,_=>exact ⟨rfl,rfl⟩
 | 5,_,_=>exact ⟨rfl,rfl⟩
 | 6,_,_=>exact ⟨rfl,rfl⟩
 | _ + 7,_,_=>exact ⟨rfl,rfl⟩
def rdKk1 (k : Nat) : List Nat:=match k with
 | 3=>[6]
 | _=>[]
set_option maxHeartbeats 4000000 in
theorem kinds_spec (B : Bl) (p : Pb) (g : List Sp) (H : List Row) (hg : g.length = 5) (h5 : 1 ≤ B.layers∧B.layers ≤ 5) (hgr : ∀ s ∈ g,(0 ≤ s.lo∧s.lo ≤ 100)∧0 ≤ s.hi∧s.hi ≤ 100) :
  Fc Tryz.prog 99 [.agg (cPr B p g).toArray] H (fun v H' => ∃ bm,v = .map (some bm)∧H' = mRow bm .i64 (kindsE (exts (g.take B.layers.toNat))) 4::H):=by
 have hgt : ∀ s ∈ g.take B.layers.toNat,(0 ≤ s.lo∧s.lo ≤ 100)∧0 ≤ s.hi∧s.hi ≤ 100:=fun s hs=>hgr s (List.mem_of_mem_take hs)
 have hxl : (exts (g.take B.layers.toNat)).length ≤ 10510100501:=by
  refine Nat.le_trans (exts_len _ hgt) ?_
  rw [List.length_take]
  exact Nat.le_trans (Nat.pow_le_pow_right (by decide) (Nat.min_le_right _ _)) (by rw [hg];decide)
 have hxi:=exts_in _ hgt
 have hxn : ∀ t ∈ exts (g.take B.layers.toNat),t.length = B.layers.toNat:=fun t ht=>by
  have:=InG_len _ _ ((mem_exts _ _).1 ht)
  rw [this,List.length_take];omega
 obtain ⟨xs,hxs⟩ : ∃ xs,xs = exts (g.take B.layers.toNat):=⟨_,rfl⟩
 have hit:=fun b ow cap E hm=>truths_it B p g b ow cap E hm hg h5 (fun s hs=>by have:=hgr s hs;omega)
 rw [← hxs] at hxl hxi hxn hit ⊢
 refine Fc.mkT (callable Tryz.call99) Tryz.func99 rfl Tryz.ntmps99 rfl ?_
 dsimp only [fr]
 refine XT.seq rfl (XT.of0 ?_)
 repeat' (first | (refine uP rfl ?_;(first | ((first | refine uN rfl ?_);(first | (refine uE (uA rfl rfl) rfl rfl ?_)|(refine Xg.st (StF.boxAgg rfl rfl) rfl rfl ?_;rintro _ _ ⟨bx,rfl,rfl⟩)))))|(refine uD rfl ?_;refine hK _ _ ?_;clear hK K) | refine uR rfl (fun K hK=>?_))
 refine XT.seq rfl (XT.of0 ?_)
 repeat' (first | (refine uP rfl ?_;(first | ((first | refine uN rfl ?_);(first | (refine Xg.st (StF.makeMap .i64 rfl) rfl rfl ?_;rintro _ _ ⟨bm,rfl,rfl⟩)|(refine Xg.st0 (StF.insertM (i:=0) rfl maps_und int_und rfl rfl rfl rfl (by unfold keysM;decide)) rfl ?_;rintro _ _ ⟨rfl,rfl⟩;dsimp only [List.set])|(refine uE (uM rfl rfl) rfl rfl ?_)|(refine Xg.st (StF.alloc rfl Tryz.zeroValue133 rfl) rfl rfl ?_;rintro _ _ ⟨bx,rfl,rfl⟩)|(refine Xg.st0 (StF.storeOne (i:=0) rfl rfl rfl rfl (te rfl) rfl rfl (Nat.le_of_ble_eq_true rfl)) rfl ?_;rintro _ _ ⟨rfl,rfl⟩;dsimp only [List.set])))))|(refine uD rfl ?_;refine hK _ _ ?_;clear hK K) | refine uR rfl (fun K hK=>?_))
 rename_i b1
 obtain ⟨b3,hb3⟩ : ∃ b,b = bx:=⟨_,rfl⟩
 rw [← hb3]
 clear hb3
 refine XT.weak (F' := [(1,.pointer (some ⟨b1,0,none⟩)),(2,.map none),(3,.pointer (some ⟨b3,0,none⟩))]) (H' := ⟨b3,0,[.map (some bm)],some 133,1⟩::mRow bm .i64 (cntE []) 4::⟨b1,0,cPr B p g,some 91,(cPr B p g).length⟩::H) (by repeat (first | exact uU _ | refine uV rfl ?_)) (qR _) ?_
 refine XT.seq rfl (XT.seq rfl (XT.of0 ?_))
 repeat' (first | (refine uP rfl ?_;(first | ((first | refine uN rfl ?_);(first | (refine uE (uL rfl rfl (uW (te rfl) rfl (qT _ (qT _ (qH _))) (lenPr hg))) rfl rfl ?_)|(refine uC (uT rfl (by (repeat (first | exact Args.nil | refine Args.cons rfl ?_));done)) rfl rfl (truths_spec B p g _) ?_;rintro _ _ ⟨bt,rfl,rfl⟩)))))|(refine uD rfl ?_;refine hK _ _ ?_;clear hK K) | refine uR rfl (fun K hK=>?_))
 refine XT.weak (F' := [(1,.pointer (some ⟨b1,0,none⟩)),(2,.map none),(3,.pointer (some ⟨b3,0,none⟩)),(10,.func (.func 102) #[] #[.pointer (some ⟨bt,0,none⟩)])]) (H' := ⟨bt,0,cPr B p g,some 91,(cPr B p g).length⟩::⟨b3,0,[.map (some bm)],some 133,1⟩::mRow bm .i64 (cntE []) 4::⟨b1,0,cPr B p g,some 91,(cPr B p g).length⟩::H) (by repeat (first | exact uU _ | refine uV rfl ?_)) (qR _) ?_
 refine XT.perm (H' := [mRow bm .i64 (cntE []) 4,⟨b3,0,[.map (some bm)],some 133,1⟩]++(⟨bt,0,cPr B p g,some 91,(cPr B p g).length⟩::⟨b1,0,cPr B p g,some 91,(cPr B p g).length⟩::H)) ?_ ?_
 ·exact List.Perm.trans (List.perm_middle (l₁:=[_,_])) (List.Perm.cons _ (List.Perm.swap _ _ _))
 refine XT.block rfl ?_
 refine XT.rangeDM (ps:=[11]) rfl rfl (hit bt _ _ _ (qH _)) (fun x E E' hM hs=>⟨hM.1.sub hs,hM.2⟩) rfl (fun _=>rfl) (fun pre=>[mRow bm .i64 (cntE pre) 4,⟨b3,0,[.map (some bm)],some 133,1⟩]) (fun _=>true) (fun _=>[]) .ret rfl ?_ ?_ (fun _ _ _ _ h=>by cases h) (fun _ _ _ h=>by cases h) (.inl rfl)
 ·intro pre x hpre _ Z hZ
  have hxm : valG x ∈ xs:=hpre.subset (List.mem_append_right _ List.mem_cons_self)
  have hcl : cntK pre (kindF (valG x)) ≤ 10510100501:=by
   have h1:=hpre.length_le
   rw [List.length_append] at h1
   have:=cntK_le pre (kindF (valG x))
   omega
  obtain ⟨q1,q2,q3⟩:=cntE_step pre (valG x)
  obtain ⟨a,c,t⟩:=x
  dsimp only [valG,encG,MemG] at hxm hcl q1 q2 q3 hZ ⊢
  have hkk : ∀ S : List Row,SlE S a cI 1 t → Fc Tryz.prog 63 [.slice a t.length c] S (fun v H' => v = .int .i64 (kindF t)∧H' = S):=fun S hS=>kindOf_spec t a c S hS (by rw [hxn t hxm];omega) (by rw [hxn t hxm];omega) (by have:=hZ.2;exact this) (hxi t hxm)
  show X _ _ _ _ (mRow bm .i64 (cntE pre) 4::⟨b3,0,[.map (some bm)],some 133,1⟩::Z) _
  repeat' (first | (refine uP rfl ?_;(first | ((first | refine uN rfl ?_);(first | (refine uE (uA rfl rfl) rfl rfl ?_)))))|(refine uD rfl ?_;refine hK _ _ ?_;clear hK K) | refine uR rfl (fun K hK=>?_))
  refine ⟨rfl,[mRow bm .i64 (cntE pre) 4,⟨b3,0,[.map (some bm)],some 133,1⟩],qR _,fun Z' hZ' => ?_⟩
  refine X.weak (F' := [(1,.pointer (some ⟨b1,0,none⟩)),(3,.pointer (some ⟨b3,0,none⟩)),(4,.slice a t.length c)]) (H' := mRow bm .i64 (cntE pre) 4::⟨b3,0,[.map (some bm)],some 133,1⟩::Z') (by repeat (first | exact uU _ | refine uV rfl ?_)) (qR _) ?_
  refine X.block rfl ?_
  obtain ⟨m,hm⟩ : ∃ m : Int,m = (cntK pre (kindF t) : Nat):=⟨_,rfl⟩
  rw [← hm] at q1 q3
  refine X.regionRd tsKk1 rdKk1 [1,3,4] [(1,.pointer (some ⟨b1,0,none⟩)),(3,.pointer (some ⟨b3,0,none⟩)),(4,.slice a t.length c)] (valKk1 b1 b3 bm t.length c a (kindF t) m (cntE pre) (cntE (pre++[t]))) (rowsKk1 b1 b3 bm t.length c a (kindF t) m (cntE pre) (cntE (pre++[t]))) (fun _=>(0,0)) (⟨b3,0,[.map (some bm)],some 133,1⟩::Z') rfl mixed (by repeat (first | exact uU _ | refine uV rfl ?_)) rfl (by kernel_rfl) (by kernel_rfl) (locKk1 b1 b3 bm t.length c a (kindF t) m (cntE pre) (cntE (pre++[t]))) (qR _) ?_ ?_
  ·repeat' (first | exact AllF.done rfl | (refine AllF.step rfl ?_ ?_;·(first | exact (Ob.ng rfl (uK (fun env R hR=>by exact ⟨_,uM rfl rfl,rfl⟩) rfl (fun _=>rfl))).toR | exact (Ob.ng rfl (uK (fun env R hR=>by exact ⟨_,uL rfl rfl (uO (te rfl) rfl (hR _ (qH _)) rfl),rfl⟩) rfl (fun _=>rfl))).toR | (refine ObR.ng rfl ?_;(first | (exact fun env S hS hrd=>(OpF.call (uT rfl (Args.cons rfl Args.nil)) (hkk S (hZ'.1.sub (fun r h=>hS r (qT _ h))))).mono (fun v H' ⟨hv,hH⟩=>⟨(0,0),fun _=>hv,by rw [hH];exact List.Perm.refl _⟩))|(exact fun env S hS hrd=>(StF.ofEv (EvF.lookup (l:=cntE pre) (clock:=4) (k:=kindF t) (z := .int .i64 0) rfl maps_und int_und rfl rfl (hrd 6 (qH _) _ (qH _)) Tryz.zeroValue3)).op.mono (fun v H' ⟨hv,hH⟩=>⟨(0,0),fun _=>by rw [hv];exact q3,by rw [hH];exact List.Perm.refl _⟩))|(exact fun env S hS hrd=>(StF.ofEv (EvF.add64 (p:=m) (q:=1) rfl rfl rfl (by omega) (by omega))).op.mono (fun v H' ⟨hv,hH⟩=>⟨(0,0),fun _=>hv,by rw [hH];exact List.Perm.refl _⟩))|(exact fun env S hS hrd=>(StF.mapUpdate (i:=0) (l:=cntE pre) (clock:=4) (k:=kindF t) rfl maps_und int_und rfl rfl rfl rfl (cntE_keys pre)).op.mono (fun v H' ⟨hv,hH⟩=>⟨(0,0),fun h=>absurd rfl h,by rw [hH];show List.Perm (mRow bm .i64 (insM (cntE pre) 4 (kindF t) (.int .i64 (m + 1))) (clkM (cntE pre) 4 (kindF t))::S) _;rw [q1,q2];exact List.Perm.refl _⟩)))))))
  intro env t2 ha2 hv
  refine ⟨_,ha2,?_⟩
  clear hv ha2
  exact ⟨[mRow bm .i64 (cntE (pre++[t])) 4,⟨b3,0,[.map (some bm)],some 133,1⟩],qR _,rfl,rfl⟩
 ·intro D _
  refine XT.of1 ?_
  dsimp only [List.cons_append,List.nil_append,List.append_assoc]
  obtain ⟨HX,hHX⟩ : ∃ HX,HX = (⟨bt,0,cPr B p g,some 91,(cPr B p g).length⟩ : Row)::⟨b1,0,cPr B p g,some 91,(cPr B p g).length⟩::(H++[dRow D]):=⟨_,rfl⟩
  have hsub : (H++[dRow D]).Sublist HX:=by rw [hHX];exact qC _ (List.sublist_cons_self _ _)
  refine X.weak (F' := [(3,.pointer (some ⟨b3,0,none⟩))]) (H' := mRow bm .i64 (cntE xs) 4::⟨b3,0,[.map (some bm)],some 133,1⟩::HX) (by repeat (first | exact uU _ | refine uV rfl ?_)) (by rw [hHX];exact qR _) ?_
  clear hHX hit hxi hxn hxl
  have hkey:=cntE_keys xs
  have hborn:=cntE_born xs
  have hclk:=cntE_clk xs
  have hval:=cntE_val xs
  have hkE : kindsE xs = (cntE xs).filter (fun e=>decide (1 ≤ vI e.2.1)):=rfl
  rw [hkE]
  obtain ⟨l,hl⟩ : ∃ l,cntE xs = l:=⟨_,rfl⟩
  rw [hl] at hkey hborn hclk hval ⊢
  clear hl hkE
  repeat' (first | (refine uP rfl ?_;(first | ((first | refine uN rfl ?_);(first | (refine Xg.st (StF.rangeMap (kd := .i64) (l:=l) (clock:=4) rfl maps_und rfl (qH _)) rfl rfl ?_;rintro _ _ ⟨r,rfl,rfl⟩)|(refine uE (uL rfl rfl (uO (te rfl) rfl (qT _ (qH _)) rfl)) rfl rfl ?_)))))|(refine uD rfl ?_;refine hK _ _ ?_;clear hK K) | refine uS rfl ?_ | refine uR rfl (fun K hK=>?_) | refine X.block rfl ?_)
  refine X.lp rfl (fun q F' H' => ∃ (pre rest : List Ent),q = l.length - pre.length∧(pre++rest).Perm l∧H' = iRow r bm 4 pre::mRow bm .i64 (l.filter (qfM pre 1)) 4::⟨b3,0,[.map (some bm)],some 133,1⟩::HX ∧
    F' = [(3,.pointer (some ⟨b3,0,none⟩)),(18,.pointer (some ⟨r,0,none⟩))])
   _ [(3,.pointer (some ⟨b3,0,none⟩)),(18,.pointer (some ⟨r,0,none⟩))] (iRow r bm 4 []::mRow bm .i64 (l.filter (qfM [] 1)) 4::⟨b3,0,[.map (some bm)],some 133,1⟩::HX) (by repeat (first | exact uU _ | refine uV rfl ?_)) (by rw [qfM_nil];exact (by repeat (first | exact qR _ | apply qK | apply qC))) ⟨[],l,rfl,List.Perm.refl _,rfl,rfl⟩ ?_
  rintro _ _ _ ⟨pre,rest,rfl,hp,rfl,rfl⟩
  have hle:=it_len hp
  have hcf : ∀ e ∈ l.filter (qfM pre 1),e.2.2 < 4:=fun e he=>hclk e (List.mem_filter.1 he).1
  have hkf:=keys_filter hkey (qfM pre 1)
  have hbf : ((l.filter (qfM pre 1)).map (·.2.2)).Nodup:=(List.filter_sublist.map _).nodup hborn
  repeat' (first | (refine uP rfl ?_;(first | ((first | refine uN rfl ?_);(first | (refine Xg.st (StF.nextMap (i:=0) (kd := .i64) (l:=l.filter (qfM pre 1)) rfl rfl rfl (qT _ (qH _)) hcf) rfl rfl ?_;rintro _ _ (⟨rfl,rfl,hx⟩ | ⟨⟨ek,ev,eb⟩,he,hes,rfl,rfl⟩);all_goals try (obtain ⟨nv,hnv,rfl⟩ : ∃ n : Int,0 ≤ n∧ev = .int .i64 n:=⟨_,Int.natCast_nonneg _,hval _ (List.mem_filter.1 he).1⟩;dsimp only [List.set]))|(refine uE (EvF.entry (pre:=pre) rfl rfl (qH _) (qT _ (qH _)) he hbf) rfl rfl ?_)|(refine Xg.st0 (StF.delete (i:=1) (l:=l.filter (qfM pre 1)) (clock:=4) rfl maps_und int_und rfl rfl rfl hkf) rfl ?_;rintro _ _ ⟨rfl,rfl⟩;dsimp only [List.set])|(refine uE (uL rfl rfl (uO (te rfl) rfl (qT _ (qT _ (qH _))) rfl)) rfl rfl ?_)|(refine uE (uM rfl rfl) rfl rfl ?_)|(refine uE (uA rfl rfl) rfl rfl ?_)|(refine uE (uQ rfl rfl rfl rfl) rfl rfl ?_)|(refine uE (uX rfl rfl rfl) rfl rfl ?_)))))|(refine uD rfl ?_;refine hK _ _ ?_;clear hK K) | refine uS rfl ?_ | refine uR rfl (fun K hK=>?_) | refine X.block rfl ?_ | (refine X.brk rfl ?_;repeat (first | refine blockX_hit rfl ?_ | refine blockX_miss (by decide) ?_)) | refine X.skip rfl ?_ | refine X.ret rfl ?_ | (refine X.ite rfl rfl (fun hc=>?_);(first | (with_reducible refine Xb.t hc ?_)|(with_reducible refine Xb.f hc ?_)|(with_reducible refine Xb.case hc (fun h=>?_) (fun h=>?_))) <;> clear hc))
  all_goals try (exfalso;contradiction)
  ·have he:=qfM_end hx
   refine ⟨mRow bm .i64 (l.filter (fun e=>decide (1 ≤ vI e.2.1))) 4::H,?_,retT_one (by simp) Tryz.results99 rfl (qR _) ⟨bm,rfl,rfl⟩⟩
   rw [← he]
   exact qC _ (qK _ (qC _ hsub))
  ·obtain ⟨rest',hp'⟩:=it_more hp (List.mem_filter.1 he).1 hes
   have hl' := it_len hp'
   rw [List.length_append] at hl'
   refine ⟨_,_,_,(by repeat (first | exact uU _ | refine uV rfl ?_)),qR _,⟨pre++[(ek,.int .i64 nv,eb)],rest',rfl,hp',?_,rfl⟩,by simp only [List.length_append,List.length_cons,List.length_nil] at hl' ⊢;omega⟩
   rw [← qfM_del hborn hkey (List.mem_filter.1 he).1 (show vI (.int .i64 nv)<1 by show nv < 1;omega)]
  ·obtain ⟨rest',hp'⟩:=it_more hp (List.mem_filter.1 he).1 hes
   have hl' := it_len hp'
   rw [List.length_append] at hl'
   refine ⟨_,_,_,(by repeat (first | exact uU _ | refine uV rfl ?_)),qR _,⟨pre++[(ek,.int .i64 nv,eb)],rest',rfl,hp',?_,rfl⟩,by simp only [List.length_append,List.length_cons,List.length_nil] at hl' ⊢;omega⟩
   rw [← qfM_keep hborn (List.mem_filter.1 he).1 (show ¬ vI (.int .i64 nv)<1 by show ¬ nv < 1;omega)]
end Go.Proofs.YtbpcbdbclijomaaGreat
namespace Go.Fw
open Go Go.RowKit
section
variable {P : Program} {n : Nat} {H : List Row} {F : FS} {o : Oper}
theorem EvF.lenMap {T kt e : TypeId} {m : Operand} {kd : IntKind} {b clock : Nat} {l : List Ent} (h : o.op = .call { callee := .builtin .len,args := #[m],argTypes := #[T] }) (hT : P.underlying T = some (.map kt e)) (hm : evF F m = some (.map (some b))) (hi : mRow b kd l clock ∈ H) :
  EvF P n H F o (.int .i64 (l.length : Nat)):=by
 unfold EvF EvOp
 intro t ha B w0 w hS
 have hb : w.heap[b]? = some (.map (mEs kd l) clock):=(hS.ok _ hi).2.2
 have e1:=ha.ev hm
 simp [execOp,h,resolve,invoke,builtin,Builtin.len_,e1,run_underlying hT,MapKept.run_getObj_map hb,mEs,goInt]
end
end Go.Fw
namespace Go.Proofs.YtbpcbdbclijomaaGreat
open Go Go.Fw
set_option maxRecDepth 10000
theorem cntK_any (L : List (List Int)) (k : Int) : decide ((0 : Int)<(cntK L k : Nat)) = L.any (fun t=>decide (kindF t = k)):=by
 rw [Bool.eq_iff_iff,decide_eq_true_iff,List.any_eq_true]
 unfold cntK
 constructor
 ·intro h
  obtain ⟨t,ht⟩:=List.length_pos_iff_exists_mem.1 (show 0 < (L.filter (fun t=>decide (kindF t = k))).length by omega)
  exact ⟨t,List.mem_filter.1 ht⟩
 ·rintro ⟨t,ht⟩
  have h1 : t ∈ L.filter (fun t=>decide (kindF t = k)):=List.mem_filter.2 ht
  have:=List.length_pos_iff_exists_mem.2 ⟨t,h1⟩
  omega
theorem kindsE_keys (L : List (List Int)) : keysM (kindsE L):=keys_filter (cntE_keys L) _
theorem cntK_none {L : List (List Int)} {k : Int} (h : ¬ (k = 1∨k = 2∨k = 3∨k = 4)) : cntK L k = 0:=by
 unfold cntK
 rw [List.length_eq_zero_iff,List.filter_eq_nil_iff]
 intro t _
 rw [decide_eq_true_iff]
 rintro rfl
 exact h (kindF_four t)
theorem kindsE_at (L : List (List Int)) (k : Int) : (atM (kindsE L) k).getD (.int .i64 0) = .int .i64 (cntK L k : Nat):=by
 have hm : ∀ e ∈ kindsE L,e.2.1 = .int .i64 (cntK L e.1):=fun e he=>cntE_val L e (List.mem_filter.1 he).1
 unfold atM
 cases hf : (kindsE L).find? (fun e=>e.1 == k) with
 | some e =>
  have h1:=List.mem_of_find?_eq_some hf
  have h2:=List.find?_some hf
  simp only [beq_iff_eq] at h2
  have:=hm e h1
  simp only [Option.map_some,Option.getD_some]
  rw [this,h2]
 | none =>
  have h0 : cntK L k = 0:=by
   by_cases h : k = 1∨k = 2∨k = 3∨k = 4
   ·refine Classical.byContradiction fun q=>?_
    have hin : (k,Value.int .i64 (cntK L k),(k - 1).toNat) ∈ kindsE L:=by
     refine List.mem_filter.2 ⟨?_,?_⟩
     ·unfold cntE
      rcases h with rfl | rfl | rfl | rfl <;> simp
     ·show decide ((1 : Int)≤(cntK L k : Nat)) = true
      exact decide_eq_true (by omega)
    have:=List.find?_eq_none.1 hf _ hin
    simp at this
   ·exact cntK_none h
  rw [h0]
  rfl
theorem kindsE_del (L : List (List Int)) (k : Int) : decide ((0 : Int)<((delM (kindsE L) k).length : Nat)) = L.any (fun t => !decide (kindF t = k)):=by
 rw [Bool.eq_iff_iff,decide_eq_true_iff,List.any_eq_true]
 constructor
 ·intro h
  obtain ⟨e,he⟩:=List.length_pos_iff_exists_mem.1 (show 0 < (delM (kindsE L) k).length by omega)
  unfold delM at he
  obtain ⟨h1,h2⟩:=List.mem_filter.1 he
  obtain ⟨h3,h4⟩:=List.mem_filter.1 h1
  rw [cntE_val L e h3,decide_eq_true_iff] at h4
  have h5 : 1 ≤ ((cntK L e.1 : Nat) : Int):=h4
  unfold cntK at h5
  obtain ⟨t,ht⟩:=List.length_pos_iff_exists_mem.1 (show 0 < (L.filter (fun t=>decide (kindF t = e.1))).length by omega)
  obtain ⟨h6,h7⟩:=List.mem_filter.1 ht
  rw [decide_eq_true_iff] at h7
  refine ⟨t,h6,?_⟩
  rw [h7]
  simpa using h2
 ·rintro ⟨t,h1,h2⟩
  have h3 : ¬ kindF t = k:=by simpa using h2
  have h4 : 0 < cntK L (kindF t):=List.length_pos_iff_exists_mem.2 ⟨t,List.mem_filter.2 ⟨h1,by simp⟩⟩
  have hin : (kindF t,Value.int .i64 (cntK L (kindF t)),(kindF t - 1).toNat) ∈ delM (kindsE L) k:=by
   unfold delM
   refine List.mem_filter.2 ⟨List.mem_filter.2 ⟨?_,?_⟩,by simpa using h3⟩
   ·unfold cntE
    rcases kindF_four t with h | h | h | h <;> rw [h] <;> simp
   ·show decide ((1 : Int)≤(cntK L (kindF t) : Nat)) = true
    exact decide_eq_true (by omega)
  have:=List.length_pos_iff_exists_mem.2 ⟨_,hin⟩
  omega
theorem kindsE_len (G : List Sp) : (kindsE (exts G)).length = nKinds G:=by
 have h : ∀ k,hasK G k = decide ((1 : Int)≤(cntK (exts G) k : Nat)):=fun k=>by
  rw [cnt_has,Bool.eq_iff_iff,decide_eq_true_iff,decide_eq_true_iff];omega
 have hk : kindsL = (cntE (exts G)).map (·.1):=rfl
 unfold nKinds kindsE
 rw [hk,List.filter_map,List.length_map]
 congr 1
 refine List.filter_congr fun e he=>?_
 rw [cntE_val _ e he]
 exact (h e.1).symm
/-- of this kind, as the truths have it -/
def ofKind (L : List (List Int)) (k : Int) : Int:=knb (L.any (fun t=>decide (kindF t = k))) (L.any (fun t => !decide (kindF t = k)))
set_option maxHeartbeats 1000000 in
theorem isOf_spec (B : Bl) (p : Pb) (g : List Sp) (k : Int) (H : List Row) (hg : g.length = 5) (h5 : 1 ≤ B.layers∧B.layers ≤ 5) (hgr : ∀ s ∈ g,(0 ≤ s.lo∧s.lo ≤ 100)∧0 ≤ s.hi∧s.hi ≤ 100) :
  Fc Tryz.prog 59 [.agg (cPr B p g).toArray,.int .i64 k] H (fun v H' => v = .int .u8 (ofKind (exts (g.take B.layers.toNat)) k)∧H' = H):=by
 obtain ⟨xs,hxs⟩ : ∃ xs,xs = exts (g.take B.layers.toNat):=⟨_,rfl⟩
 have k1:=fun S=>kinds_spec B p g S hg h5 hgr
 rw [← hxs] at k1 ⊢
 have q1:=kindsE_at xs k
 have q2:=cntK_any xs k
 have q3:=kindsE_del xs k
 have hkm:=kindsE_keys xs
 obtain ⟨K0,hK0⟩ : ∃ K0,kindsE xs = K0:=⟨_,rfl⟩
 obtain ⟨m,hm⟩ : ∃ m : Int,m = (cntK xs k : Nat):=⟨_,rfl⟩
 rw [hK0] at k1 q1 q3 hkm
 rw [← hm] at q1 q2
 obtain ⟨u,hu⟩ : ∃ u,u = xs.any (fun t=>decide (kindF t = k)):=⟨_,rfl⟩
 obtain ⟨w,hw⟩ : ∃ w,w = xs.any (fun t => !decide (kindF t = k)):=⟨_,rfl⟩
 have hof : ofKind xs k = knb u w:=by unfold ofKind;rw [hu,hw]
 rw [hof]
 rw [← hu] at q2
 rw [← hw] at q3
 have k2:=fun S=>lKnown_spec u w S
 clear hu hw hof hm hK0 hxs
 refine Fc.mk (callable Tryz.call59) Tryz.func59 rfl Tryz.ntmps59 rfl ?_;dsimp only [fr]
 repeat' (first | (refine uP rfl ?_;(first | ((first | refine uN rfl ?_);(first | (refine uE (uL rfl rfl (uW (te rfl) rfl (qH _) (lenPr hg))) rfl rfl ?_)|(refine uC (uT rfl (by (repeat (first | exact Args.nil | refine Args.cons rfl ?_));done)) rfl rfl (k1 _) ?_;rintro _ _ ⟨bm,rfl,rfl⟩)|(refine uE (v := .int .i64 m) (q1 ▸ EvF.lookup (l:=K0) (clock:=4) (k:=k) (z := .int .i64 0) rfl maps_und int_und rfl rfl (qH _) Tryz.zeroValue3) rfl rfl ?_)|(refine uE (uQ (b:=u) (p:=m) (q:=0) rfl rfl rfl (congrArg some q2)) rfl rfl ?_)|(refine uE (uQ (b:=w) (p:=((delM K0 k).length : Nat)) (q:=0) rfl rfl rfl (congrArg some q3)) rfl rfl ?_)|(refine Xg.st0 (StF.delete (i:=0) (l:=K0) (clock:=4) rfl maps_und int_und rfl rfl rfl hkm) rfl ?_;rintro _ _ ⟨rfl,rfl⟩;dsimp only [List.set])|(refine uE (EvF.lenMap rfl maps_und rfl (qH _)) rfl rfl ?_)|(refine uC (uT rfl (Args.cons rfl (Args.cons rfl Args.nil))) rfl rfl (k2 _) ?_;rintro _ H9 ⟨rfl,hH9⟩;subst H9)|(refine uE (uM rfl rfl) rfl rfl ?_)|(refine uE (uA rfl rfl) rfl rfl ?_)|(refine Xg.st (StF.boxAgg rfl rfl) rfl rfl ?_;rintro _ _ ⟨bx,rfl,rfl⟩)))))|(refine uD rfl ?_;refine hK _ _ ?_;clear hK K) | refine uS rfl ?_ | refine uR rfl (fun K hK=>?_) | refine X.ret rfl ?_)
 exact ret_one (by simp) Tryz.results59 rfl (H' := H) (by (repeat (first | exact qR _ | apply qC));done) ⟨rfl,rfl⟩
/-- a question: the function that is asked, and the error -/
structure Qn where
 f : Nat
 e : Int
def cQn (q : Qn) : List Value:=[.func (.func q.f) #[] #[],.int .i64 q.e]
def qs6 : List Qn:=[⟨139,30⟩,⟨140,31⟩,⟨141,32⟩,⟨142,6⟩,⟨143,35⟩,⟨144,8⟩]
def cQ6 : List Value:=qs6.flatMap cQn
theorem questions_spec (H : List Row) : Fc Tryz.prog 100 [] H (fun v H' => v = .agg cQ6.toArray∧H' = H):=by
 refine Fc.mk (callable Tryz.call100) Tryz.func100 rfl Tryz.ntmps100 rfl ?_;dsimp only [fr]
 repeat' (first | (refine uP rfl ?_;(first | ((first | refine uN rfl ?_);(first | (refine uE (EvF.build (cs:=cQn ⟨139,30⟩) rfl (ArgsP.cons rfl (ArgsP.cons rfl ArgsP.nil)) (te rfl) (Places.cons (te rfl) (Places.cons (te rfl) Places.nil)) Tryz.zeroValue137 rfl) rfl rfl ?_)|(refine uE (EvF.build (cs:=cQn ⟨140,31⟩) rfl (ArgsP.cons rfl (ArgsP.cons rfl ArgsP.nil)) (te rfl) (Places.cons (te rfl) (Places.cons (te rfl) Places.nil)) Tryz.zeroValue137 rfl) rfl rfl ?_)|(refine uE (EvF.build (cs:=cQn ⟨141,32⟩) rfl (ArgsP.cons rfl (ArgsP.cons rfl ArgsP.nil)) (te rfl) (Places.cons (te rfl) (Places.cons (te rfl) Places.nil)) Tryz.zeroValue137 rfl) rfl rfl ?_)|(refine uE (EvF.build (cs:=cQn ⟨142,6⟩) rfl (ArgsP.cons rfl (ArgsP.cons rfl ArgsP.nil)) (te rfl) (Places.cons (te rfl) (Places.cons (te rfl) Places.nil)) Tryz.zeroValue137 rfl) rfl rfl ?_)|(refine uE (EvF.build (cs:=cQn ⟨143,35⟩) rfl (ArgsP.cons rfl (ArgsP.cons rfl ArgsP.nil)) (te rfl) (Places.cons (te rfl) (Places.cons (te rfl) Places.nil)) Tryz.zeroValue137 rfl) rfl rfl ?_)|(refine uE (EvF.build (cs:=cQn ⟨144,8⟩) rfl (ArgsP.cons rfl (ArgsP.cons rfl ArgsP.nil)) (te rfl) (Places.cons (te rfl) (Places.cons (te rfl) Places.nil)) Tryz.zeroValue137 rfl) rfl rfl ?_)|(refine uE (EvF.buildArr (cs:=cQ6) rfl (ArgsP.cons rfl (ArgsP.cons rfl (ArgsP.cons rfl (ArgsP.cons rfl (ArgsP.cons rfl (ArgsP.cons rfl ArgsP.nil)))))) (te rfl) (te rfl) Tryz.zeroValue138 rfl) rfl rfl ?_)|(refine Xg.st (StF.alloc rfl Tryz.zeroValue138 rfl) rfl rfl ?_;rintro _ _ ⟨bx,rfl,rfl⟩)|(refine Xg.st0 (uZ (i:=0) rfl rfl rfl (te rfl) rfl rfl rfl rfl) rfl ?_;rintro _ _ ⟨rfl,rfl⟩;dsimp only [List.set])))))|(refine uD rfl ?_;refine hK _ _ ?_;clear hK K) | refine uS rfl ?_ | refine uR rfl (fun K hK=>?_) | refine X.ret rfl ?_)
 exact ret_one (by simp) Tryz.results100 ⟨_,rfl,uW (te rfl) rfl (qH _) rfl⟩ (H' := H) (by (repeat (first | exact qR _ | apply qC));done) ⟨rfl,rfl⟩
set_option maxHeartbeats 4000000 in
theorem lasked_spec (B : Bl) (p : Pb) (C : Ca) (q : Pc) (qs : List Qn) (a : Option Addr) (c : Nat) (ok : Nat → Bool) (H : List Row) (hq : SlE H a cQn 2 qs) (hb : qs.length ≤ 1000)
  (hf : ∀ k x,qs[k]? = some x → (∀ j,j < k → ok j = true) → ∀ Z : List Row,Fc Tryz.prog x.f ([.agg (cBl B p).toArray,.agg (cCa C q).toArray]++[]) (Z++H) (fun v H' => v = .bool (ok k)∧H' = Z++H)) :
  Fc Tryz.prog 101 [.agg (cBl B p).toArray,.agg (cCa C q).toArray,.slice a qs.length c] H (fun v H' => ((v = .int .i64 0 ∧ ∀ j,j < qs.length → ok j = true) ∨ ∃ k x,qs[k]? = some x∧ok k = false∧(∀ j,j < k → ok j = true)∧v = .int .i64 x.e)∧H' = H):=by
 refine Fc.mk (callable Tryz.call101) Tryz.func101 rfl Tryz.ntmps101 rfl ?_;dsimp only [fr]
 repeat' (first | (refine uP rfl ?_;(first | ((first | refine uN rfl ?_);(first | (refine uE (uM rfl rfl) rfl rfl ?_)|(refine uE (uA rfl rfl) rfl rfl ?_)|(refine uE (uQ rfl rfl rfl rfl) rfl rfl ?_)|(refine uE (uY rfl rfl (te rfl)) rfl rfl ?_)|(refine Xg.st (StF.boxAgg rfl rfl) rfl rfl ?_;rintro _ _ ⟨bx,rfl,rfl⟩)))))|(refine uD rfl ?_;refine hK _ _ ?_;clear hK K) | refine uS rfl ?_ | refine uR rfl (fun K hK=>?_) | refine X.block rfl ?_ | (refine X.brk rfl ?_;repeat (first | refine blockX_hit rfl ?_ | refine blockX_miss (by decide) ?_)) | refine X.skip rfl ?_ | refine X.ret rfl ?_ | (refine X.ite rfl rfl (fun hc=>?_);(first | (with_reducible refine Xb.case hc (fun h=>?_) (fun h=>?_))) <;> clear hc))
 rename_i b1;rename Nat=>b2
 refine X.lp rfl (fun m F' H' => ∃ k : Nat,m = qs.length - k∧k ≤ qs.length∧(∀ j,j < k → ok j = true)∧⟨b2,0,cCa C q,some 88,4⟩::⟨b1,0,cBl B p,some 31,6⟩::H = H' ∧
   F' = [(3,.pointer (some ⟨b1,0,none⟩)),(4,.pointer (some ⟨b2,0,none⟩)),(9,.slice a qs.length c),(10,.int .i64 qs.length),(11,.int .i64 k)])
  qs.length [(3,.pointer (some ⟨b1,0,none⟩)),(4,.pointer (some ⟨b2,0,none⟩)),(9,.slice a qs.length c),(10,.int .i64 qs.length),(11,.int .i64 (0 : Nat))] _ (by repeat (first | exact uU _ | refine uV rfl ?_)) (by repeat (first | exact qR _ | apply qK | apply qC)) ⟨0,by omega,by omega,(fun j hj=>absurd hj (by omega)),rfl,rfl⟩ ?_
 rintro _ _ H2 ⟨k,rfl,hk,hn,hH,rfl⟩
 subst hH
 repeat' (first | (refine uP rfl ?_;(first | ((first | refine uN rfl ?_);(first | (refine uE (uM rfl rfl) rfl rfl ?_)|(refine uE (uA rfl rfl) rfl rfl ?_)|(refine uE (uQ rfl rfl rfl rfl) rfl rfl ?_)|(refine uE (uY rfl rfl (te rfl)) rfl rfl ?_)|(refine Xg.st (StF.boxAgg rfl rfl) rfl rfl ?_;rintro _ _ ⟨bx,rfl,rfl⟩)))))|(refine uD rfl ?_;refine hK _ _ ?_;clear hK K) | refine uS rfl ?_ | refine uR rfl (fun K hK=>?_) | refine X.block rfl ?_ | (refine X.brk rfl ?_;repeat (first | refine blockX_hit rfl ?_ | refine blockX_miss (by decide) ?_)) | refine X.skip rfl ?_ | refine X.ret rfl ?_ | (refine X.ite rfl rfl (fun hc=>?_);(first | (with_reducible refine Xb.case hc (fun h=>?_) (fun h=>?_))) <;> clear hc))
 ·obtain ⟨b,off,e,rfl,he⟩:=hq.elem (i:=k) (by omega)
  have hq2 : ∀ r1 r2,SlE (r1::r2::H) (some ⟨b,off,none⟩) cQn 2 qs:=fun r1 r2=>hq.sub (fun _ h=>qT _ (qT _ h))
  obtain ⟨f,er⟩:=e
  repeat' (first | (refine uP rfl ?_;(first | ((first | refine uN rfl ?_);(first | (refine uE (uL rfl rfl (LoadV.elA0 (hq2 _ _) he (te rfl) rfl (fun _ hm=>hm) rfl)) rfl rfl ?_)|(refine Xg.st (StF.alloc rfl Tryz.zeroValue137 rfl) rfl rfl ?_;rintro _ _ ⟨bx,rfl,rfl⟩)|(refine uC (EnF.dyn0 rfl rfl (by (repeat (first | exact Args.nil | refine Args.cons rfl ?_));done)) rfl rfl (hf k ⟨f,er⟩ he hn [_,_,_]) ?_;rintro _ H9 ⟨rfl,hH9⟩;subst H9)|(refine uE (uM rfl rfl) rfl rfl ?_)|(refine uE (uA rfl rfl) rfl rfl ?_)|(refine uE (EvF.add64 rfl rfl rfl (by omega) (by omega)) rfl rfl ?_)|(refine uE (EvF.not rfl rfl) rfl rfl ?_)|(refine uE (uF rfl rfl (te rfl) rfl (te rfl) (by decide)) rfl rfl ?_)|(refine uE (uJ rfl rfl rfl (te rfl) (te rfl) (by omega) (by omega)) rfl rfl ?_)|(refine uE (uL rfl rfl (uO (te rfl) rfl (qH _) rfl)) rfl rfl ?_)|(refine uE (uL rfl rfl (uW (te rfl) rfl (qT _ (qH _)) rfl)) rfl rfl ?_)|(refine uE (uL rfl rfl (uW (te rfl) rfl (qT _ (qT _ (qH _))) rfl)) rfl rfl ?_)|(refine Xg.st0 (uZ (i:=0) rfl rfl rfl (te rfl) rfl rfl rfl rfl) rfl ?_;rintro _ _ ⟨rfl,rfl⟩;dsimp only [List.set])))))|(refine uD rfl ?_;refine hK _ _ ?_;clear hK K) | refine uS rfl ?_ | refine uR rfl (fun K hK=>?_) | refine X.skip rfl ?_ | refine X.ret rfl ?_ | (refine X.ite rfl rfl (fun hc=>?_);(first | (with_reducible refine Xb.caseB hc (fun h=>?_) (fun h=>?_))) <;> clear hc))
  ·refine ret_one (by simp) Tryz.results101 rfl (H' := H) (by simp only [List.cons_append,List.nil_append];exact (by (repeat (first | exact qR _ | apply qC));done)) ⟨.inr ⟨k,_,he,?_,hn,rfl⟩,rfl⟩
   simpa using (by assumption : (!ok k)=true)
  ·refine ⟨_,_,_,(by repeat (first | exact uU _ | refine uV rfl ?_)),(by simp only [List.cons_append,List.nil_append];exact (by repeat (first | exact qR _ | apply qK | apply qC))),⟨k + 1,rfl,by omega,(fun j hj=>?_),rfl,rfl⟩,by omega⟩
   rcases Nat.lt_or_ge j k with h1 | h1
   ·exact hn j h1
   ·obtain rfl : j = k:=by omega
    simpa using (by assumption : (!ok j)=false)
 ·refine ret_one (by simp) Tryz.results101 rfl (H' := H) (by (repeat (first | exact qR _ | apply qC));done) ⟨.inl ⟨rfl,fun j hj=>hn j (by omega)⟩,rfl⟩
open Classical in
noncomputable def openE (B : Bl) (C : Ca) : Int:=if baleOk B then (if askL B C then (if askK C then (if askW B C then (if askD C then (if canB B then 0 else 8) else 35) else 6) else 32) else 31) else 30
open Classical in
noncomputable def okQ (B : Bl) (C : Ca) : Nat → Bool
 | 0=>decide (baleOk B)
 | 1=>decide (askL B C)
 | 2=>decide (askK C)
 | 3=>decide (askW B C)
 | 4=>decide (askD C)
 | 5=>decide (canB B)
 | _=>true
set_option maxHeartbeats 4000000 in
theorem asked6_spec (B : Bl) (p : Pb) (C : Ca) (q : Pc) (b cap : Nat) (ow : Option Kd) (H : List Row) (hB : BlOk H B p) (hC : CaOk H C q) (hm : ⟨b,0,cQ6,ow,cap⟩ ∈ H) :
  Fc Tryz.prog 101 [.agg (cBl B p).toArray,.agg (cCa C q).toArray,.slice (some ⟨b,0,none⟩) 6 6] H (fun v H' => v = .int .i64 (openE B C)∧H' = H):=by
 refine (lasked_spec B p C q qs6 (some ⟨b,0,none⟩) 6 (okQ B C) H (SlE.ofRow (cap:=cap) (ow:=ow) hm (fun _ _=>rfl)) (by decide) ?_).mono ?_
 ·intro k x hx hok Z
  have hB' : BlOk (Z++H) B p:=hB.sub (fun _ h=>List.mem_append_right _ h)
  have hC' : CaOk (Z++H) C q:=hC.sub (fun _ h=>List.mem_append_right _ h)
  rcases (show k = 0∨k = 1∨k = 2∨k = 3∨k = 4∨k = 5 by have:=(List.getElem?_eq_some_iff.1 hx).1;simp [qs6] at this;omega) with rfl | rfl | rfl | rfl | rfl | rfl
  all_goals (simp [qs6] at hx;subst hx)
  ·exact (isValid_spec B p C q _ hB').mono (fun v H' h=>by (have e : okQ B C 0 = decide (baleOk B):=decide_eq_decide.2 Iff.rfl);rw [e];exact h)
  ·exact (hasLayers_spec B p C q _ (of_decide_eq_true (hok 0 (by decide))).2.1 hC').mono (fun v H' h=>by (have e : okQ B C 1 = decide (askL B C):=decide_eq_decide.2 Iff.rfl);rw [e];exact h)
  ·exact (areKinds_spec B p C q _ hC').mono (fun v H' h=>by (have e : okQ B C 2 = decide (askK C):=decide_eq_decide.2 Iff.rfl);rw [e];exact h)
  ·exact (hasWeighings_spec B p C q _ hB' hC').mono (fun v H' h=>by (have e : okQ B C 3 = decide (askW B C):=decide_eq_decide.2 Iff.rfl);rw [e];exact h)
  ·exact (areDamps_spec B p C q _ hC').mono (fun v H' h=>by (have e : okQ B C 4 = decide (askD C):=decide_eq_decide.2 Iff.rfl);rw [e];exact h)
  ·exact (hasTruth_spec B p C q _ (of_decide_eq_true (hok 0 (by decide))) hB').mono (fun v H' h=>by (have e : okQ B C 5 = decide (canB B):=decide_eq_decide.2 Iff.rfl);rw [e];exact h)
 ·rintro v H' ⟨⟨rfl,hok⟩ | ⟨k,x,hx,hno,hok,rfl⟩,rfl⟩
  ·refine ⟨?_,rfl⟩
   have h0:=of_decide_eq_true (hok 0 (by decide));have h1:=of_decide_eq_true (hok 1 (by decide));have h2:=of_decide_eq_true (hok 2 (by decide));have h3:=of_decide_eq_true (hok 3 (by decide));have h4:=of_decide_eq_true (hok 4 (by decide));have h5:=of_decide_eq_true (hok 5 (by decide))
   unfold openE
   rw [if_pos h0,if_pos h1,if_pos h2,if_pos h3,if_pos h4,if_pos h5]
  ·refine ⟨?_,rfl⟩
   have hk : ∀ j,j < k → okQ B C j = true:=hok
   rcases (show k = 0∨k = 1∨k = 2∨k = 3∨k = 4∨k = 5 by have:=(List.getElem?_eq_some_iff.1 hx).1;simp [qs6] at this;omega) with rfl | rfl | rfl | rfl | rfl | rfl
   all_goals (simp [qs6] at hx;subst hx;unfold openE)
   ·rw [if_neg (of_decide_eq_false hno)]
   ·rw [if_pos (of_decide_eq_true (hk 0 (by decide))),if_neg (of_decide_eq_false hno)]
   ·rw [if_pos (of_decide_eq_true (hk 0 (by decide))),if_pos (of_decide_eq_true (hk 1 (by decide))),if_neg (of_decide_eq_false hno)]
   ·rw [if_pos (of_decide_eq_true (hk 0 (by decide))),if_pos (of_decide_eq_true (hk 1 (by decide))),if_pos (of_decide_eq_true (hk 2 (by decide))),if_neg (of_decide_eq_false hno)]
   ·rw [if_pos (of_decide_eq_true (hk 0 (by decide))),if_pos (of_decide_eq_true (hk 1 (by decide))),if_pos (of_decide_eq_true (hk 2 (by decide))),if_pos (of_decide_eq_true (hk 3 (by decide))),if_neg (of_decide_eq_false hno)]
   ·rw [if_pos (of_decide_eq_true (hk 0 (by decide))),if_pos (of_decide_eq_true (hk 1 (by decide))),if_pos (of_decide_eq_true (hk 2 (by decide))),if_pos (of_decide_eq_true (hk 3 (by decide))),if_pos (of_decide_eq_true (hk 4 (by decide))),if_neg (of_decide_eq_false hno)]
def tsOp : List TOp:=[⟨some 9,[],[],[]⟩,⟨some 10,[],[],[]⟩,⟨some 11,[],[],[]⟩,⟨some 12,[0,1,2],[0,1,2],[]⟩,⟨some 7,[0,1,2,3],[3],[]⟩]
def valOp (b2 b3 b4 b6 : Nat) (B : Bl) (p : Pb) (C : Ca) (q : Pc) (e : Int) (k : Nat) (env : Env) : Value :=
 match k with
 | 0 => .agg (cBl B p).toArray
 | 1 => .agg (cCa C q).toArray
 | 2 => .slice (some ⟨b6,0,none⟩) 6 6
 | 3 => .int .i64 e
 | 4 => .int .i64 e
 | _=>undef
def rowsOp (b2 b3 b4 b6 : Nat) (B : Bl) (p : Pb) (C : Ca) (q : Pc) (e : Int) (k : Nat) (env : Env) : List Row :=
 match k with
 | _=>[]
theorem locOp (b2 b3 b4 b6 : Nat) (B : Bl) (p : Pb) (C : Ca) (q : Pc) (e : Int) : ∀ k env i q9,i ≠ k → (tAt tsOp k).sup.contains i = false → valOp b2 b3 b4 b6 B p C q e k (upd env i q9)=valOp b2 b3 b4 b6 B p C q e k env∧rowsOp b2 b3 b4 b6 B p C q e k (upd env i q9)=rowsOp b2 b3 b4 b6 B p C q e k env:=by
 intro k env i q hk hs
 have hu : ∀ j,j ≠ i → upd env i q j = env j:=fun j hj=>by unfold upd;rw [if_neg hj]
 match k,hk,hs with
 | 0,_,_=>exact ⟨rfl,rfl⟩
 | 1,_,_=>exact ⟨rfl,rfl⟩
 | 2,_,_=>exact ⟨rfl,rfl⟩
 | 3,_,_=>exact ⟨rfl,rfl⟩
 | 4,_,_=>exact ⟨rfl,rfl⟩
 | _ + 5,_,_=>exact ⟨rfl,rfl⟩
set_option maxHeartbeats 8000000 in
theorem open_spec (B : Bl) (p : Pb) (C : Ca) (q : Pc) (H : List Row) (hB : BlOk H B p) (hC : CaOk H C q) :
  Fc Tryz.prog 61 [.agg (cBl B p).toArray,.agg (cCa C q).toArray] H (fun v H' => ((openE B C = 0∧v = .tuple #[.agg (cPr B p (gradesOf B)).toArray,.int .i64 0])∨(openE B C ≠ 0∧v = .tuple #[.agg (cPr Bz pzb (initG 0)).toArray,.int .i64 (openE B C)]))∧H' = H):=by
 have hb : openE B C = 0 → baleOk B:=fun h=>by
  unfold openE at h
  split at h
  ·assumption
  ·omega
 obtain ⟨e,he⟩ : ∃ e,openE B C = e:=⟨_,rfl⟩
 have hA : ∀ H' b cap ow,BlOk H' B p → CaOk H' C q → ⟨b,0,cQ6,ow,cap⟩ ∈ H' → Fc Tryz.prog 101 [.agg (cBl B p).toArray,.agg (cCa C q).toArray,.slice (some ⟨b,0,none⟩) 6 6] H' (fun v H'' => v = .int .i64 e∧H'' = H'):=fun H' b cap ow h1 h2 h3=>by
  have:=asked6_spec B p C q b cap ow H' h1 h2 h3
  rwa [he] at this
 rw [he]
 rw [he] at hb
 refine Fc.mk (callable Tryz.call61) Tryz.func61 rfl Tryz.ntmps61 rfl ?_;dsimp only [fr]
 repeat' (first | (refine uP rfl ?_;(first | ((first | refine uN rfl ?_);(first | (refine uC (uT rfl (by (repeat (first | exact Args.nil | refine Args.cons rfl ?_));done)) rfl rfl (questions_spec _) ?_;rintro _ H9 ⟨rfl,hH9⟩;subst H9)|(refine Xg.st (StF.alloc rfl Tryz.zeroValue138 rfl) rfl rfl ?_;rintro _ _ ⟨bx,rfl,rfl⟩)|(refine Xg.st0 (uZ (i:=0) (vs:=cQ6) rfl rfl rfl (te rfl) rfl rfl rfl rfl) rfl ?_;rintro _ _ ⟨rfl,rfl⟩;dsimp only [List.set])|(refine uE (uA rfl rfl) rfl rfl ?_)|(refine Xg.st (StF.boxAgg rfl rfl) rfl rfl ?_;rintro _ _ ⟨bx,rfl,rfl⟩)|(refine Xg.st (StF.alloc rfl Tryz.zeroValue91 rfl) rfl rfl ?_;rintro _ _ ⟨bx,rfl,rfl⟩)))))|(refine uD rfl ?_;refine hK _ _ ?_;clear hK K) | refine uS rfl ?_ | refine uR rfl (fun K hK=>?_))
 rename_i b2 b3 b4
 obtain ⟨b6,hb6⟩ : ∃ b,b = bx:=⟨_,rfl⟩
 rw [← hb6]
 clear hb6
 refine X.weak (F' := [(2,.pointer (some ⟨b2,0,none⟩)),(3,.pointer (some ⟨b3,0,none⟩)),(4,.pointer (some ⟨b4,0,none⟩)),(6,.pointer (some ⟨b6,0,none⟩))]) (H' := ⟨b6,0,cQ6,some 138,12⟩::⟨b4,0,cPr Bz pzb (initG 0),some 91,16⟩::⟨b3,0,cCa C q,some 88,4⟩::⟨b2,0,cBl B p,some 31,6⟩::H) (by repeat (first | exact uU _ | refine uV rfl ?_)) (by repeat (first | exact qR _ | apply qK | apply qC)) ?_
 refine X.regionOb tsOp [2,3,4,6] [(2,.pointer (some ⟨b2,0,none⟩)),(3,.pointer (some ⟨b3,0,none⟩)),(4,.pointer (some ⟨b4,0,none⟩)),(6,.pointer (some ⟨b6,0,none⟩))] (valOp b2 b3 b4 b6 B p C q e) (rowsOp b2 b3 b4 b6 B p C q e) (fun _=>(0,0)) (⟨b6,0,cQ6,some 138,12⟩::⟨b4,0,cPr Bz pzb (initG 0),some 91,16⟩::⟨b3,0,cCa C q,some 88,4⟩::⟨b2,0,cBl B p,some 31,6⟩::H) rfl mixed (by repeat (first | exact uU _ | refine uV rfl ?_)) rfl (by kernel_rfl) (locOp b2 b3 b4 b6 B p C q e) (qR _) ?_ ?_
 ·repeat' (first | exact AllF.done rfl | (refine AllF.step rfl ?_ ?_;·(first | fail | ((first | refine Ob.ng rfl ?_);(first | exact uK (fun env R hR=>by exact ⟨_,uA rfl rfl,rfl⟩) rfl (fun _=>rfl) | exact uK (fun env R hR=>by exact ⟨_,uL rfl rfl (uW (te rfl) rfl (hR _ (qT _ (qT _ (qH _)))) rfl),rfl⟩) rfl (fun _=>rfl) | exact uK (fun env R hR=>by exact ⟨_,uL rfl rfl (uW (te rfl) rfl (hR _ (qT _ (qT _ (qT _ (qH _))))) rfl),rfl⟩) rfl (fun _=>rfl)|(exact fun env S hS=>OpF.callV (Z:=[]) (uT rfl (Args.cons rfl (Args.cons rfl (Args.cons rfl Args.nil)))) (hA _ _ _ _ (hB.sub (fun _ h=>hS _ (List.mem_append_right [_,_,_,_] h))) (hC.sub (fun _ h=>hS _ (List.mem_append_right [_,_,_,_] h))) (hS _ (qH _))) rfl rfl)|((refine uK (fun env S hS=>⟨.slice (some ⟨b6,0,none⟩) 6 6,?_,rfl⟩) rfl (fun _=>rfl);exact EvF.sliceArrOf (b:=b6) (off:=0) (len:=6) rfl rfl (te rfl) (te rfl))))))))
 intro env t ha hv
 refine ⟨_,ha.cons (hv 4 7 (Nat.le_of_ble_eq_true rfl) rfl),?_⟩
 refine X.weak (F' := [(2,.pointer (some ⟨b2,0,none⟩)),(4,.pointer (some ⟨b4,0,none⟩)),(7,.int .i64 e)]) (H' := ⟨b4,0,cPr Bz pzb (initG 0),some 91,16⟩::⟨b2,0,cBl B p,some 31,6⟩::H) (by repeat (first | exact uU _ | refine uV rfl ?_)) (by repeat (first | exact qR _ | apply qK | apply qC)) ?_
 by_cases h0 : e = 0
 ·have hbo:=hb h0
  have hg:=gradesOf_len hbo
  repeat' (first | (refine uP rfl ?_;(first | ((first | refine uN rfl ?_);(first | (refine uC (uT rfl (Args.cons rfl Args.nil)) rfl rfl (pressed_spec B p _ hbo.h5 hbo.hd (hB.sub (fun _ h=>by repeat (first | exact h | apply qT)))) ?_;rintro _ H9 ⟨rfl,hH9⟩;subst H9)|(refine Xg.st0 (uZ (i:=0) (vs:=cPr B p (gradesOf B)) rfl rfl rfl (te rfl) rfl (lenPr hg) (onePr _ _ _) (lenPr hg)) rfl ?_;rintro _ _ ⟨rfl,rfl⟩;dsimp only [List.set])|(refine uE (uM rfl rfl) rfl rfl ?_)|(refine uE (uA rfl rfl) rfl rfl ?_)|(refine uE (uQ rfl rfl rfl rfl) rfl rfl ?_)|(refine uE (uL rfl rfl (uW (te rfl) rfl (qT _ (qH _)) rfl)) rfl rfl ?_)))))|(refine uD rfl ?_;refine hK _ _ ?_;clear hK K) | refine uS rfl ?_ | refine uR rfl (fun K hK=>?_) | refine X.skip rfl ?_ | refine X.ret rfl ?_ | (refine X.ite rfl rfl (fun hc=>?_);(first | (with_reducible refine Xb.caseN hc (fun h=>?_) (fun h=>?_))) <;> clear hc))
  all_goals try (exfalso;contradiction)
  exact ret_two (by simp) Tryz.results61 ⟨_,rfl,uW (te rfl) rfl (qH _) (lenPr hg)⟩ rfl (H' := H) (by (repeat (first | exact qR _ | apply qC));done) ⟨.inl ⟨h0,rfl⟩,rfl⟩
 ·repeat' (first | (refine uP rfl ?_;(first | ((first | refine uN rfl ?_);(first | (refine uE (EvF.build (cs:=cPr Bz pzb (initG 0)) rfl ArgsP.nil (te rfl) (Places.cons (te rfl) (Places.cons (te rfl) Places.nil)) Tryz.zeroValue91 rfl) rfl rfl ?_)|(refine Xg.st0 (uZ (i:=0) (vs:=cPr Bz pzb (initG 0)) rfl rfl rfl (te rfl) rfl rfl rfl rfl) rfl ?_;rintro _ _ ⟨rfl,rfl⟩;dsimp only [List.set])|(refine uE (uM rfl rfl) rfl rfl ?_)|(refine uE (uA rfl rfl) rfl rfl ?_)|(refine uE (uQ rfl rfl rfl rfl) rfl rfl ?_)|(refine uE (uL rfl rfl (uW (te rfl) rfl (qT _ (qH _)) rfl)) rfl rfl ?_)))))|(refine uD rfl ?_;refine hK _ _ ?_;clear hK K) | refine uS rfl ?_ | refine uR rfl (fun K hK=>?_) | refine X.skip rfl ?_ | refine X.ret rfl ?_ | (refine X.ite rfl rfl (fun hc=>?_);(first | (with_reducible refine Xb.caseN hc (fun h=>?_) (fun h=>?_))) <;> clear hc))
  all_goals try (exfalso;contradiction)
  exact ret_two (by simp) Tryz.results61 ⟨_,rfl,uW (te rfl) rfl (qH _) rfl⟩ rfl (H' := H) (by (repeat (first | exact qR _ | apply qC));done) ⟨.inr ⟨h0,rfl⟩,rfl⟩
def spIf (b : Prop) [Decidable b] (s : Sp) : Sp:=if b then s else ⟨0,0⟩
theorem ltoldSp_spec (B : Bl) (p : Pb) (g : List Sp) (hg : g.length = 5) (e : Int) (f : Nat) (cap : List Value) (s : Sp) (H : List Row)
  (ht : e = 0 → ∀ H',(∀ r ∈ H,r ∈ H') → Fc Tryz.prog f ([.agg (cPr B p g).toArray]++cap) H' (fun v H'' => v = .agg (cSp s).toArray∧H'' = H')) :
  Fc Tryz.prog 94 [.agg (cPr B p g).toArray,.int .i64 e,.func (.func f) #[] cap.toArray] H (fun v H' => v = .tuple #[.agg (cSp (spIf (e = 0) s)).toArray,.int .i64 e]∧H' = H):=by
 have hlp : (cPr B p g).length = 16:=lenPr hg
 by_cases h0 : e = 0
 ·subst h0
  have e1 : spIf ((0 : Int)=0) s = s:=by unfold spIf;rw [if_pos rfl]
  rw [e1]
  refine Fc.mk (callable Tryz.call94) Tryz.func94 rfl Tryz.ntmps94 rfl ?_;dsimp only [fr]
  repeat' (first | (refine uP rfl ?_;(first | ((first | refine uN rfl ?_);(first | (refine uE (uL rfl rfl (uW (te rfl) rfl (qT _ (qH _)) hlp)) rfl rfl ?_)|(refine uC (EnF.dyn0 rfl rfl (by (repeat (first | exact Args.nil | refine Args.cons rfl ?_));done)) rfl rfl (ht rfl _ (fun _ h=>by repeat (first | exact h | apply qT))) ?_;rintro _ H9 ⟨rfl,hH9⟩;subst H9)|(refine uE (uM rfl rfl) rfl rfl ?_)|(refine uE (uA rfl rfl) rfl rfl ?_)|(refine uE (uQ rfl rfl rfl rfl) rfl rfl ?_)|(refine uE (uL rfl rfl (uW (te rfl) rfl (qH _) rfl)) rfl rfl ?_)|(refine Xg.st (StF.boxAgg rfl rfl) rfl rfl ?_;rintro _ _ ⟨bx,rfl,rfl⟩)|(refine Xg.st (StF.alloc rfl Tryz.zeroValue24 rfl) rfl rfl ?_;rintro _ _ ⟨bx,rfl,rfl⟩)|(refine Xg.st0 (uZ (i:=0) rfl rfl rfl (te rfl) rfl rfl rfl rfl) rfl ?_;rintro _ _ ⟨rfl,rfl⟩;dsimp only [List.set])|(refine Xg.st0 (uZ (i:=1) rfl rfl rfl (te rfl) rfl rfl rfl rfl) rfl ?_;rintro _ _ ⟨rfl,rfl⟩;dsimp only [List.set])))))|(refine uD rfl ?_;refine hK _ _ ?_;clear hK K) | refine uS rfl ?_ | refine uR rfl (fun K hK=>?_) | refine X.skip rfl ?_ | refine X.ret rfl ?_ | (refine X.ite rfl rfl (fun hc=>?_);(first | (with_reducible refine Xb.caseN hc (fun h=>?_) (fun h=>?_))) <;> clear hc))
  all_goals try (exfalso;contradiction)
  exact ret_two (v := .agg (cSp s).toArray) (by simp) Tryz.results94 ⟨_,rfl,uW (te rfl) rfl (qH _) rfl⟩ rfl (H' := H) (by (repeat (first | exact qR _ | apply qC));done) ⟨rfl,rfl⟩
 ·have e1 : spIf (e = 0) s = ⟨0,0⟩:=by unfold spIf;rw [if_neg h0]
  rw [e1]
  refine Fc.mk (callable Tryz.call94) Tryz.func94 rfl Tryz.ntmps94 rfl ?_;dsimp only [fr]
  repeat' (first | (refine uP rfl ?_;(first | ((first | refine uN rfl ?_);(first | (refine uE (uQ (b:=true) rfl rfl rfl (congrArg some (by simp [h0]))) rfl rfl ?_)|(refine uE (uM rfl rfl) rfl rfl ?_)|(refine uE (uA rfl rfl) rfl rfl ?_)|(refine uE (uL rfl rfl (uW (te rfl) rfl (qH _) rfl)) rfl rfl ?_)|(refine Xg.st (StF.boxAgg rfl rfl) rfl rfl ?_;rintro _ _ ⟨bx,rfl,rfl⟩)|(refine Xg.st (StF.alloc rfl Tryz.zeroValue24 rfl) rfl rfl ?_;rintro _ _ ⟨bx,rfl,rfl⟩)|(refine Xg.st0 (uZ (i:=1) rfl rfl rfl (te rfl) rfl rfl rfl rfl) rfl ?_;rintro _ _ ⟨rfl,rfl⟩;dsimp only [List.set])))))|(refine uD rfl ?_;refine hK _ _ ?_;clear hK K) | refine uS rfl ?_ | refine uR rfl (fun K hK=>?_) | refine X.ret rfl ?_ | (refine X.ite rfl rfl (fun hc=>?_);(first | (with_reducible refine Xb.t hc ?_)) <;> clear hc))
  all_goals try (exfalso;contradiction)
  exact ret_two (v := .agg (cSp ⟨0,0⟩).toArray) (by simp) Tryz.results94 ⟨_,rfl,uW (te rfl) rfl (qT _ (qH _)) rfl⟩ rfl (H' := H) (by (repeat (first | exact qR _ | apply qC));done) ⟨rfl,rfl⟩
set_option maxHeartbeats 4000000 in
theorem toldSp_spec (B : Bl) (p : Pb) (C : Ca) (q : Pc) (f : Nat) (cap : List Value) (s : Sp) (H : List Row) (hB : BlOk H B p) (hC : CaOk H C q)
  (ht : openE B C = 0 → ∀ H',(∀ r ∈ H,r ∈ H') → Fc Tryz.prog f ([.agg (cPr B p (gradesOf B)).toArray]++cap) H' (fun v H'' => v = .agg (cSp s).toArray∧H'' = H')) :
  Fc Tryz.prog 50 [.agg (cBl B p).toArray,.agg (cCa C q).toArray,.func (.func f) #[] cap.toArray] H (fun v H' => v = .tuple #[.agg (cSp (spIf (openE B C = 0) s)).toArray,.int .i64 (openE B C)]∧H' = H):=by
 have hb : openE B C = 0 → (gradesOf B).length = 5:=fun h=>by
  refine gradesOf_len ?_
  unfold openE at h
  split at h
  ·assumption
  ·omega
 obtain ⟨BX,pX,gX,hgX,hXe,hop⟩ : ∃ (BX : Bl) (pX : Pb) (gX : List Sp),gX.length = 5∧(openE B C = 0 → BX = B∧pX = p∧gX = gradesOf B) ∧ ∀ H',BlOk H' B p → CaOk H' C q → Fc Tryz.prog 61 [.agg (cBl B p).toArray,.agg (cCa C q).toArray] H' (fun v H'' => v = .tuple #[.agg (cPr BX pX gX).toArray,.int .i64 (openE B C)]∧H'' = H'):=by
  by_cases h : openE B C = 0
  ·refine ⟨B,p,gradesOf B,hb h,fun _=>⟨rfl,rfl,rfl⟩,fun H' h1 h2=>(open_spec B p C q H' h1 h2).mono fun v H'' ⟨q1,q2⟩=>⟨?_,q2⟩⟩
   rcases q1 with ⟨_,q1⟩ | ⟨q0,_⟩
   ·rw [q1,h]
   ·exact absurd h q0
  ·refine ⟨Bz,pzb,initG 0,rfl,fun h0=>absurd h0 h,fun H' h1 h2=>(open_spec B p C q H' h1 h2).mono fun v H'' ⟨q1,q2⟩=>⟨?_,q2⟩⟩
   rcases q1 with ⟨q0,_⟩ | ⟨_,q1⟩
   ·exact absurd q0 h
   ·exact q1
 have hlp : (cPr BX pX gX).length = 16:=lenPr hgX
 have hl : ∀ H',(∀ r ∈ H,r ∈ H') → Fc Tryz.prog 94 [.agg (cPr BX pX gX).toArray,.int .i64 (openE B C),.func (.func f) #[] cap.toArray] H' (fun v H'' => v = .tuple #[.agg (cSp (spIf (openE B C = 0) s)).toArray,.int .i64 (openE B C)]∧H'' = H'):=fun H' h=>ltoldSp_spec BX pX gX hgX _ f cap s H' (fun h0 H'' h2=>by obtain ⟨rfl,rfl,rfl⟩:=hXe h0;exact ht h0 H'' (fun r hr=>h2 r (h r hr)))
 obtain ⟨rr,hrr⟩ : ∃ x,spIf (openE B C = 0) s = x:=⟨_,rfl⟩
 rw [hrr] at hl ⊢
 obtain ⟨er,her⟩ : ∃ e,openE B C = e:=⟨_,rfl⟩
 rw [her] at hl hop ⊢
 refine Fc.mk (callable Tryz.call50) Tryz.func50 rfl Tryz.ntmps50 rfl ?_;dsimp only [fr]
 repeat' (first | (refine uP rfl ?_;(first | ((first | refine uN rfl ?_);(first | (refine uC (uT rfl (Args.cons rfl (Args.cons rfl Args.nil))) rfl rfl (hop _ (hB.sub (fun _ h=>by repeat (first | exact h | apply qT))) (hC.sub (fun _ h=>by repeat (first | exact h | apply qT)))) ?_;rintro _ H9 ⟨rfl,hH9⟩;subst H9)|(refine uC (uT rfl (Args.cons rfl (Args.cons rfl (Args.cons rfl Args.nil)))) rfl rfl (hl _ (fun _ h=>by repeat (first | exact h | apply qT))) ?_;rintro _ H9 ⟨rfl,hH9⟩;subst H9)|(refine Xg.st0 (uZ (i:=0) (vs:=cPr BX pX gX) rfl rfl rfl (te rfl) rfl hlp (onePr _ _ _) hlp) rfl ?_;rintro _ _ ⟨rfl,rfl⟩;dsimp only [List.set])|(refine uE (uL rfl rfl (uW (te rfl) rfl (qH _) hlp)) rfl rfl ?_)|(refine uE (uM rfl rfl) rfl rfl ?_)|(refine uE (uA rfl rfl) rfl rfl ?_)|(refine uE (uL rfl rfl (uW (te rfl) rfl (qT _ (qH _)) rfl)) rfl rfl ?_)|(refine uE (uL rfl rfl (uW (te rfl) rfl (qT _ (qT _ (qH _))) rfl)) rfl rfl ?_)|(refine uE (uX rfl rfl rfl) rfl rfl ?_)|(refine Xg.st (StF.boxAgg rfl rfl) rfl rfl ?_;rintro _ _ ⟨bx,rfl,rfl⟩)|(refine Xg.st (StF.alloc rfl Tryz.zeroValue24 rfl) rfl rfl ?_;rintro _ _ ⟨bx,rfl,rfl⟩)|(refine Xg.st (StF.alloc rfl Tryz.zeroValue91 rfl) rfl rfl ?_;rintro _ _ ⟨bx,rfl,rfl⟩)|(refine Xg.st0 (uZ (i:=1) rfl rfl rfl (te rfl) rfl rfl rfl rfl) rfl ?_;rintro _ _ ⟨rfl,rfl⟩;dsimp only [List.set])))))|(refine uD rfl ?_;refine hK _ _ ?_;clear hK K) | refine uS rfl ?_ | refine uR rfl (fun K hK=>?_) | refine X.ret rfl ?_)
 exact ret_two (v := .agg (cSp rr).toArray) (by simp) Tryz.results50 ⟨_,rfl,uW (te rfl) rfl (qT _ (qH _)) rfl⟩ rfl (H' := H) (by (repeat (first | exact qR _ | apply qC));done) ⟨rfl,rfl⟩
theorem layer1_spec (B : Bl) (p : Pb) (g : List Sp) (i : Int) (b : Nat) (ow : Option Kd) (cap : Nat) (H : List Row) (hi : 0 ≤ i∧i < 5) (hg : g.length = 5) (hm : ⟨b,0,[.int .i64 i],ow,cap⟩ ∈ H) :
  Fc Tryz.prog 51 ([.agg (cPr B p g).toArray]++[.pointer (some ⟨b,0,none⟩)]) H (fun v H' => v = .agg (cSp (spAt g i.toNat)).toArray∧H' = H):=by
 show Fc Tryz.prog 51 [.agg (cPr B p g).toArray,.pointer (some ⟨b,0,none⟩)] H _
 have hgi : (g.take 5)[i.toNat]? = some (spAt g i.toNat):=by rw [List.getElem?_take,if_pos (by omega)];exact spAt_get (by omega)
 refine Fc.mk (callable Tryz.call51) Tryz.func51 rfl Tryz.ntmps51 rfl ?_;dsimp only [fr]
 repeat' (first | (refine uP rfl ?_;(first | ((first | refine uN rfl ?_);(first | (refine uE (uL rfl rfl (uO (te rfl) rfl (qT _ (qT _ hm)) rfl)) rfl rfl ?_)|(refine uE (EvF.indexArray rfl rfl rfl (te rfl) (te rfl) (by omega) (by omega)) rfl rfl ?_)|(refine uE (uL rfl rfl (LoadV.elA0 (slePr (qT _ (qH _))) hgi (te rfl) rfl (fun _ h=>h) rfl)) rfl rfl ?_)|(refine uE (uF rfl rfl (te rfl) rfl (te rfl) (by decide)) rfl rfl ?_)|(refine Xg.st (StF.boxAgg rfl rfl) rfl rfl ?_;rintro _ _ ⟨bx,rfl,rfl⟩)|(refine Xg.st (StF.alloc rfl Tryz.zeroValue24 rfl) rfl rfl ?_;rintro _ _ ⟨bx,rfl,rfl⟩)|(refine Xg.st0 (uZ (i:=0) rfl rfl rfl (te rfl) rfl rfl rfl rfl) rfl ?_;rintro _ _ ⟨rfl,rfl⟩;dsimp only [List.set])))))|(refine uD rfl ?_;refine hK _ _ ?_;clear hK K) | refine uS rfl ?_ | refine uR rfl (fun K hK=>?_) | refine X.ret rfl ?_)
 exact ret_one (by simp) Tryz.results51 ⟨_,rfl,uW (te rfl) rfl (qH _) rfl⟩ (H' := H) (by (repeat (first | exact qR _ | apply qC));done) ⟨rfl,rfl⟩
def ts29 : List TOp:=[⟨some 14,[],[],[]⟩,⟨some 15,[0],[0],[]⟩,⟨some 16,[],[],[]⟩,⟨some 17,[],[],[]⟩,⟨some 18,[2,3],[3,2],[]⟩,⟨some 19,[2,3,4],[4],[]⟩,⟨some 20,[2,3,4,5],[5],[]⟩,⟨some 21,[0,1,2,3,4,5,6],[1,6],[]⟩,⟨some 22,[],[],[]⟩,⟨some 23,[8],[8],[]⟩,⟨some 24,[],[],[]⟩,⟨some 25,[],[],[]⟩,⟨some 26,[10,11],[11,10],[]⟩,⟨some 27,[10,11,12],[12],[]⟩,⟨some 28,[10,11,12,13],[13],[]⟩,⟨some 29,[8,9,10,11,12,13,14],[9,14],[]⟩,⟨some 30,[0,1,2,3,4,5,6,7,8,9],[],[]⟩,⟨none,[0,1,2,3,4,5,6,7,8,9,16],[16,7],[20]⟩,⟨some 31,[0,1,2,3,4,5,6,7,8,9,10,11,12,13,14,15,16,17],[],[]⟩,⟨none,[0,1,2,3,4,5,6,7,8,9,10,11,12,13,14,15,16,17,18],[18,15],[17]⟩,⟨none,[],[],[]⟩]
def rd29 (k : Nat) : List Nat:=match k with
 | 1=>[20]
 | 9=>[20]
 | _=>[]
def rows29 (bs : Nat) (s : Sp) (a b : Int) (k : Nat) (_ : Env) : List Row :=
 match k with
 | 17=>[⟨bs,0,cSp ⟨a,s.hi⟩,some 24,2⟩]
 | 19=>[⟨bs,0,cSp ⟨a,b⟩,some 24,2⟩]
 | 20=>[⟨bs,0,cSp s,some 24,2⟩]
 | _=>[]
def bestF (g : List Sp) (s : Sp) : Sp:=g.foldl (fun s x=>⟨min s.lo x.lo,min s.hi x.hi⟩) s
set_option maxHeartbeats 4000000 in
theorem best1_spec (B : Bl) (p : Pb) (g : List Sp) (H : List Row) (h5 : 1 ≤ B.layers∧B.layers ≤ 5) (hg : g.length = 5) :
  Fc Tryz.prog 83 ([.agg (cPr B p g).toArray]++[]) H (fun v H' => v = .agg (cSp (bestF (g.take B.layers.toNat) (spAt g 0))).toArray∧H' = H):=by
 show Fc Tryz.prog 83 [.agg (cPr B p g).toArray] H _
 have hgi : (g.take 5)[0]? = some (spAt g 0):=by rw [List.getElem?_take,if_pos (by omega)];exact spAt_get (by omega)
 refine Fc.mk (callable Tryz.call83) Tryz.func83 rfl Tryz.ntmps83 rfl ?_;dsimp only [fr]
 repeat' (first | (refine uP rfl ?_;(first | ((first | refine uN rfl ?_);(first | (refine uE (EvF.indexArray rfl rfl rfl (te rfl) (te rfl) (by omega) (by omega)) rfl rfl ?_)|(refine uE (uL rfl rfl (LoadV.elA0 (n:=0) (slePr (qT _ (qH _))) hgi (te rfl) rfl (fun _ h=>h) rfl)) rfl rfl ?_)|(refine uE (uM rfl rfl) rfl rfl ?_)|(refine uE (uF rfl rfl (te rfl) rfl (te rfl) (by decide)) rfl rfl ?_)|(refine uE (uL rfl rfl (uO (te rfl) rfl (qT _ (qT _ (qH _))) rfl)) rfl rfl ?_)|(refine Xg.st (StF.boxAgg rfl rfl) rfl rfl ?_;rintro _ _ ⟨bx,rfl,rfl⟩)|(refine Xg.st (StF.alloc rfl Tryz.zeroValue24 rfl) rfl rfl ?_;rintro _ _ ⟨bx,rfl,rfl⟩)|(refine Xg.st0 (uZ (i:=0) rfl rfl rfl (te rfl) rfl rfl rfl rfl) rfl ?_;rintro _ _ ⟨rfl,rfl⟩;dsimp only [List.set])))))|(refine uD rfl ?_;refine hK _ _ ?_;clear hK K) | refine uS rfl ?_ | refine uR rfl (fun K hK=>?_) | refine X.block rfl ?_)
 rename_i bp b2;rename Nat=>bs
 refine X.lp rfl (fun m F' H' => ∃ k : Nat,m = B.layers.toNat - k∧k ≤ B.layers.toNat∧H' = ⟨bs,0,cSp (bestF (g.take k) (spAt g 0)),some 24,2⟩::⟨b2,0,cSp ⟨0,0⟩,some 24,2⟩::⟨bp,0,cPr B p g,some 91,16⟩::H ∧
   F' = [(1,.pointer (some ⟨bp,0,none⟩)),(2,.pointer (some ⟨b2,0,none⟩)),(3,.pointer (some ⟨bs,0,none⟩)),(10,.int .i64 B.layers),(11,.int .i64 k)])
  B.layers.toNat [(1,.pointer (some ⟨bp,0,none⟩)),(2,.pointer (some ⟨b2,0,none⟩)),(3,.pointer (some ⟨bs,0,none⟩)),(10,.int .i64 B.layers),(11,.int .i64 (0 : Nat))] (⟨bs,0,cSp (spAt g 0),some 24,2⟩::⟨b2,0,cSp ⟨0,0⟩,some 24,2⟩::⟨bp,0,cPr B p g,some 91,16⟩::H) (by repeat (first | exact uU _ | refine uV rfl ?_)) (by rw [← lenPr (B:=B) (p:=p) hg];exact qR _) ⟨0,by omega,by omega,rfl,rfl⟩ ?_
 rintro _ _ _ ⟨k,rfl,hk,rfl,rfl⟩
 obtain ⟨s,hsE⟩ : ∃ s,bestF (g.take k) (spAt g 0)=s:=⟨_,rfl⟩
 rw [hsE]
 repeat' (first | (refine uP rfl ?_;(first | ((first | refine uN rfl ?_);(first | (refine uE (uM rfl rfl) rfl rfl ?_)|(refine uE (uA rfl rfl) rfl rfl ?_)|(refine uE (uQ rfl rfl rfl rfl) rfl rfl ?_)|(refine uE (uL rfl rfl (uW (te rfl) rfl (qH _) rfl)) rfl rfl ?_)|(refine Xg.st0 (uZ (i:=1) rfl rfl rfl (te rfl) rfl rfl rfl rfl) rfl ?_;rintro _ _ ⟨rfl,rfl⟩;dsimp only [List.set])))))|(refine uD rfl ?_;refine hK _ _ ?_;clear hK K) | refine uS rfl ?_ | refine uR rfl (fun K hK=>?_) | refine X.block rfl ?_ | (refine X.brk rfl ?_;repeat (first | refine blockX_hit rfl ?_ | refine blockX_miss (by decide) ?_)) | refine X.skip rfl ?_ | refine X.ret rfl ?_ | (refine X.ite rfl rfl (fun hc=>?_);(first | (with_reducible refine Xb.case hc (fun h=>?_) (fun h=>?_))) <;> clear hc))
 ·have hkg : k < g.length:=by omega
  have e1 : bestF (g.take (k + 1)) (spAt g 0) = ⟨min s.lo (spAt g k).lo,min s.hi (spAt g k).hi⟩:=by unfold bestF;rw [take_snoc (spAt_get hkg),List.foldl_append];unfold bestF at hsE;rw [hsE];rfl
  refine X.regionRd ts29 rd29 [3,4,1,2,10,11] [(3,.pointer (some ⟨bs,0,none⟩)),(4,.int .i64 k),(1,.pointer (some ⟨bp,0,none⟩)),(2,.pointer (some ⟨b2,0,none⟩)),(10,.int .i64 B.layers),(11,.int .i64 k)]
   (valL [.pointer (some ⟨bs,0 + 0,none⟩),.int .i64 s.lo,.int .i64 k,.pointer (some ⟨bp,0 + 6,none⟩),.pointer (some ⟨bp,6 + k * 2,none⟩),.pointer (some ⟨bp,6 + k * 2 + 0,none⟩),.int .i64 (spAt g k).lo,.int .i64 (min s.lo (spAt g k).lo),
    .pointer (some ⟨bs,0 + 1,none⟩),.int .i64 s.hi,.int .i64 k,.pointer (some ⟨bp,0 + 6,none⟩),.pointer (some ⟨bp,6 + k * 2,none⟩),.pointer (some ⟨bp,6 + k * 2 + 1,none⟩),.int .i64 (spAt g k).hi,.int .i64 (min s.hi (spAt g k).hi),.pointer (some ⟨bs,0 + 0,none⟩),undef,.pointer (some ⟨bs,0 + 1,none⟩)])
   (rows29 bs s (min s.lo (spAt g k).lo) (min s.hi (spAt g k).hi)) (fun _=>(0,0)) (⟨b2,0,cSp ⟨0,0⟩,some 24,2⟩::⟨bp,0,cPr B p g,some 91,16⟩::H) rfl mixed (by repeat (first | exact uU _ | refine uV rfl ?_)) rfl (by kernel_rfl) (by kernel_rfl) (fun _ _ _ _ _ _=>⟨rfl,rfl⟩) (qR _) ?_ ?_
  ·repeat' (first | exact AllF.done rfl | (refine AllF.step rfl ?_ ?_;·(first | exact (Ob.ng rfl (uK (fun env R hR=>by exact ⟨_,uM rfl rfl,rfl⟩) rfl (fun _=>rfl))).toR | exact (Ob.ng rfl (uK (fun env R hR=>by exact ⟨_,uF rfl rfl (te rfl) rfl (te rfl) (by decide),rfl⟩) rfl (fun _=>rfl))).toR | (refine ObR.ng rfl ?_;(first | (exact fun env S hS hrd=>(StF.ofEv (EvF.min64 rfl rfl rfl)).op.mono (fun v H' ⟨hv,hH⟩=>⟨(0,0),fun _=>hv,by rw [hH];exact List.Perm.refl _⟩))|(exact fun env S hS hrd=>(StF.ofEv (uL rfl rfl (uO (te rfl) rfl (hrd 20 (qH _) _ (qH _)) rfl))).op.mono (fun v H' ⟨hv,hH⟩=>⟨(0,0),fun _=>hv,by rw [hH];exact List.Perm.refl _⟩))|(exact fun env S hS hrd=>(StF.ofEv (uL rfl rfl (uO (te rfl) rfl (hS _ (qT _ (qH _))) (getPr (j:=0) (spAt_get hkg) rfl)))).op.mono (fun v H' ⟨hv,hH⟩=>⟨(0,0),fun _=>hv,by rw [hH];exact List.Perm.refl _⟩))|(exact fun env S hS hrd=>(StF.ofEv (uL rfl rfl (uO (te rfl) rfl (hS _ (qT _ (qH _))) (getPr (j:=1) (spAt_get hkg) rfl)))).op.mono (fun v H' ⟨hv,hH⟩=>⟨(0,0),fun _=>hv,by rw [hH];exact List.Perm.refl _⟩))|(exact fun env S hS hrd=>(StF.storeOne (i:=0) (cs:=cSp s) rfl rfl rfl rfl (te rfl) rfl rfl (Nat.le_of_ble_eq_true rfl)).op.mono (fun v H' ⟨hv,hH⟩=>⟨(0,0),fun h=>absurd rfl h,by rw [hH];exact List.Perm.refl _⟩))|(exact fun env S hS hrd=>(StF.storeOne (i:=0) (cs:=cSp ⟨min s.lo (spAt g k).lo,s.hi⟩) rfl rfl rfl rfl (te rfl) rfl rfl (Nat.le_of_ble_eq_true rfl)).op.mono (fun v H' ⟨hv,hH⟩=>⟨(0,0),fun h=>absurd rfl h,by rw [hH];exact List.Perm.refl _⟩))|((refine fun env S hS hrd=>(StF.ofEv (v := .pointer (some ⟨bp,6 + k * 2,none⟩)) ?_).op.mono (fun v H' ⟨hv,hH⟩=>⟨(0,0),fun _=>hv,by rw [hH];exact List.Perm.refl _⟩);refine EvF.indexArray (i:=(k : Int)) (off:=0 + 6) (b:=bp) (T:=89) (e:=24) (len:=5) (ti:=⟨.st [(0,3),(1,3)],2,16⟩) rfl rfl rfl (te rfl) (te rfl) ?_ ?_ <;> omega)))))))
  ·intro env t ha hv
   refine ⟨_,ha,?_⟩
   show X _ _ _ _ (⟨bs,0,cSp ⟨min s.lo (spAt g k).lo,min s.hi (spAt g k).hi⟩,some 24,2⟩::⟨b2,0,cSp ⟨0,0⟩,some 24,2⟩::⟨bp,0,cPr B p g,some 91,16⟩::H) _
   repeat' (first | (refine uP rfl ?_;(first | ((first | refine uN rfl ?_);(first | (refine uE (uM rfl rfl) rfl rfl ?_)|(refine uE (EvF.add64 rfl rfl rfl (by omega) (by omega)) rfl rfl ?_)))))|(refine uD rfl ?_;refine hK _ _ ?_;clear hK K) | refine uR rfl (fun K hK=>?_))
   rw [← e1]
   exact ⟨_,_,_,(by repeat (first | exact uU _ | refine uV rfl ?_)),qR _,⟨k + 1,rfl,by omega,rfl,rfl⟩,by omega⟩
 ·obtain rfl : k = B.layers.toNat:=by omega
  repeat' (first | (refine uP rfl ?_;(first | ((first | refine uN rfl ?_);(first | (refine uE (uM rfl rfl) rfl rfl ?_)|(refine uE (EvF.add64 rfl rfl rfl (by omega) (by omega)) rfl rfl ?_)))))|(refine uD rfl ?_;refine hK _ _ ?_;clear hK K) | refine uR rfl (fun K hK=>?_))
  exact ret_one (by simp) Tryz.results83 ⟨_,rfl,uW (te rfl) rfl (qT _ (qH _)) rfl⟩ (H' := H) (by (repeat (first | exact qR _ | apply qC));done) ⟨by rw [hsE],rfl⟩
def worstF (g : List Sp) (s : Sp) : Sp:=g.foldl (fun s x=>⟨max s.lo x.lo,max s.hi x.hi⟩) s
set_option maxHeartbeats 4000000 in
theorem worst1_spec (B : Bl) (p : Pb) (g : List Sp) (H : List Row) (h5 : 1 ≤ B.layers∧B.layers ≤ 5) (hg : g.length = 5) :
  Fc Tryz.prog 84 ([.agg (cPr B p g).toArray]++[]) H (fun v H' => v = .agg (cSp (worstF (g.take B.layers.toNat) (spAt g 0))).toArray∧H' = H):=by
 show Fc Tryz.prog 84 [.agg (cPr B p g).toArray] H _
 have hgi : (g.take 5)[0]? = some (spAt g 0):=by rw [List.getElem?_take,if_pos (by omega)];exact spAt_get (by omega)
 refine Fc.mk (callable Tryz.call84) Tryz.func84 rfl Tryz.ntmps84 rfl ?_;dsimp only [fr]
 repeat' (first | (refine uP rfl ?_;(first | ((first | refine uN rfl ?_);(first | (refine uE (EvF.indexArray rfl rfl rfl (te rfl) (te rfl) (by omega) (by omega)) rfl rfl ?_)|(refine uE (uL rfl rfl (LoadV.elA0 (n:=0) (slePr (qT _ (qH _))) hgi (te rfl) rfl (fun _ h=>h) rfl)) rfl rfl ?_)|(refine uE (uM rfl rfl) rfl rfl ?_)|(refine uE (uF rfl rfl (te rfl) rfl (te rfl) (by decide)) rfl rfl ?_)|(refine uE (uL rfl rfl (uO (te rfl) rfl (qT _ (qT _ (qH _))) rfl)) rfl rfl ?_)|(refine Xg.st (StF.boxAgg rfl rfl) rfl rfl ?_;rintro _ _ ⟨bx,rfl,rfl⟩)|(refine Xg.st (StF.alloc rfl Tryz.zeroValue24 rfl) rfl rfl ?_;rintro _ _ ⟨bx,rfl,rfl⟩)|(refine Xg.st0 (uZ (i:=0) rfl rfl rfl (te rfl) rfl rfl rfl rfl) rfl ?_;rintro _ _ ⟨rfl,rfl⟩;dsimp only [List.set])))))|(refine uD rfl ?_;refine hK _ _ ?_;clear hK K) | refine uS rfl ?_ | refine uR rfl (fun K hK=>?_) | refine X.block rfl ?_)
 rename_i bp b2;rename Nat=>bs
 refine X.lp rfl (fun m F' H' => ∃ k : Nat,m = B.layers.toNat - k∧k ≤ B.layers.toNat∧H' = ⟨bs,0,cSp (worstF (g.take k) (spAt g 0)),some 24,2⟩::⟨b2,0,cSp ⟨0,0⟩,some 24,2⟩::⟨bp,0,cPr B p g,some 91,16⟩::H ∧
   F' = [(1,.pointer (some ⟨bp,0,none⟩)),(2,.pointer (some ⟨b2,0,none⟩)),(3,.pointer (some ⟨bs,0,none⟩)),(10,.int .i64 B.layers),(11,.int .i64 k)])
  B.layers.toNat [(1,.pointer (some ⟨bp,0,none⟩)),(2,.pointer (some ⟨b2,0,none⟩)),(3,.pointer (some ⟨bs,0,none⟩)),(10,.int .i64 B.layers),(11,.int .i64 (0 : Nat))] (⟨bs,0,cSp (spAt g 0),some 24,2⟩::⟨b2,0,cSp ⟨0,0⟩,some 24,2⟩::⟨bp,0,cPr B p g,some 91,16⟩::H) (by repeat (first | exact uU _ | refine uV rfl ?_)) (by rw [← lenPr (B:=B) (p:=p) hg];exact qR _) ⟨0,by omega,by omega,rfl,rfl⟩ ?_
 rintro _ _ _ ⟨k,rfl,hk,rfl,rfl⟩
 obtain ⟨s,hsE⟩ : ∃ s,worstF (g.take k) (spAt g 0)=s:=⟨_,rfl⟩
 rw [hsE]
 repeat' (first | (refine uP rfl ?_;(first | ((first | refine uN rfl ?_);(first | (refine uE (uM rfl rfl) rfl rfl ?_)|(refine uE (uA rfl rfl) rfl rfl ?_)|(refine uE (uQ rfl rfl rfl rfl) rfl rfl ?_)|(refine uE (uL rfl rfl (uW (te rfl) rfl (qH _) rfl)) rfl rfl ?_)|(refine Xg.st0 (uZ (i:=1) rfl rfl rfl (te rfl) rfl rfl rfl rfl) rfl ?_;rintro _ _ ⟨rfl,rfl⟩;dsimp only [List.set])))))|(refine uD rfl ?_;refine hK _ _ ?_;clear hK K) | refine uS rfl ?_ | refine uR rfl (fun K hK=>?_) | refine X.block rfl ?_ | (refine X.brk rfl ?_;repeat (first | refine blockX_hit rfl ?_ | refine blockX_miss (by decide) ?_)) | refine X.skip rfl ?_ | refine X.ret rfl ?_ | (refine X.ite rfl rfl (fun hc=>?_);(first | (with_reducible refine Xb.case hc (fun h=>?_) (fun h=>?_))) <;> clear hc))
 ·have hkg : k < g.length:=by omega
  have e1 : worstF (g.take (k + 1)) (spAt g 0) = ⟨max s.lo (spAt g k).lo,max s.hi (spAt g k).hi⟩:=by unfold worstF;rw [take_snoc (spAt_get hkg),List.foldl_append];unfold worstF at hsE;rw [hsE];rfl
  refine X.regionRd ts29 rd29 [3,4,1,2,10,11] [(3,.pointer (some ⟨bs,0,none⟩)),(4,.int .i64 k),(1,.pointer (some ⟨bp,0,none⟩)),(2,.pointer (some ⟨b2,0,none⟩)),(10,.int .i64 B.layers),(11,.int .i64 k)]
   (valL [.pointer (some ⟨bs,0 + 0,none⟩),.int .i64 s.lo,.int .i64 k,.pointer (some ⟨bp,0 + 6,none⟩),.pointer (some ⟨bp,6 + k * 2,none⟩),.pointer (some ⟨bp,6 + k * 2 + 0,none⟩),.int .i64 (spAt g k).lo,.int .i64 (max s.lo (spAt g k).lo),
    .pointer (some ⟨bs,0 + 1,none⟩),.int .i64 s.hi,.int .i64 k,.pointer (some ⟨bp,0 + 6,none⟩),.pointer (some ⟨bp,6 + k * 2,none⟩),.pointer (some ⟨bp,6 + k * 2 + 1,none⟩),.int .i64 (spAt g k).hi,.int .i64 (max s.hi (spAt g k).hi),.pointer (some ⟨bs,0 + 0,none⟩),undef,.pointer (some ⟨bs,0 + 1,none⟩)])
   (rows29 bs s (max s.lo (spAt g k).lo) (max s.hi (spAt g k).hi)) (fun _=>(0,0)) (⟨b2,0,cSp ⟨0,0⟩,some 24,2⟩::⟨bp,0,cPr B p g,some 91,16⟩::H) rfl mixed (by repeat (first | exact uU _ | refine uV rfl ?_)) rfl (by kernel_rfl) (by kernel_rfl) (fun _ _ _ _ _ _=>⟨rfl,rfl⟩) (qR _) ?_ ?_
  ·repeat' (first | exact AllF.done rfl | (refine AllF.step rfl ?_ ?_;·(first | exact (Ob.ng rfl (uK (fun env R hR=>by exact ⟨_,uM rfl rfl,rfl⟩) rfl (fun _=>rfl))).toR | exact (Ob.ng rfl (uK (fun env R hR=>by exact ⟨_,uF rfl rfl (te rfl) rfl (te rfl) (by decide),rfl⟩) rfl (fun _=>rfl))).toR | (refine ObR.ng rfl ?_;(first | (exact fun env S hS hrd=>(StF.ofEv (EvF.max64 rfl rfl rfl)).op.mono (fun v H' ⟨hv,hH⟩=>⟨(0,0),fun _=>hv,by rw [hH];exact List.Perm.refl _⟩))|(exact fun env S hS hrd=>(StF.ofEv (uL rfl rfl (uO (te rfl) rfl (hrd 20 (qH _) _ (qH _)) rfl))).op.mono (fun v H' ⟨hv,hH⟩=>⟨(0,0),fun _=>hv,by rw [hH];exact List.Perm.refl _⟩))|(exact fun env S hS hrd=>(StF.ofEv (uL rfl rfl (uO (te rfl) rfl (hS _ (qT _ (qH _))) (getPr (j:=0) (spAt_get hkg) rfl)))).op.mono (fun v H' ⟨hv,hH⟩=>⟨(0,0),fun _=>hv,by rw [hH];exact List.Perm.refl _⟩))|(exact fun env S hS hrd=>(StF.ofEv (uL rfl rfl (uO (te rfl) rfl (hS _ (qT _ (qH _))) (getPr (j:=1) (spAt_get hkg) rfl)))).op.mono (fun v H' ⟨hv,hH⟩=>⟨(0,0),fun _=>hv,by rw [hH];exact List.Perm.refl _⟩))|(exact fun env S hS hrd=>(StF.storeOne (i:=0) (cs:=cSp s) rfl rfl rfl rfl (te rfl) rfl rfl (Nat.le_of_ble_eq_true rfl)).op.mono (fun v H' ⟨hv,hH⟩=>⟨(0,0),fun h=>absurd rfl h,by rw [hH];exact List.Perm.refl _⟩))|(exact fun env S hS hrd=>(StF.storeOne (i:=0) (cs:=cSp ⟨max s.lo (spAt g k).lo,s.hi⟩) rfl rfl rfl rfl (te rfl) rfl rfl (Nat.le_of_ble_eq_true rfl)).op.mono (fun v H' ⟨hv,hH⟩=>⟨(0,0),fun h=>absurd rfl h,by rw [hH];exact List.Perm.refl _⟩))|((refine fun env S hS hrd=>(StF.ofEv (v := .pointer (some ⟨bp,6 + k * 2,none⟩)) ?_).op.mono (fun v H' ⟨hv,hH⟩=>⟨(0,0),fun _=>hv,by rw [hH];exact List.Perm.refl _⟩);refine EvF.indexArray (i:=(k : Int)) (off:=0 + 6) (b:=bp) (T:=89) (e:=24) (len:=5) (ti:=⟨.st [(0,3),(1,3)],2,16⟩) rfl rfl rfl (te rfl) (te rfl) ?_ ?_ <;> omega)))))))
  ·intro env t ha hv
   refine ⟨_,ha,?_⟩
   show X _ _ _ _ (⟨bs,0,cSp ⟨max s.lo (spAt g k).lo,max s.hi (spAt g k).hi⟩,some 24,2⟩::⟨b2,0,cSp ⟨0,0⟩,some 24,2⟩::⟨bp,0,cPr B p g,some 91,16⟩::H) _
   repeat' (first | (refine uP rfl ?_;(first | ((first | refine uN rfl ?_);(first | (refine uE (uM rfl rfl) rfl rfl ?_)|(refine uE (EvF.add64 rfl rfl rfl (by omega) (by omega)) rfl rfl ?_)))))|(refine uD rfl ?_;refine hK _ _ ?_;clear hK K) | refine uR rfl (fun K hK=>?_))
   rw [← e1]
   exact ⟨_,_,_,(by repeat (first | exact uU _ | refine uV rfl ?_)),qR _,⟨k + 1,rfl,by omega,rfl,rfl⟩,by omega⟩
 ·obtain rfl : k = B.layers.toNat:=by omega
  repeat' (first | (refine uP rfl ?_;(first | ((first | refine uN rfl ?_);(first | (refine uE (uM rfl rfl) rfl rfl ?_)|(refine uE (EvF.add64 rfl rfl rfl (by omega) (by omega)) rfl rfl ?_)))))|(refine uD rfl ?_;refine hK _ _ ?_;clear hK K) | refine uR rfl (fun K hK=>?_))
  exact ret_one (by simp) Tryz.results84 ⟨_,rfl,uW (te rfl) rfl (qT _ (qH _)) rfl⟩ (H' := H) (by (repeat (first | exact qR _ | apply qC));done) ⟨by rw [hsE],rfl⟩
open Classical in
noncomputable def uIf (b : Prop) (s : Int) : Int:=if b then s else 0
theorem ltoldU_spec (B : Bl) (p : Pb) (g : List Sp) (hg : g.length = 5) (e : Int) (f : Nat) (cap : List Value) (s : Int) (H : List Row)
  (ht : e = 0 → ∀ H',(∀ r ∈ H,r ∈ H') → Fc Tryz.prog f ([.agg (cPr B p g).toArray]++cap) H' (fun v H'' => v = .int .u8 s∧H'' = H')) :
  Fc Tryz.prog 97 [.agg (cPr B p g).toArray,.int .i64 e,.func (.func f) #[] cap.toArray] H (fun v H' => v = .tuple #[.int .u8 (uIf (e = 0) s),.int .i64 e]∧H' = H):=by
 have hlp : (cPr B p g).length = 16:=lenPr hg
 by_cases h0 : e = 0
 ·subst h0
  have e1 : uIf ((0 : Int)=0) s = s:=by unfold uIf;rw [if_pos rfl]
  rw [e1]
  refine Fc.mk (callable Tryz.call97) Tryz.func97 rfl Tryz.ntmps97 rfl ?_;dsimp only [fr]
  repeat' (first | (refine uP rfl ?_;(first | ((first | refine uN rfl ?_);(first | (refine uE (uL rfl rfl (uW (te rfl) rfl (qH _) hlp)) rfl rfl ?_)|(refine uC (EnF.dyn0 rfl rfl (by (repeat (first | exact Args.nil | refine Args.cons rfl ?_));done)) rfl rfl (ht rfl _ (fun _ h=>by repeat (first | exact h | apply qT))) ?_;rintro _ H9 ⟨rfl,hH9⟩;subst H9)|(refine uE (uM rfl rfl) rfl rfl ?_)|(refine uE (uA rfl rfl) rfl rfl ?_)|(refine uE (uQ rfl rfl rfl rfl) rfl rfl ?_)|(refine Xg.st (StF.boxAgg rfl rfl) rfl rfl ?_;rintro _ _ ⟨bx,rfl,rfl⟩)))))|(refine uD rfl ?_;refine hK _ _ ?_;clear hK K) | refine uS rfl ?_ | refine uR rfl (fun K hK=>?_) | refine X.skip rfl ?_ | refine X.ret rfl ?_ | (refine X.ite rfl rfl (fun hc=>?_);(first | (with_reducible refine Xb.caseN hc (fun h=>?_) (fun h=>?_))) <;> clear hc))
  all_goals try (exfalso;contradiction)
  exact ret_two (by simp) Tryz.results97 rfl rfl (H' := H) (by (repeat (first | exact qR _ | apply qC));done) ⟨rfl,rfl⟩
 ·have e1 : uIf (e = 0) s = 0:=by unfold uIf;rw [if_neg h0]
  rw [e1]
  refine Fc.mk (callable Tryz.call97) Tryz.func97 rfl Tryz.ntmps97 rfl ?_;dsimp only [fr]
  repeat' (first | (refine uP rfl ?_;(first | ((first | refine uN rfl ?_);(first | (refine uE (uQ (b:=true) rfl rfl rfl (congrArg some (by simp [h0]))) rfl rfl ?_)|(refine uE (uM rfl rfl) rfl rfl ?_)|(refine uE (uA rfl rfl) rfl rfl ?_)|(refine Xg.st (StF.boxAgg rfl rfl) rfl rfl ?_;rintro _ _ ⟨bx,rfl,rfl⟩)))))|(refine uD rfl ?_;refine hK _ _ ?_;clear hK K) | refine uS rfl ?_ | refine uR rfl (fun K hK=>?_) | refine X.ret rfl ?_ | (refine X.ite rfl rfl (fun hc=>?_);(first | (with_reducible refine Xb.t hc ?_)) <;> clear hc))
  all_goals try (exfalso;contradiction)
  exact ret_two (by simp) Tryz.results97 rfl rfl (H' := H) (by (repeat (first | exact qR _ | apply qC));done) ⟨rfl,rfl⟩
set_option maxHeartbeats 4000000 in
theorem toldU_spec (B : Bl) (p : Pb) (C : Ca) (q : Pc) (f : Nat) (cap : List Value) (s : Int) (H : List Row) (hB : BlOk H B p) (hC : CaOk H C q)
  (ht : openE B C = 0 → ∀ H',(∀ r ∈ H,r ∈ H') → Fc Tryz.prog f ([.agg (cPr B p (gradesOf B)).toArray]++cap) H' (fun v H'' => v = .int .u8 s∧H'' = H')) :
  Fc Tryz.prog 55 [.agg (cBl B p).toArray,.agg (cCa C q).toArray,.func (.func f) #[] cap.toArray] H (fun v H' => v = .tuple #[.int .u8 (uIf (openE B C = 0) s),.int .i64 (openE B C)]∧H' = H):=by
 have hb : openE B C = 0 → (gradesOf B).length = 5:=fun h=>by
  refine gradesOf_len ?_
  unfold openE at h
  split at h
  ·assumption
  ·omega
 obtain ⟨BX,pX,gX,hgX,hXe,hop⟩ : ∃ (BX : Bl) (pX : Pb) (gX : List Sp),gX.length = 5∧(openE B C = 0 → BX = B∧pX = p∧gX = gradesOf B) ∧ ∀ H',BlOk H' B p → CaOk H' C q → Fc Tryz.prog 61 [.agg (cBl B p).toArray,.agg (cCa C q).toArray] H' (fun v H'' => v = .tuple #[.agg (cPr BX pX gX).toArray,.int .i64 (openE B C)]∧H'' = H'):=by
  by_cases h : openE B C = 0
  ·refine ⟨B,p,gradesOf B,hb h,fun _=>⟨rfl,rfl,rfl⟩,fun H' h1 h2=>(open_spec B p C q H' h1 h2).mono fun v H'' ⟨q1,q2⟩=>⟨?_,q2⟩⟩
   rcases q1 with ⟨_,q1⟩ | ⟨q0,_⟩
   ·rw [q1,h]
   ·exact absurd h q0
  ·refine ⟨Bz,pzb,initG 0,rfl,fun h0=>absurd h0 h,fun H' h1 h2=>(open_spec B p C q H' h1 h2).mono fun v H'' ⟨q1,q2⟩=>⟨?_,q2⟩⟩
   rcases q1 with ⟨q0,_⟩ | ⟨_,q1⟩
   ·exact absurd q0 h
   ·exact q1
 have hlp : (cPr BX pX gX).length = 16:=lenPr hgX
 have hl : ∀ H',(∀ r ∈ H,r ∈ H') → Fc Tryz.prog 97 [.agg (cPr BX pX gX).toArray,.int .i64 (openE B C),.func (.func f) #[] cap.toArray] H' (fun v H'' => v = .tuple #[.int .u8 (uIf (openE B C = 0) s),.int .i64 (openE B C)]∧H'' = H'):=fun H' h=>ltoldU_spec BX pX gX hgX _ f cap s H' (fun h0 H'' h2=>by obtain ⟨rfl,rfl,rfl⟩:=hXe h0;exact ht h0 H'' (fun r hr=>h2 r (h r hr)))
 obtain ⟨rr,hrr⟩ : ∃ x,uIf (openE B C = 0) s = x:=⟨_,rfl⟩
 rw [hrr] at hl ⊢
 obtain ⟨er,her⟩ : ∃ e,openE B C = e:=⟨_,rfl⟩
 rw [her] at hl hop ⊢
 refine Fc.mk (callable Tryz.call55) Tryz.func55 rfl Tryz.ntmps55 rfl ?_;dsimp only [fr]
 repeat' (first | (refine uP rfl ?_;(first | ((first | refine uN rfl ?_);(first | (refine uC (uT rfl (Args.cons rfl (Args.cons rfl Args.nil))) rfl rfl (hop _ (hB.sub (fun _ h=>by repeat (first | exact h | apply qT))) (hC.sub (fun _ h=>by repeat (first | exact h | apply qT)))) ?_;rintro _ H9 ⟨rfl,hH9⟩;subst H9)|(refine uC (uT rfl (Args.cons rfl (Args.cons rfl (Args.cons rfl Args.nil)))) rfl rfl (hl _ (fun _ h=>by repeat (first | exact h | apply qT))) ?_;rintro _ H9 ⟨rfl,hH9⟩;subst H9)|(refine Xg.st0 (uZ (i:=0) (vs:=cPr BX pX gX) rfl rfl rfl (te rfl) rfl hlp (onePr _ _ _) hlp) rfl ?_;rintro _ _ ⟨rfl,rfl⟩;dsimp only [List.set])|(refine uE (uL rfl rfl (uW (te rfl) rfl (qH _) hlp)) rfl rfl ?_)|(refine uE (uM rfl rfl) rfl rfl ?_)|(refine uE (uA rfl rfl) rfl rfl ?_)|(refine uE (uL rfl rfl (uW (te rfl) rfl (qH _) rfl)) rfl rfl ?_)|(refine uE (uL rfl rfl (uW (te rfl) rfl (qT _ (qH _)) rfl)) rfl rfl ?_)|(refine uE (uX rfl rfl rfl) rfl rfl ?_)|(refine Xg.st (StF.boxAgg rfl rfl) rfl rfl ?_;rintro _ _ ⟨bx,rfl,rfl⟩)|(refine Xg.st (StF.alloc rfl Tryz.zeroValue91 rfl) rfl rfl ?_;rintro _ _ ⟨bx,rfl,rfl⟩)))))|(refine uD rfl ?_;refine hK _ _ ?_;clear hK K) | refine uS rfl ?_ | refine uR rfl (fun K hK=>?_) | refine X.ret rfl ?_)
 exact ret_two (by simp) Tryz.results55 rfl rfl (H' := H) (by (repeat (first | exact qR _ | apply qC));done) ⟨rfl,rfl⟩
end Go.Proofs.YtbpcbdbclijomaaGreat
