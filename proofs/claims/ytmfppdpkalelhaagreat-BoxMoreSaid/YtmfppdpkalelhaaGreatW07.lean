/- Own work: contracts of functions, from rows of what is known of the memory; contracts of functions, from rows of what is known of the memory; contracts of functions, from rows of what is known of the memory; contracts of functions, from rows of what is known of the memory; contracts of functions, from rows of what is known of the memory; The law BoxTells returns true from whatever memory.; contracts of functions, from rows of what is known of the memory; contracts of functions, from rows of what is known of the memory; contracts of functions, from rows of what is known of the memory; contracts of functions, from rows of what is known of the memory; contracts of functions, from rows of what is known of the memory; contracts of functions, from rows of what is known of the memory; contracts of function -/
import Derived.Test.YtmfppdpkalelhaaGreatW06
section
set_option linter.unusedVariables false
set_option linter.unusedSimpArgs false
namespace Go.Proofs.YtmfppdpkalelhaaGreat
open Go Go.Fw
set_option maxRecDepth 10000
structure LtOk (L : Nat → List Int) (l : List Ent) (Z : List Row) : Prop where
 keys : keysM l
 len : l.length = Z.length
 at_ : ∀ (j : Nat) (e : Ent),l[j]? = some e → ∃ (k b q : Nat),e.1 = (k : Int)∧L k ≠ []∧e.2.1 = .slice (some ⟨b,0,none⟩) (L k).length q∧Z[j]? = some ⟨b,0,(L k).flatMap cI,some 3,q * 1⟩
 all : ∀ k : Nat,L k ≠ [] → ∃ e ∈ l,e.1 = (k : Int)
theorem atM_none {l : List Ent} {k : Int} (h : ∀ e ∈ l,e.1 ≠ k) : atM l k = none:=by
 unfold atM
 rw [List.find?_eq_none.2 (fun e he=>by simpa using h e he)]
 rfl
theorem atM_some {l : List Ent} (hk : keysM l) {j : Nat} {e : Ent} (hj : l[j]? = some e) : atM l e.1 = some e.2.1:=by
 unfold atM
 cases hq : l.find? (fun x=>x.1 == e.1) with
 | none =>
  have:=List.find?_eq_none.1 hq e (List.mem_of_getElem? hj)
  simp at this
 | some x =>
  have h1 : x.1 = e.1:=by simpa using List.find?_some hq
  obtain ⟨i,hi⟩:=List.mem_iff_getElem?.1 (List.mem_of_find?_eq_some hq)
  have h2:=keys_inj hk hi hj h1
  subst h2
  rw [hi] at hj
  cases hj
  rfl
theorem LtOk.zero (L : Nat → List Int) (h : ∀ k,L k = []) : LtOk L [] []:=⟨List.Pairwise.nil,rfl,fun j e he=>by simp at he,fun k hk=>absurd (h k) hk⟩
theorem LtOk.look {L : Nat → List Int} {l : List Ent} {Z : List Row} (h : LtOk L l Z) (k : Nat) : (L k = []∧atM l k = none) ∨ ∃ j b q,L k ≠ []∧l.any (fun e=>e.1 == (k : Int)) = true∧j < Z.length∧(∃ e,l[j]? = some e∧e.1 = (k : Int))∧atM l k = some (.slice (some ⟨b,0,none⟩) (L k).length q)∧Z[j]? = some ⟨b,0,(L k).flatMap cI,some 3,q * 1⟩:=by
 by_cases hk : L k = []
 ·refine .inl ⟨hk,atM_none fun e he q=>?_⟩
  obtain ⟨j,hj⟩:=List.mem_iff_getElem?.1 he
  obtain ⟨k',b,q',e1,e2,_⟩:=h.at_ j e hj
  have : k' = k:=by omega
  subst this
  exact e2 hk
 ·obtain ⟨e,he,hek⟩:=h.all k hk
  obtain ⟨j,hj⟩:=List.mem_iff_getElem?.1 he
  obtain ⟨k',b,q,e1,e2,e3,e4⟩:=h.at_ j e hj
  have : k' = k:=by omega
  subst this
  refine .inr ⟨j,b,q,hk,List.any_eq_true.2 ⟨e,he,by simpa using hek⟩,(List.getElem?_eq_some_iff.1 e4).1,⟨e,hj,hek⟩,?_,e4⟩
  rw [← hek,atM_some h.keys hj,e3]
theorem LtOk.new {L L' : Nat → List Int} {l : List Ent} {Z : List Row} (h : LtOk L l Z) {k : Nat} {x : Int} (hk : L k = []) (hL : ∀ i,L' i = if i = k then [x] else L i) (clock b q : Nat) :
  LtOk L' (insM l clock k (.slice (some ⟨b,0,none⟩) 1 q)) (Z++[⟨b,0,cI x,some 3,q * 1⟩]):=by
 have hno : ∀ e ∈ l,e.1 ≠ (k : Int):=fun e he e' => by
  obtain ⟨j,hj⟩:=List.mem_iff_getElem?.1 he
  obtain ⟨k',b,q,e1,e2,_⟩:=h.at_ j e hj
  have : k' = k:=by omega
  subst this
  exact e2 hk
 have hany : l.any (fun e=>e.1 == (k : Int)) = false:=Bool.eq_false_iff.2 (fun q=>by
  obtain ⟨e,he,h2⟩:=List.any_eq_true.1 q
  exact hno e he (by simpa using h2))
 have hi : insM l clock k (.slice (some ⟨b,0,none⟩) 1 q)=l++[((k : Int),.slice (some ⟨b,0,none⟩) 1 q,clock)]:=by
  unfold insM;rw [hany];rfl
 rw [hi]
 refine ⟨?_,by rw [List.length_append,List.length_append,h.len];rfl,fun j e he=>?_,fun i hi=>?_⟩
 ·unfold keysM
  rw [List.map_append,List.nodup_append]
  refine ⟨h.keys,List.nodup_cons.2 ⟨List.not_mem_nil,List.Pairwise.nil⟩,fun a ha c hc=>?_⟩
  obtain ⟨e,he,rfl⟩:=List.mem_map.1 ha
  have : c = (k : Int):=by simpa using hc
  rw [this]
  exact hno e he
 ·by_cases hj : j < l.length
  ·rw [List.getElem?_append_left hj] at he
   obtain ⟨k',b',q',e1,e2,e3,e4⟩:=h.at_ j e he
   have hne : k' ≠ k:=fun e' => e2 (by rw [e'];exact hk)
   refine ⟨k',b',q',e1,by rw [hL,if_neg hne];exact e2,by rw [hL,if_neg hne];exact e3,?_⟩
   rw [List.getElem?_append_left (by rw [← h.len];exact hj),hL,if_neg hne]
   exact e4
  ·rw [List.getElem?_append_right (by omega)] at he
   have hj0 : j - l.length = 0:=by
    have:=(List.getElem?_eq_some_iff.1 he).1
    simp at this;omega
   rw [hj0] at he
   simp at he
   subst he
   refine ⟨k,b,q,rfl,by rw [hL,if_pos rfl];simp,by rw [hL,if_pos rfl];rfl,?_⟩
   rw [List.getElem?_append_right (by rw [← h.len];omega), ← h.len,hj0,hL,if_pos rfl]
   rfl
 ·by_cases e : i = k
  ·exact ⟨_,List.mem_append_right _ (List.mem_singleton.2 rfl),by rw [e]⟩
  ·rw [hL,if_neg e] at hi
   obtain ⟨x,hx,he⟩:=h.all i hi
   exact ⟨x,List.mem_append_left _ hx,he⟩
theorem LtOk.set {L L' : Nat → List Int} {l : List Ent} {Z : List Row} (h : LtOk L l Z) {k j : Nat} {x : Int} {e : Ent} (hj : l[j]? = some e) (hek : e.1 = (k : Int)) (hany : l.any (fun e=>e.1 == (k : Int)) = true) (hL : ∀ i,L' i = if i = k then L k++[x] else L i) (clock b q : Nat) :
  LtOk L' (insM l clock k (.slice (some ⟨b,0,none⟩) ((L k).length + 1) q)) (Z.set j ⟨b,0,(L k++[x]).flatMap cI,some 3,q * 1⟩):=by
 have hi : insM l clock k (.slice (some ⟨b,0,none⟩) ((L k).length + 1) q)=l.map (fun e=>if e.1 = (k : Int) then (e.1,.slice (some ⟨b,0,none⟩) ((L k).length + 1) q,e.2.2) else e):=by
  unfold insM;rw [hany];rfl
 rw [hi]
 have hjl : j < Z.length:=by rw [← h.len];exact (List.getElem?_eq_some_iff.1 hj).1
 refine ⟨?_,by rw [List.length_map,List.length_set,h.len],fun i e' he=>?_,fun i hi=>?_⟩
 ·unfold keysM
  rw [List.map_map]
  have : (fun e : Ent=>e.1) ∘ (fun e : Ent=>if e.1 = (k : Int) then (e.1,Value.slice (some ⟨b,0,none⟩) ((L k).length + 1) q,e.2.2) else e)=(fun e=>e.1):=by
   funext e
   simp only [Function.comp]
   split <;> rfl
  rw [this]
  exact h.keys
 ·rw [List.getElem?_map] at he
  obtain ⟨e0,h0,rfl⟩:=Option.map_eq_some_iff.1 he
  obtain ⟨k',b',q',e1,e2,e3,e4⟩:=h.at_ i e0 h0
  by_cases hk : e0.1 = (k : Int)
  ·have hij:=keys_inj h.keys h0 hj (hk.trans hek.symm)
   subst hij
   rw [if_pos hk]
   refine ⟨k,b,q,hk,by rw [hL,if_pos rfl];simp,by rw [hL,if_pos rfl,List.length_append];rfl,?_⟩
   rw [List.getElem?_set_self hjl,hL,if_pos rfl]
  ·rw [if_neg hk]
   have hne : k' ≠ k:=fun e' => hk (by rw [e1,e'])
   have hij : j ≠ i:=fun e' => hk (by rw [e'] at hj;rw [hj] at h0;cases h0;exact hek)
   refine ⟨k',b',q',e1,by rw [hL,if_neg hne];exact e2,by rw [hL,if_neg hne];exact e3,?_⟩
   rw [List.getElem?_set_ne hij,hL,if_neg hne]
   exact e4
 ·by_cases e9 : i = k
  ·refine ⟨_,List.mem_map.2 ⟨e,List.mem_of_getElem? hj,rfl⟩,?_⟩
   rw [if_pos hek,e9]
   exact hek
  ·rw [hL,if_neg e9] at hi
   obtain ⟨x,hx,he⟩:=h.all i hi
   refine ⟨_,List.mem_map.2 ⟨x,hx,rfl⟩,?_⟩
   split <;> exact he
theorem lateL_snoc {R : Rm} {n : Int} {l : List Bx} {i : Nat} {e : Bx} (he : l[i]? = some e) (k : Nat) : lateL R n (l.take (i + 1)) k = lateL R n (l.take i) k++(if fstM (sinP R e.id (dueP n)) 0 R.months.toNat = some k then [e.id] else []):=by
 unfold lateL
 rw [take_snoc he,List.filter_append,List.map_append]
 by_cases h : fstM (sinP R e.id (dueP n)) 0 R.months.toNat = some k
 ·rw [if_pos h,List.filter_cons_of_pos (by simpa using h)];rfl
 ·rw [if_neg h,List.filter_cons_of_neg (by simpa using h)];rfl
theorem lateL_len (R : Rm) (n : Int) (l : List Bx) (k : Nat) : (lateL R n l k).length ≤ l.length:=by
 unfold lateL
 rw [List.length_map]
 exact List.length_filter_le _ _
theorem set_perm {α : Type} : ∀ (l : List α) (j : Nat) (a : α),j < l.length → (l.set j a).Perm (a::l.eraseIdx j)
 | [],j,a,h=>absurd h (Nat.not_lt_zero _)
 | b::l,0,a,_=>List.Perm.refl _
 | b::l,j + 1,a,h=>((set_perm l j a (by simpa using h)).cons b).trans (List.Perm.swap _ _ _)
theorem get_perm {α : Type} : ∀ (l : List α) (j : Nat) (a : α),l[j]? = some a → l.Perm (a::l.eraseIdx j)
 | [],j,a,h=>by simp at h
 | b::l,0,a,h=>by simp at h;subst h;exact List.Perm.refl _
 | b::l,j + 1,a,h=>by
  simp at h
  exact ((get_perm l j a h).cons b).trans (List.Perm.swap _ _ _)
end Go.Proofs.YtmfppdpkalelhaaGreat
end
section
set_option linter.unusedVariables false
set_option linter.unusedSimpArgs false
namespace Go.Proofs.YtmfppdpkalelhaaGreat
open Go Go.Fw
set_option maxRecDepth 10000
theorem EvF.castV {P : Program} {n : Nat} {H : List Row} {F : FS} {o : Oper} {v v' : Value} (h : v = v') (e : EvF P n H F o v) : EvF P n H F o v' := h ▸ e
theorem XO.permQ {P : Program} {n : Nat} {ops : Array Oper} {i : Nat} {F : FS} {H H' : List Row} {N : FS → List Row → Prop} (hp : H'.Perm H) (k : XO P n ops i F H' N) : XO P n ops i F H N:=by
 unfold XO WO at *
 intro t ha ρ ds B w0 w hS
 exact k t ha ρ ds B w0 w (hS.perm hp)
theorem due1_spec (s : Sp) (n : Int) (b : Nat) (ow : Option Kd) (cap : Nat) (H : List Row) (hm : ⟨b,0,[.int .i64 n],ow,cap⟩ ∈ H) : Fc Tryz.prog 62 ([.agg (cSp s).toArray]++[.pointer (some ⟨b,0,none⟩)]) H (fun v H' => v = .bool (dueP n s)∧H' = H):=by
 show Fc Tryz.prog 62 [.agg (cSp s).toArray,.pointer (some ⟨b,0,none⟩)] H _
 refine Fc.mk (callable Tryz.call62) Tryz.func62 rfl Tryz.ntmps62 rfl ?_;dsimp only [fr]
 repeat' (first | (refine uP rfl ?_;(first | ((first | refine uN rfl ?_);(first | (refine uE (uL rfl rfl (uO (te rfl) rfl (qT _ hm) rfl)) rfl rfl ?_)|(refine uE (uA rfl rfl) rfl rfl ?_)|(refine uE (uQ rfl rfl rfl rfl) rfl rfl ?_)|(refine uE (uF rfl rfl (te rfl) rfl (te rfl) (by decide)) rfl rfl ?_)|(refine uE (uL rfl rfl (uO (te rfl) rfl (qH _) rfl)) rfl rfl ?_)|(refine Xg.st (StF.boxAgg rfl rfl) rfl rfl ?_;rintro _ _ ⟨bx,rfl,rfl⟩)))))|(refine uD rfl ?_;refine hK _ _ ?_;clear hK K) | refine uS rfl ?_ | refine uR rfl (fun K hK=>?_) | refine X.ret rfl ?_)
 exact ret_one (v := .bool (dueP n s)) (by simp) Tryz.results62 rfl (H' := H) (by repeat (first | exact qR _ | apply qK | apply qC)) ⟨rfl,rfl⟩
/-- a month, a list and an error -/
def DueR (x : Int × List Int × Int) (H : List Row) (v : Value) (H' : List Row) : Prop := ∃ a c Z,v = .tuple #[.int .i64 x.1,.slice a x.2.1.length c,.int .i64 x.2.2]∧SlE (Z++H) a cI 1 x.2.1∧H' = Z++H
set_option maxHeartbeats 16000000 in
theorem kDue_spec (R : Rm) (p : Pl) (n : Int) (H : List Row) (hR : RmOk H R p) (h2 : R.boxes.length ≤ 1000000) : Fc Tryz.prog 22 [.agg (cRm R p).toArray,.int .i64 n] H (DueR (dueF R n) H):=by
 obtain ⟨e0,he0⟩ : ∃ e,openE R [] [] = e:=⟨_,rfl⟩
 have hbt : ∀ (H' : List Row),BtOk H' ⟨[],none,0,[],none,0⟩:=fun H' => ⟨sleNil,sleNil,Nat.le_of_ble_eq_true rfl,Nat.le_of_ble_eq_true rfl⟩
 by_cases h0 : e0 = 0
 ·subst h0
  obtain ⟨hok,_,_,hT⟩:=openE_ok he0
  have hr:=hok.ok
  have hb4:=hr.b4
  have hm12:=hr.m12
  have hm1:=hr.m1
  have hF : dueF R n = dueS (lateL R n R.boxes) 0 R.months.toNat:=by unfold dueF;rw [if_pos he0];exact (late_due hr n _ 0 (by omega) (fun i hi=>absurd hi (Nat.not_lt_zero _))).symm
  rw [hF]
  refine Fc.mk (callable Tryz.call22) Tryz.func22 rfl Tryz.ntmps22 rfl ?_;dsimp only [fr]
  repeat' (first | (refine uP rfl ?_;(first | ((first | refine uN rfl ?_);(first | (refine uE (uQ (b:=false) rfl rfl rfl (congrArg some (nd_f (by omega)))) rfl rfl ?_)|(refine uE (EvF.build (cs:=cBt ⟨[],none,0,[],none,0⟩) rfl ArgsP.nil (te rfl) (Places.cons (te rfl) (Places.cons (te rfl) Places.nil)) Tryz.zeroValue83 rfl) rfl rfl ?_)|(refine uC (uT rfl (by (repeat (first | exact Args.nil | refine Args.cons rfl ?_));done)) rfl rfl (openY (hR.sub (fun _ h=>by repeat (first | exact h | apply qT))) (hbt _) h2 he0) ?_;rintro _ _ ⟨b,k,hbk,rfl,rfl⟩)|(refine Xg.st (StF.alloc rfl Tryz.zeroValue79 rfl) rfl rfl ?_;rintro _ _ ⟨b7,rfl,rfl⟩)|(refine Xg.st0 (StF.storeAll (i:=0) (vs:=cCt R p (some ⟨b,0,none⟩) k) rfl rfl rfl (te rfl) rfl rfl rfl rfl) rfl ?_;rintro _ _ ⟨rfl,rfl⟩;dsimp only [List.set])|(refine Xg.st (StF.makeMap .i64 rfl) rfl rfl ?_;rintro _ _ ⟨bm,rfl,rfl⟩)|(refine uE (uM rfl rfl) rfl rfl ?_)|(refine uE (uA rfl rfl) rfl rfl ?_)|(refine uE (uF rfl rfl (te rfl) rfl (te rfl) (by decide)) rfl rfl ?_)|(refine uE (EvF.lenSlice rfl rfl (te rfl)) rfl rfl ?_)|(refine uE (uL rfl rfl (uO (te rfl) rfl (qT _ (qH _)) rfl)) rfl rfl ?_)|(refine uE (uL rfl rfl (uW (te rfl) rfl (qT _ (qH _)) rfl)) rfl rfl ?_)|(refine uE (uX rfl rfl rfl) rfl rfl ?_)|(refine Xg.st (StF.boxAgg rfl rfl) rfl rfl ?_;rintro _ _ ⟨bx,rfl,rfl⟩)|(refine Xg.st (StF.boxOne rfl rfl rfl) rfl rfl ?_;rintro _ _ ⟨bx,rfl,rfl⟩)))))|(refine uD rfl ?_;refine hK _ _ ?_;clear hK K) | refine uS rfl ?_ | refine uR rfl (fun K hK=>?_) | refine X.block rfl ?_ | refine X.skip rfl ?_ | (refine X.ite rfl rfl (fun hc=>?_);(first | (with_reducible refine Xb.f hc ?_)) <;> clear hc))
  all_goals try (exfalso;contradiction)
  rename_i b3
  generalize bx = b3
  have hfi:=fun (e : Bx) (he : e ∈ R.boxes) S hC (hs : (⟨b3,0,[.int .i64 n],some 3,1⟩ : Row) ∈ S)=>kfirst_spec R p (some ⟨b,0,none⟩) k e.id 62 [.pointer (some ⟨b3,0,none⟩)] (dueP n) S hr hok.mats hC hok.lens.ages hok.lens.mats hbk hT ⟨e,he,rfl⟩ (fun s S' hs' => due1_spec s n b3 (some 3) 1 S' (hs' _ hs))
  have hlt9 : ∀ S,RmOk S R p → ∀ (bb off : Nat),p.a2 = some ⟨bb,off,none⟩ → SlE S (some ⟨bb,off,none⟩) cBx 2 R.boxes:=fun S hS bb off hq=>by rw [← hq];exact hS.boxes
  refine X.lp rfl (fun q F' H' => ∃ (i : Nat) (l : List Ent) (clk : Nat) (Z : List Row),q = R.boxes.length - i∧i ≤ R.boxes.length∧LtOk (lateL R n (R.boxes.take i)) l Z∧H' = mRow bm .i64 l clk::(Z++⟨b7,0,cCt R p (some ⟨b,0,none⟩) k,some 79,6⟩::⟨b,0,(plcs R).flatMap cPk,some 86,k * 2⟩::⟨b3,0,[.int .i64 n],some 3,1⟩::H)∧F' = [(3,.pointer (some ⟨b3,0,none⟩)),(7,.pointer (some ⟨b7,0,none⟩)),(8,.map (some bm)),(27,.slice p.a2 R.boxes.length p.c2),(28,.int .i64 R.boxes.length),(29,.int .i64 i)])
   R.boxes.length [(3,.pointer (some ⟨b3,0,none⟩)),(7,.pointer (some ⟨b7,0,none⟩)),(8,.map (some bm)),(27,.slice p.a2 R.boxes.length p.c2),(28,.int .i64 R.boxes.length),(29,.int .i64 (0 : Nat))] (mRow bm .i64 [] 0::([]++⟨b7,0,cCt R p (some ⟨b,0,none⟩) k,some 79,6⟩::⟨b,0,(plcs R).flatMap cPk,some 86,k * 2⟩::⟨b3,0,[.int .i64 n],some 3,1⟩::H)) (by repeat (first | exact uU _ | refine uV rfl ?_)) (by rw [List.nil_append];exact (by repeat (first | exact qR _ | apply qK | apply qC))) ⟨0,[],0,[],by omega,by omega,LtOk.zero _ (fun k=>rfl),rfl,rfl⟩ ?_
  ·rintro _ _ _ ⟨i,l,clk,Z,rfl,hi,hLt,rfl,rfl⟩
   by_cases hlt : i < R.boxes.length
   ·obtain ⟨bb,off,e,hq2,he⟩:=hR.boxes.elem (i:=i) hlt
    have hbs:=fun S hS=>hlt9 S hS bb off hq2
    have hfi:=fun S hC hs=>hfi e (List.mem_of_getElem? he) S hC hs
    have hsn:=lateL_snoc (R:=R) (n:=n) he
    have hll:=lateL_len R n (R.boxes.take i)
    have htk:=List.length_take (i:=i) (l:=R.boxes)
    obtain ⟨r,hr9⟩ : ∃ r,r = fstM (sinP R e.id (dueP n)) 0 R.months.toNat:=⟨_,rfl⟩
    rw [← hr9] at hfi hsn
    clear hr9
    rw [hq2]
    cases r with
    | none =>
     have hL' : lateL R n (R.boxes.take (i + 1)) = lateL R n (R.boxes.take i):=funext fun k=>by rw [hsn k,if_neg (fun q=>by cases q),List.append_nil]
     obtain ⟨G,hG⟩ : ∃ G,G = Z++⟨b7,0,cCt R p (some ⟨b,0,none⟩) k,some 79,6⟩::⟨b,0,(plcs R).flatMap cPk,some 86,k * 2⟩::⟨b3,0,[.int .i64 n],some 3,1⟩::H:=⟨_,rfl⟩
     have hg7 : (⟨b7,0,cCt R p (some ⟨b,0,none⟩) k,some 79,6⟩ : Row) ∈ G:=by rw [hG];exact List.mem_append_right _ (qH _)
     have hgb : (⟨b,0,(plcs R).flatMap cPk,some 86,k * 2⟩ : Row) ∈ G:=by rw [hG];exact List.mem_append_right _ (qT _ (qH _))
     have hg3 : (⟨b3,0,[.int .i64 n],some 3,1⟩ : Row) ∈ G:=by rw [hG];exact List.mem_append_right _ (qT _ (qT _ (qH _)))
     have hGR : RmOk G R p:=hR.sub (fun r h=>by rw [hG];exact List.mem_append_right _ (qT _ (qT _ (qT _ h))))
     rw [← hG]
     repeat' (first | (refine uP rfl ?_;(first | ((first | refine uN rfl ?_);(first | (refine uE (uQ (b:=true) rfl rfl rfl (congrArg some (decide_eq_true (by omega)))) rfl rfl ?_)|(refine uE (uL rfl rfl (uW (T:=79) (cs:=cCt R p (some ⟨b,0,none⟩) k) (te rfl) rfl (by repeat (first | exact hg7 | apply qT)) rfl)) rfl rfl ?_)|(refine uE (uL rfl rfl (LoadV.elA0 (hbs _ (hGR.sub (fun _ h=>by repeat (first | exact h | apply qT)))) he (te rfl) rfl (fun _ hm=>hm) rfl)) rfl rfl ?_)|(refine uE (EvF.makeFunc (fl:=[]) rfl Args.nil (Args.cons rfl Args.nil)) rfl rfl ?_)|(refine uC (uT rfl (Args.cons rfl (Args.cons rfl (Args.cons rfl Args.nil)))) rfl rfl (hfi _ ⟨hGR.sub (fun _ h=>by repeat (first | exact h | apply qT)),SlE.ofRow (by repeat (first | exact hgb | apply qT)) (fun _ _=>rfl)⟩ (by repeat (first | exact hg3 | apply qT))) ?_;rintro _ H9 ⟨rfl,hH9⟩;subst H9)|(refine uE (uX rfl rfl rfl) rfl rfl ?_)|(refine uE (uM rfl rfl) rfl rfl ?_)|(refine uE (uA rfl rfl) rfl rfl ?_)|(refine uE (EvF.add64 rfl rfl rfl (by omega) (by omega)) rfl rfl ?_)|(refine uE (uF rfl rfl (te rfl) rfl (te rfl) (by decide)) rfl rfl ?_)|(refine uE (EvF.indexSlice rfl rfl rfl (te rfl) (te rfl) (by omega) (by omega)) rfl rfl ?_)|(refine uE (uL rfl rfl (uO (te rfl) rfl (qH _) rfl)) rfl rfl ?_)|(refine Xg.st (StF.alloc rfl Tryz.zeroValue24 rfl) rfl rfl ?_;rintro _ _ ⟨bx,rfl,rfl⟩)|(refine Xg.st0 (StF.storeAll (i:=0) rfl rfl rfl (te rfl) rfl rfl rfl rfl) rfl ?_;rintro _ _ ⟨rfl,rfl⟩;dsimp only [List.set])))))|(refine uD rfl ?_;refine hK _ _ ?_;clear hK K) | refine uS rfl ?_ | refine uR rfl (fun K hK=>?_) | refine X.block rfl ?_ | refine X.skip rfl ?_ | (refine X.ite rfl rfl (fun hc=>?_);(first | (with_reducible refine Xb.t hc ?_)|(with_reducible refine Xb.caseB hc (fun h=>?_) (fun h=>?_))) <;> clear hc))
     all_goals try (exfalso;contradiction)
     exact ⟨_,_,mRow bm .i64 l clk::G,(by repeat (first | exact uU _ | refine uV rfl ?_)),(by repeat (first | exact qR _ | apply qK | apply qC)),⟨i + 1,l,clk,Z,rfl,by omega,by rw [hL'];exact hLt,by rw [hG],rfl⟩,by omega⟩
    | some k0 =>
     have hv0 : firV (some k0)=(k0 : Int):=rfl
     rw [hv0] at hfi
     rcases hLt.look k0 with ⟨hk0,hat⟩ | ⟨j,b0,q0,hk0,hany,hjZ,⟨en,hen,henk⟩,hat,hZj⟩
     ·have hL' : ∀ k,lateL R n (R.boxes.take (i + 1)) k = if k = k0 then [e.id] else lateL R n (R.boxes.take i) k:=fun k=>by
       rw [hsn k]
       by_cases q : k = k0
       ·rw [if_pos (congrArg some q.symm),if_pos q,q,hk0,List.nil_append]
       ·rw [if_neg (fun h=>q (Option.some.inj h).symm),if_neg q,List.append_nil]
      obtain ⟨G,hG⟩ : ∃ G,G = Z++⟨b7,0,cCt R p (some ⟨b,0,none⟩) k,some 79,6⟩::⟨b,0,(plcs R).flatMap cPk,some 86,k * 2⟩::⟨b3,0,[.int .i64 n],some 3,1⟩::H:=⟨_,rfl⟩
      have hg7 : (⟨b7,0,cCt R p (some ⟨b,0,none⟩) k,some 79,6⟩ : Row) ∈ G:=by rw [hG];exact List.mem_append_right _ (qH _)
      have hgb : (⟨b,0,(plcs R).flatMap cPk,some 86,k * 2⟩ : Row) ∈ G:=by rw [hG];exact List.mem_append_right _ (qT _ (qH _))
      have hg3 : (⟨b3,0,[.int .i64 n],some 3,1⟩ : Row) ∈ G:=by rw [hG];exact List.mem_append_right _ (qT _ (qT _ (qH _)))
      have hGR : RmOk G R p:=hR.sub (fun r h=>by rw [hG];exact List.mem_append_right _ (qT _ (qT _ (qT _ h))))
      rw [← hG]
      repeat' (first | (refine uP rfl ?_;(first | ((first | refine uN rfl ?_);(first | (refine uE (uQ (b:=true) rfl rfl rfl (congrArg some (decide_eq_true (by omega)))) rfl rfl ?_)|(refine uE (uL rfl rfl (uW (T:=79) (cs:=cCt R p (some ⟨b,0,none⟩) k) (te rfl) rfl (by repeat (first | exact hg7 | apply qT)) rfl)) rfl rfl ?_)|(refine uE (uL rfl rfl (LoadV.elA0 (hbs _ (hGR.sub (fun _ h=>by repeat (first | exact h | apply qT)))) he (te rfl) rfl (fun _ hm=>hm) rfl)) rfl rfl ?_)|(refine uE (EvF.makeFunc (fl:=[]) rfl Args.nil (Args.cons rfl Args.nil)) rfl rfl ?_)|(refine uC (uT rfl (Args.cons rfl (Args.cons rfl (Args.cons rfl Args.nil)))) rfl rfl (hfi _ ⟨hGR.sub (fun _ h=>by repeat (first | exact h | apply qT)),SlE.ofRow (by repeat (first | exact hgb | apply qT)) (fun _ _=>rfl)⟩ (by repeat (first | exact hg3 | apply qT))) ?_;rintro _ H9 ⟨rfl,hH9⟩;subst H9)|(refine uE (uX rfl rfl rfl) rfl rfl ?_)|(refine uE (EvF.castV (v' := .slice none 0 0) (by rw [hat];rfl) (EvF.lookup (kd := .i64) (l:=l) (clock:=clk) (k:=(k0 : Int)) (z := .slice none 0 0) rfl Tryz.underlying105 Tryz.underlying3 rfl rfl (by repeat (first | exact qH _ | apply qT)) Tryz.zeroValue38)) rfl rfl ?_)|(refine Xg.st (StF.buildOne (v0 := .int .i64 e.id) rfl el55 rfl rfl rfl (by decide) (by decide)) rfl rfl ?_;rintro _ _ ⟨bs,rfl,rfl⟩)|(refine Xg.st (StF.appendNew rfl el55 rfl rfl (by decide) rfl (Rd.own (qH _)) (by decide)) rfl rfl ?_;rintro _ _ ⟨bn,kn,rfl,rfl⟩)|(refine uE (uM rfl rfl) rfl rfl ?_)|(refine uE (uA rfl rfl) rfl rfl ?_)|(refine uE (EvF.add64 rfl rfl rfl (by omega) (by omega)) rfl rfl ?_)|(refine uE (uF rfl rfl (te rfl) rfl (te rfl) (by decide)) rfl rfl ?_)|(refine uE (EvF.indexSlice rfl rfl rfl (te rfl) (te rfl) (by omega) (by omega)) rfl rfl ?_)|(refine uE (uL rfl rfl (uO (te rfl) rfl (qH _) rfl)) rfl rfl ?_)|(refine Xg.st (StF.alloc rfl Tryz.zeroValue24 rfl) rfl rfl ?_;rintro _ _ ⟨bx,rfl,rfl⟩)|(refine Xg.st0 (StF.storeAll (i:=0) rfl rfl rfl (te rfl) rfl rfl rfl rfl) rfl ?_;rintro _ _ ⟨rfl,rfl⟩;dsimp only [List.set])))))|(refine uD rfl ?_;refine hK _ _ ?_;clear hK K) | refine uS rfl ?_ | refine uR rfl (fun K hK=>?_) | refine X.block rfl ?_ | refine X.skip rfl ?_ | (refine X.ite rfl rfl (fun hc=>?_);(first | (with_reducible refine Xb.t hc ?_)|(with_reducible refine Xb.caseB hc (fun h=>?_) (fun h=>?_))) <;> clear hc))
      all_goals try (exfalso;contradiction)
      have hLt' := hLt.new (x:=e.id) hk0 hL' clk bn kn
      refine XO.permQ (H' := ⟨bs,0,[.int .i64 e.id],some 3,1 * 1⟩::⟨bx,0,cBx e,some 47,2⟩::mRow bm .i64 l clk::((Z++[⟨bn,0,cI e.id,some 3,kn * 1⟩])++⟨b7,0,cCt R p (some ⟨b,0,none⟩) k,some 79,6⟩::⟨b,0,(plcs R).flatMap cPk,some 86,k * 2⟩::⟨b3,0,[.int .i64 n],some 3,1⟩::H)) ?_ ?_
      ·refine List.Perm.trans ?_ (List.perm_middle (l₁:=[_,_,_]))
       refine ((List.Perm.cons _ (List.Perm.cons _ (List.Perm.cons _ ?_))))
       rw [List.append_assoc,hG]
       exact List.perm_middle
      repeat' (first | (refine uP rfl ?_;(first | ((first | refine uN rfl ?_);(first | (refine Xg.st0 (StF.mapUpdate (i:=2) (l:=l) (clock:=clk) (k:=(k0 : Int)) rfl Tryz.underlying105 Tryz.underlying3 rfl rfl rfl rfl hLt.keys) rfl ?_;rintro _ _ ⟨rfl,rfl⟩;dsimp only [List.set])|(refine uE (uM rfl rfl) rfl rfl ?_)|(refine uE (EvF.add64 rfl rfl rfl (by omega) (by omega)) rfl rfl ?_)))))|(refine uD rfl ?_;refine hK _ _ ?_;clear hK K) | refine uR rfl (fun K hK=>?_))
      all_goals try (exfalso;contradiction)
      exact ⟨_,_,mRow bm .i64 (insM l clk k0 (.slice (some ⟨bn,0,none⟩) 1 kn)) (clkM l clk k0)::((Z++[⟨bn,0,cI e.id,some 3,kn * 1⟩])++⟨b7,0,cCt R p (some ⟨b,0,none⟩) k,some 79,6⟩::⟨b,0,(plcs R).flatMap cPk,some 86,k * 2⟩::⟨b3,0,[.int .i64 n],some 3,1⟩::H),(by repeat (first | exact uU _ | refine uV rfl ?_)),(by repeat (first | exact qR _ | apply qK | apply qC)),⟨i + 1,_,_,_,rfl,by omega,hLt',rfl,rfl⟩,by omega⟩
     ·have hL' : ∀ k,lateL R n (R.boxes.take (i + 1)) k = if k = k0 then lateL R n (R.boxes.take i) k0++[e.id] else lateL R n (R.boxes.take i) k:=fun k=>by
       rw [hsn k]
       by_cases q : k = k0
       ·rw [if_pos (congrArg some q.symm),if_pos q,q]
       ·rw [if_neg (fun h=>q (Option.some.inj h).symm),if_neg q,List.append_nil]
      have hll0:=hll k0
      have hlen9 : ((lateL R n (R.boxes.take i) k0).flatMap cI).length = (lateL R n (R.boxes.take i) k0).length * 1:=lenI _
      refine X.permH (H' := ⟨b0,0,(lateL R n (R.boxes.take i) k0).flatMap cI,some 3,q0 * 1⟩::mRow bm .i64 l clk::(Z.eraseIdx j++⟨b7,0,cCt R p (some ⟨b,0,none⟩) k,some 79,6⟩::⟨b,0,(plcs R).flatMap cPk,some 86,k * 2⟩::⟨b3,0,[.int .i64 n],some 3,1⟩::H)) ((List.Perm.swap _ _ _).trans (List.Perm.cons _ ((get_perm Z j _ hZj).append_right _).symm)) ?_
      obtain ⟨G,hG⟩ : ∃ G,G = Z.eraseIdx j++⟨b7,0,cCt R p (some ⟨b,0,none⟩) k,some 79,6⟩::⟨b,0,(plcs R).flatMap cPk,some 86,k * 2⟩::⟨b3,0,[.int .i64 n],some 3,1⟩::H:=⟨_,rfl⟩
      have hg7 : (⟨b7,0,cCt R p (some ⟨b,0,none⟩) k,some 79,6⟩ : Row) ∈ G:=by rw [hG];exact List.mem_append_right _ (qH _)
      have hgb : (⟨b,0,(plcs R).flatMap cPk,some 86,k * 2⟩ : Row) ∈ G:=by rw [hG];exact List.mem_append_right _ (qT _ (qH _))
      have hg3 : (⟨b3,0,[.int .i64 n],some 3,1⟩ : Row) ∈ G:=by rw [hG];exact List.mem_append_right _ (qT _ (qT _ (qH _)))
      have hGR : RmOk G R p:=hR.sub (fun r h=>by rw [hG];exact List.mem_append_right _ (qT _ (qT _ (qT _ h))))
      rw [← hG]
      repeat' (first | (refine uP rfl ?_;(first | ((first | refine uN rfl ?_);(first | (refine uE (uQ (b:=true) rfl rfl rfl (congrArg some (decide_eq_true (by omega)))) rfl rfl ?_)|(refine uE (uL rfl rfl (uW (T:=79) (cs:=cCt R p (some ⟨b,0,none⟩) k) (te rfl) rfl (by repeat (first | exact hg7 | apply qT)) rfl)) rfl rfl ?_)|(refine uE (uL rfl rfl (LoadV.elA0 (hbs _ (hGR.sub (fun _ h=>by repeat (first | exact h | apply qT)))) he (te rfl) rfl (fun _ hm=>hm) rfl)) rfl rfl ?_)|(refine uE (EvF.makeFunc (fl:=[]) rfl Args.nil (Args.cons rfl Args.nil)) rfl rfl ?_)|(refine uC (uT rfl (Args.cons rfl (Args.cons rfl (Args.cons rfl Args.nil)))) rfl rfl (hfi _ ⟨hGR.sub (fun _ h=>by repeat (first | exact h | apply qT)),SlE.ofRow (by repeat (first | exact hgb | apply qT)) (fun _ _=>rfl)⟩ (by repeat (first | exact hg3 | apply qT))) ?_;rintro _ H9 ⟨rfl,hH9⟩;subst H9)|(refine uE (uX rfl rfl rfl) rfl rfl ?_)|(refine uE (EvF.castV (v' := .slice (some ⟨b0,0,none⟩) (lateL R n (R.boxes.take i) k0).length q0) (by rw [hat];rfl) (EvF.lookup (kd := .i64) (l:=l) (clock:=clk) (k:=(k0 : Int)) (z := .slice none 0 0) rfl Tryz.underlying105 Tryz.underlying3 rfl rfl (by repeat (first | exact qH _ | apply qT)) Tryz.zeroValue38)) rfl rfl ?_)|(refine Xg.st (StF.buildOne (v0 := .int .i64 e.id) rfl el55 rfl rfl rfl (by decide) (by decide)) rfl rfl ?_;rintro _ _ ⟨bs,rfl,rfl⟩)|(refine Xg.st (StF.appendOwn (i:=2) rfl el55 rfl rfl rfl hlen9 rfl (Rd.own (qH _)) rfl (by omega)) rfl rfl ?_;rintro _ _ ⟨bn,kn,rfl,rfl⟩;dsimp only [List.eraseIdx])|(refine uE (uM rfl rfl) rfl rfl ?_)|(refine uE (uA rfl rfl) rfl rfl ?_)|(refine uE (EvF.add64 rfl rfl rfl (by omega) (by omega)) rfl rfl ?_)|(refine uE (uF rfl rfl (te rfl) rfl (te rfl) (by decide)) rfl rfl ?_)|(refine uE (EvF.indexSlice rfl rfl rfl (te rfl) (te rfl) (by omega) (by omega)) rfl rfl ?_)|(refine uE (uL rfl rfl (uO (te rfl) rfl (qH _) rfl)) rfl rfl ?_)|(refine Xg.st (StF.alloc rfl Tryz.zeroValue24 rfl) rfl rfl ?_;rintro _ _ ⟨bx,rfl,rfl⟩)|(refine Xg.st0 (StF.storeAll (i:=0) rfl rfl rfl (te rfl) rfl rfl rfl rfl) rfl ?_;rintro _ _ ⟨rfl,rfl⟩;dsimp only [List.set])))))|(refine uD rfl ?_;refine hK _ _ ?_;clear hK K) | refine uS rfl ?_ | refine uR rfl (fun K hK=>?_) | refine X.block rfl ?_ | refine X.skip rfl ?_ | (refine X.ite rfl rfl (fun hc=>?_);(first | (with_reducible refine Xb.t hc ?_)|(with_reducible refine Xb.caseB hc (fun h=>?_) (fun h=>?_))) <;> clear hc))
      all_goals try (exfalso;contradiction)
      have hLt' := hLt.set (x:=e.id) hen henk hany hL' clk bn kn
      refine XO.permQ (H' := ⟨bs,0,[.int .i64 e.id],some 3,1 * 1⟩::⟨bx,0,cBx e,some 47,2⟩::mRow bm .i64 l clk::((Z.set j ⟨bn,0,(lateL R n (R.boxes.take i) k0++[e.id]).flatMap cI,some 3,kn * 1⟩)++⟨b7,0,cCt R p (some ⟨b,0,none⟩) k,some 79,6⟩::⟨b,0,(plcs R).flatMap cPk,some 86,k * 2⟩::⟨b3,0,[.int .i64 n],some 3,1⟩::H)) ?_ ?_
      ·rw [List.flatMap_append]
       refine List.Perm.trans ?_ (List.perm_middle (l₁:=[_,_,_]))
       refine ((List.Perm.cons _ (List.Perm.cons _ (List.Perm.cons _ ?_))))
       rw [hG]
       exact (set_perm Z j _ hjZ).append_right _
      repeat' (first | (refine uP rfl ?_;(first | ((first | refine uN rfl ?_);(first | (refine Xg.st0 (StF.mapUpdate (i:=2) (l:=l) (clock:=clk) (k:=(k0 : Int)) rfl Tryz.underlying105 Tryz.underlying3 rfl rfl rfl rfl hLt.keys) rfl ?_;rintro _ _ ⟨rfl,rfl⟩;dsimp only [List.set])|(refine uE (uM rfl rfl) rfl rfl ?_)|(refine uE (EvF.add64 rfl rfl rfl (by omega) (by omega)) rfl rfl ?_)))))|(refine uD rfl ?_;refine hK _ _ ?_;clear hK K) | refine uR rfl (fun K hK=>?_))
      all_goals try (exfalso;contradiction)
      exact ⟨_,_,mRow bm .i64 (insM l clk k0 (.slice (some ⟨bn,0,none⟩) ((lateL R n (R.boxes.take i) k0).length + 1) kn)) (clkM l clk k0)::((Z.set j ⟨bn,0,(lateL R n (R.boxes.take i) k0++[e.id]).flatMap cI,some 3,kn * 1⟩)++⟨b7,0,cCt R p (some ⟨b,0,none⟩) k,some 79,6⟩::⟨b,0,(plcs R).flatMap cPk,some 86,k * 2⟩::⟨b3,0,[.int .i64 n],some 3,1⟩::H),(by repeat (first | exact uU _ | refine uV rfl ?_)),(by repeat (first | exact qR _ | apply qK | apply qC)),⟨i + 1,_,_,_,rfl,by omega,hLt',rfl,rfl⟩,by omega⟩
   ·obtain rfl : i = R.boxes.length:=by omega
    rw [List.take_length] at hLt
    obtain ⟨D,hD⟩ : ∃ D,D = dueS (lateL R n R.boxes) 0 R.months.toNat:=⟨_,rfl⟩
    rw [← hD]
    have hg7 : (⟨b7,0,cCt R p (some ⟨b,0,none⟩) k,some 79,6⟩ : Row) ∈ mRow bm .i64 l clk::(Z++⟨b7,0,cCt R p (some ⟨b,0,none⟩) k,some 79,6⟩::⟨b,0,(plcs R).flatMap cPk,some 86,k * 2⟩::⟨b3,0,[.int .i64 n],some 3,1⟩::H):=qT _ (List.mem_append_right _ (qH _))
    repeat' (first | (refine uP rfl ?_;(first | ((first | refine uN rfl ?_);(first | (refine uE (uQ (b:=false) rfl rfl rfl (congrArg some (decide_eq_false (by omega)))) rfl rfl ?_)|(refine uE (uL rfl rfl (uO (cs:=cCt R p (some ⟨b,0,none⟩) k) (te rfl) rfl hg7 rfl)) rfl rfl ?_)|(refine uE (uM rfl rfl) rfl rfl ?_)|(refine uE (uF rfl rfl (te rfl) rfl (te rfl) (by decide)) rfl rfl ?_)))))|(refine uD rfl ?_;refine hK _ _ ?_;clear hK K) | refine uS rfl ?_ | refine uR rfl (fun K hK=>?_) | refine X.block rfl ?_ | (refine X.brk rfl ?_;repeat (first | refine blockX_hit rfl ?_ | refine blockX_miss (by decide) ?_))|(refine X.ite rfl rfl (fun hc=>?_);(first | (with_reducible refine Xb.f hc ?_)) <;> clear hc))
    all_goals try (exfalso;contradiction)
    refine X.lp rfl (fun q F' H' => ∃ (m : Nat),q = R.months.toNat - m∧(m : Int)≤R.months∧dueS (lateL R n R.boxes) m (R.months.toNat - m)=D∧H' = mRow bm .i64 l clk::(Z++⟨b7,0,cCt R p (some ⟨b,0,none⟩) k,some 79,6⟩::⟨b,0,(plcs R).flatMap cPk,some 86,k * 2⟩::⟨b3,0,[.int .i64 n],some 3,1⟩::H)∧F' = [(8,.map (some bm)),(54,.int .i64 R.months),(55,.int .i64 m)])
     R.months.toNat [(8,.map (some bm)),(54,.int .i64 R.months),(55,.int .i64 (0 : Nat))] (mRow bm .i64 l clk::(Z++⟨b7,0,cCt R p (some ⟨b,0,none⟩) k,some 79,6⟩::⟨b,0,(plcs R).flatMap cPk,some 86,k * 2⟩::⟨b3,0,[.int .i64 n],some 3,1⟩::H)) (by repeat (first | exact uU _ | refine uV rfl ?_)) (qR _) ⟨0,rfl,by omega,hD.symm,rfl,rfl⟩ ?_
    rintro _ _ _ ⟨m,rfl,hm2,hDm,rfl,rfl⟩
    by_cases hlm : (m : Int)<R.months
    ·obtain ⟨q9,hq9⟩ : ∃ q9,R.months.toNat - m = q9 + 1:=⟨R.months.toNat - m - 1,by omega⟩
     rw [hq9] at hDm
     unfold dueS at hDm
     rcases hLt.look m with ⟨hk0,hat⟩ | ⟨j,b0,q0,hk0,hany,hjZ,_,hat,hZj⟩
     ·rw [if_pos (by rw [hk0];rfl)] at hDm
      repeat' (first | (refine uP rfl ?_;(first | ((first | refine uN rfl ?_);(first | (refine uE (uQ (b:=true) rfl rfl rfl (congrArg some (decide_eq_true (by omega)))) rfl rfl ?_)|(refine uE (uQ (b:=false) rfl rfl rfl (congrArg some (decide_eq_false (by omega)))) rfl rfl ?_)|(refine uE (EvF.castV (v' := .slice none 0 0) (by rw [hat];rfl) (EvF.lookup (kd := .i64) (l:=l) (clock:=clk) (k:=(m : Int)) (z := .slice none 0 0) rfl Tryz.underlying105 Tryz.underlying3 rfl rfl (by repeat (first | exact qH _ | apply qT)) Tryz.zeroValue38)) rfl rfl ?_)|(refine uE (uM rfl rfl) rfl rfl ?_)|(refine uE (uA rfl rfl) rfl rfl ?_)|(refine uE (EvF.add64 rfl rfl rfl (by omega) (by omega)) rfl rfl ?_)|(refine uE (EvF.lenSlice rfl rfl (te rfl)) rfl rfl ?_)))))|(refine uD rfl ?_;refine hK _ _ ?_;clear hK K) | refine uS rfl ?_ | refine uR rfl (fun K hK=>?_) | refine X.block rfl ?_ | refine X.skip rfl ?_ | (refine X.ite rfl rfl (fun hc=>?_);(first | (with_reducible refine Xb.t hc ?_)|(with_reducible refine Xb.f hc ?_)) <;> clear hc))
      all_goals try (exfalso;contradiction)
      exact ⟨_,_,mRow bm .i64 l clk::(Z++⟨b7,0,cCt R p (some ⟨b,0,none⟩) k,some 79,6⟩::⟨b,0,(plcs R).flatMap cPk,some 86,k * 2⟩::⟨b3,0,[.int .i64 n],some 3,1⟩::H),(by repeat (first | exact uU _ | refine uV rfl ?_)),(by repeat (first | exact qR _ | apply qK | apply qC)),⟨m + 1,rfl,by omega,by rw [show R.months.toNat - (m + 1)=q9 by omega];exact hDm,rfl,rfl⟩,by omega⟩
     ·have hpos : 0 < (lateL R n R.boxes m).length:=List.length_pos_iff.2 hk0
      rw [if_neg (by omega)] at hDm
      repeat' (first | (refine uP rfl ?_;(first | ((first | refine uN rfl ?_);(first | (refine uE (uQ (b:=true) rfl rfl rfl (congrArg some (decide_eq_true (by omega)))) rfl rfl ?_)|(refine uE (EvF.castV (v' := .slice (some ⟨b0,0,none⟩) (lateL R n R.boxes m).length q0) (by rw [hat];rfl) (EvF.lookup (kd := .i64) (l:=l) (clock:=clk) (k:=(m : Int)) (z := .slice none 0 0) rfl Tryz.underlying105 Tryz.underlying3 rfl rfl (by repeat (first | exact qH _ | apply qT)) Tryz.zeroValue38)) rfl rfl ?_)|(refine uE (uM rfl rfl) rfl rfl ?_)|(refine uE (uA rfl rfl) rfl rfl ?_)|(refine uE (EvF.lenSlice rfl rfl (te rfl)) rfl rfl ?_)))))|(refine uD rfl ?_;refine hK _ _ ?_;clear hK K) | refine uS rfl ?_ | refine uR rfl (fun K hK=>?_) | refine X.block rfl ?_ | refine X.skip rfl ?_ | refine X.ret rfl ?_ | (refine X.ite rfl rfl (fun hc=>?_);(first | (with_reducible refine Xb.t hc ?_)) <;> clear hc))
      all_goals try (exfalso;contradiction)
      refine ret_three (by simp) Tryz.results22 rfl rfl rfl (H' := ⟨b0,0,(lateL R n R.boxes m).flatMap cI,some 3,q0 * 1⟩::H) (qC _ (List.Sublist.append (l₁:=[_]) (List.singleton_sublist.2 (List.mem_of_getElem? hZj)) (qC _ (qC _ (qC _ (qR _)))))) ?_
      rw [← hDm]
      exact ⟨some ⟨b0,0,none⟩,q0,[_],rfl,SlE.ofRow (qH _) (fun _ _=>rfl),rfl⟩
    ·rw [show R.months.toNat - m = 0 by omega] at hDm
     repeat' (first | (refine uP rfl ?_;(first | ((first | refine uN rfl ?_);(first | (refine uE (uQ (b:=false) rfl rfl rfl (congrArg some (decide_eq_false (by omega)))) rfl rfl ?_)|(refine uE (uA rfl rfl) rfl rfl ?_)))))|(refine uD rfl ?_;refine hK _ _ ?_;clear hK K) | refine uS rfl ?_ | refine uR rfl (fun K hK=>?_)|(refine X.brk rfl ?_;repeat (first | refine blockX_hit rfl ?_ | refine blockX_miss (by decide) ?_)) | refine X.ret rfl ?_ | (refine X.ite rfl rfl (fun hc=>?_);(first | (with_reducible refine Xb.f hc ?_)) <;> clear hc))
     all_goals try (exfalso;contradiction)
     refine ret_three (by simp) Tryz.results22 rfl rfl rfl (H' := H) (qC _ ((qC _ (qC _ (qC _ (qR _)))).trans (List.sublist_append_right _ _))) ?_
     rw [← hDm]
     exact ⟨none,0,[],rfl,sleNil,rfl⟩
 ·have hF : dueF R n = (0,[],e0):=by unfold dueF;rw [if_neg (by rw [he0];exact h0),he0]
  rw [hF]
  refine Fc.mk (callable Tryz.call22) Tryz.func22 rfl Tryz.ntmps22 rfl ?_;dsimp only [fr]
  repeat' (first | (refine uP rfl ?_;(first | ((first | refine uN rfl ?_);(first | (refine uE (uQ (b:=true) rfl rfl rfl (congrArg some (nd_t (by omega)))) rfl rfl ?_)|(refine uE (EvF.build (cs:=cBt ⟨[],none,0,[],none,0⟩) rfl ArgsP.nil (te rfl) (Places.cons (te rfl) (Places.cons (te rfl) Places.nil)) Tryz.zeroValue83 rfl) rfl rfl ?_)|(refine uC (uT rfl (Args.cons rfl (Args.cons rfl Args.nil))) rfl rfl (openN (hR.sub (fun _ h=>by repeat (first | exact h | apply qT))) (hbt _) h2 he0 h0) ?_;rintro _ H9 ⟨rfl,hH9⟩;subst H9)|(refine Xg.st (StF.alloc rfl Tryz.zeroValue79 rfl) rfl rfl ?_;rintro _ _ ⟨b7,rfl,rfl⟩)|(refine Xg.st0 (StF.storeAll (i:=0) (vs:=zCt) rfl rfl rfl (te rfl) rfl rfl rfl rfl) rfl ?_;rintro _ _ ⟨rfl,rfl⟩;dsimp only [List.set])|(refine uE (uM rfl rfl) rfl rfl ?_)|(refine uE (uA rfl rfl) rfl rfl ?_)|(refine uE (uL rfl rfl (uW (te rfl) rfl (qT _ (qH _)) rfl)) rfl rfl ?_)|(refine uE (uX rfl rfl rfl) rfl rfl ?_)|(refine Xg.st (StF.boxAgg rfl rfl) rfl rfl ?_;rintro _ _ ⟨bx,rfl,rfl⟩)|(refine Xg.st (StF.boxOne rfl rfl rfl) rfl rfl ?_;rintro _ _ ⟨bx,rfl,rfl⟩)))))|(refine uD rfl ?_;refine hK _ _ ?_;clear hK K) | refine uS rfl ?_ | refine uR rfl (fun K hK=>?_) | refine X.ret rfl ?_ | (refine X.ite rfl rfl (fun hc=>?_);(first | (with_reducible refine Xb.t hc ?_)) <;> clear hc))
  all_goals try (exfalso;contradiction)
  exact ret_three (by simp) Tryz.results22 rfl rfl rfl (H' := H) (by (repeat (first | exact qR _ | apply qC));done) ⟨none,0,[],rfl,sleNil,rfl⟩
end Go.Proofs.YtmfppdpkalelhaaGreat
end
section
set_option linter.unusedVariables false
set_option linter.unusedSimpArgs false
namespace Go.Proofs.YtmfppdpkalelhaaGreat
open Go Go.Fw
set_option maxRecDepth 10000
theorem lawSpan (lo hi : Int) (H : List Row) : Fc Tryz.prog 13 [.int .i64 lo,.int .i64 hi] H (fun v H' => v = .agg (cSp ⟨lo,hi⟩).toArray∧H' = H):=by
 refine Fc.mk (callable Tryz.call13) Tryz.func13 rfl Tryz.ntmps13 rfl ?_;dsimp only [fr]
 repeat' (first | (refine uP rfl ?_;(first | ((first | refine uN rfl ?_);(first | (refine Xg.st (StF.alloc rfl Tryz.zeroValue24 rfl) rfl rfl ?_;rintro _ _ ⟨b4,rfl,rfl⟩)|(refine uE (EvF.build (cs:=cSp ⟨lo,hi⟩) rfl (ArgsP.cons rfl (ArgsP.cons rfl ArgsP.nil)) (te rfl) (Places.cons (te rfl) (Places.cons (te rfl) Places.nil)) Tryz.zeroValue24 rfl) rfl rfl ?_)|(refine Xg.st0 (StF.storeAll (i:=0) (vs:=cSp ⟨lo,hi⟩) rfl rfl rfl (te rfl) rfl rfl rfl rfl) rfl ?_;rintro _ _ ⟨rfl,rfl⟩;dsimp only [List.set])|(refine uE (uM rfl rfl) rfl rfl ?_)))))|(refine uD rfl ?_;refine hK _ _ ?_;clear hK K) | refine uS rfl ?_ | refine uR rfl (fun K hK=>?_) | refine X.ret rfl ?_)
 exact ret_one (v := .agg (cSp ⟨lo,hi⟩).toArray) (by simp) Tryz.results13 ⟨_,rfl,uW (te rfl) rfl (qH _) rfl⟩ (H' := H) (by repeat (first | exact qR _ | apply qK | apply qC)) ⟨rfl,rfl⟩
theorem lawMatch (n m a b lo hi : Int) (H : List Row) : Fc Tryz.prog 18 [.int .i64 n,.int .i64 m,.int .i64 a,.int .i64 b,.int .i64 lo,.int .i64 hi] H (fun v H' => v = .agg (cMt ⟨n,m,a,b,lo,hi⟩).toArray∧H' = H):=by
 refine Fc.mk (callable Tryz.call18) Tryz.func18 rfl Tryz.ntmps18 rfl ?_;dsimp only [fr]
 repeat' (first | (refine uP rfl ?_;(first | ((first | refine uN rfl ?_);(first | (refine Xg.st (StF.alloc rfl Tryz.zeroValue44 rfl) rfl rfl ?_;rintro _ _ ⟨b4,rfl,rfl⟩)|(refine uC (uT rfl (Args.cons rfl (Args.cons rfl Args.nil))) rfl rfl (lawSpan lo hi _) ?_;rintro _ H9 ⟨rfl,hH9⟩;subst H9)|(refine uE (EvF.build (cs:=cMt ⟨n,m,a,b,lo,hi⟩) rfl (ArgsP.cons rfl (ArgsP.cons rfl (ArgsP.cons rfl (ArgsP.cons rfl (ArgsP.cons rfl ArgsP.nil))))) (te rfl) (Places.cons (te rfl) (Places.cons (te rfl) (Places.cons (te rfl) (Places.cons (te rfl) (Places.cons (te rfl) Places.nil))))) Tryz.zeroValue44 rfl) rfl rfl ?_)|(refine Xg.st0 (StF.storeAll (i:=0) (vs:=cMt ⟨n,m,a,b,lo,hi⟩) rfl rfl rfl (te rfl) rfl rfl rfl rfl) rfl ?_;rintro _ _ ⟨rfl,rfl⟩;dsimp only [List.set])|(refine uE (uM rfl rfl) rfl rfl ?_)))))|(refine uD rfl ?_;refine hK _ _ ?_;clear hK K) | refine uS rfl ?_ | refine uR rfl (fun K hK=>?_) | refine X.ret rfl ?_)
 exact ret_one (v := .agg (cMt ⟨n,m,a,b,lo,hi⟩).toArray) (by simp) Tryz.results18 ⟨_,rfl,uW (te rfl) rfl (qH _) rfl⟩ (H' := H) (by repeat (first | exact qR _ | apply qK | apply qC)) ⟨rfl,rfl⟩
theorem litAges : fillL (fun i=>some (i * 2,2)) ((Array.range (4 * 2)).map (fun x=>(Value.agg #[.int .i64 0,.int .i64 0]).cells[x % (Value.agg #[.int .i64 0,.int .i64 0]).cells.size]!)).toList [(0,.agg (cSp ⟨0,0⟩).toArray),(1,.agg (cSp ⟨1,4⟩).toArray),(2,.agg (cSp ⟨2,8⟩).toArray),(3,.agg (cSp ⟨3,12⟩).toArray)] = some (agesE.flatMap cSp):=by kernel_rfl
set_option maxHeartbeats 4000000 in
theorem room_specE (l : List Mt) (a : Option Addr) (c : Nat) (H : List Row) (hl : SlE H a cMt 6 l) (hb : l.length ≤ 100) : Fc Tryz.prog 10 [.slice a l.length c] H (fun v H' => ∃ po Z,v = .agg (cRm (roomE (mt1::l)) po).toArray∧(∀ S,RmOk (Z++S) (roomE (mt1::l)) po)∧H' = Z++H):=by
 refine Fc.mk (callable Tryz.call10) Tryz.func10 rfl Tryz.ntmps10 rfl ?_;dsimp only [fr]
 repeat' (first | (refine uP rfl ?_;(first | ((first | refine uN rfl ?_);(first | (refine Xg.st (StF.alloc rfl Tryz.zeroValue32 rfl) rfl rfl ?_;rintro _ _ ⟨b2,rfl,rfl⟩)|(refine uC (uT rfl (Args.cons rfl (Args.cons rfl Args.nil))) rfl rfl (lawSpan 0 0 _) ?_;rintro _ H9 ⟨rfl,hH9⟩;subst H9)|(refine uC (uT rfl (Args.cons rfl (Args.cons rfl Args.nil))) rfl rfl (lawSpan 1 4 _) ?_;rintro _ H9 ⟨rfl,hH9⟩;subst H9)|(refine uC (uT rfl (Args.cons rfl (Args.cons rfl Args.nil))) rfl rfl (lawSpan 2 8 _) ?_;rintro _ H9 ⟨rfl,hH9⟩;subst H9)|(refine uC (uT rfl (Args.cons rfl (Args.cons rfl Args.nil))) rfl rfl (lawSpan 3 12 _) ?_;rintro _ H9 ⟨rfl,hH9⟩;subst H9)|(refine uC (uT rfl (by (repeat (first | exact Args.nil | refine Args.cons rfl ?_));done)) rfl rfl (lawMatch 1 2 1 2 3 5 _) ?_;rintro _ H9 ⟨rfl,hH9⟩;subst H9)|(refine Xg.st (StF.buildLit (len:=4) (vs:=[(0,.agg (cSp ⟨0,0⟩).toArray),(1,.agg (cSp ⟨1,4⟩).toArray),(2,.agg (cSp ⟨2,8⟩).toArray),(3,.agg (cSp ⟨3,12⟩).toArray)]) (cs:=agesE.flatMap cSp) rfl el22 Tryz.zeroValue24 (ArgsP.cons rfl (ArgsP.cons rfl (ArgsP.cons rfl (ArgsP.cons rfl ArgsP.nil)))) litAges rfl rfl rfl) rfl rfl ?_;rintro _ _ ⟨ba,rfl,rfl⟩)|(refine uE (EvF.build (cs:=cBx ⟨1,0⟩) rfl (ArgsP.cons rfl ArgsP.nil) (te rfl) (Places.cons (te rfl) (Places.cons (te rfl) Places.nil)) Tryz.zeroValue47 rfl) rfl rfl ?_)|(refine uE (EvF.build (cs:=cBx ⟨2,1⟩) rfl (ArgsP.cons rfl (ArgsP.cons rfl ArgsP.nil)) (te rfl) (Places.cons (te rfl) (Places.cons (te rfl) Places.nil)) Tryz.zeroValue47 rfl) rfl rfl ?_)|(refine Xg.st (StF.buildTwo (cs:=cBx ⟨1,0⟩) (ds:=cBx ⟨2,1⟩) rfl el23 rfl rfl rfl rfl rfl rfl (by decide) (by decide)) rfl rfl ?_;rintro _ _ ⟨bb,rfl,rfl⟩)|(refine Xg.st (StF.buildOne (cs:=cMt mt1) rfl el24 rfl rfl rfl (by decide) (by decide)) rfl rfl ?_;rintro _ _ ⟨bm,rfl,rfl⟩)|(refine Xg.st (StF.appendSl (i:=0) (l:=l) rfl el24 rfl rfl rfl (hl.sub (fun _ h=>by repeat (first | exact h | apply qT))) (fun e _=>one_mt e) rfl (by decide) (by omega)) rfl rfl ?_;rintro _ _ ⟨bn,kn,rfl,rfl⟩;dsimp only [List.eraseIdx])|(refine uE (EvF.build (cs:=cRm (roomE (mt1::l)) ⟨some ⟨ba,0,none⟩,4,some ⟨bb,0,none⟩,2,some ⟨bn,0,none⟩,kn⟩) rfl (ArgsP.cons rfl (ArgsP.cons rfl (ArgsP.cons rfl (ArgsP.cons rfl (ArgsP.cons rfl ArgsP.nil))))) (te rfl) (Places.cons (te rfl) (Places.cons (te rfl) (Places.cons (te rfl) (Places.cons (te rfl) (Places.cons (te rfl) Places.nil))))) Tryz.zeroValue32 (by simp only [Nat.add_comm 1];rfl)) rfl rfl ?_)|(refine Xg.st0 (StF.storeAll (i:=3) (vs:=cRm (roomE (mt1::l)) ⟨some ⟨ba,0,none⟩,4,some ⟨bb,0,none⟩,2,some ⟨bn,0,none⟩,kn⟩) rfl rfl rfl (te rfl) rfl rfl rfl rfl) rfl ?_;rintro _ _ ⟨rfl,rfl⟩;dsimp only [List.set])|(refine uE (uM rfl rfl) rfl rfl ?_)))))|(refine uD rfl ?_;refine hK _ _ ?_;clear hK K) | refine uS rfl ?_ | refine uR rfl (fun K hK=>?_) | refine X.ret rfl ?_)
 exact ret_one (v := .agg (cRm (roomE (mt1::l)) ⟨some ⟨ba,0,none⟩,4,some ⟨bb,0,none⟩,2,some ⟨bn,0,none⟩,kn⟩).toArray) (by simp) Tryz.results10 ⟨_,rfl,uW (te rfl) rfl (by repeat (first | exact qH _ | apply qT)) rfl⟩ (H' := [⟨bn,0,(mt1::l).flatMap cMt,some 44,kn * 6⟩,⟨bb,0,cBx ⟨1,0⟩++cBx ⟨2,1⟩,some 47,2 * 2⟩,⟨ba,0,agesE.flatMap cSp,some 24,4 * 2⟩]++H) (by repeat (first | exact qR _ | apply qK | apply qC))
  ⟨_,_,rfl,fun S=>⟨SlE.ofRow (qT _ (qT _ (qH _))) (fun _ _=>rfl),SlE.ofRow (l:=([⟨1,0⟩,⟨2,1⟩] : List Bx)) (qT _ (qH _)) (fun _ _=>rfl),SlE.ofRow (qH _) (fun _ _=>rfl),Nat.le_of_ble_eq_true rfl,Nat.le_of_ble_eq_true rfl,by show l.length + 1 ≤ _;omega⟩,rfl⟩
theorem roomRE (H : List Row) : Fc Tryz.prog 10 [.slice none 0 0] H (fun v H' => ∃ po Z,v = .agg (cRm RE po).toArray∧(∀ S,RmOk (Z++S) RE po)∧H' = Z++H):=room_specE [] none 0 H sleNil (Nat.zero_le _)
theorem permIn (Z : List Row) (x y : Row) (H : List Row) : (Z++x::y::H).Perm (y::(Z++x::H)):=by
 have:=List.perm_middle (l₁:=Z++[x]) (a:=y) (l₂:=H)
 simpa using this
theorem oddRO (H : List Row) : Fc Tryz.prog 19 [] H (fun v H' => ∃ po Z,v = .agg (cRm RO po).toArray∧(∀ S,RmOk (Z++S) RO po)∧H' = Z++H):=by
 have hr:=fun b S (h : (⟨b,0,cMt mt2,some 44,1 * 6⟩ : Row) ∈ S)=>room_specE [mt2] (some ⟨b,0,none⟩) 1 S (SlE.ofRow (l:=[mt2]) h (fun _ _=>rfl)) (Nat.le_of_ble_eq_true rfl)
 refine Fc.mk (callable Tryz.call19) Tryz.func19 rfl Tryz.ntmps19 rfl ?_;dsimp only [fr]
 repeat' (first | (refine uP rfl ?_;(first | ((first | refine uN rfl ?_);(first | (refine Xg.st (StF.alloc rfl Tryz.zeroValue32 rfl) rfl rfl ?_;rintro _ _ ⟨b0,rfl,rfl⟩)|(refine uC (uT rfl (by (repeat (first | exact Args.nil | refine Args.cons rfl ?_));done)) rfl rfl (lawMatch 2 3 2 1 3 9 _) ?_;rintro _ H9 ⟨rfl,hH9⟩;subst H9)|(refine Xg.st (StF.buildOne (cs:=cMt mt2) rfl el24 rfl rfl rfl (by decide) (by decide)) rfl rfl ?_;rintro _ _ ⟨bm,rfl,rfl⟩)|(refine uC (uT rfl (by (repeat (first | exact Args.nil | refine Args.cons rfl ?_));done)) rfl rfl (hr bm _ (qH _)) ?_;rintro _ _ ⟨po,Z,rfl,hpo,rfl⟩)))))|(refine uD rfl ?_;refine hK _ _ ?_;clear hK K) | refine uS rfl ?_ | refine uR rfl (fun K hK=>?_))
 refine XO.permQ (permIn Z _ _ H).symm ?_
 repeat' (first | (refine uP rfl ?_;(first | ((first | refine uN rfl ?_);(first | (refine Xg.st0 (StF.storeAll (i:=0) (vs:=cRm RO po) rfl rfl rfl (te rfl) rfl rfl rfl rfl) rfl ?_;rintro _ _ ⟨rfl,rfl⟩;dsimp only [List.set])))))|(refine uD rfl ?_;refine hK _ _ ?_;clear hK K) | refine X.ret rfl ?_)
 exact ret_one (v := .agg (cRm RO po).toArray) (by simp) Tryz.results19 ⟨_,rfl,uW (te rfl) rfl (qH _) rfl⟩ (H' := Z++⟨bm,0,cMt mt2,some 44,1 * 6⟩::H) (List.sublist_cons_self _ _) ⟨po,Z++[⟨bm,0,cMt mt2,some 44,1 * 6⟩],rfl,fun S=>by rw [List.append_assoc];exact hpo _,by simp⟩
theorem ints_spec (l : List Int) (a : Option Addr) (c b1 : Nat) (w : List Int) (H : List Row) (hl : SlE H a cI 1 l) (hw : SlE H (some ⟨b1,0,none⟩) cI 1 w) (h : l = w) (hb : l.length ≤ 1000) : Fc Tryz.prog 17 [.slice a l.length c,.int .i64 0,.slice (some ⟨b1,0,none⟩) w.length w.length] H (fun v H' => v = .bool true∧H' = H):=by
 subst h
 have hs:=sameInts_spec l l a (some ⟨b1,0,none⟩) c l.length H hl hw (by omega)
 rw [decide_eq_true rfl] at hs
 refine Fc.mk (callable Tryz.call17) Tryz.func17 rfl Tryz.ntmps17 rfl ?_;dsimp only [fr]
 repeat' (first | (refine uP rfl ?_;(first | ((first | refine uN rfl ?_ | (refine Xo.g rfl rfl ?_;with_reducible refine Xw.tt ?_));(first | (refine uC (uT rfl (Args.cons rfl (Args.cons rfl Args.nil))) rfl rfl (hs) ?_;rintro _ H9 ⟨rfl,hH9⟩;subst H9)|(refine uE (uM rfl rfl) rfl rfl ?_)|(refine uE (uA rfl rfl) rfl rfl ?_)|(refine uE (EvF.pickT rfl rfl rfl) rfl rfl ?_)|(refine uE (uQ rfl rfl rfl rfl) rfl rfl ?_)))|(refine Xo.g rfl rfl ?_;(first | (with_reducible refine Xw.case (fun h=>?_) (fun h=>?_) <;> simp only [h,decide_true,decide_false,Bool.not_true,Bool.not_false,and_self,and_true,true_and,and_false,false_and])))))|(refine uD rfl ?_;refine hK _ _ ?_;clear hK K) | refine uS rfl ?_ | refine uR rfl (fun K hK=>?_) | refine X.ret rfl ?_)
 all_goals try (exfalso;contradiction)
 exact ret_one (by simp) Tryz.results17 rfl (H' := H) (by repeat (first | exact qR _ | apply qK | apply qC)) ⟨rfl,rfl⟩
end Go.Proofs.YtmfppdpkalelhaaGreat
end
section
set_option linter.unusedVariables false
set_option linter.unusedSimpArgs false
namespace Go.Proofs.YtmfppdpkalelhaaGreat
open Go Go.Fw
set_option maxRecDepth 10000
/-- a claim: a chart, a place, a span -/
def cCm (R : Rm) (p : Pl) (a : Option Addr) (c : Nat) (q : Pk) (s : Sp) : List Value:=cCt R p a c++cPk q++cSp s
theorem proves1_spec (x : Mt) (l : List Int) (al : Option Addr) (cl b : Nat) (ow : Option Kd) (cap : Nat) (H : List Row) (hm : ⟨b,0,[.slice al l.length cl],ow,cap⟩ ∈ H) (hl : SlE H al cI 1 l) (hb : l.length ≤ 1000000) :
  Fc Tryz.prog 87 ([.agg (cMt x).toArray]++[.pointer (some ⟨b,0,none⟩)]) H (fun v H' => v = .bool (!decide (x.number ∈ l))∧H' = H):=by
 show Fc Tryz.prog 87 [.agg (cMt x).toArray,.pointer (some ⟨b,0,none⟩)] H _
 refine Fc.mk (callable Tryz.call87) Tryz.func87 rfl Tryz.ntmps87 rfl ?_;dsimp only [fr]
 repeat' (first | (refine uP rfl ?_;(first | ((first | refine uN rfl ?_);(first | (refine uE (uL rfl rfl (uO (te rfl) rfl (qT _ hm) rfl)) rfl rfl ?_)|(refine uC (uT rfl (Args.cons rfl (Args.cons rfl Args.nil))) rfl rfl (contains_spec l al cl x.number _ (hl.sub (fun _ h=>by repeat (first | exact h | apply qT))) (by omega)) ?_;rintro _ H9 ⟨rfl,hH9⟩;subst H9)|(refine uE (uA rfl rfl) rfl rfl ?_)|(refine uE (EvF.not rfl rfl) rfl rfl ?_)|(refine uE (uF rfl rfl (te rfl) rfl (te rfl) (by decide)) rfl rfl ?_)|(refine uE (uL rfl rfl (uO (te rfl) rfl (qH _) rfl)) rfl rfl ?_)|(refine Xg.st (StF.boxAgg rfl rfl) rfl rfl ?_;rintro _ _ ⟨bx,rfl,rfl⟩)))))|(refine uD rfl ?_;refine hK _ _ ?_;clear hK K) | refine uS rfl ?_ | refine uR rfl (fun K hK=>?_) | refine X.ret rfl ?_)
 exact ret_one (by simp) Tryz.results87 rfl (H' := H) (by repeat (first | exact qR _ | apply qK | apply qC)) ⟨rfl,rfl⟩
def tsPv : List TOp:=[⟨some 10,[],[],[]⟩,⟨some 11,[],[],[]⟩,⟨some 12,[1],[1],[]⟩,⟨some 13,[0,1,2],[0,2],[]⟩,⟨some 14,[],[],[]⟩,⟨some 15,[4],[4],[]⟩,⟨some 16,[0,1,2,3,4,5],[3,5],[]⟩,⟨some 4,[0,1,2,3,4,5,6],[6],[]⟩]
def valPv (b2 b5 : Nat) (R : Rm) (p : Pl) (a : Option Addr) (c : Nat) (q : Pk) (s t : Sp) (w : Bool) (k : Nat) (env : Env) : Value :=
 match k with
 | 0 => .agg (cCt R p a c).toArray
 | 1 => .pointer (some ⟨b2,6,none⟩)
 | 2 => .agg (cPk q).toArray
 | 3 => .agg (cSp t).toArray
 | 4 => .pointer (some ⟨b2,8,none⟩)
 | 5 => .agg (cSp s).toArray
 | 6 => .bool w
 | 7 => .bool w
 | _=>undef
def rowsPv (b2 b5 : Nat) (R : Rm) (p : Pl) (a : Option Addr) (c : Nat) (q : Pk) (s t : Sp) (w : Bool) (k : Nat) (env : Env) : List Row :=
 match k with
 | _=>[]
theorem locPv (b2 b5 : Nat) (R : Rm) (p : Pl) (a : Option Addr) (c : Nat) (q : Pk) (s t : Sp) (w : Bool) : ∀ k env i q9,i ≠ k → (tAt tsPv k).sup.contains i = false → valPv b2 b5 R p a c q s t w k (upd env i q9)=valPv b2 b5 R p a c q s t w k env∧rowsPv b2 b5 R p a c q s t w k (upd env i q9)=rowsPv b2 b5 R p a c q s t w k env:=by
 intro k env i q hk hs
 have hu : ∀ j,j ≠ i → upd env i q j = env j:=fun j hj=>by unfold upd;rw [if_neg hj]
 match k,hk,hs with
 | 0,_,_=>exact ⟨rfl,rfl⟩
 | 1,_,_=>exact ⟨rfl,rfl⟩
 | 2,_,_=>exact ⟨rfl,rfl⟩
 | 3,_,_=>exact ⟨rfl,rfl⟩
 | 4,_,_=>exact ⟨rfl,rfl⟩
 | 5,_,_=>exact ⟨rfl,rfl⟩
 | 6,_,_=>exact ⟨rfl,rfl⟩
 | 7,_,_=>exact ⟨rfl,rfl⟩
 | _ + 8,_,_=>exact ⟨rfl,rfl⟩
set_option maxHeartbeats 4000000 in
theorem kproves_spec (R : Rm) (p : Pl) (a : Option Addr) (c : Nat) (q : Pk) (s : Sp) (l : List Int) (al : Option Addr) (cl : Nat) (H : List Row) (hr : okRm R) (hm : matsThere R R.mats) (hC : CtOk H R p a) (hla : R.ages.length ≤ 1000) (hlm : R.mats.length ≤ 1000) (hpc : (plcs R).length ≤ c) (hT : hasT R R.mats) (hq : q ∈ plcs R) (hl : SlE H al cI 1 l) (hb : l.length ≤ 1000000) :
  Fc Tryz.prog 56 ([.agg (cCm R p a c q s).toArray]++[.slice al l.length cl]++[]) H (fun v H' => v = .bool (prvN R q s l)∧H' = H):=by
 show Fc Tryz.prog 56 [.agg (cCm R p a c q s).toArray,.slice al l.length cl] H _
 obtain ⟨M,hM⟩ : ∃ M,M = R.mats.filter (fun x => !(!decide (x.number ∈ l))):=⟨_,rfl⟩
 have hM2 : M = inM R.mats l:=by rw [hM];unfold inM;refine List.filter_congr fun x _=>by rw [Bool.not_not]
 have hMs : ∀ x ∈ M,x ∈ R.mats:=fun x hx=>by rw [hM] at hx;exact (List.mem_filter.1 hx).1
 have hMl : M.length ≤ 1000:=by rw [hM];exact Nat.le_trans (List.length_filter_le _ _) hlm
 have hres : prvN R q s l = decide (rng R M q zp = s):=by
  unfold prvN prvM
  rw [hM2]
  try exact decide_eq_decide.2 Iff.rfl
 rw [hres]
 have hwo:=fun b3 S hC (hl' : SlE S al cI 1 l) (m3 : (⟨b3,0,[.slice al l.length cl],some 38,1⟩ : Row) ∈ S)=>kwithout_spec R p a c 87 [.pointer (some ⟨b3,0,none⟩)] (fun x => !decide (x.number ∈ l)) S hlm hC (fun x H' hs=>proves1_spec x l al cl b3 (some 38) 1 H' (hs _ m3) (hl'.sub hs) hb)
 rw [← hM] at hwo
 clear hres hM
 have hye:=fun p' S hC' => yellow_spec (wM R M) p' a c q S (wM_ok M hr) (mats_sub hm hMs) hC' hla hMl hpc hq (wM_has.2 (hT.mono hMs))
 rw [show rng (wM R M) (wM R M).mats q zp = rng R M q zp from wM_rng R M M q zp] at hye
 obtain ⟨u9,ht⟩ : ∃ u9,u9 = rng R M q zp:=⟨_,rfl⟩
 rw [← ht] at hye ⊢
 refine Fc.mk (callable Tryz.call56) Tryz.func56 rfl Tryz.ntmps56 rfl ?_;dsimp only [fr]
 repeat' (first | (refine uP rfl ?_;(first | ((first | refine uN rfl ?_);(first | (refine uE (uL rfl rfl (LoadV.ownAgg (vs:=cCt R p a c) (te rfl) rfl (qT _ (qH _)) rfl rfl)) rfl rfl ?_)|(refine uE (EvF.makeFunc (fl:=[]) rfl Args.nil (Args.cons rfl Args.nil)) rfl rfl ?_)|(refine uC (uT rfl (by (repeat (first | exact Args.nil | refine Args.cons rfl ?_));done)) rfl rfl (hwo _ _ (hC.sub (fun _ h=>by repeat (first | exact h | apply qT))) (hl.sub (fun _ h=>by repeat (first | exact h | apply qT))) (qH _)) ?_;rintro _ _ ⟨p',Z,rfl,hC',rfl⟩)|(refine Xg.st (StF.alloc rfl Tryz.zeroValue79 rfl) rfl rfl ?_;rintro _ _ ⟨b5,rfl,rfl⟩)|(refine Xg.st0 (StF.storeAll (i:=0) (vs:=cCt (wM R M) p' a c) rfl rfl rfl (te rfl) rfl rfl rfl rfl) rfl ?_;rintro _ _ ⟨rfl,rfl⟩;dsimp only [List.set])|(refine uE (uA rfl rfl) rfl rfl ?_)|(refine uE (uF rfl rfl (te rfl) rfl (te rfl) (by decide)) rfl rfl ?_)|(refine Xg.st (StF.boxAgg rfl rfl) rfl rfl ?_;rintro _ _ ⟨bx,rfl,rfl⟩)|(refine Xg.st (StF.boxOne rfl rfl rfl) rfl rfl ?_;rintro _ _ ⟨bx,rfl,rfl⟩)))))|(refine uD rfl ?_;refine hK _ _ ?_;clear hK K) | refine uS rfl ?_ | refine uR rfl (fun K hK=>?_))
 rename_i b2
 generalize bx = b3 at hC' ⊢
 obtain ⟨G,hG⟩ : ∃ G : List Row,G = Z++⟨b3,0,[.slice al l.length cl],some 38,1⟩::⟨b2,0,cCm R p a c q s,some 95,10⟩::H:=⟨_,rfl⟩
 have hg2 : (⟨b2,0,cCm R p a c q s,some 95,10⟩ : Row) ∈ G:=by rw [hG];exact List.mem_append_right _ (qT _ (qH _))
 have hCG : CtOk G (wM R M) p' a:=by rw [hG];exact hC'
 have hHG : H.Sublist G:=by rw [hG];exact (qC _ (qC _ (qR _))).trans (List.sublist_append_right _ _)
 refine X.weak (F' := [(2,.pointer (some ⟨b2,0,none⟩)),(5,.pointer (some ⟨b5,0,none⟩))]) (H' := ⟨b5,0,cCt (wM R M) p' a c,some 79,6⟩::G) (by repeat (first | exact uU _ | refine uV rfl ?_)) (by rw [hG];exact (by repeat (first | exact qR _ | apply qK | apply qC))) ?_
 clear hG hC' hwo
 refine X.regionOb tsPv [2,5] [(2,.pointer (some ⟨b2,0,none⟩)),(5,.pointer (some ⟨b5,0,none⟩))] (valPv b2 b5 (wM R M) p' a c q s u9 (decide (u9 = s))) (rowsPv b2 b5 (wM R M) p' a c q s u9 (decide (u9 = s))) (fun _=>(0,0)) (⟨b5,0,cCt (wM R M) p' a c,some 79,6⟩::G) rfl mixed (by repeat (first | exact uU _ | refine uV rfl ?_)) rfl (by kernel_rfl) (locPv b2 b5 (wM R M) p' a c q s u9 (decide (u9 = s))) (qR _) ?_ ?_
 ·repeat' (first | exact AllF.done rfl | (refine AllF.step rfl ?_ ?_;·(first | fail | ((first | refine Ob.ng rfl ?_);(first | exact ObK.pure (fun env R hR=>by exact ⟨_,uA rfl rfl,rfl⟩) rfl (fun _=>rfl) | exact ObK.pure (fun env R hR=>by exact ⟨_,uF rfl rfl (te rfl) rfl (te rfl) (by decide),rfl⟩) rfl (fun _=>rfl) | exact ObK.pure (fun env R hR=>by exact ⟨_,uL rfl rfl (uW (te rfl) rfl (hR _ (qH _)) rfl),rfl⟩) rfl (fun _=>rfl)|(exact ObK.pure (fun env S hS=>⟨.agg (cPk q).toArray,uL rfl rfl (LoadV.ownAgg (cs:=cCm R p a c q s) (vs:=cPk q) (te rfl) rfl (hS _ (qT _ hg2)) rfl rfl),rfl⟩) rfl (fun _=>rfl))|(exact ObK.pure (fun env S hS=>⟨.agg (cSp s).toArray,uL rfl rfl (LoadV.ownAgg (cs:=cCm R p a c q s) (vs:=cSp s) (te rfl) rfl (hS _ (qT _ hg2)) rfl rfl),rfl⟩) rfl (fun _=>rfl))|(exact fun env S hS=>OpF.callV (Z:=[]) (uT rfl (Args.cons rfl (Args.cons rfl Args.nil))) (hye p' S (hCG.sub (fun r h=>hS r (qT _ h)))) rfl rfl)|(exact ObK.pure (fun env S hS=>⟨.bool (decide (u9 = s)),EvF.eqSt rfl rfl rfl (by kernel_rfl) (fun w=>eqSp 9998 u9 s w) rfl,rfl⟩) rfl (fun _=>rfl)))))))
 intro env t ha2 hv;refine ⟨_,ha2.cons (hv 7 4 (Nat.le_of_ble_eq_true rfl) rfl),?_⟩;clear hv ha2
 repeat' (first | refine X.ret rfl ?_)
 exact ret_one (v := .bool (decide (u9 = s))) (by simp) Tryz.results56 rfl (H' := H) (qC _ hHG) ⟨rfl,rfl⟩
end Go.Proofs.YtmfppdpkalelhaaGreat
end
section
set_option linter.unusedVariables false
set_option linter.unusedSimpArgs false
namespace Go.Proofs.YtmfppdpkalelhaaGreat
open Go Go.Fw
set_option maxRecDepth 10000
def zCm : List Value:=zCt++[.int .i64 0,.int .i64 0]++[.int .i64 0,.int .i64 0]
def tsKcl : List TOp:=[⟨some 28,[],[],[]⟩,⟨some 29,[],[],[]⟩,⟨some 30,[],[],[]⟩,⟨some 31,[],[],[]⟩,⟨some 32,[2,3],[2,3],[]⟩,⟨some 33,[0,1,2,3,4],[0,1,4],[]⟩,⟨none,[0,1,2,3,4,5],[5],[8]⟩,⟨some 7,[0,1,2,3,4,5,6],[],[]⟩,⟨none,[],[],[]⟩]
def valKcl (b6 b8 b10 : Nat) (R : Rm) (p : Pl) (a : Option Addr) (c : Nat) (q : Pk) (s : Sp) (k : Nat) (env : Env) : Value :=
 match k with
 | 0 => .agg (cCt R p a c).toArray
 | 1 => .agg (cPk q).toArray
 | 2 => .agg (cCt R p a c).toArray
 | 3 => .agg (cPk q).toArray
 | 4 => .agg (cSp s).toArray
 | 5 => .agg (cCm R p a c q s).toArray
 | 6=>undef
 | 7 => .int .i64 0
 | _=>undef
def rowsKcl (b6 b8 b10 : Nat) (R : Rm) (p : Pl) (a : Option Addr) (c : Nat) (q : Pk) (s : Sp) (k : Nat) (env : Env) : List Row :=
 match k with
 | 6=>[⟨b6,0,cCm R p a c q s,some 95,10⟩]
 | 8=>[⟨b6,0,zCm,some 95,10⟩]
 | _=>[]
theorem locKcl (b6 b8 b10 : Nat) (R : Rm) (p : Pl) (a : Option Addr) (c : Nat) (q : Pk) (s : Sp) : ∀ k env i q9,i ≠ k → (tAt tsKcl k).sup.contains i = false → valKcl b6 b8 b10 R p a c q s k (upd env i q9)=valKcl b6 b8 b10 R p a c q s k env∧rowsKcl b6 b8 b10 R p a c q s k (upd env i q9)=rowsKcl b6 b8 b10 R p a c q s k env:=by
 intro k env i q hk hs
 have hu : ∀ j,j ≠ i → upd env i q j = env j:=fun j hj=>by unfold upd;rw [if_neg hj]
 match k,hk,hs with
 | 0,_,_=>exact ⟨rfl,rfl⟩
 | 1,_,_=>exact ⟨rfl,rfl⟩
 | 2,_,_=>exact ⟨rfl,rfl⟩
 | 3,_,_=>exact ⟨rfl,rfl⟩
 | 4,_,_=>exact ⟨rfl,rfl⟩
 | 5,_,_=>exact ⟨rfl,rfl⟩
 | 6,_,_=>exact ⟨rfl,rfl⟩
 | 7,_,_=>exact ⟨rfl,rfl⟩
 | 8,_,_=>exact ⟨rfl,rfl⟩
 | _ + 9,_,_=>exact ⟨rfl,rfl⟩
set_option maxHeartbeats 8000000 in
theorem claimedY (R : Rm) (p : Pl) (x m : Int) (H : List Row) (hR : RmOk H R p) (h2 : R.boxes.length ≤ 1000000) (he : openE R [x] [m] = 0) :
  Fc Tryz.prog 52 [.agg (cRm R p).toArray,.int .i64 x,.int .i64 m] H (fun v H' => ∃ b k,(plcs R).length ≤ k∧v = .tuple #[.agg (cCm R p (some ⟨b,0,none⟩) k ⟨x,m⟩ (rng R R.mats ⟨x,m⟩ zp)).toArray,.int .i64 0]∧H' = ⟨b,0,(plcs R).flatMap cPk,some 86,k * 2⟩::H):=by
 have hbt : ∀ (H' : List Row) (b1 b2 : Nat),⟨b1,0,[.int .i64 x],some 3,1 * 1⟩ ∈ H' → ⟨b2,0,[.int .i64 m],some 3,1 * 1⟩ ∈ H' → BtOk H' ⟨[x],some ⟨b1,0,none⟩,1,[m],some ⟨b2,0,none⟩,1⟩:=fun H' b1 b2 q1 q2=>⟨SlE.ofRow (l:=[x]) q1 (fun _ _=>rfl),SlE.ofRow (l:=[m]) q2 (fun _ _=>rfl),Nat.le_of_ble_eq_true rfl,Nat.le_of_ble_eq_true rfl⟩
 obtain ⟨hok,_,_,hT⟩:=openE_ok he
 have hp:=plcs_of he (List.mem_singleton.2 rfl) (List.mem_singleton.2 rfl)
 have hye:=fun H' b k hC hk=>yellow_spec R p (some ⟨b,0,none⟩) k ⟨x,m⟩ H' hok.ok hok.mats hC hok.lens.ages hok.lens.mats hk hp hT
 obtain ⟨s,hs⟩ : ∃ s,s = rng R R.mats ⟨x,m⟩ zp:=⟨_,rfl⟩
 rw [← hs] at hye ⊢
 refine Fc.mk (callable Tryz.call52) Tryz.func52 rfl Tryz.ntmps52 rfl ?_;dsimp only [fr]
 repeat' (first | (refine uP rfl ?_;(first | ((first | refine uN rfl ?_);(first | (refine uE (uQ (b:=false) rfl rfl rfl (congrArg some (nd_f (by omega)))) rfl rfl ?_)|(refine Xg.st (StF.buildOne (v0 := .int .i64 x) rfl el55 rfl rfl rfl (by decide) (by decide)) rfl rfl ?_;rintro _ _ ⟨b1,rfl,rfl⟩)|(refine Xg.st (StF.buildOne (v0 := .int .i64 m) rfl el55 rfl rfl rfl (by decide) (by decide)) rfl rfl ?_;rintro _ _ ⟨b2,rfl,rfl⟩)|(refine uE (EvF.build (cs:=cBt ⟨[x],some ⟨b1,0,none⟩,1,[m],some ⟨b2,0,none⟩,1⟩) rfl (ArgsP.cons rfl (ArgsP.cons rfl ArgsP.nil)) (te rfl) (Places.cons (te rfl) (Places.cons (te rfl) Places.nil)) Tryz.zeroValue83 rfl) rfl rfl ?_)|(refine uC (uT rfl (by (repeat (first | exact Args.nil | refine Args.cons rfl ?_));done)) rfl rfl (openY (hR.sub (fun _ h=>by repeat (first | exact h | apply qT))) (hbt _ b1 b2 (qT _ (qH _)) (qH _)) h2 he) ?_;rintro _ _ ⟨b,k,hbk,rfl,rfl⟩)|(refine Xg.st (StF.alloc rfl Tryz.zeroValue79 rfl) rfl rfl ?_;rintro _ _ ⟨b8,rfl,rfl⟩)|(refine Xg.st0 (StF.storeAll (i:=0) (vs:=cCt R p (some ⟨b,0,none⟩) k) rfl rfl rfl (te rfl) rfl rfl rfl rfl) rfl ?_;rintro _ _ ⟨rfl,rfl⟩;dsimp only [List.set])|(refine uE (EvF.build (cs:=cPk ⟨x,m⟩) rfl (ArgsP.cons rfl (ArgsP.cons rfl ArgsP.nil)) (te rfl) (Places.cons (te rfl) (Places.cons (te rfl) Places.nil)) Tryz.zeroValue86 rfl) rfl rfl ?_)|(refine Xg.st (StF.alloc rfl Tryz.zeroValue86 rfl) rfl rfl ?_;rintro _ _ ⟨b10,rfl,rfl⟩)|(refine uE (uM rfl rfl) rfl rfl ?_)|(refine uE (uA rfl rfl) rfl rfl ?_)|(refine uE (uL rfl rfl (uW (te rfl) rfl (qT _ (qH _)) rfl)) rfl rfl ?_)|(refine uE (uX rfl rfl rfl) rfl rfl ?_)|(refine Xg.st (StF.boxAgg rfl rfl) rfl rfl ?_;rintro _ _ ⟨bx,rfl,rfl⟩)|(refine Xg.st (StF.alloc rfl Tryz.zeroValue95 rfl) rfl rfl ?_;rintro _ _ ⟨bx,rfl,rfl⟩)|(refine Xg.st0 (StF.storeAll (i:=0) rfl rfl rfl (te rfl) rfl rfl rfl rfl) rfl ?_;rintro _ _ ⟨rfl,rfl⟩;dsimp only [List.set])))))|(refine uD rfl ?_;refine hK _ _ ?_;clear hK K) | refine uS rfl ?_ | refine uR rfl (fun K hK=>?_) | refine X.skip rfl ?_ | (refine X.ite rfl rfl (fun hc=>?_);(first | (with_reducible refine Xb.f hc ?_)) <;> clear hc))
 all_goals try (exfalso;contradiction)
 generalize bx = b6
 refine X.weak (F' := [(6,.pointer (some ⟨b6,0,none⟩)),(8,.pointer (some ⟨b8,0,none⟩)),(10,.pointer (some ⟨b10,0,none⟩))]) (H' := ⟨b10,0,cPk ⟨x,m⟩,some 86,2⟩::⟨b8,0,cCt R p (some ⟨b,0,none⟩) k,some 79,6⟩::⟨b,0,(plcs R).flatMap cPk,some 86,k * 2⟩::⟨b6,0,zCm,some 95,10⟩::H) (by repeat (first | exact uU _ | refine uV rfl ?_)) (by repeat (first | exact qR _ | apply qK | apply qC)) ?_
 refine X.permH (H' := ⟨b6,0,zCm,some 95,10⟩::⟨b10,0,cPk ⟨x,m⟩,some 86,2⟩::⟨b8,0,cCt R p (some ⟨b,0,none⟩) k,some 79,6⟩::⟨b,0,(plcs R).flatMap cPk,some 86,k * 2⟩::H) (List.perm_middle (l₁:=[_,_,_])).symm ?_
 refine X.regionOb tsKcl [6,8,10] [(6,.pointer (some ⟨b6,0,none⟩)),(8,.pointer (some ⟨b8,0,none⟩)),(10,.pointer (some ⟨b10,0,none⟩))] (valKcl b6 b8 b10 R p (some ⟨b,0,none⟩) k ⟨x,m⟩ s) (rowsKcl b6 b8 b10 R p (some ⟨b,0,none⟩) k ⟨x,m⟩ s) (fun _=>(0,0)) (⟨b10,0,cPk ⟨x,m⟩,some 86,2⟩::⟨b8,0,cCt R p (some ⟨b,0,none⟩) k,some 79,6⟩::⟨b,0,(plcs R).flatMap cPk,some 86,k * 2⟩::H) rfl mixed (by repeat (first | exact uU _ | refine uV rfl ?_)) rfl (by kernel_rfl) (locKcl b6 b8 b10 R p (some ⟨b,0,none⟩) k ⟨x,m⟩ s) (qR _) ?_ ?_
 ·repeat' (first | exact AllF.done rfl | (refine AllF.step rfl ?_ ?_;·(first | fail | ((first | refine Ob.ng rfl ?_);(first | exact ObK.pure (fun env R hR=>by exact ⟨_,uA rfl rfl,rfl⟩) rfl (fun _=>rfl) | exact ObK.pure (fun env R hR=>by exact ⟨_,uL rfl rfl (uW (te rfl) rfl (hR _ (qH _)) rfl),rfl⟩) rfl (fun _=>rfl) | exact ObK.pure (fun env R hR=>by exact ⟨_,uL rfl rfl (uW (te rfl) rfl (hR _ (qT _ (qH _))) rfl),rfl⟩) rfl (fun _=>rfl)|(exact fun env S hS=>OpF.callV (Z:=[]) (uT rfl (Args.cons rfl (Args.cons rfl Args.nil))) (hye S b k ⟨hR.sub (fun r h=>hS r (qT _ (qT _ (qT _ h)))),SlE.ofRow (hS _ (qT _ (qT _ (qH _)))) (fun _ _=>rfl)⟩ hbk) rfl rfl)|(exact ObK.pure (fun env S hS=>⟨_,EvF.build (cs:=cCm R p (some ⟨b,0,none⟩) k ⟨x,m⟩ s) rfl (ArgsP.cons rfl (ArgsP.cons rfl (ArgsP.cons rfl ArgsP.nil))) (te rfl) (Places.cons (te rfl) (Places.cons (te rfl) (Places.cons (te rfl) Places.nil))) Tryz.zeroValue95 rfl,rfl⟩) rfl (fun _=>rfl))|(exact fun env S hS=>(StF.storeAll (i:=0) (cs:=zCm) (vs:=cCm R p (some ⟨b,0,none⟩) k ⟨x,m⟩ s) rfl rfl rfl (te rfl) rfl rfl rfl rfl).op.mono (fun v H' ⟨hv,hH⟩=>⟨(0,0),fun h=>absurd rfl h,by rw [hH];exact List.Perm.refl _⟩)))))))
 intro env t ha2 hv;refine ⟨_,ha2.cons (hv 7 7 (Nat.le_of_ble_eq_true rfl) rfl),?_⟩;clear hv ha2
 show X _ _ _ [(7,.int .i64 0),(6,.pointer (some ⟨b6,0,none⟩)),(8,.pointer (some ⟨b8,0,none⟩)),(10,.pointer (some ⟨b10,0,none⟩))] (⟨b6,0,cCm R p (some ⟨b,0,none⟩) k ⟨x,m⟩ s,some 95,10⟩::⟨b10,0,cPk ⟨x,m⟩,some 86,2⟩::⟨b8,0,cCt R p (some ⟨b,0,none⟩) k,some 79,6⟩::⟨b,0,(plcs R).flatMap cPk,some 86,k * 2⟩::H) _
 clear env
 repeat' (first | refine X.ret rfl ?_)
 exact ret_two (v := .agg (cCm R p (some ⟨b,0,none⟩) k ⟨x,m⟩ s).toArray) (by simp) Tryz.results52 ⟨_,rfl,uW (te rfl) rfl (qH _) rfl⟩ rfl (H' := ⟨b,0,(plcs R).flatMap cPk,some 86,k * 2⟩::H) (by repeat (first | exact qR _ | apply qK | apply qC)) ⟨b,k,hbk,rfl,rfl⟩
set_option maxHeartbeats 4000000 in
theorem claimedN (R : Rm) (p : Pl) (x m e : Int) (H : List Row) (hR : RmOk H R p) (h2 : R.boxes.length ≤ 1000000) (he : openE R [x] [m] = e) (h0 : e ≠ 0) :
  Fc Tryz.prog 52 [.agg (cRm R p).toArray,.int .i64 x,.int .i64 m] H (fun v H' => v = .tuple #[.agg zCm.toArray,.int .i64 e]∧H' = H):=by
 have hbt : ∀ (H' : List Row) (b1 b2 : Nat),⟨b1,0,[.int .i64 x],some 3,1 * 1⟩ ∈ H' → ⟨b2,0,[.int .i64 m],some 3,1 * 1⟩ ∈ H' → BtOk H' ⟨[x],some ⟨b1,0,none⟩,1,[m],some ⟨b2,0,none⟩,1⟩:=fun H' b1 b2 q1 q2=>⟨SlE.ofRow (l:=[x]) q1 (fun _ _=>rfl),SlE.ofRow (l:=[m]) q2 (fun _ _=>rfl),Nat.le_of_ble_eq_true rfl,Nat.le_of_ble_eq_true rfl⟩
 refine Fc.mk (callable Tryz.call52) Tryz.func52 rfl Tryz.ntmps52 rfl ?_;dsimp only [fr]
 repeat' (first | (refine uP rfl ?_;(first | ((first | refine uN rfl ?_);(first | (refine uE (uQ (b:=true) rfl rfl rfl (congrArg some (nd_t (by omega)))) rfl rfl ?_)|(refine Xg.st (StF.buildOne (v0 := .int .i64 x) rfl el55 rfl rfl rfl (by decide) (by decide)) rfl rfl ?_;rintro _ _ ⟨b1,rfl,rfl⟩)|(refine Xg.st (StF.buildOne (v0 := .int .i64 m) rfl el55 rfl rfl rfl (by decide) (by decide)) rfl rfl ?_;rintro _ _ ⟨b2,rfl,rfl⟩)|(refine uE (EvF.build (cs:=cBt ⟨[x],some ⟨b1,0,none⟩,1,[m],some ⟨b2,0,none⟩,1⟩) rfl (ArgsP.cons rfl (ArgsP.cons rfl ArgsP.nil)) (te rfl) (Places.cons (te rfl) (Places.cons (te rfl) Places.nil)) Tryz.zeroValue83 rfl) rfl rfl ?_)|(refine uC (uT rfl (Args.cons rfl (Args.cons rfl Args.nil))) rfl rfl (openN (hR.sub (fun _ h=>by repeat (first | exact h | apply qT))) (hbt _ b1 b2 (qT _ (qH _)) (qH _)) h2 he h0) ?_;rintro _ H9 ⟨rfl,hH9⟩;subst H9)|(refine Xg.st (StF.alloc rfl Tryz.zeroValue79 rfl) rfl rfl ?_;rintro _ _ ⟨b8,rfl,rfl⟩)|(refine Xg.st0 (StF.storeAll (i:=0) (vs:=zCt) rfl rfl rfl (te rfl) rfl rfl rfl rfl) rfl ?_;rintro _ _ ⟨rfl,rfl⟩;dsimp only [List.set])|(refine uE (EvF.build (cs:=zCm) rfl ArgsP.nil (te rfl) (Places.cons (te rfl) (Places.cons (te rfl) (Places.cons (te rfl) Places.nil))) Tryz.zeroValue95 rfl) rfl rfl ?_)|(refine Xg.st0 (StF.storeAll (i:=3) (vs:=zCm) rfl rfl rfl (te rfl) rfl rfl rfl rfl) rfl ?_;rintro _ _ ⟨rfl,rfl⟩;dsimp only [List.set])|(refine uE (uM rfl rfl) rfl rfl ?_)|(refine uE (uA rfl rfl) rfl rfl ?_)|(refine uE (uL rfl rfl (uW (te rfl) rfl (qT _ (qH _)) rfl)) rfl rfl ?_)|(refine uE (uX rfl rfl rfl) rfl rfl ?_)|(refine Xg.st (StF.boxAgg rfl rfl) rfl rfl ?_;rintro _ _ ⟨bx,rfl,rfl⟩)|(refine Xg.st (StF.alloc rfl Tryz.zeroValue95 rfl) rfl rfl ?_;rintro _ _ ⟨bx,rfl,rfl⟩)))))|(refine uD rfl ?_;refine hK _ _ ?_;clear hK K) | refine uS rfl ?_ | refine uR rfl (fun K hK=>?_) | refine X.ret rfl ?_ | (refine X.ite rfl rfl (fun hc=>?_);(first | (with_reducible refine Xb.t hc ?_)) <;> clear hc))
 all_goals try (exfalso;contradiction)
 exact ret_two (v := .agg zCm.toArray) (by simp) Tryz.results52 ⟨_,rfl,uW (te rfl) rfl (by repeat (first | exact qH _ | apply qT)) rfl⟩ rfl (H' := H) (by (repeat (first | exact qR _ | apply qC));done) ⟨rfl,rfl⟩
theorem wrong11_spec (x : Mt) (l : List Int) (al : Option Addr) (cl b : Nat) (ow : Option Kd) (cap : Nat) (H : List Row) (hm : ⟨b,0,[.slice al l.length cl],ow,cap⟩ ∈ H) (hl : SlE H al cI 1 l) (hb : l.length ≤ 1000000) :
  Fc Tryz.prog 79 ([.agg (cMt x).toArray]++[.pointer (some ⟨b,0,none⟩)]) H (fun v H' => v = .bool (decide (x.number ∈ l))∧H' = H):=by
 show Fc Tryz.prog 79 [.agg (cMt x).toArray,.pointer (some ⟨b,0,none⟩)] H _
 refine Fc.mk (callable Tryz.call79) Tryz.func79 rfl Tryz.ntmps79 rfl ?_;dsimp only [fr]
 repeat' (first | (refine uP rfl ?_;(first | ((first | refine uN rfl ?_);(first | (refine uE (uL rfl rfl (uO (te rfl) rfl (qT _ hm) rfl)) rfl rfl ?_)|(refine uC (uT rfl (Args.cons rfl (Args.cons rfl Args.nil))) rfl rfl (contains_spec l al cl x.number _ (hl.sub (fun _ h=>by repeat (first | exact h | apply qT))) (by omega)) ?_;rintro _ H9 ⟨rfl,hH9⟩;subst H9)|(refine uE (uA rfl rfl) rfl rfl ?_)|(refine uE (uF rfl rfl (te rfl) rfl (te rfl) (by decide)) rfl rfl ?_)|(refine uE (uL rfl rfl (uO (te rfl) rfl (qH _) rfl)) rfl rfl ?_)|(refine Xg.st (StF.boxAgg rfl rfl) rfl rfl ?_;rintro _ _ ⟨bx,rfl,rfl⟩)))))|(refine uD rfl ?_;refine hK _ _ ?_;clear hK K) | refine uS rfl ?_ | refine uR rfl (fun K hK=>?_) | refine X.ret rfl ?_)
 exact ret_one (by simp) Tryz.results79 rfl (H' := H) (by repeat (first | exact qR _ | apply qK | apply qC)) ⟨rfl,rfl⟩
set_option maxHeartbeats 4000000 in
theorem wrong1_spec (R : Rm) (p : Pl) (a : Option Addr) (c : Nat) (l : List Int) (al : Option Addr) (cl b5 : Nat) (ow : Option Kd) (cap : Nat) (H : List Row) (hr : okRm R) (hm : matsThere R R.mats) (hC : CtOk H R p a) (hla : R.ages.length ≤ 1000) (hlm : R.mats.length ≤ 1000) (hpc : (plcs R).length ≤ c) (m5 : ⟨b5,0,cCt R p a c,ow,cap⟩ ∈ H) (hl : SlE H al cI 1 l) (hb : l.length ≤ 1000000) :
  Fc Tryz.prog 77 ([.slice al l.length cl]++[.pointer (some ⟨b5,0,none⟩)]) H (fun v H' => v = .bool (okW R l)∧H' = H):=by
 show Fc Tryz.prog 77 [.slice al l.length cl,.pointer (some ⟨b5,0,none⟩)] H _
 have hMs : ∀ x ∈ outM R.mats l,x ∈ R.mats:=fun x hx=>(List.mem_filter.1 hx).1
 have hMl : (outM R.mats l).length ≤ 1000:=Nat.le_trans (List.length_filter_le _ _) hlm
 have hwo:=fun b3 S hC (hl' : SlE S al cI 1 l) (m3 : (⟨b3,0,[.slice al l.length cl],some 38,1⟩ : Row) ∈ S)=>kwithout_spec R p a c 79 [.pointer (some ⟨b3,0,none⟩)] (fun x=>decide (x.number ∈ l)) S hlm hC (fun x H' hs=>wrong11_spec x l al cl b3 (some 38) 1 H' (hs _ m3) (hl'.sub hs) hb)
 have hca:=fun p' S hC' => can_spec (wM R (outM R.mats l)) p' a c S (wM_ok _ hr) (mats_sub hm hMs) hC' hla hMl hpc
 have hok : decide (hasT (wM R (outM R.mats l)) (wM R (outM R.mats l)).mats)=okW R l:=by unfold okW;exact decide_eq_decide.2 wM_has
 rw [hok] at hca
 refine Fc.mk (callable Tryz.call77) Tryz.func77 rfl Tryz.ntmps77 rfl ?_;dsimp only [fr]
 repeat' (first | (refine uP rfl ?_;(first | ((first | refine uN rfl ?_);(first | (refine uE (uL rfl rfl (uW (T:=79) (cs:=cCt R p a c) (te rfl) rfl (qT _ m5) rfl)) rfl rfl ?_)|(refine uE (EvF.makeFunc (fl:=[]) rfl Args.nil (Args.cons rfl Args.nil)) rfl rfl ?_)|(refine uC (uT rfl (by (repeat (first | exact Args.nil | refine Args.cons rfl ?_));done)) rfl rfl (hwo _ _ (hC.sub (fun _ h=>by repeat (first | exact h | apply qT))) (hl.sub (fun _ h=>by repeat (first | exact h | apply qT))) (qH _)) ?_;rintro _ _ ⟨p',Z,rfl,hC',rfl⟩)|(refine uC (uT rfl (Args.cons rfl Args.nil)) rfl rfl (hca p' _ hC') ?_;rintro _ H9 ⟨rfl,hH9⟩;subst H9)|(refine uE (uA rfl rfl) rfl rfl ?_)|(refine Xg.st (StF.boxOne rfl rfl rfl) rfl rfl ?_;rintro _ _ ⟨bx,rfl,rfl⟩)))))|(refine uD rfl ?_;refine hK _ _ ?_;clear hK K) | refine uS rfl ?_ | refine uR rfl (fun K hK=>?_) | refine X.ret rfl ?_)
 exact ret_one (by simp) Tryz.results77 rfl (H' := H) ((qC _ (qR _)).trans (List.sublist_append_right _ _)) ⟨rfl,rfl⟩
end Go.Proofs.YtmfppdpkalelhaaGreat
end
section
set_option linter.unusedVariables false
set_option linter.unusedSimpArgs false
namespace Go.Fw
open Go
end Go.Fw
namespace Go.Proofs.YtmfppdpkalelhaaGreat
open Go Go.Fw
set_option maxRecDepth 10000
noncomputable def chkF (R : Rm) : Int:=if roomOk R then 0 else 10
theorem kCheck2_spec (R : Rm) (p : Pl) (H : List Row) (hR : RmOk H R p) : Fc Tryz.prog 27 [.agg (cRm R p).toArray] H (fun v H' => v = .int .i64 (chkF R)∧H' = H):=by
 refine (check_spec R p H hR).mono fun v H' ⟨h,h2⟩=>⟨?_,h2⟩
 unfold chkF
 rcases h with ⟨h,e⟩ | ⟨h,e⟩
 ·rw [if_pos h];exact e
 ·rw [if_neg h];exact e
end Go.Proofs.YtmfppdpkalelhaaGreat
end
section
set_option linter.unusedVariables false
set_option linter.unusedSimpArgs false
namespace Go.Proofs.YtmfppdpkalelhaaGreat
open Go Go.Fw
set_option maxRecDepth 10000
theorem numsMt (R : Rm) (p : Pl) (H : List Row) (hM : SlE H p.a3 cMt 6 R.mats) (hl : R.mats.length ≤ 1000000) : Fc Tryz.prog 54 [.slice p.a3 R.mats.length p.c3,.func (.func 55) #[] #[]] H (fun v H' => (R.mats = []∧v = .slice none 0 0∧H' = H) ∨ ∃ b q,R.mats ≠ []∧v = .slice (some ⟨b,0,none⟩) (R.mats.map (·.number)).length q∧H' = ⟨b,0,(R.mats.map (·.number)).flatMap cI,some 3,q * 1⟩::H) :=
 numbersO_specMt 55 (·.number) number_spec R.mats p.a3 p.c3 H hM hl
def wrgO : Option (List Int) → List Int × Int
 | some r=>(r,0)
 | none=>([],4)
set_option maxHeartbeats 8000000 in
theorem kWrong_spec (R : Rm) (p : Pl) (H : List Row) (hR : RmOk H R p) (h2 : R.boxes.length ≤ 1000000) : Fc Tryz.prog 41 [.agg (cRm R p).toArray] H (LstR (wrgF R).1 (wrgF R).2 H):=by
 by_cases hok : roomOk R
 ·have hml : R.mats.length ≤ 8:=hok.1.2.2.2.2.2.2
  have hck:=fun p' H' (h : RmOk H' R p')=>kCheck2_spec R p' H' h
  rw [show chkF R = 0 by unfold chkF;rw [if_pos hok]] at hck
  obtain ⟨L,hL⟩ : ∃ L,L = R.mats.map (·.number):=⟨_,rfl⟩
  have hLl : L.length ≤ 8:=by rw [hL,List.length_map];exact hml
  obtain ⟨f,hf⟩ : ∃ f,f = fewG (okW R) L 4 0:=⟨_,rfl⟩
  have hF : wrgF R = wrgO f:=by
   unfold wrgF
   rw [if_pos hok, ← hL, ← hf]
   cases f <;> rfl
  have hfm : fewG (okW R) L (min 3 L.length + 1) 0 = f:=by rw [fewG_min,hf]
  have hfw:=fun a c b5 b k S (hs : SlE S a cI 1 L) hC hk (m5 : (⟨b5,0,cCt R p (some ⟨b,0,none⟩) k,some 79,6⟩ : Row) ∈ S)=>fewest_specI (okW R) L a c 3 77 [.pointer (some ⟨b5,0,none⟩)] S hs (by omega) (by omega) (fun acc a' c' H' hs' hacc hal=>wrong1_spec R p (some ⟨b,0,none⟩) k acc a' c' b5 (some 79) 6 H' hok.ok hok.mats (CtOk.sub hC hs') hok.lens.ages hok.lens.mats hk (hs' _ m5) hacc hal)
  simp only [hfm] at hfw
  have hnu:=fun S hS=>numsMt R p S hS (by omega)
  rw [← hL] at hnu
  rw [hF]
  clear hF hfm hf
  refine Fc.mk (callable Tryz.call41) Tryz.func41 rfl Tryz.ntmps41 rfl ?_;dsimp only [fr]
  repeat' (first | (refine uP rfl ?_;(first | ((first | refine uN rfl ?_);(first | (refine uE (uQ (b:=false) rfl rfl rfl (congrArg some (nd_f (by omega)))) rfl rfl ?_)|(refine uE (uL rfl rfl (uW (T:=32) (cs:=cRm R p) (te rfl) rfl (by repeat (first | exact qH _ | apply qT)) rfl)) rfl rfl ?_)|(refine uC (uT rfl (Args.cons rfl Args.nil)) rfl rfl (hck p _ (hR.sub (fun _ h=>by repeat (first | exact h | apply qT)))) ?_;rintro _ H9 ⟨rfl,hH9⟩;subst H9)|(refine uC (uT rfl (by (repeat (first | exact Args.nil | refine Args.cons rfl ?_));done)) rfl rfl (draw_spec R p _ hok.ok (hR.sub (fun _ h=>by repeat (first | exact h | apply qT)))) ?_;rintro _ _ ⟨b,k,hbk,rfl,rfl⟩)|(refine Xg.st (StF.alloc rfl Tryz.zeroValue79 rfl) rfl rfl ?_;rintro _ _ ⟨b5,rfl,rfl⟩)|(refine Xg.st0 (StF.storeAll (i:=0) (vs:=cCt R p (some ⟨b,0,none⟩) k) rfl rfl rfl (te rfl) rfl rfl rfl rfl) rfl ?_;rintro _ _ ⟨rfl,rfl⟩;dsimp only [List.set])|(refine uE (uL rfl rfl (uO (cs:=cRm R p) (te rfl) rfl (by repeat (first | exact qH _ | apply qT)) rfl)) rfl rfl ?_)|(refine uC (uT rfl (by (repeat (first | exact Args.nil | refine Args.cons rfl ?_));done)) rfl rfl (hnu _ (hR.mats.sub (fun _ h=>by repeat (first | exact h | apply qT)))) ?_;rintro _ _ (⟨h0,rfl,rfl⟩ | ⟨bn,kn,h0,rfl,rfl⟩))|(refine uE (EvF.makeFunc (fl:=[]) rfl Args.nil (Args.cons rfl Args.nil)) rfl rfl ?_)|(refine uE (uM rfl rfl) rfl rfl ?_)|(refine uE (uA rfl rfl) rfl rfl ?_)|(refine uE (uF rfl rfl (te rfl) rfl (te rfl) (by decide)) rfl rfl ?_)|(refine Xg.st (StF.boxAgg rfl rfl) rfl rfl ?_;rintro _ _ ⟨bx,rfl,rfl⟩)))))|(refine uD rfl ?_;refine hK _ _ ?_;clear hK K) | refine uS rfl ?_ | refine uR rfl (fun K hK=>?_) | refine X.skip rfl ?_ | (refine X.ite rfl rfl (fun hc=>?_);(first | (with_reducible refine Xb.f hc ?_)) <;> clear hc))
  all_goals try (exfalso;contradiction)
  ·have hL0 : L = []:=by rw [hL,h0];rfl
   subst hL0
   repeat' (first | (refine uP rfl ?_;(first | ((first | refine uN rfl ?_);(first | (refine uC (uT rfl (by (repeat (first | exact Args.nil | refine Args.cons rfl ?_));done)) rfl rfl (hfw none 0 b5 b k _ sleNil ⟨hR.sub (fun _ h=>by repeat (first | exact h | apply qT)),SlE.ofRow (by repeat (first | exact qH _ | apply qT)) (fun _ _=>rfl)⟩ hbk (by repeat (first | exact qH _ | apply qT))) ?_;rintro _ _ ⟨out,Z,hT,rfl,rfl⟩)|(refine uE (uX rfl rfl rfl) rfl rfl ?_)|(refine uE (uM rfl rfl) rfl rfl ?_)|(refine uE (uA rfl rfl) rfl rfl ?_)|(refine uE (EvF.not rfl rfl) rfl rfl ?_)))))|(refine uD rfl ?_;refine hK _ _ ?_;clear hK K) | refine uS rfl ?_ | refine uR rfl (fun K hK=>?_) | refine X.skip rfl ?_ | refine X.ret rfl ?_ | (refine X.ite rfl rfl (fun hc=>?_);(first | (with_reducible refine Xb.caseB hc (fun h=>?_) (fun h=>?_))) <;> clear hc))
   ·have hn : f.isSome = false:=by simpa using (by assumption : (!f.isSome)=true)
    cases f with
    | some r=>cases hn
    | none=>exact ret_two (by simp) Tryz.results41 rfl rfl (H' := H) (List.Sublist.trans (by (repeat (first | exact qR _ | apply qC));done) (List.sublist_append_right _ _)) ⟨none,0,[],rfl,sleNil,rfl⟩
   ·have hn : f.isSome = true:=by simpa using (by assumption : (!f.isSome)=false)
    cases f with
    | none=>cases hn
    | some r =>
     obtain ⟨a',c',rfl,hs⟩:=TrvI.sl (H:=H) hT
     exact ret_two (by simp) Tryz.results41 rfl rfl (H' := Z++H) (List.Sublist.append (qR _) (by (repeat (first | exact qR _ | apply qC));done)) ⟨a',c',Z,rfl,hs,rfl⟩
  ·repeat' (first | (refine uP rfl ?_;(first | ((first | refine uN rfl ?_);(first | (refine uC (uT rfl (by (repeat (first | exact Args.nil | refine Args.cons rfl ?_));done)) rfl rfl (hfw (some ⟨bn,0,none⟩) kn b5 b k _ (SlE.ofRow (by repeat (first | exact qH _ | apply qT)) (fun _ _=>rfl)) ⟨hR.sub (fun _ h=>by repeat (first | exact h | apply qT)),SlE.ofRow (by repeat (first | exact qH _ | apply qT)) (fun _ _=>rfl)⟩ hbk (by repeat (first | exact qH _ | apply qT))) ?_;rintro _ _ ⟨out,Z,hT,rfl,rfl⟩)|(refine uE (uX rfl rfl rfl) rfl rfl ?_)|(refine uE (uM rfl rfl) rfl rfl ?_)|(refine uE (uA rfl rfl) rfl rfl ?_)|(refine uE (EvF.not rfl rfl) rfl rfl ?_)))))|(refine uD rfl ?_;refine hK _ _ ?_;clear hK K) | refine uS rfl ?_ | refine uR rfl (fun K hK=>?_) | refine X.skip rfl ?_ | refine X.ret rfl ?_ | (refine X.ite rfl rfl (fun hc=>?_);(first | (with_reducible refine Xb.caseB hc (fun h=>?_) (fun h=>?_))) <;> clear hc))
   ·have hn : f.isSome = false:=by simpa using (by assumption : (!f.isSome)=true)
    cases f with
    | some r=>cases hn
    | none=>exact ret_two (by simp) Tryz.results41 rfl rfl (H' := H) (List.Sublist.trans (by (repeat (first | exact qR _ | apply qC));done) (List.sublist_append_right _ _)) ⟨none,0,[],rfl,sleNil,rfl⟩
   ·have hn : f.isSome = true:=by simpa using (by assumption : (!f.isSome)=false)
    cases f with
    | none=>cases hn
    | some r =>
     obtain ⟨a',c',rfl,hs⟩:=TrvI.sl (H:=H) hT
     exact ret_two (by simp) Tryz.results41 rfl rfl (H' := Z++H) (List.Sublist.append (qR _) (by (repeat (first | exact qR _ | apply qC));done)) ⟨a',c',Z,rfl,hs,rfl⟩
 ·have hck:=fun p' H' (h : RmOk H' R p')=>kCheck2_spec R p' H' h
  rw [show chkF R = 10 by unfold chkF;rw [if_neg hok]] at hck
  have hF : wrgF R = ([],10):=by unfold wrgF;rw [if_neg hok]
  rw [hF]
  refine Fc.mk (callable Tryz.call41) Tryz.func41 rfl Tryz.ntmps41 rfl ?_;dsimp only [fr]
  repeat' (first | (refine uP rfl ?_;(first | ((first | refine uN rfl ?_);(first | (refine uE (uQ (b:=true) rfl rfl rfl (congrArg some (nd_t (by omega)))) rfl rfl ?_)|(refine uE (uL rfl rfl (uW (T:=32) (cs:=cRm R p) (te rfl) rfl (by repeat (first | exact qH _ | apply qT)) rfl)) rfl rfl ?_)|(refine uC (uT rfl (Args.cons rfl Args.nil)) rfl rfl (hck p _ (hR.sub (fun _ h=>by repeat (first | exact h | apply qT)))) ?_;rintro _ H9 ⟨rfl,hH9⟩;subst H9)|(refine uE (uM rfl rfl) rfl rfl ?_)|(refine uE (uA rfl rfl) rfl rfl ?_)|(refine Xg.st (StF.boxAgg rfl rfl) rfl rfl ?_;rintro _ _ ⟨bx,rfl,rfl⟩)))))|(refine uD rfl ?_;refine hK _ _ ?_;clear hK K) | refine uS rfl ?_ | refine uR rfl (fun K hK=>?_) | refine X.ret rfl ?_ | (refine X.ite rfl rfl (fun hc=>?_);(first | (with_reducible refine Xb.t hc ?_)) <;> clear hc))
  all_goals try (exfalso;contradiction)
  exact ret_two (by simp) Tryz.results41 rfl rfl (H' := H) (by repeat (first | exact qR _ | apply qK | apply qC)) ⟨none,0,[],rfl,sleNil,rfl⟩
end Go.Proofs.YtmfppdpkalelhaaGreat
end
section
set_option linter.unusedVariables false
set_option linter.unusedSimpArgs false
namespace Go.Proofs.YtmfppdpkalelhaaGreat
open Go Go.Fw
set_option maxRecDepth 10000
/-- the first list of numbers, m more, that is right -/
def stk9 (ok : List Int → Bool) : List Mt → Nat → List Int → Option (List Int)
 | [],0,ns=>if ok ns = true then some ns else none
 | [],_ + 1,_=>none
 | _::_,0,ns=>if ok ns = true then some ns else none
 | x::t,m + 1,ns=>match stk9 ok t m (ns++[x.number]) with
  | some r=>some r
  | none=>stk9 ok t (m + 1) ns
theorem stk9_zero (ok : List Int → Bool) (t : List Mt) (ns : List Int) : stk9 ok t 0 ns = if ok ns = true then some ns else none:=by cases t <;> rfl
def Stk9R (ok : List Int → Bool) (t : List Mt) (m : Nat) (ns : List Int) (a : Option Addr) (c : Nat) (H : List Row) (v : Value) (H' : List Row) : Prop :=
 (m = 0∧v = .tuple #[.slice a ns.length c,.bool (ok ns)]∧H' = H)∨(0 < m∧((∃ r b k,stk9 ok t m ns = some r∧v = .tuple #[.slice (some ⟨b,0,none⟩) r.length k,.bool true]∧H' = ⟨b,0,r.flatMap cI,some 3,k * 1⟩::H)∨(stk9 ok t m ns = none∧v = .tuple #[.slice none 0 0,.bool false]∧H' = H)))
end Go.Proofs.YtmfppdpkalelhaaGreat
end
section
set_option linter.unusedVariables false
set_option linter.unusedSimpArgs false
namespace Go.Proofs.YtmfppdpkalelhaaGreat
open Go Go.Fw
set_option maxRecDepth 10000
theorem Stk9R.top {ok : List Int → Bool} {t : List Mt} {m : Nat} {H : List Row} {v : Value} {H' : List Row} (h : Stk9R ok t m [] none 0 H v H') :
  (∃ r a c Z,stk9 ok t m [] = some r∧v = .tuple #[.slice a r.length c,.bool true]∧(∀ H0,SlE (Z++H0) a cI 1 r)∧H' = Z++H)∨(stk9 ok t m [] = none∧v = .tuple #[.slice none 0 0,.bool false]∧H' = H):=by
 rcases h with ⟨rfl,rfl,rfl⟩ | ⟨_,⟨r,b,k,hr,rfl,rfl⟩ | h⟩
 ·rw [stk9_zero]
  by_cases hk : ok [] = true
  ·exact .inl ⟨[],none,0,[],by rw [if_pos hk],by rw [hk];(try rfl),fun _=>sleNil,rfl⟩
  ·exact .inr ⟨by rw [if_neg hk],by rw [Bool.eq_false_iff.2 hk];(try rfl),rfl⟩
 ·exact .inl ⟨r,_,_,[⟨b,0,r.flatMap cI,some 3,k * 1⟩],hr,rfl,fun _=>SlE.ofRow (qH _) (fun _ _=>rfl),rfl⟩
 ·exact .inr h
end Go.Proofs.YtmfppdpkalelhaaGreat
end
section
set_option linter.unusedVariables false
set_option linter.unusedSimpArgs false
namespace Go.Proofs.YtmfppdpkalelhaaGreat
open Go Go.Fw
set_option maxRecDepth 10000
def ChR (ok : List Mt → Bool) (t : List Mt) (m : Nat) (ns : List Mt) (a : Option Addr) (c : Nat) (H : List Row) (v : Value) (H' : List Row) : Prop :=
 (m = 0∧v = .tuple #[.slice a ns.length c,.bool (ok ns)]∧H' = H)∨(0 < m∧((∃ r b k,lonG ok t m ns = some r∧v = .tuple #[.slice (some ⟨b,0,none⟩) r.length k,.bool true]∧H' = ⟨b,0,r.flatMap cMt,some 44,k * 6⟩::H)∨(lonG ok t m ns = none∧v = .tuple #[.slice none 0 0,.bool false]∧H' = H)))
end Go.Proofs.YtmfppdpkalelhaaGreat
end
section
set_option linter.unusedVariables false
set_option linter.unusedSimpArgs false
namespace Go.Proofs.YtmfppdpkalelhaaGreat
open Go Go.Fw
set_option maxRecDepth 10000
theorem okMats_lo (R : Rm) : ∀ (l : List Mt) (p : Int),okMats R p l → ∀ x ∈ l,p < x.number
 | [],_,_,_,hx=>absurd hx List.not_mem_nil
 | c::l,p,h,x,hx=>by
  have h1 : p + 1 ≤ c.number:=h.1
  rcases List.mem_cons.1 hx with rfl | hx
  ·omega
  ·have:=okMats_lo R l c.number h.2.2.2 x hx
   omega
theorem okMats_pw (R : Rm) : ∀ (l : List Mt) (p : Int),okMats R p l → l.Pairwise (fun a b=>a.number < b.number)
 | [],_,_=>List.Pairwise.nil
 | c::l,p,h=>List.Pairwise.cons (fun b hb=>okMats_lo R l c.number h.2.2.2 b hb) (okMats_pw R l c.number h.2.2.2)
theorem roomOk.nums {R : Rm} (h : roomOk R) : (R.mats.map (·.number)).Nodup :=
 List.pairwise_map.2 ((okMats_pw R R.mats 0 h.2.2.2).imp (fun q e=>by
  have e : _ = _:=e
  omega))
theorem ChR.top {ok : List Mt → Bool} {t : List Mt} {m : Nat} {H : List Row} {v : Value} {H' : List Row} (h : ChR ok t m [] none 0 H v H') :
  (∃ r a c Z,lonG ok t m [] = some r∧v = .tuple #[.slice a r.length c,.bool true]∧(∀ H0,SlE (Z++H0) a cMt 6 r)∧H' = Z++H)∨(lonG ok t m [] = none∧v = .tuple #[.slice none 0 0,.bool false]∧H' = H):=by
 rcases h with ⟨rfl,rfl,rfl⟩ | ⟨_,⟨r,b,k,hr,rfl,rfl⟩ | h⟩
 ·rw [lonG_zero]
  by_cases hk : ok [] = true
  ·exact .inl ⟨[],none,0,[],by rw [if_pos hk],by rw [hk];(try rfl),fun _=>sleNil,rfl⟩
  ·exact .inr ⟨by rw [if_neg hk],by rw [Bool.eq_false_iff.2 hk];(try rfl),rfl⟩
 ·exact .inl ⟨r,_,_,[⟨b,0,r.flatMap cMt,some 44,k * 6⟩],hr,rfl,fun _=>SlE.ofRow (qH _) (fun _ _=>rfl),rfl⟩
 ·exact .inr h
end Go.Proofs.YtmfppdpkalelhaaGreat
end
section
set_option linter.unusedVariables false
set_option linter.unusedSimpArgs false
namespace Go.Proofs.YtmfppdpkalelhaaGreat
open Go Go.Fw
set_option maxRecDepth 10000
def rsG (ok : List Mt → Bool) (R : Rm) (M : List Mt) : List Int:=(M.filter (fun x => !ok (outM R.mats [x.number]))).map (·.number)
theorem rsG_snoc (ok : List Mt → Bool) (R : Rm) {l : List Mt} {k : Nat} {x : Mt} (he : l[k]? = some x) : rsG ok R (l.take (k + 1)) = rsG ok R (l.take k)++(if ok (outM R.mats [x.number]) = true then [] else [x.number]):=by
 unfold rsG
 rw [take_snoc he,List.filter_append,List.map_append]
 by_cases h : ok (outM R.mats [x.number]) = true
 ·rw [if_pos h];simp [List.filter,h]
 ·rw [if_neg h];simp [List.filter,h]
theorem rsG_len (ok : List Mt → Bool) (R : Rm) (M : List Mt) : (rsG ok R M).length ≤ M.length:=by
 unfold rsG;rw [List.length_map];exact List.length_filter_le _ _
end Go.Proofs.YtmfppdpkalelhaaGreat
end
section
set_option linter.unusedVariables false
set_option linter.unusedSimpArgs false
namespace Go.Proofs.YtmfppdpkalelhaaGreat
open Go Go.Fw
set_option maxRecDepth 10000
/-- a list of numbers, told in one of its ways, drawn -/
theorem slDraw (L : List Int) : ∃ (nv : Nat × Nat → Value) (rn : Nat × Nat → List Row),
  (∀ v Z,TrvI L v Z → ∃ q,v = nv q∧Z = rn q)∧(∀ q S,(∀ r ∈ rn q,r ∈ S) → ∃ a c,nv q = .slice a L.length c∧SlE S a cI 1 L):=by
 by_cases h0 : L = []
 ·subst h0
  refine ⟨fun q=>match q.1 with
   | 0 => .slice none 0 0
   | n + 1 => .slice (some ⟨n,0,none⟩) 0 q.2,fun q=>match q.1 with
   | 0=>[]
   | n + 1=>[⟨n,0,[],some 3,q.2 * 1⟩],?_,?_⟩
  ·rintro v Z (⟨_,rfl,rfl⟩ | ⟨b,q,rfl,rfl⟩)
   ·exact ⟨(0,0),rfl,rfl⟩
   ·exact ⟨(b + 1,q),rfl,rfl⟩
  ·rintro ⟨n,c⟩ S hS
   cases n with
   | zero=>exact ⟨none,0,rfl,sleNil⟩
   | succ n=>exact ⟨some ⟨n,0,none⟩,c,rfl,SlE.ofRow (l:=[]) (hS _ (qH _)) (fun _ _=>rfl)⟩
 ·refine ⟨fun q => .slice (some ⟨q.1,0,none⟩) L.length q.2,fun q=>[⟨q.1,0,L.flatMap cI,some 3,q.2 * 1⟩],?_,?_⟩
  ·rintro v Z (⟨h,_,_⟩ | ⟨b,q,rfl,rfl⟩)
   ·exact absurd h h0
   ·exact ⟨(b,q),rfl,rfl⟩
  ·rintro ⟨n,c⟩ S hS
   exact ⟨some ⟨n,0,none⟩,c,rfl,SlE.ofRow (hS _ (qH _)) (fun _ _=>rfl)⟩
theorem numsTr (R : Rm) (p : Pl) (H : List Row) (hM : SlE H p.a3 cMt 6 R.mats) (hl : R.mats.length ≤ 1000000) : Fc Tryz.prog 54 [.slice p.a3 R.mats.length p.c3,.func (.func 55) #[] #[]] H (fun v H' => ∃ Z,TrvI (R.mats.map (·.number)) v Z∧H' = Z++H) :=
 (numsMt R p H hM hl).mono fun v H' h=>by
  rcases h with ⟨h0,hv,hH⟩ | ⟨b,q,_,hv,hH⟩
  ·exact ⟨[],.inl ⟨by rw [h0];rfl,hv,rfl⟩,hH⟩
  ·exact ⟨[_],.inr ⟨b,q,hv,rfl⟩,hH⟩
def tsKwy : List TOp:=[⟨some 23,[],[],[]⟩,⟨some 24,[0],[0],[]⟩,⟨some 25,[0,1],[1],[]⟩,⟨some 26,[],[],[]⟩,⟨some 27,[3],[3],[]⟩,⟨some 28,[3,4],[4],[]⟩,⟨some 29,[],[],[]⟩,⟨some 30,[6],[6],[]⟩,⟨some 31,[0,1,2,3,4,5,6,7],[2,5,7],[]⟩,⟨some 22,[0,1,2,3,4,5,6,7,8],[8],[]⟩,⟨some 32,[0,1,2,3,4,5,6,7,8,9],[9],[]⟩,⟨some 33,[0,1,2,3,4,5,6,7,8,9],[9],[]⟩,⟨some 10,[0,1,2,3,4,5,6,7,8,9,10],[10],[]⟩,⟨some 11,[0,1,2,3,4,5,6,7,8,9,10,11,12],[11],[]⟩]
def valKwy (b3 b8 : Nat) (R : Rm) (p : Pl) (a : Option Addr) (c : Nat) (q : Pk) (s : Sp) (nv fv : Nat × Nat → Value) (rn rf : Nat × Nat → List Row) (bb : Bool) (k : Nat) (env : Env) : Value :=
 match k with
 | 0 => .pointer (some ⟨b3,4,none⟩)
 | 1 => .slice p.a3 R.mats.length p.c3
 | 2=>nv (env 2)
 | 3 => .pointer (some ⟨b3,4,none⟩)
 | 4 => .slice p.a3 R.mats.length p.c3
 | 5 => .int .i64 R.mats.length
 | 6 => .agg (cCm R p a c q s).toArray
 | 7 => .func (.func 56) #[.agg (cCm R p a c q s).toArray] #[]
 | 8 => .tuple #[fv (env 8),.bool bb]
 | 9 => .tuple #[fv (env 8),.bool bb]
 | 10=>fv (env 8)
 | 11 => .bool bb
 | 12=>fv (env 8)
 | 13 => .bool bb
 | _=>undef
def rowsKwy (b3 b8 : Nat) (R : Rm) (p : Pl) (a : Option Addr) (c : Nat) (q : Pk) (s : Sp) (nv fv : Nat × Nat → Value) (rn rf : Nat × Nat → List Row) (bb : Bool) (k : Nat) (env : Env) : List Row :=
 match k with
 | 2=>rn (env 2)
 | 8=>rf (env 8)
 | _=>[]
theorem locKwy (b3 b8 : Nat) (R : Rm) (p : Pl) (a : Option Addr) (c : Nat) (q : Pk) (s : Sp) (nv fv : Nat × Nat → Value) (rn rf : Nat × Nat → List Row) (bb : Bool) : ∀ k env i q9,i ≠ k → (tAt tsKwy k).sup.contains i = false → valKwy b3 b8 R p a c q s nv fv rn rf bb k (upd env i q9)=valKwy b3 b8 R p a c q s nv fv rn rf bb k env∧rowsKwy b3 b8 R p a c q s nv fv rn rf bb k (upd env i q9)=rowsKwy b3 b8 R p a c q s nv fv rn rf bb k env:=by
 intro k env i q hk hs
 have hu : ∀ j,j ≠ i → upd env i q j = env j:=fun j hj=>by unfold upd;rw [if_neg hj]
 match k,hk,hs with
 | 0,_,_=>exact ⟨rfl,rfl⟩
 | 1,_,_=>exact ⟨rfl,rfl⟩
 | 2,hk,hs=>exact ⟨by simp only [valKwy,hu 2 (fun e=>hk e.symm)],by simp only [rowsKwy,hu 2 (fun e=>hk e.symm)]⟩
 | 3,_,_=>exact ⟨rfl,rfl⟩
 | 4,_,_=>exact ⟨rfl,rfl⟩
 | 5,_,_=>exact ⟨rfl,rfl⟩
 | 6,_,_=>exact ⟨rfl,rfl⟩
 | 7,_,_=>exact ⟨rfl,rfl⟩
 | 8,hk,hs=>exact ⟨by simp only [valKwy,hu 8 (fun e=>hk e.symm)],by simp only [rowsKwy,hu 8 (fun e=>hk e.symm)]⟩
 | 9,hk,hs=>exact ⟨by simp only [valKwy,hu 8 (by rintro rfl;cases hs)],by simp only [rowsKwy,hu 8 (by rintro rfl;cases hs)]⟩
 | 10,hk,hs=>exact ⟨by simp only [valKwy,hu 8 (by rintro rfl;cases hs)],by simp only [rowsKwy,hu 8 (by rintro rfl;cases hs)]⟩
 | 11,_,_=>exact ⟨rfl,rfl⟩
 | 12,hk,hs=>exact ⟨by simp only [valKwy,hu 8 (by rintro rfl;cases hs)],by simp only [rowsKwy,hu 8 (by rintro rfl;cases hs)]⟩
 | 13,_,_=>exact ⟨rfl,rfl⟩
 | _ + 14,_,_=>exact ⟨rfl,rfl⟩
def rdKwy (k : Nat) : List Nat:=match k with
 | 8=>[2]
 | _=>[]
set_option maxHeartbeats 8000000 in
theorem kWhy_spec (R : Rm) (p : Pl) (x m : Int) (H : List Row) (hR : RmOk H R p) (h2 : R.boxes.length ≤ 1000000) : Fc Tryz.prog 16 [.agg (cRm R p).toArray,.int .i64 x,.int .i64 m] H (LstR (whyF R x m).1 (whyF R x m).2 H):=by
 obtain ⟨e,he⟩ : ∃ e,openE R [x] [m] = e:=⟨_,rfl⟩
 by_cases h0 : e = 0
 ·subst h0
  obtain ⟨hok,_,_,hT⟩:=openE_ok he
  have hml : R.mats.length ≤ 8:=hok.1.2.2.2.2.2.2
  have hpq:=plcs_of he (List.mem_singleton.2 rfl) (List.mem_singleton.2 rfl)
  have hcm:=fun S hS=>claimedY R p x m S hS h2 he
  obtain ⟨s,hs⟩ : ∃ s,s = rng R R.mats ⟨x,m⟩ zp:=⟨_,rfl⟩
  obtain ⟨L,hL⟩ : ∃ L,L = R.mats.map (·.number):=⟨_,rfl⟩
  have hLl : L.length = R.mats.length:=by rw [hL,List.length_map]
  obtain ⟨fo,hfo⟩ : ∃ fo,fo = fewG (prvN R ⟨x,m⟩ s) L (R.mats.length + 1) 0:=⟨_,rfl⟩
  obtain ⟨W,hW⟩ : ∃ W,W = fo.getD []:=⟨_,rfl⟩
  have hy : whyF R x m = (W,0):=by
   unfold whyF whyL
   rw [if_pos he, ← hs, ← hL, ← hfo, ← hW]
  rw [← hs] at hcm
  rw [hy]
  clear hy hs
  have hnt:=fun S hS=>numsTr R p S hS (by omega)
  rw [← hL] at hnt
  have hft:=fun al cl b k S (hl : SlE S al cI 1 L) (hC : CtOk S R p (some ⟨b,0,none⟩)) (hk : (plcs R).length ≤ k)=>fewest_specJ (prvN R ⟨x,m⟩ s) L al cl R.mats.length 56 [.agg (cCm R p (some ⟨b,0,none⟩) k ⟨x,m⟩ s).toArray] [] S hl (by omega) (by omega) (fun acc a' c' H' hs' hacc hal=>kproves_spec R p (some ⟨b,0,none⟩) k ⟨x,m⟩ s acc a' c' H' hok.ok hok.mats (CtOk.sub hC hs') hok.lens.ages hok.lens.mats hk hT hpq hacc hal)
  rw [show min R.mats.length L.length + 1 = R.mats.length + 1 by omega, ← hfo, ← hW] at hft
  obtain ⟨nv,rn,hn1,hn2⟩:=slDraw L
  obtain ⟨fv,rf,hf1,hf2⟩:=slDraw W
  refine Fc.mk (callable Tryz.call16) Tryz.func16 rfl Tryz.ntmps16 rfl ?_;dsimp only [fr]
  repeat' (first | (refine uP rfl ?_;(first | ((first | refine uN rfl ?_);(first | (refine uE (uQ (b:=false) rfl rfl rfl (congrArg some (nd_f (by omega)))) rfl rfl ?_)|(refine uE (uL rfl rfl (uW (T:=32) (cs:=cRm R p) (te rfl) rfl (by repeat (first | exact qH _ | apply qT)) rfl)) rfl rfl ?_)|(refine uC (uT rfl (by (repeat (first | exact Args.nil | refine Args.cons rfl ?_));done)) rfl rfl (hcm _ (hR.sub (fun _ h=>by repeat (first | exact h | apply qT)))) ?_;rintro _ _ ⟨b,k,hbk,rfl,rfl⟩)|(refine uE (uX rfl rfl rfl) rfl rfl ?_)|(refine Xg.st (StF.alloc rfl Tryz.zeroValue95 rfl) rfl rfl ?_;rintro _ _ ⟨b8,rfl,rfl⟩)|(refine Xg.st0 (StF.storeAll (i:=0) (vs:=cCm R p (some ⟨b,0,none⟩) k ⟨x,m⟩ s) rfl rfl rfl (te rfl) rfl rfl rfl rfl) rfl ?_;rintro _ _ ⟨rfl,rfl⟩;dsimp only [List.set])|(refine uE (uM rfl rfl) rfl rfl ?_)|(refine uE (uA rfl rfl) rfl rfl ?_)|(refine Xg.st (StF.boxAgg rfl rfl) rfl rfl ?_;rintro _ _ ⟨bx,rfl,rfl⟩)))))|(refine uD rfl ?_;refine hK _ _ ?_;clear hK K) | refine uS rfl ?_ | refine uR rfl (fun K hK=>?_) | refine X.skip rfl ?_ | (refine X.ite rfl rfl (fun hc=>?_);(first | (with_reducible refine Xb.f hc ?_)) <;> clear hc))
  all_goals try (exfalso;contradiction)
  generalize bx = b3
  refine X.regionRd tsKwy rdKwy [3,8] [(3,.pointer (some ⟨b3,0,none⟩)),(8,.pointer (some ⟨b8,0,none⟩))] (valKwy b3 b8 R p (some ⟨b,0,none⟩) k ⟨x,m⟩ s nv fv rn rf fo.isSome) (rowsKwy b3 b8 R p (some ⟨b,0,none⟩) k ⟨x,m⟩ s nv fv rn rf fo.isSome) (fun _=>(0,0)) (⟨b8,0,cCm R p (some ⟨b,0,none⟩) k ⟨x,m⟩ s,some 95,10⟩::⟨b,0,(plcs R).flatMap cPk,some 86,k * 2⟩::⟨b3,0,cRm R p,some 32,5⟩::H) rfl mixed (by repeat (first | exact uU _ | refine uV rfl ?_)) rfl (by kernel_rfl) (by kernel_rfl) (locKwy b3 b8 R p (some ⟨b,0,none⟩) k ⟨x,m⟩ s nv fv rn rf fo.isSome) (qR _) ?_ ?_
  ·repeat' (first | exact AllF.done rfl | (refine AllF.step rfl ?_ ?_;·(first | exact (Ob.ng rfl (ObK.pure (fun env R hR=>by exact ⟨_,uM rfl rfl,rfl⟩) rfl (fun _=>rfl))).toR | exact (Ob.ng rfl (ObK.pure (fun env R hR=>by exact ⟨_,uA rfl rfl,rfl⟩) rfl (fun _=>rfl))).toR | exact (Ob.ng rfl (ObK.pure (fun env R hR=>by exact ⟨_,uF rfl rfl (te rfl) rfl (te rfl) (by decide),rfl⟩) rfl (fun _=>rfl))).toR | exact (Ob.ng rfl (ObK.pure (fun env R hR=>by exact ⟨_,EvF.lenSlice rfl rfl (te rfl),rfl⟩) rfl (fun _=>rfl))).toR | exact (Ob.ng rfl (ObK.pure (fun env R hR=>by exact ⟨_,uL rfl rfl (uO (te rfl) rfl (hR _ (qT _ (qT _ (qH _)))) rfl),rfl⟩) rfl (fun _=>rfl))).toR | exact (Ob.ng rfl (ObK.pure (fun env R hR=>by exact ⟨_,uL rfl rfl (uW (te rfl) rfl (hR _ (qH _)) rfl),rfl⟩) rfl (fun _=>rfl))).toR | (refine ObR.ng rfl ?_;(first | (exact fun env S hS hrd=>(StF.ofEv (EvF.makeFunc (fl:=[.tmp 29]) rfl (Args.cons rfl Args.nil) Args.nil)).op.mono (fun v H' ⟨hv,hH⟩=>⟨(0,0),fun _=>hv,by rw [hH];exact List.Perm.refl _⟩))|(exact fun env S hS hrd=>(StF.ofEv (v := .bool fo.isSome) (uX rfl rfl rfl)).op.mono (fun v H' ⟨hv,hH⟩=>⟨(0,0),fun _=>hv,by rw [hH];exact List.Perm.refl _⟩))|(exact fun env S hS hrd=>(StF.ofEv (v:=fv (env 8)) (uX rfl rfl rfl)).op.mono (fun v H' ⟨hv,hH⟩=>⟨(0,0),fun _=>hv,by rw [hH];exact List.Perm.refl _⟩))|(exact fun env S hS hrd=>(OpF.call (uT rfl (Args.cons rfl (Args.cons rfl Args.nil))) (hnt S (hR.mats.sub (fun r h=>hS r (qT _ (qT _ (qT _ h))))))).mono (fun v H' ⟨Z,hZ,hH⟩=>by obtain ⟨q,h1,h3⟩:=hn1 _ _ hZ;exact ⟨q,fun _=>h1,by rw [hH,h3];exact List.Perm.refl _⟩))|((refine fun env S hS hrd=>?_;obtain ⟨al,cl,hal,hsl⟩:=hn2 (env 2) S (hrd 2 (qH _));have hca:=hft al cl b k S hsl ⟨hR.sub (fun r h=>hS r (qT _ (qT _ (qT _ h)))),SlE.ofRow (hS _ (qT _ (qH _))) (fun _ _=>rfl)⟩ hbk;rw [← hal] at hca;exact (OpF.call (uT rfl (Args.cons rfl (Args.cons rfl (Args.cons rfl Args.nil)))) hca).mono (fun v H' ⟨out,Z,hZ,hv,hH⟩=>by obtain ⟨q,h1,h3⟩:=hf1 _ _ hZ;exact ⟨q,fun _=>by rw [hv,h1];rfl,by rw [hH,h3];exact List.Perm.refl _⟩))))))))
  ·intro env t ha2 hv;refine ⟨_,(ha2.cons (hv 12 10 (Nat.le_of_ble_eq_true rfl) rfl)).cons (hv 13 11 (Nat.le_of_ble_eq_true rfl) rfl),?_⟩;clear hv ha2
   show X _ _ _ _ ((rn (env 2)++(rf (env 8)++[]))++⟨b8,0,cCm R p (some ⟨b,0,none⟩) k ⟨x,m⟩ s,some 95,10⟩::⟨b,0,(plcs R).flatMap cPk,some 86,k * 2⟩::⟨b3,0,cRm R p,some 32,5⟩::H) _
   obtain ⟨aw,cw,hvw,hsw⟩:=hf2 (env 8) (rf (env 8)++H) (fun r h=>List.mem_append_left _ h)
   rw [List.append_nil,List.append_assoc]
   refine X.weak (F' := [(10,.slice aw W.length cw)]) (H' := rf (env 8)++H) (by rw [← hvw];exact (by repeat (first | exact uU _ | refine uV rfl ?_))) ((List.Sublist.append (qR _) (by (repeat (first | exact qR _ | apply qC));done)).trans (List.sublist_append_right _ _)) ?_
   generalize rf (env 8)=Zw at hsw
   clear hvw env
   repeat' (first | (refine uP rfl ?_;(first | ((first | refine uN rfl ?_);(first | (refine uE (uM rfl rfl) rfl rfl ?_)|(refine uE (uA rfl rfl) rfl rfl ?_)))))|(refine uD rfl ?_;refine hK _ _ ?_;clear hK K) | refine uS rfl ?_ | refine uR rfl (fun K hK=>?_) | refine X.ret rfl ?_)
   exact ret_two (by simp) Tryz.results16 rfl rfl (H' := Zw++H) (qR _) ⟨aw,cw,Zw,rfl,hsw,rfl⟩
 ·have hy : whyF R x m = ([],e):=by unfold whyF;rw [if_neg (by rw [he];exact h0),he]
  rw [hy]
  refine Fc.mk (callable Tryz.call16) Tryz.func16 rfl Tryz.ntmps16 rfl ?_;dsimp only [fr]
  repeat' (first | (refine uP rfl ?_;(first | ((first | refine uN rfl ?_);(first | (refine uE (uL rfl rfl (uW (T:=32) (cs:=cRm R p) (te rfl) rfl (by repeat (first | exact qH _ | apply qT)) rfl)) rfl rfl ?_)|(refine uC (uT rfl (Args.cons rfl (Args.cons rfl (Args.cons rfl Args.nil)))) rfl rfl (claimedN R p x m e _ (hR.sub (fun _ h=>by repeat (first | exact h | apply qT))) h2 he h0) ?_;rintro _ H9 ⟨rfl,hH9⟩;subst H9)|(refine uE (uX rfl rfl rfl) rfl rfl ?_)|(refine Xg.st (StF.alloc rfl Tryz.zeroValue95 rfl) rfl rfl ?_;rintro _ _ ⟨b8,rfl,rfl⟩)|(refine Xg.st0 (StF.storeAll (i:=0) (vs:=zCm) rfl rfl rfl (te rfl) rfl rfl rfl rfl) rfl ?_;rintro _ _ ⟨rfl,rfl⟩;dsimp only [List.set])|(refine uE (uM rfl rfl) rfl rfl ?_)|(refine uE (uA rfl rfl) rfl rfl ?_)|(refine uE (uQ rfl rfl rfl rfl) rfl rfl ?_)|(refine Xg.st (StF.boxAgg rfl rfl) rfl rfl ?_;rintro _ _ ⟨bx,rfl,rfl⟩)))))|(refine uD rfl ?_;refine hK _ _ ?_;clear hK K) | refine uS rfl ?_ | refine uR rfl (fun K hK=>?_) | refine X.skip rfl ?_ | refine X.ret rfl ?_ | (refine X.ite rfl rfl (fun hc=>?_);(first | (with_reducible refine Xb.caseN hc (fun h=>?_) (fun h=>?_))) <;> clear hc))
  all_goals try (exfalso;simp_all;done)
  exact ret_two (by simp) Tryz.results16 rfl rfl (H' := H) (by (repeat (first | exact qR _ | apply qC));done) ⟨none,0,[],rfl,sleNil,rfl⟩
end Go.Proofs.YtmfppdpkalelhaaGreat
end
section
set_option linter.unusedVariables false
set_option linter.unusedSimpArgs false
namespace Go.Proofs.YtmfppdpkalelhaaGreat
open Go Go.Fw
set_option maxRecDepth 10000
/-- onto a part of a row of one's own, where there is room: what stood behind is written over -/
theorem appendRoom {P : Program} {n : Nat} {H : List Row} {F : FS} {o : Oper} {α : Type} {enc : α → List Value} {l : List α} {a : Option Addr} {T e : TypeId} {x y : Operand} {sz by' q b k cap c : Nat} {xs old : List Value} (h : isAppend o x y T) (hT : ElT P T e sz by') (hx : evF F x = some (.slice (some ⟨b,0,none⟩) k cap)) (hy : evF F y = some (.slice a l.length c))
  (hi : H[q]? = some ⟨b,0,xs++old,some e,cap * sz⟩) (hs : SlE H a enc sz l) (h1 : ∀ e ∈ l,(enc e).all (·.oneCell') = true) (hxs : xs.length = k * sz) (hz : 0 < sz) (ho : l.length * sz ≤ old.length) :
  StF P n H F o (fun v H' => v = .slice (some ⟨b,0,none⟩) (k + l.length) cap∧H' = ⟨b,0,xs++l.flatMap enc++old.drop (l.length * sz),some e,cap * sz⟩::H.eraseIdx q):=by
 unfold StF StepOp
 intro t ha B w0 w hS
 have hr:=hS.ok _ (List.mem_of_getElem? hi)
 obtain ⟨hB,_,rest,hg,hlen⟩:=hr
 dsimp only at hg hlen hB
 have hroom : k + l.length ≤ cap:=by
  simp only [List.length_append,hxs] at hlen
  refine Nat.le_of_mul_le_mul_right (?_ : (k + l.length) * sz ≤ cap * sz) hz
  rw [Nat.add_mul];omega
 cases hl0 : l with
 | nil =>
  subst hl0
  refine ⟨.slice (some ⟨b,0,none⟩) k cap,w,_,.inl ?_,hS.turn (cs' := xs++old) (rest:=rest) hi ⟨rfl,rfl,rfl,Nat.le_refl _,fun _ _=>rfl⟩ (Nat.le_refl _) (fun _ _ _=>rfl) hg hlen,rfl,?_⟩
  ·exact run_append_op h (by rw [ha.ev hx,ha.ev hy];exact Fw.appendNone hT (by omega))
  ·simp
 | cons q0 l0 =>
  rw [← hl0]
  obtain ⟨b1,o1,rfl,_⟩:=hs.2 (by rw [hl0];simp)
  obtain ⟨ht,inf,z,hinf,hz',rfl,rfl,hzs⟩:=hT
  have hl : (l.flatMap enc).length = l.length * inf.size:=flat_len hs.1
  have hnews:=hs.rd.cell hS
  have h1' : ∀ u ∈ l.flatMap enc,u.oneCell' = true:=fun u hu=>by
   obtain ⟨e',he,hv⟩:=List.mem_flatMap.1 hu
   exact List.all_eq_true.1 (h1 e' he) u hv
  have hfit : k * inf.size + (l.flatMap enc).length ≤ (xs++old++rest).toArray.size:=by
   rw [List.size_toArray,hlen,hl, ← Nat.add_mul];exact Nat.mul_le_mul_right _ hroom
  have hrun:=run_append_room (P:=P) w T o.type e inf ht hinf b k cap _ hg ⟨b1,o1,none⟩ l.length c (l.flatMap enc) hl hnews h1' hroom hfit
  refine ⟨.slice (some ⟨b,0,none⟩) (k + l.length) cap,_,_,.inl (run_append_op h (by rw [ha.ev hx,ha.ev hy];exact hrun)),?_,rfl,rfl⟩
  refine hS.turn (rest:=rest) hi ⟨rfl,rfl,rfl,by simp,fun q hq=>setRow_other w b q _ (by omega)⟩ (by simp) (fun q _ hq=>setRow_other w b q _ hq) ?_ ?_
  ·rw [setRow_heap w b _ _ e _ hg]
   congr 3
   have e1 : (xs++old++rest).take (k * inf.size)=xs:=by rw [← hxs,List.append_assoc];exact List.take_left
   have e2 : (xs++old++rest).drop (k * inf.size + (l.flatMap enc).length)=old.drop (l.length * inf.size)++rest:=by
    rw [← hxs, ← List.drop_drop,List.append_assoc,List.drop_left,hl,List.drop_append_of_le_length ho]
   simp only [e1,e2]
   simp
  ·simp only [List.length_append,List.length_drop] at hlen ⊢
   rw [hl]
   omega
theorem sliceLoHi {P : Program} {n : Nat} {H : List Row} {F : FS} {o : Oper} {T e : TypeId} {x q r : Operand} {b off len cap lo hh s y : Nat} {kk kk' : IntKind} {ti : TI} (h : o.op = .slice T x (some q) (some r) none) (hx : evF F x = some (.slice (some ⟨b,off,none⟩) len cap)) (hT : tiOf P T = some ⟨.sl e,s,y⟩) (he : tiOf P e = some ti) (hq : evF F q = some (.int kk (lo : Int))) (hr : evF F r = some (.int kk' (hh : Int))) (h1 : lo ≤ hh) (h2 : hh ≤ cap) (h3 : lo < cap) :
  EvF P n H F o (.slice (some ⟨b,off + lo * ti.size,none⟩) (hh - lo) (cap - lo)):=by
 have:=EvF.slice (P:=P) (n:=n) (H:=H) h hx hT he (m:=cap) rfl (hh:=hh) ⟨kk',hr⟩ (l:=lo) ⟨kk,hq⟩ h1 h2 (Nat.le_refl _)
 rwa [if_neg (by omega)] at this
def tsKdl : List TOp:=[⟨some 20,[],[],[]⟩,⟨some 21,[],[],[]⟩,⟨some 22,[0,1],[0,1],[]⟩,⟨some 23,[],[],[]⟩,⟨some 24,[],[],[]⟩,⟨some 25,[3,4],[3,4],[]⟩,⟨some 26,[0,1,2,3,4,5],[2,5],[8]⟩,⟨some 0,[0,1,2,3,4,5,6],[6],[]⟩,⟨none,[],[],[]⟩]
def valKdl (b ii nn cc : Nat) (P0 P1 : List Value) (k : Nat) (env : Env) : Value :=
 match k with
 | 0 => .slice (some ⟨b,0,none⟩) nn cc
 | 1 => .int .i64 (ii : Nat)
 | 2 => .slice (some ⟨b,0,none⟩) ii cc
 | 3 => .slice (some ⟨b,0,none⟩) nn cc
 | 4 => .int .i64 (ii + 1 : Nat)
 | 5 => .slice (sfrom (some ⟨b,0,none⟩) cc (ii + 1) 1) (nn - (ii + 1)) (cc - (ii + 1))
 | 6 => .slice (some ⟨b,0,none⟩) (ii + (nn - (ii + 1))) cc
 | 7 => .slice (some ⟨b,0,none⟩) (ii + (nn - (ii + 1))) cc
 | _=>undef
def rowsKdl (b ii nn cc : Nat) (P0 P1 : List Value) (k : Nat) (env : Env) : List Row :=
 match k with
 | 6=>[⟨b,0,P1,some 3,cc * 1⟩]
 | 8=>[⟨b,0,P0,some 3,cc * 1⟩]
 | _=>[]
theorem locKdl (b ii nn cc : Nat) (P0 P1 : List Value) : ∀ k env i q9,i ≠ k → (tAt tsKdl k).sup.contains i = false → valKdl b ii nn cc P0 P1 k (upd env i q9)=valKdl b ii nn cc P0 P1 k env∧rowsKdl b ii nn cc P0 P1 k (upd env i q9)=rowsKdl b ii nn cc P0 P1 k env:=by
 intro k env i q hk hs
 have hu : ∀ j,j ≠ i → upd env i q j = env j:=fun j hj=>by unfold upd;rw [if_neg hj]
 match k,hk,hs with
 | 0,_,_=>exact ⟨rfl,rfl⟩
 | 1,_,_=>exact ⟨rfl,rfl⟩
 | 2,_,_=>exact ⟨rfl,rfl⟩
 | 3,_,_=>exact ⟨rfl,rfl⟩
 | 4,_,_=>exact ⟨rfl,rfl⟩
 | 5,_,_=>exact ⟨rfl,rfl⟩
 | 6,_,_=>exact ⟨rfl,rfl⟩
 | 7,_,_=>exact ⟨rfl,rfl⟩
 | 8,_,_=>exact ⟨rfl,rfl⟩
 | _ + 9,_,_=>exact ⟨rfl,rfl⟩
def rdKdl (_ : Nat) : List Nat:=[]
set_option maxHeartbeats 4000000 in
theorem delete_spec (L : List Int) (b c i : Nat) (H : List Row) (hi : i < L.length) (hb : L.length ≤ 1000000) :
  Fc Tryz.prog 74 [.slice (some ⟨b,0,none⟩) L.length c,.int .i64 (i : Nat),.int .i64 (i + 1 : Nat)] (⟨b,0,L.flatMap cI,some 3,c * 1⟩::H)
   (fun v H' => v = .slice (some ⟨b,0,none⟩) (L.take i++L.drop (i + 1)).length c∧H' = ⟨b,0,(L.take i++L.drop (i + 1)).flatMap cI,some 3,c * 1⟩::H):=by
 have hlA : (L.take i).length = i:=by rw [List.length_take];omega
 have hlB : (L.drop (i + 1)).length = L.length - (i + 1):=List.length_drop
 have hfA : ((L.take i).flatMap cI).length = i * 1:=by rw [lenI,hlA]
 have hfB : ((L.drop (i + 1)).flatMap cI).length = (L.length - (i + 1)) * 1:=by rw [lenI,hlB]
 have hfD : ((L.drop i).flatMap cI).length = (L.length - i) * 1:=by rw [lenI,List.length_drop]
 have hsp : L.flatMap cI = (L.take i).flatMap cI++(L.drop i).flatMap cI:=by rw [← List.flatMap_append,List.take_append_drop]
 obtain ⟨E,hE⟩ : ∃ E,E = ((L.drop i).flatMap cI).drop ((L.drop (i + 1)).length * 1):=⟨_,rfl⟩
 have hEl : E.length = 1:=by rw [hE,List.length_drop,hfD,hlB];omega
 refine Fc.mk (callable Tryz.call74) Tryz.func74 rfl Tryz.ntmps74 rfl ?_;dsimp only [fr]
 refine X.reveal (q:=0) rfl (fun rest hrest=>?_)
 refine X.forget (q:=0) (cs:=L.flatMap cI) (cs' := rest) rfl ?_
 have hc : L.length ≤ c:=by rw [List.length_append,lenI] at hrest;omega
 clear hrest
 dsimp only [List.set]
 repeat' (first | (refine uP rfl ?_;(first | ((first | refine uN rfl ?_);(first | (refine uE (uQ (b:=false) rfl rfl rfl (congrArg some (decide_eq_false (by omega)))) rfl rfl ?_)|(refine uE (EvF.slice (l:=i) (hh:=i + 1) (m:=L.length) rfl rfl (te rfl) (te rfl) ⟨_,rfl⟩ ⟨_,rfl⟩ ⟨_,rfl⟩ (by omega) (by omega) (by omega)) rfl rfl ?_)|(refine uE (uM rfl rfl) rfl rfl ?_)|(refine uE (uA rfl rfl) rfl rfl ?_)|(refine uE (EvF.lenSlice rfl rfl (te rfl)) rfl rfl ?_)))))|(refine uD rfl ?_;refine hK _ _ ?_;clear hK K) | refine uS rfl ?_ | refine uR rfl (fun K hK=>?_) | refine X.skip rfl ?_ | (refine X.ite rfl rfl (fun hc=>?_);(first | (with_reducible refine Xb.f hc ?_)) <;> clear hc))
 all_goals try (exfalso;contradiction)
 all_goals try (exfalso;omega)
 have hsl : ∀ S,SlE (⟨b,0,L.flatMap cI,some 3,c * 1⟩::S) (sfrom (some ⟨b,0,none⟩) c (i + 1) 1) cI 1 (L.drop (i + 1)):=fun S=>by
  have h0 : SlE (⟨b,0,L.flatMap cI,some 3,c * 1⟩::S) (some ⟨b,0,none⟩) cI 1 L:=SlE.ofRow (qH _) (fun _ _=>rfl)
  exact sleFrom h0 hc (i + 1)
 refine X.regionRs [] tsKdl rdKdl [1,2,7] [(1,.int .i64 (i : Nat)),(2,.int .i64 (i + 1 : Nat)),(7,.int .i64 (L.length : Nat))] (valKdl b i L.length c (L.flatMap cI) ((L.take i).flatMap cI++(L.drop (i + 1)).flatMap cI++E)) (rowsKdl b i L.length c (L.flatMap cI) ((L.take i).flatMap cI++(L.drop (i + 1)).flatMap cI++E)) (fun _=>(0,0)) (H) rfl mixed (by repeat (first | exact uU _ | refine uV rfl ?_)) rfl (by kernel_rfl) (by kernel_rfl) (locKdl b i L.length c (L.flatMap cI) ((L.take i).flatMap cI++(L.drop (i + 1)).flatMap cI++E)) (fun i d hi=>by cases hi) (qR _) [(7,0,.slice (some ⟨b,0,none⟩) L.length c)] (by intro e he;simp only [List.mem_cons,List.not_mem_nil,or_false] at he;rcases he with rfl <;> exact ⟨rfl,Nat.le_of_ble_eq_true rfl⟩) (by intro e he;simp only [List.mem_cons,List.not_mem_nil,or_false] at he;rcases he with rfl <;> exact rfl) ?_ ?_
 ·repeat' (first | exact AllF.done rfl | (refine AllF.step rfl ?_ ?_;·(first | fail | (refine Ob.toR ?_;((first | refine Ob.ng rfl ?_);(first | exact ObK.pure (fun env R hR=>by exact ⟨_,uM rfl rfl,rfl⟩) rfl (fun _=>rfl) | exact ObK.pure (fun env R hR=>by exact ⟨_,uA rfl rfl,rfl⟩) rfl (fun _=>rfl)|(exact ObK.pure (fun env S hS=>⟨_,EvF.sliceTo (hh:=i) rfl rfl (te rfl) (te rfl) rfl (by omega),rfl⟩) rfl (fun _=>rfl))|(exact ObK.pure (fun env S hS=>⟨_,EvF.sliceFrom (lo:=i + 1) rfl rfl (te rfl) (te rfl) rfl (by omega) (by omega),rfl⟩) rfl (fun _=>rfl))|(exact fun env S hS=>(appendRoom (enc:=cI) (q:=0) (l:=L.drop (i + 1)) (xs:=(L.take i).flatMap cI) (old:=(L.drop i).flatMap cI) rfl el55 rfl (by rw [hlB];rfl) (by rw [← hsp];rfl) (hsl S) (fun _ _=>rfl) hfA (by decide) (by rw [hlB,hfD];omega)).op.mono (fun v H' ⟨hv,hH⟩=>⟨(0,0),fun _=>by rw [hv,hlB];rfl,by rw [hH, ← hE];exact List.Perm.refl _⟩))))))))
 ·intro env t ha2 hv;refine ⟨_,ha2.cons (hv 7 0 (Nat.le_of_ble_eq_true rfl) rfl),?_⟩;clear hv ha2
  show X _ _ _ [(0,.slice (some ⟨b,0,none⟩) (i + (L.length - (i + 1))) c),(1,.int .i64 (i : Nat)),(2,.int .i64 (i + 1 : Nat)),(7,.int .i64 L.length)] (⟨b,0,(L.take i).flatMap cI++(L.drop (i + 1)).flatMap cI++E,some 3,c * 1⟩::H) _
  clear env
  rw [← List.flatMap_append,show i + (L.length - (i + 1)) = L.length - 1 by omega]
  have hPl : ((L.take i++L.drop (i + 1)).flatMap cI).length = (L.length - 1) * 1:=by rw [lenI,List.length_append,hlA,hlB];omega
  have hPn : (L.take i++L.drop (i + 1)).length = L.length - 1:=by rw [List.length_append,hlA,hlB];omega
  rw [hPn]
  have e2 : ∀ zs : List Value,zs.length = (L.length - (L.length - 1)) * 1 → splice ((L.take i++L.drop (i + 1)).flatMap cI++E) (0 + (L.length - 1) * 1) zs = (L.take i++L.drop (i + 1)).flatMap cI++zs:=fun zs hzs=>by
   have:=splice_at (xs:=(L.take i++L.drop (i + 1)).flatMap cI) (ys:=E) (zs:=[]) (vs:=zs) (j:=0 + (L.length - 1) * 1) (by rw [hPl];omega) (by rw [hzs,hEl];omega)
   rwa [List.append_nil,List.append_nil] at this
  repeat' (first | (refine uP rfl ?_;(first | ((first | refine uN rfl ?_);(first | (refine uE (sliceLoHi (lo:=L.length - 1) (hh:=L.length) rfl rfl (te rfl) (te rfl) rfl rfl (by omega) (by omega) (by omega)) rfl rfl ?_)|(refine Xg.st0 (StF.clear (q:=0) rfl el55 rfl rfl (by rw [List.length_append,hPl,hEl];show 0 + (L.length - 1) * 1 + (L.length - (L.length - 1)) * 1 ≤ _;omega) honeInt) rfl ?_;rintro _ _ ⟨zs,hzs,rfl⟩;dsimp only [List.set];rw [e2 zs hzs];refine XO.forget (q:=0) rfl ?_;dsimp only [List.set])|(refine uE (uM rfl rfl) rfl rfl ?_)|(refine uE (uA rfl rfl) rfl rfl ?_)|(refine uE (EvF.lenSlice rfl rfl (te rfl)) rfl rfl ?_)))))|(refine uD rfl ?_;refine hK _ _ ?_;clear hK K) | refine uS rfl ?_ | refine uR rfl (fun K hK=>?_) | refine X.ret rfl ?_)
  exact ret_one (by simp) Tryz.results74 rfl (H' := ⟨b,0,(L.take i++L.drop (i + 1)).flatMap cI,some 3,c * 1⟩::H) (qR _) ⟨rfl,rfl⟩
end Go.Proofs.YtmfppdpkalelhaaGreat
end
section
set_option linter.unusedVariables false
set_option linter.unusedSimpArgs false
namespace Go.Proofs.YtmfppdpkalelhaaGreat
open Go Go.Fw
set_option maxRecDepth 10000
theorem numsSl (R : Rm) (p : Pl) (H : List Row) (hM : SlE H p.a3 cMt 6 R.mats) (hl : R.mats.length ≤ 1000000) : Fc Tryz.prog 54 [.slice p.a3 R.mats.length p.c3,.func (.func 55) #[] #[]] H (fun v H' => ∃ a c Z,v = .slice a (R.mats.map (·.number)).length c∧(∀ S,SlE (Z++S) a cI 1 (R.mats.map (·.number)))∧H' = Z++H) :=
 (numsMt R p H hM hl).mono fun v H' h=>by
  rcases h with ⟨h0,hv,hH⟩ | ⟨b,q,_,hv,hH⟩
  ·exact ⟨none,0,[],by rw [hv,h0];rfl,fun _=>by rw [h0];exact sleNil,hH⟩
  ·exact ⟨some ⟨b,0,none⟩,q,[_],hv,fun _=>SlE.ofRow (qH _) (fun _ _=>rfl),hH⟩
theorem numsRow (R : Rm) (p : Pl) (H : List Row) (hM : SlE H p.a3 cMt 6 R.mats) (hl : R.mats.length ≤ 1000000) (h0 : R.mats ≠ []) : Fc Tryz.prog 54 [.slice p.a3 R.mats.length p.c3,.func (.func 55) #[] #[]] H (fun v H' => ∃ b q,v = .slice (some ⟨b,0,none⟩) (R.mats.map (·.number)).length q∧H' = ⟨b,0,(R.mats.map (·.number)).flatMap cI,some 3,q * 1⟩::H) :=
 (numsMt R p H hM hl).mono fun v H' h=>by
  rcases h with ⟨h1,_,_⟩ | ⟨b,q,_,hv,hH⟩
  ·exact absurd h1 h0
  ·exact ⟨b,q,hv,hH⟩
theorem in_out {R : Rm} (hn : (R.mats.map (·.number)).Nodup) {k : Nat} {x : Mt} (hx : R.mats[k]? = some x) : inM R.mats ((R.mats.map (·.number)).take k++(R.mats.map (·.number)).drop (k + 1)) = outM R.mats [x.number]:=by
 obtain ⟨L,hL⟩ : ∃ L,L = R.mats.map (·.number):=⟨_,rfl⟩
 have hxL : L[k]? = some x.number:=by rw [hL,List.getElem?_map,hx];rfl
 have hmem : ∀ y ∈ R.mats,y.number ∈ L:=fun y hy=>by rw [hL];exact List.mem_map.2 ⟨y,hy,rfl⟩
 rw [← hL] at hn ⊢
 have hsp : L.take k++x.number::L.drop (k + 1)=L:=by rw [← drop_cons hxL];exact List.take_append_drop _ _
 obtain ⟨A,hA⟩ : ∃ A,A = L.take k:=⟨_,rfl⟩
 obtain ⟨B,hB⟩ : ∃ B,B = L.drop (k + 1):=⟨_,rfl⟩
 rw [← hA, ← hB] at hsp ⊢
 rw [← hsp] at hn hmem
 have hne : x.number ∉ A++B:=((List.perm_middle.nodup_iff).1 hn |> List.nodup_cons.1).1
 unfold inM outM
 refine List.filter_congr fun y hy=>?_
 have hy' := hmem y hy
 by_cases h : y.number = x.number
 ·rw [h,decide_eq_false hne]
  simp
 ·rw [decide_eq_true (p:=y.number ∈ A++B) ?_]
  ·simp [h]
  ·rcases List.mem_append.1 hy' with q | q
   ·exact List.mem_append_left _ q
   ·rcases List.mem_cons.1 q with q | q
    ·exact absurd q h
    ·exact List.mem_append_right _ q
set_option maxHeartbeats 8000000 in
theorem kRests_spec (R : Rm) (p : Pl) (x m : Int) (H : List Row) (hR : RmOk H R p) (h2 : R.boxes.length ≤ 1000000) : Fc Tryz.prog 35 [.agg (cRm R p).toArray,.int .i64 x,.int .i64 m] H (LstR (rstF R x m).1 (rstF R x m).2 H):=by
 obtain ⟨e,he⟩ : ∃ e,openE R [x] [m] = e:=⟨_,rfl⟩
 by_cases h0 : e = 0
 ·subst h0
  obtain ⟨hok,_,_,hT⟩:=openE_ok he
  have hml : R.mats.length ≤ 8:=hok.1.2.2.2.2.2.2
  have hnd:=hok.nums
  have hpq:=plcs_of he (List.mem_singleton.2 rfl) (List.mem_singleton.2 rfl)
  have hcm:=fun S hS=>claimedY R p x m S hS h2 he
  have hy : rstF R x m = (rsG (prvM R ⟨x,m⟩ (rng R R.mats ⟨x,m⟩ zp)) R R.mats,0):=by
   unfold rstF
   rw [if_pos he]
   rfl
  rw [hy]
  clear hy
  obtain ⟨s,hs⟩ : ∃ s,s = rng R R.mats ⟨x,m⟩ zp:=⟨_,rfl⟩
  rw [← hs] at hcm ⊢
  clear hs
  have hio : ∀ (k : Nat) (y : Mt),R.mats[k]? = some y → prvN R ⟨x,m⟩ s ((R.mats.map (·.number)).take k++(R.mats.map (·.number)).drop (k + 1)) = prvM R ⟨x,m⟩ s (outM R.mats [y.number]):=fun k y hy=>by
   unfold prvN
   rw [in_out hnd hy]
  have hns:=fun S hS=>numsSl R p S hS (by omega)
  have hnr:=fun S hS=>numsRow R p S hS (by omega)
  obtain ⟨L,hL⟩ : ∃ L,L = R.mats.map (·.number):=⟨_,rfl⟩
  have hLl : L.length = R.mats.length:=by rw [hL,List.length_map]
  have hLg : ∀ (k : Nat) (y : Mt),R.mats[k]? = some y → L[k]? = some y.number:=fun k y hy=>by rw [hL,List.getElem?_map,hy];rfl
  rw [← hL] at hns hnr
  simp only [← hL] at hio
  obtain ⟨ok,hok'⟩ : ∃ ok,ok = prvM R ⟨x,m⟩ s:=⟨_,rfl⟩
  rw [← hok']
  simp only [← hok'] at hio
  refine Fc.mk (callable Tryz.call35) Tryz.func35 rfl Tryz.ntmps35 rfl ?_;dsimp only [fr]
  repeat' (first | (refine uP rfl ?_;(first | ((first | refine uN rfl ?_);(first | (refine uE (uQ (b:=false) rfl rfl rfl (congrArg some (nd_f (by omega)))) rfl rfl ?_)|(refine uE (uL rfl rfl (uW (T:=32) (cs:=cRm R p) (te rfl) rfl (by repeat (first | exact qH _ | apply qT)) rfl)) rfl rfl ?_)|(refine uC (uT rfl (by (repeat (first | exact Args.nil | refine Args.cons rfl ?_));done)) rfl rfl (hcm _ (hR.sub (fun _ h=>by repeat (first | exact h | apply qT)))) ?_;rintro _ _ ⟨b,k,hbk,rfl,rfl⟩)|(refine uE (uX rfl rfl rfl) rfl rfl ?_)|(refine Xg.st (StF.alloc rfl Tryz.zeroValue95 rfl) rfl rfl ?_;rintro _ _ ⟨b8,rfl,rfl⟩)|(refine Xg.st0 (StF.storeAll (i:=0) (vs:=cCm R p (some ⟨b,0,none⟩) k ⟨x,m⟩ s) rfl rfl rfl (te rfl) rfl rfl rfl rfl) rfl ?_;rintro _ _ ⟨rfl,rfl⟩;dsimp only [List.set])|(refine uE (uL rfl rfl (uO (cs:=cRm R p) (te rfl) rfl (by repeat (first | exact qH _ | apply qT)) rfl)) rfl rfl ?_)|(refine uC (uT rfl (by (repeat (first | exact Args.nil | refine Args.cons rfl ?_));done)) rfl rfl (hns _ (hR.mats.sub (fun _ h=>by repeat (first | exact h | apply qT)))) ?_;rintro _ _ ⟨an,cn,Z0,rfl,hZ0,rfl⟩)|(refine uE (uM rfl rfl) rfl rfl ?_)|(refine uE (uA rfl rfl) rfl rfl ?_)|(refine uE (uF rfl rfl (te rfl) rfl (te rfl) (by decide)) rfl rfl ?_)|(refine uE (EvF.lenSlice rfl rfl (te rfl)) rfl rfl ?_)|(refine Xg.st (StF.boxAgg rfl rfl) rfl rfl ?_;rintro _ _ ⟨bx,rfl,rfl⟩)))))|(refine uD rfl ?_;refine hK _ _ ?_;clear hK K) | refine uS rfl ?_ | refine uR rfl (fun K hK=>?_) | refine X.block rfl ?_ | refine X.skip rfl ?_ | (refine X.ite rfl rfl (fun hc=>?_);(first | (with_reducible refine Xb.f hc ?_)) <;> clear hc))
  all_goals try (exfalso;contradiction)
  generalize bx = b3
  obtain ⟨G,hG⟩ : ∃ G : List Row,G = Z0++⟨b8,0,cCm R p (some ⟨b,0,none⟩) k ⟨x,m⟩ s,some 95,10⟩::⟨b,0,(plcs R).flatMap cPk,some 86,k * 2⟩::⟨b3,0,cRm R p,some 32,5⟩::H:=⟨_,rfl⟩
  have hg8 : (⟨b8,0,cCm R p (some ⟨b,0,none⟩) k ⟨x,m⟩ s,some 95,10⟩ : Row) ∈ G:=by rw [hG];exact List.mem_append_right _ (qH _)
  have hgb : (⟨b,0,(plcs R).flatMap cPk,some 86,k * 2⟩ : Row) ∈ G:=by rw [hG];exact List.mem_append_right _ (qT _ (qH _))
  have hg3 : (⟨b3,0,cRm R p,some 32,5⟩ : Row) ∈ G:=by rw [hG];exact List.mem_append_right _ (qT _ (qT _ (qH _)))
  have hHG : H.Sublist G:=by rw [hG];exact (qC _ (qC _ (qC _ (qR _)))).trans (List.sublist_append_right _ _)
  have hGl : SlE G an cI 1 L:=by rw [hG];exact hZ0 _
  have hGR : RmOk G R p:=hR.sub (fun r h=>hHG.subset h)
  have hCt : CtOk G R p (some ⟨b,0,none⟩):=⟨hGR,SlE.ofRow hgb (fun _ _=>rfl)⟩
  have hpr : ∀ (l : List Int) (al : Option Addr) (cl : Nat) (S : List Row),(∀ r ∈ G,r ∈ S) → SlE S al cI 1 l → l.length ≤ 1000000 → Fc Tryz.prog 56 [.agg (cCm R p (some ⟨b,0,none⟩) k ⟨x,m⟩ s).toArray,.slice al l.length cl] S (fun v H' => v = .bool (prvN R ⟨x,m⟩ s l)∧H' = S):=fun l al cl S hS hsl hl =>
   kproves_spec R p (some ⟨b,0,none⟩) k ⟨x,m⟩ s l al cl S hok.ok hok.mats (CtOk.sub hCt hS) hok.lens.ages hok.lens.mats hbk hT hpq hsl hl
  refine X.lp rfl (fun q F' H' => ∃ (i : Nat) (out : Value) (Z : List Row),q = R.mats.length - i∧i ≤ R.mats.length∧((rsG ok R (R.mats.take i) = []∧out = .slice none 0 0∧Z = []) ∨ ∃ bn kn,out = .slice (some ⟨bn,0,none⟩) (rsG ok R (R.mats.take i)).length kn∧Z = [⟨bn,0,(rsG ok R (R.mats.take i)).flatMap cI,some 3,kn * 1⟩])∧Z++G = H'∧F' = [(3,.pointer (some ⟨b3,0,none⟩)),(8,.pointer (some ⟨b8,0,none⟩)),(10,out),(26,.slice an L.length cn),(27,.int .i64 L.length),(28,.int .i64 (i : Nat))])
   R.mats.length [(3,.pointer (some ⟨b3,0,none⟩)),(8,.pointer (some ⟨b8,0,none⟩)),(10,.slice none 0 0),(26,.slice an L.length cn),(27,.int .i64 L.length),(28,.int .i64 (0 : Nat))] G (by repeat (first | exact uU _ | refine uV rfl ?_)) (by rw [hG];exact qR _) ⟨0,_,[],rfl,by omega,.inl ⟨rfl,rfl,rfl⟩,rfl,rfl⟩ ?_
  clear hG hZ0 hR hns
  rintro _ _ _ ⟨i,out,Z,rfl,hi,hTz,rfl,rfl⟩
  have hzl:=rsG_len ok R (R.mats.take i)
  have hlT:=List.length_take (i:=i) (l:=R.mats)
  by_cases hlt : i < R.mats.length
  ·obtain ⟨y,hyi⟩ : ∃ y,R.mats[i]? = some y:=⟨_,List.getElem?_eq_getElem hlt⟩
   have hyL:=hLg i y hyi
   obtain ⟨bl,off,_,hqa,_⟩:=hGl.elem (i:=i) (by omega)
   subst hqa
   have hsn:=rsG_snoc ok R hyi
   obtain ⟨G2,hG2⟩ : ∃ G2 : List Row,Z++G = G2:=⟨_,rfl⟩
   have hGS : ∀ r ∈ G,r ∈ G2:=fun r h=>by rw [← hG2];exact List.mem_append_right _ h
   have hg8' := hGS _ hg8
   have hg3' := hGS _ hg3
   have hGm' := hGR.mats.sub hGS
   have hGl' := hGl.sub hGS
   obtain ⟨Q,hQ⟩ : ∃ Q,Q = L.take i++L.drop (i + 1):=⟨_,rfl⟩
   have hQl : Q.length ≤ 1000000:=by rw [hQ,List.length_append,List.length_take,List.length_drop];omega
   have hprQ:=fun al cl S hS hsl=>hpr Q al cl S hS hsl hQl
   rw [show prvN R ⟨x,m⟩ s Q = ok (outM R.mats [y.number]) by rw [hQ];exact hio i y hyi] at hprQ
   have hdl:=fun b9 c9 S=>delete_spec L b9 c9 i S (by omega) (by omega)
   rw [← hQ] at hdl
   have hne : R.mats ≠ []:=fun h=>by rw [h] at hlt;simp at hlt
   obtain ⟨w,hw⟩ : ∃ w,w = ok (outM R.mats [y.number]):=⟨_,rfl⟩
   rw [← hw] at hprQ hsn
   rw [hG2]
   cases w with
   | true =>
    rw [if_pos rfl,List.append_nil] at hsn
    repeat' (first | (refine uP rfl ?_;(first | ((first | refine uN rfl ?_);(first | (refine uE (uQ (b:=true) rfl rfl rfl (congrArg some (decide_eq_true (by omega)))) rfl rfl ?_)|(refine uE (uL rfl rfl (LoadV.el0 (hGl') hyL (te rfl) rfl (fun _ hm=>hm) rfl)) rfl rfl ?_)|(refine uE (uL rfl rfl (uO (cs:=cRm R p) (te rfl) rfl hg3' rfl)) rfl rfl ?_)|(refine uC (uT rfl (by (repeat (first | exact Args.nil | refine Args.cons rfl ?_));done)) rfl rfl (hnr _ (hGm'.sub (fun _ h=>by repeat (first | exact h | apply qT))) hne) ?_;rintro _ _ ⟨b9,c9,rfl,rfl⟩)|(refine uC (uT rfl (Args.cons rfl (Args.cons rfl (Args.cons rfl Args.nil)))) rfl rfl (hdl b9 c9 _) ?_;rintro _ H9 ⟨rfl,hH9⟩;subst H9)|(refine uE (EvF.add64 (p:=(i : Int)) (q:=1) rfl rfl rfl (by omega) (by omega)) rfl rfl ?_)|(refine uE (uL rfl rfl (uW (T:=95) (cs:=cCm R p (some ⟨b,0,none⟩) k ⟨x,m⟩ s) (te rfl) rfl (qT _ hg8') rfl)) rfl rfl ?_)|(refine uC (uT rfl (Args.cons rfl (Args.cons rfl Args.nil))) rfl rfl (hprQ (some ⟨b9,0,none⟩) c9 _ (fun r h=>qT _ (hGS r h)) (SlE.ofRow (qH _) (fun _ _=>rfl))) ?_;rintro _ H9 ⟨rfl,hH9⟩;subst H9)|(refine uE (uM rfl rfl) rfl rfl ?_)|(refine uE (uA rfl rfl) rfl rfl ?_)|(refine uE (EvF.not rfl rfl) rfl rfl ?_)|(refine uE (uF rfl rfl (te rfl) rfl (te rfl) (by decide)) rfl rfl ?_)|(refine uE (EvF.indexSlice rfl rfl rfl (te rfl) (te rfl) (by omega) (by omega)) rfl rfl ?_)))))|(refine uD rfl ?_;refine hK _ _ ?_;clear hK K) | refine uS rfl ?_ | refine uR rfl (fun K hK=>?_) | refine X.block rfl ?_ | refine X.skip rfl ?_ | (refine X.ite rfl rfl (fun hc=>?_);(first | (with_reducible refine Xb.t hc ?_)|(with_reducible refine Xb.caseB hc (fun h=>?_) (fun h=>?_))) <;> clear hc))
    all_goals try (exfalso;contradiction)
    exact ⟨_,[(3,.pointer (some ⟨b3,0,none⟩)),(8,.pointer (some ⟨b8,0,none⟩)),(10,out),(26,.slice (some ⟨bl,off,none⟩) L.length cn),(27,.int .i64 L.length),(28,.int .i64 (i + 1 : Nat))],G2,(by repeat (first | exact uU _ | refine uV rfl ?_)),(by repeat (first | exact qR _ | apply qK | apply qC)),⟨i + 1,out,Z,rfl,by omega,by rw [hsn];exact hTz,hG2,rfl⟩,by omega⟩
   | false =>
    rw [if_neg (fun q=>by cases q)] at hsn
    rcases hTz with ⟨h9,rfl,rfl⟩ | ⟨bo,ko,rfl,rfl⟩
    ·rw [h9,List.nil_append] at hsn
     rw [List.nil_append] at hG2
     subst hG2
     repeat' (first | (refine uP rfl ?_;(first | ((first | refine uN rfl ?_);(first | (refine uE (uQ (b:=true) rfl rfl rfl (congrArg some (decide_eq_true (by omega)))) rfl rfl ?_)|(refine uE (uL rfl rfl (LoadV.el0 (hGl') hyL (te rfl) rfl (fun _ hm=>hm) rfl)) rfl rfl ?_)|(refine uE (uL rfl rfl (uO (cs:=cRm R p) (te rfl) rfl hg3' rfl)) rfl rfl ?_)|(refine uC (uT rfl (by (repeat (first | exact Args.nil | refine Args.cons rfl ?_));done)) rfl rfl (hnr _ (hGm'.sub (fun _ h=>by repeat (first | exact h | apply qT))) hne) ?_;rintro _ _ ⟨b9,c9,rfl,rfl⟩)|(refine uC (uT rfl (Args.cons rfl (Args.cons rfl (Args.cons rfl Args.nil)))) rfl rfl (hdl b9 c9 _) ?_;rintro _ H9 ⟨rfl,hH9⟩;subst H9)|(refine uE (EvF.add64 (p:=(i : Int)) (q:=1) rfl rfl rfl (by omega) (by omega)) rfl rfl ?_)|(refine uE (uL rfl rfl (uW (T:=95) (cs:=cCm R p (some ⟨b,0,none⟩) k ⟨x,m⟩ s) (te rfl) rfl (qT _ hg8') rfl)) rfl rfl ?_)|(refine uC (uT rfl (Args.cons rfl (Args.cons rfl Args.nil))) rfl rfl (hprQ (some ⟨b9,0,none⟩) c9 _ (fun r h=>qT _ (hGS r h)) (SlE.ofRow (qH _) (fun _ _=>rfl))) ?_;rintro _ H9 ⟨rfl,hH9⟩;subst H9)|(refine Xg.st (StF.buildOne rfl el55 rfl rfl rfl (by decide) (by decide)) rfl rfl ?_;rintro _ _ ⟨bs,rfl,rfl⟩)|(refine Xg.st (StF.appendNew rfl el55 rfl rfl (by decide) rfl (Rd.own (qH _)) (by decide)) rfl rfl ?_;rintro _ _ ⟨bn,kn,rfl,rfl⟩)|(refine uE (uM rfl rfl) rfl rfl ?_)|(refine uE (uA rfl rfl) rfl rfl ?_)|(refine uE (EvF.not rfl rfl) rfl rfl ?_)|(refine uE (uF rfl rfl (te rfl) rfl (te rfl) (by decide)) rfl rfl ?_)|(refine uE (EvF.indexSlice rfl rfl rfl (te rfl) (te rfl) (by omega) (by omega)) rfl rfl ?_)))))|(refine uD rfl ?_;refine hK _ _ ?_;clear hK K) | refine uS rfl ?_ | refine uR rfl (fun K hK=>?_) | refine X.block rfl ?_ | refine X.skip rfl ?_ | (refine X.ite rfl rfl (fun hc=>?_);(first | (with_reducible refine Xb.t hc ?_)|(with_reducible refine Xb.caseB hc (fun h=>?_) (fun h=>?_))) <;> clear hc))
     all_goals try (exfalso;contradiction)
     refine ⟨_,[(3,.pointer (some ⟨b3,0,none⟩)),(8,.pointer (some ⟨b8,0,none⟩)),(10,.slice (some ⟨bn,0,none⟩) 1 kn),(26,.slice (some ⟨bl,off,none⟩) L.length cn),(27,.int .i64 L.length),(28,.int .i64 (i + 1 : Nat))],⟨bn,0,(rsG ok R (R.mats.take (i + 1))).flatMap cI,some 3,kn * 1⟩::G,(by repeat (first | exact uU _ | refine uV rfl ?_)),?_,⟨i + 1,_,[_],rfl,by omega,.inr ⟨bn,kn,by rw [hsn];rfl,rfl⟩,rfl,rfl⟩,by omega⟩
     rw [hsn]
     exact (by repeat (first | exact qR _ | apply qK | apply qC))
    ·simp only [List.cons_append,List.nil_append] at hG2
     subst hG2
     have hlen9 : ((rsG ok R (R.mats.take i)).flatMap cI).length = (rsG ok R (R.mats.take i)).length * 1:=lenI _
     repeat' (first | (refine uP rfl ?_;(first | ((first | refine uN rfl ?_);(first | (refine uE (uQ (b:=true) rfl rfl rfl (congrArg some (decide_eq_true (by omega)))) rfl rfl ?_)|(refine uE (uL rfl rfl (LoadV.el0 (hGl') hyL (te rfl) rfl (fun _ hm=>hm) rfl)) rfl rfl ?_)|(refine uE (uL rfl rfl (uO (cs:=cRm R p) (te rfl) rfl hg3' rfl)) rfl rfl ?_)|(refine uC (uT rfl (by (repeat (first | exact Args.nil | refine Args.cons rfl ?_));done)) rfl rfl (hnr _ (hGm'.sub (fun _ h=>by repeat (first | exact h | apply qT))) hne) ?_;rintro _ _ ⟨b9,c9,rfl,rfl⟩)|(refine uC (uT rfl (Args.cons rfl (Args.cons rfl (Args.cons rfl Args.nil)))) rfl rfl (hdl b9 c9 _) ?_;rintro _ H9 ⟨rfl,hH9⟩;subst H9)|(refine uE (EvF.add64 (p:=(i : Int)) (q:=1) rfl rfl rfl (by omega) (by omega)) rfl rfl ?_)|(refine uE (uL rfl rfl (uW (T:=95) (cs:=cCm R p (some ⟨b,0,none⟩) k ⟨x,m⟩ s) (te rfl) rfl (qT _ hg8') rfl)) rfl rfl ?_)|(refine uC (uT rfl (Args.cons rfl (Args.cons rfl Args.nil))) rfl rfl (hprQ (some ⟨b9,0,none⟩) c9 _ (fun r h=>qT _ (hGS r h)) (SlE.ofRow (qH _) (fun _ _=>rfl))) ?_;rintro _ H9 ⟨rfl,hH9⟩;subst H9)|(refine Xg.st (StF.buildOne rfl el55 rfl rfl rfl (by decide) (by decide)) rfl rfl ?_;rintro _ _ ⟨bs,rfl,rfl⟩)|(refine Xg.st (StF.appendOwn (i:=2) rfl el55 rfl rfl rfl hlen9 rfl (Rd.own (qH _)) rfl (by omega)) rfl rfl ?_;rintro _ _ ⟨bn,kn,rfl,rfl⟩;dsimp only [List.eraseIdx])|(refine uE (uM rfl rfl) rfl rfl ?_)|(refine uE (uA rfl rfl) rfl rfl ?_)|(refine uE (EvF.not rfl rfl) rfl rfl ?_)|(refine uE (uF rfl rfl (te rfl) rfl (te rfl) (by decide)) rfl rfl ?_)|(refine uE (EvF.indexSlice rfl rfl rfl (te rfl) (te rfl) (by omega) (by omega)) rfl rfl ?_)))))|(refine uD rfl ?_;refine hK _ _ ?_;clear hK K) | refine uS rfl ?_ | refine uR rfl (fun K hK=>?_) | refine X.block rfl ?_ | refine X.skip rfl ?_ | (refine X.ite rfl rfl (fun hc=>?_);(first | (with_reducible refine Xb.t hc ?_)|(with_reducible refine Xb.caseB hc (fun h=>?_) (fun h=>?_))) <;> clear hc))
     all_goals try (exfalso;contradiction)
     refine ⟨_,[(3,.pointer (some ⟨b3,0,none⟩)),(8,.pointer (some ⟨b8,0,none⟩)),(10,.slice (some ⟨bn,0,none⟩) ((rsG ok R (R.mats.take i)).length + 1) kn),(26,.slice (some ⟨bl,off,none⟩) L.length cn),(27,.int .i64 L.length),(28,.int .i64 (i + 1 : Nat))],⟨bn,0,(rsG ok R (R.mats.take (i + 1))).flatMap cI,some 3,kn * 1⟩::G,(by repeat (first | exact uU _ | refine uV rfl ?_)),?_,⟨i + 1,_,[_],rfl,by omega,.inr ⟨bn,kn,by rw [hsn,List.length_append];rfl,rfl⟩,rfl,rfl⟩,by omega⟩
     rw [hsn,List.flatMap_append]
     exact (by repeat (first | exact qR _ | apply qK | apply qC))
  ·obtain rfl : i = R.mats.length:=by omega
   rw [List.take_length] at hTz
   repeat' (first | (refine uP rfl ?_;(first | ((first | refine uN rfl ?_);(first | (refine uE (uQ (b:=false) rfl rfl rfl (congrArg some (decide_eq_false (by omega)))) rfl rfl ?_)|(refine uE (uM rfl rfl) rfl rfl ?_)|(refine uE (uA rfl rfl) rfl rfl ?_)))))|(refine uD rfl ?_;refine hK _ _ ?_;clear hK K) | refine uS rfl ?_ | refine uR rfl (fun K hK=>?_)|(refine X.brk rfl ?_;repeat (first | refine blockX_hit rfl ?_ | refine blockX_miss (by decide) ?_)) | refine X.ret rfl ?_ | (refine X.ite rfl rfl (fun hc=>?_);(first | (with_reducible refine Xb.f hc ?_)) <;> clear hc))
   all_goals try (exfalso;contradiction)
   rcases hTz with ⟨h9,rfl,rfl⟩ | ⟨bo,ko,rfl,rfl⟩
   ·rw [h9]
    exact ret_two (by simp) Tryz.results35 rfl rfl (H' := H) hHG ⟨none,0,[],rfl,sleNil,rfl⟩
   ·exact ret_two (by simp) Tryz.results35 rfl rfl (H' := ⟨bo,0,(rsG ok R R.mats).flatMap cI,some 3,ko * 1⟩::H) (qK _ hHG) ⟨some ⟨bo,0,none⟩,ko,[⟨bo,0,(rsG ok R R.mats).flatMap cI,some 3,ko * 1⟩],rfl,SlE.ofRow (qH _) (fun _ _=>rfl),rfl⟩
 ·have hy : rstF R x m = ([],e):=by unfold rstF;rw [if_neg (by rw [he];exact h0),he]
  rw [hy]
  refine Fc.mk (callable Tryz.call35) Tryz.func35 rfl Tryz.ntmps35 rfl ?_;dsimp only [fr]
  repeat' (first | (refine uP rfl ?_;(first | ((first | refine uN rfl ?_);(first | (refine uE (uL rfl rfl (uW (T:=32) (cs:=cRm R p) (te rfl) rfl (by repeat (first | exact qH _ | apply qT)) rfl)) rfl rfl ?_)|(refine uC (uT rfl (Args.cons rfl (Args.cons rfl (Args.cons rfl Args.nil)))) rfl rfl (claimedN R p x m e _ (hR.sub (fun _ h=>by repeat (first | exact h | apply qT))) h2 he h0) ?_;rintro _ H9 ⟨rfl,hH9⟩;subst H9)|(refine uE (uX rfl rfl rfl) rfl rfl ?_)|(refine Xg.st (StF.alloc rfl Tryz.zeroValue95 rfl) rfl rfl ?_;rintro _ _ ⟨b8,rfl,rfl⟩)|(refine Xg.st0 (StF.storeAll (i:=0) (vs:=zCm) rfl rfl rfl (te rfl) rfl rfl rfl rfl) rfl ?_;rintro _ _ ⟨rfl,rfl⟩;dsimp only [List.set])|(refine uE (uM rfl rfl) rfl rfl ?_)|(refine uE (uA rfl rfl) rfl rfl ?_)|(refine uE (uQ rfl rfl rfl rfl) rfl rfl ?_)|(refine uE (uF rfl rfl (te rfl) rfl (te rfl) (by decide)) rfl rfl ?_)|(refine uE (uL rfl rfl (uO (te rfl) rfl (qT _ (qH _)) rfl)) rfl rfl ?_)|(refine Xg.st (StF.boxAgg rfl rfl) rfl rfl ?_;rintro _ _ ⟨bx,rfl,rfl⟩)))))|(refine uD rfl ?_;refine hK _ _ ?_;clear hK K) | refine uS rfl ?_ | refine uR rfl (fun K hK=>?_) | refine X.skip rfl ?_ | refine X.ret rfl ?_ | (refine X.ite rfl rfl (fun hc=>?_);(first | (with_reducible refine Xb.caseN hc (fun h=>?_) (fun h=>?_))) <;> clear hc))
  all_goals try (exfalso;simp_all;done)
  exact ret_two (by simp) Tryz.results35 rfl rfl (H' := H) (by (repeat (first | exact qR _ | apply qC));done) ⟨none,0,[],rfl,sleNil,rfl⟩
end Go.Proofs.YtmfppdpkalelhaaGreat
end
section
set_option linter.unusedVariables false
set_option linter.unusedSimpArgs false
namespace Go.Proofs.YtmfppdpkalelhaaGreat
open Go Go.Fw
set_option maxRecDepth 10000
theorem rng_bd {R : Rm} (hr : okRm R) (hm : matsThere R R.mats) (hT : hasT R R.mats) {a b : Pk} (ha : a ∈ plcs R) (hb : b ∈ plcs R) : -60 ≤ (rng R R.mats a b).lo∧(rng R R.mats a b).lo ≤ (rng R R.mats a b).hi∧(rng R R.mats a b).hi ≤ 60:=by
 have h:=ex_mem hr hm hT ha hb
 obtain ⟨z1,t1,e1⟩:=h.lo
 obtain ⟨z2,t2,e2⟩:=h.hi
 have h1:=h.all z1 t1
 have a1:=t1.in60 hr ha
 have a2:=t1.in60 hr hb
 have b1:=t2.in60 hr ha
 have b2:=t2.in60 hr hb
 omega
def tsAq : List TOp:=[⟨some 63,[],[],[]⟩,⟨some 64,[],[],[]⟩,⟨some 65,[],[],[]⟩,⟨some 66,[2],[2],[]⟩,⟨some 67,[],[],[]⟩,⟨some 68,[4],[4],[]⟩,⟨some 69,[2,3,4,5],[3,5],[]⟩,⟨some 4,[0],[0],[]⟩,⟨some 5,[0,1,7],[1],[]⟩,⟨some 6,[0,1,2,3,4,5,6,7,8],[6],[]⟩]
def valAq (b14 : Nat) (x y : Int) (s : Sp) (v1 v8 v9 v10 v32 v33 v34 v42 v43 v44 : Value) (k : Nat) (env : Env) : Value :=
 match k with
 | 0 => .int .i64 x
 | 1 => .int .i64 y
 | 2 => .pointer (some ⟨b14,1,none⟩)
 | 3 => .int .i64 s.hi
 | 4 => .pointer (some ⟨b14,0,none⟩)
 | 5 => .int .i64 s.lo
 | 6 => .int .i64 (s.hi - s.lo)
 | 7 => .int .i64 x
 | 8 => .int .i64 y
 | 9 => .int .i64 (s.hi - s.lo)
 | _=>undef
def rowsAq (b14 : Nat) (x y : Int) (s : Sp) (v1 v8 v9 v10 v32 v33 v34 v42 v43 v44 : Value) (k : Nat) (env : Env) : List Row :=
 match k with
 | _=>[]
theorem locAq (b14 : Nat) (x y : Int) (s : Sp) (v1 v8 v9 v10 v32 v33 v34 v42 v43 v44 : Value) : ∀ k env i q9,i ≠ k → (tAt tsAq k).sup.contains i = false → valAq b14 x y s v1 v8 v9 v10 v32 v33 v34 v42 v43 v44 k (upd env i q9)=valAq b14 x y s v1 v8 v9 v10 v32 v33 v34 v42 v43 v44 k env∧rowsAq b14 x y s v1 v8 v9 v10 v32 v33 v34 v42 v43 v44 k (upd env i q9)=rowsAq b14 x y s v1 v8 v9 v10 v32 v33 v34 v42 v43 v44 k env:=by
 intro k env i q hk hs
 have hu : ∀ j,j ≠ i → upd env i q j = env j:=fun j hj=>by unfold upd;rw [if_neg hj]
 match k,hk,hs with
 | 0,_,_=>exact ⟨rfl,rfl⟩
 | 1,_,_=>exact ⟨rfl,rfl⟩
 | 2,_,_=>exact ⟨rfl,rfl⟩
 | 3,_,_=>exact ⟨rfl,rfl⟩
 | 4,_,_=>exact ⟨rfl,rfl⟩
 | 5,_,_=>exact ⟨rfl,rfl⟩
 | 6,_,_=>exact ⟨rfl,rfl⟩
 | 7,_,_=>exact ⟨rfl,rfl⟩
 | 8,_,_=>exact ⟨rfl,rfl⟩
 | 9,_,_=>exact ⟨rfl,rfl⟩
 | _ + 10,_,_=>exact ⟨rfl,rfl⟩
set_option maxHeartbeats 16000000 in
theorem kAsk_spec (R : Rm) (p : Pl) (m : Int) (H : List Row) (hR : RmOk H R p) (h2 : R.boxes.length ≤ 1000000) : Fc Tryz.prog 23 [.agg (cRm R p).toArray,.int .i64 m] H (fun v H' => v = .tuple #[.int .i64 (askF R m).1.1,.int .i64 (askF R m).1.2.1,.int .i64 (askF R m).1.2.2,.int .i64 (askF R m).2]∧H' = H):=by
 obtain ⟨e,he⟩ : ∃ e,openE R [] [m] = e:=⟨_,rfl⟩
 have hbt : ∀ (H' : List Row) (b1 : Nat),⟨b1,0,[.int .i64 m],some 3,1 * 1⟩ ∈ H' → BtOk H' ⟨[],none,0,[m],some ⟨b1,0,none⟩,1⟩:=fun H' b1 q1=>⟨sleNil,SlE.ofRow (l:=[m]) q1 (fun _ _=>rfl),Nat.le_of_ble_eq_true rfl,Nat.le_of_ble_eq_true rfl⟩
 by_cases h0 : e = 0
 ·subst h0
  obtain ⟨hok,_,hin,hT⟩:=openE_ok he
  have hr:=hok.ok
  have hmm : m ≤ R.months - 1:=(hin m (List.mem_singleton.2 rfl)).1.2
  have htl:=thI_len hr m
  have hth:=fun H' b k hC hk=>thereI_spec R p b k m H' hr hmm hC hk
  have hLp : ∀ x ∈ thI R m,(⟨x,m⟩ : Pk) ∈ plcs R:=fun y hy=>by
   obtain ⟨b,hb,rfl⟩:=(mem_thI hmm).1 hy
   exact plcs_mem hb
  have hF : askF R m = if (thI R m).length < 2 then ((0,0,0),6) else (askO (wid2 R m) (thI R m) (0,0, -1),0):=by unfold askF;rw [if_pos he]
  rw [hF]
  clear hF
  obtain ⟨L,hL⟩ : ∃ L,L = thI R m:=⟨_,rfl⟩
  rw [← hL] at hth hLp htl ⊢
  by_cases hl2 : L.length < 2
  ·rw [if_pos hl2]
   refine Fc.mk (callable Tryz.call23) Tryz.func23 rfl Tryz.ntmps23 rfl ?_;dsimp only [fr]
   repeat' (first | (refine uP rfl ?_;(first | ((first | refine uN rfl ?_);(first | (refine uE (uQ (b:=true) rfl rfl rfl (congrArg some (decide_eq_true (by omega)))) rfl rfl ?_)|(refine uE (uQ (b:=false) rfl rfl rfl (congrArg some (nd_f (by omega)))) rfl rfl ?_)|(refine Xg.st (StF.buildOne (v0 := .int .i64 m) rfl el55 rfl rfl rfl (by decide) (by decide)) rfl rfl ?_;rintro _ _ ⟨b1,rfl,rfl⟩)|(refine uE (EvF.build (cs:=cBt ⟨[],none,0,[m],some ⟨b1,0,none⟩,1⟩) rfl (ArgsP.cons rfl ArgsP.nil) (te rfl) (Places.cons (te rfl) (Places.cons (te rfl) Places.nil)) Tryz.zeroValue83 rfl) rfl rfl ?_)|(refine uC (uT rfl (by (repeat (first | exact Args.nil | refine Args.cons rfl ?_));done)) rfl rfl (openY (hR.sub (fun _ h=>by repeat (first | exact h | apply qT))) (hbt _ b1 (qH _)) h2 he) ?_;rintro _ _ ⟨b,k,hbk,rfl,rfl⟩)|(refine Xg.st (StF.alloc rfl Tryz.zeroValue79 rfl) rfl rfl ?_;rintro _ _ ⟨b8,rfl,rfl⟩)|(refine Xg.st0 (StF.storeAll (i:=0) (vs:=cCt R p (some ⟨b,0,none⟩) k) rfl rfl rfl (te rfl) rfl rfl rfl rfl) rfl ?_;rintro _ _ ⟨rfl,rfl⟩;dsimp only [List.set])|(refine uE (uL rfl rfl (uW (T:=79) (cs:=cCt R p (some ⟨b,0,none⟩) k) (te rfl) rfl (by repeat (first | exact qH _ | apply qT)) rfl)) rfl rfl ?_)|(refine uC (uT rfl (by (repeat (first | exact Args.nil | refine Args.cons rfl ?_));done)) rfl rfl (hth _ b k ⟨hR.sub (fun _ h=>by repeat (first | exact h | apply qT)),SlE.ofRow (qT _ (qH _)) (fun _ _=>rfl)⟩ hbk) ?_;rintro _ _ (⟨ht,rfl,rfl⟩ | ⟨bt,kt,rfl,rfl⟩))|(refine uE (uM rfl rfl) rfl rfl ?_)|(refine uE (uA rfl rfl) rfl rfl ?_)|(refine uE (EvF.lenSlice rfl rfl (te rfl)) rfl rfl ?_)|(refine uE (uL rfl rfl (uW (te rfl) rfl (qH _) rfl)) rfl rfl ?_)|(refine uE (uX rfl rfl rfl) rfl rfl ?_)|(refine Xg.st (StF.boxAgg rfl rfl) rfl rfl ?_;rintro _ _ ⟨bx,rfl,rfl⟩)))))|(refine uD rfl ?_;refine hK _ _ ?_;clear hK K) | refine uS rfl ?_ | refine uR rfl (fun K hK=>?_) | refine X.skip rfl ?_ | refine X.ret rfl ?_ | (refine X.ite rfl rfl (fun hc=>?_);(first | (with_reducible refine Xb.t hc ?_)|(with_reducible refine Xb.f hc ?_)) <;> clear hc))
   all_goals try (exfalso;contradiction)
   all_goals exact ret_four (by simp) Tryz.results23 rfl rfl rfl rfl (H' := H) (by (repeat (first | exact qR _ | apply qC));done) ⟨rfl,rfl⟩
  ·rw [if_neg hl2]
   refine Fc.mk (callable Tryz.call23) Tryz.func23 rfl Tryz.ntmps23 rfl ?_;dsimp only [fr]
   repeat' (first | (exfalso;have:=congrArg List.length ht;simp only [List.length_nil] at this;omega)|(refine uP rfl ?_;(first | ((first | refine uN rfl ?_);(first | (refine uE (uQ (b:=false) rfl rfl rfl (congrArg some (decide_eq_false (by omega)))) rfl rfl ?_)|(refine uE (uQ (b:=false) rfl rfl rfl (congrArg some (nd_f (by omega)))) rfl rfl ?_)|(refine Xg.st (StF.buildOne (v0 := .int .i64 m) rfl el55 rfl rfl rfl (by decide) (by decide)) rfl rfl ?_;rintro _ _ ⟨b1,rfl,rfl⟩)|(refine uE (EvF.build (cs:=cBt ⟨[],none,0,[m],some ⟨b1,0,none⟩,1⟩) rfl (ArgsP.cons rfl ArgsP.nil) (te rfl) (Places.cons (te rfl) (Places.cons (te rfl) Places.nil)) Tryz.zeroValue83 rfl) rfl rfl ?_)|(refine uC (uT rfl (by (repeat (first | exact Args.nil | refine Args.cons rfl ?_));done)) rfl rfl (openY (hR.sub (fun _ h=>by repeat (first | exact h | apply qT))) (hbt _ b1 (qH _)) h2 he) ?_;rintro _ _ ⟨b,k,hbk,rfl,rfl⟩)|(refine Xg.st (StF.alloc rfl Tryz.zeroValue79 rfl) rfl rfl ?_;rintro _ _ ⟨b8,rfl,rfl⟩)|(refine Xg.st0 (StF.storeAll (i:=0) (vs:=cCt R p (some ⟨b,0,none⟩) k) rfl rfl rfl (te rfl) rfl rfl rfl rfl) rfl ?_;rintro _ _ ⟨rfl,rfl⟩;dsimp only [List.set])|(refine uE (uL rfl rfl (uW (T:=79) (cs:=cCt R p (some ⟨b,0,none⟩) k) (te rfl) rfl (by repeat (first | exact qH _ | apply qT)) rfl)) rfl rfl ?_)|(refine uC (uT rfl (by (repeat (first | exact Args.nil | refine Args.cons rfl ?_));done)) rfl rfl (hth _ b k ⟨hR.sub (fun _ h=>by repeat (first | exact h | apply qT)),SlE.ofRow (qT _ (qH _)) (fun _ _=>rfl)⟩ hbk) ?_;rintro _ _ (⟨ht,rfl,rfl⟩ | ⟨bt,kt,rfl,rfl⟩))|(refine uE (uM rfl rfl) rfl rfl ?_)|(refine uE (uA rfl rfl) rfl rfl ?_)|(refine uE (EvF.lenSlice rfl rfl (te rfl)) rfl rfl ?_)|(refine uE (uL rfl rfl (uW (te rfl) rfl (qH _) rfl)) rfl rfl ?_)|(refine uE (uX rfl rfl rfl) rfl rfl ?_)|(refine Xg.st (StF.boxAgg rfl rfl) rfl rfl ?_;rintro _ _ ⟨bx,rfl,rfl⟩)))))|(refine uD rfl ?_;refine hK _ _ ?_;clear hK K) | refine uS rfl ?_ | refine uR rfl (fun K hK=>?_) | refine X.block rfl ?_ | refine X.skip rfl ?_ | (refine X.ite rfl rfl (fun hc=>?_);(first | (with_reducible refine Xb.f hc ?_)) <;> clear hc))
   all_goals try (exfalso;contradiction)
   refine X.capLe (q:=0) rfl (fun hcap=>?_)
   rw [lenI] at hcap
   have hcap : L.length ≤ kt:=by omega
   obtain ⟨Fin,hFin⟩ : ∃ Fin,Fin = askO (wid2 R m) L (0,0, -1):=⟨_,rfl⟩
   rw [← hFin]
   have hC : ∀ S,(∀ r ∈ H,r ∈ S) → (⟨b,0,(plcs R).flatMap cPk,some 86,k * 2⟩ : Row) ∈ S → CtOk S R p (some ⟨b,0,none⟩):=fun S h1 h3=>⟨hR.sub h1,SlE.ofRow h3 (fun _ _=>rfl)⟩
   have hsl : ∀ S,(⟨bt,0,L.flatMap cI,some 3,kt * 1⟩ : Row) ∈ S → SlE S (some ⟨bt,0,none⟩) cI 1 L:=fun S h=>SlE.ofRow h (fun _ _=>rfl)
   refine X.lp rfl (fun q F' H' => ∃ (i : Nat) (a0 b0 w0 : Int),q = L.length - i∧i ≤ L.length∧askO (wid2 R m) (L.drop i) (a0,b0,w0)=Fin ∧ -1 ≤ w0∧w0 ≤ 120∧H' = ⟨bt,0,L.flatMap cI,some 3,kt * 1⟩::⟨b8,0,cCt R p (some ⟨b,0,none⟩) k,some 79,6⟩::⟨b,0,(plcs R).flatMap cPk,some 86,k * 2⟩::H∧F' = [(1,.int .i64 m),(4,.int .i64 a0),(5,.int .i64 b0),(6,.int .i64 w0),(8,.pointer (some ⟨b8,0,none⟩)),(9,.slice (some ⟨bt,0,none⟩) L.length kt),(32,.slice (some ⟨bt,0,none⟩) L.length kt),(33,.int .i64 L.length),(34,.int .i64 i)])
    L.length [(1,.int .i64 m),(4,.int .i64 0),(5,.int .i64 0),(6,.int .i64 (-1)),(8,.pointer (some ⟨b8,0,none⟩)),(9,.slice (some ⟨bt,0,none⟩) L.length kt),(32,.slice (some ⟨bt,0,none⟩) L.length kt),(33,.int .i64 L.length),(34,.int .i64 (0 : Nat))] (⟨bt,0,L.flatMap cI,some 3,kt * 1⟩::⟨b8,0,cCt R p (some ⟨b,0,none⟩) k,some 79,6⟩::⟨b,0,(plcs R).flatMap cPk,some 86,k * 2⟩::H) (by repeat (first | exact uU _ | refine uV rfl ?_)) (by repeat (first | exact qR _ | apply qK | apply qC)) ⟨0,0,0, -1,by omega,by omega,hFin.symm,by omega,by omega,rfl,rfl⟩ ?_
   rintro _ _ _ ⟨i,a0,b0,w0,rfl,hi,hI,hw1,hw2,rfl,rfl⟩
   by_cases hlt : i < L.length
   ·obtain ⟨x,hx⟩ : ∃ x,L[i]? = some x:=⟨_,List.getElem?_eq_getElem hlt⟩
    have hxp:=hLp x (List.mem_of_getElem? hx)
    obtain ⟨T,hTd⟩ : ∃ T,T = L.drop (i + 1):=⟨_,rfl⟩
    have hTl : T.length = L.length - (i + 1):=by rw [hTd,List.length_drop]
    obtain ⟨a9,ha9⟩ : ∃ a9,a9 = sfrom (some ⟨bt,0,none⟩) kt (i + 1) 1:=⟨_,rfl⟩
    have hS1 : ∀ S,(⟨bt,0,L.flatMap cI,some 3,kt * 1⟩ : Row) ∈ S → SlE S a9 cI 1 T:=fun S h=>by rw [ha9,hTd];exact sleFrom (hsl S h) hcap (i + 1)
    have hTm : ∀ y ∈ T,y ∈ L:=fun y hy=>by rw [hTd] at hy;exact List.mem_of_mem_drop hy
    rw [drop_cons hx, ← hTd] at hI
    change askO (wid2 R m) T (askI (wid2 R m) x T (a0,b0,w0)) = Fin at hI
    repeat' (first | (refine uP rfl ?_;(first | ((first | refine uN rfl ?_);(first | (refine uE (uQ (b:=true) rfl rfl rfl (congrArg some (decide_eq_true (by omega)))) rfl rfl ?_)|(refine uE (uL rfl rfl (LoadV.el0 (hsl _ (by repeat (first | exact qH _ | apply qT))) hx (te rfl) rfl (fun _ hm=>hm) rfl)) rfl rfl ?_)|(refine uE (EvF.sliceFrom (lo:=i + 1) rfl rfl (te rfl) (te rfl) rfl (by omega) hcap) rfl rfl ?_)|(refine uE (uM rfl rfl) rfl rfl ?_)|(refine uE (uA rfl rfl) rfl rfl ?_)|(refine uE (EvF.add64 rfl rfl rfl (by omega) (by omega)) rfl rfl ?_)|(refine uE (EvF.lenSlice rfl rfl (te rfl)) rfl rfl ?_)|(refine uE (EvF.indexSlice rfl rfl rfl (te rfl) (te rfl) (by omega) (by omega)) rfl rfl ?_)))))|(refine uD rfl ?_;refine hK _ _ ?_;clear hK K) | refine uS rfl ?_ | refine uR rfl (fun K hK=>?_) | refine X.block rfl ?_ | refine X.skip rfl ?_ | (refine X.ite rfl rfl (fun hc=>?_);(first | (with_reducible refine Xb.t hc ?_)) <;> clear hc))
    all_goals try (exfalso;contradiction)
    rw [← ha9, ← hTl]
    refine X.lp rfl (fun q F' H' => ∃ (j : Nat) (a0 b0 w0 : Int),q = T.length - j∧j ≤ T.length∧askO (wid2 R m) T (askI (wid2 R m) x (T.drop j) (a0,b0,w0)) = Fin ∧ -1 ≤ w0∧w0 ≤ 120∧H' = ⟨bt,0,L.flatMap cI,some 3,kt * 1⟩::⟨b8,0,cCt R p (some ⟨b,0,none⟩) k,some 79,6⟩::⟨b,0,(plcs R).flatMap cPk,some 86,k * 2⟩::H∧F' = [(1,.int .i64 m),(4,.int .i64 a0),(5,.int .i64 b0),(6,.int .i64 w0),(8,.pointer (some ⟨b8,0,none⟩)),(9,.slice (some ⟨bt,0,none⟩) L.length kt),(10,.int .i64 i),(11,.int .i64 x),(32,.slice (some ⟨bt,0,none⟩) L.length kt),(33,.int .i64 L.length),(34,.int .i64 i),(42,.slice a9 T.length (kt - (i + 1))),(43,.int .i64 T.length),(44,.int .i64 j)])
     T.length [(1,.int .i64 m),(4,.int .i64 a0),(5,.int .i64 b0),(6,.int .i64 w0),(8,.pointer (some ⟨b8,0,none⟩)),(9,.slice (some ⟨bt,0,none⟩) L.length kt),(10,.int .i64 i),(11,.int .i64 x),(32,.slice (some ⟨bt,0,none⟩) L.length kt),(33,.int .i64 L.length),(34,.int .i64 i),(42,.slice a9 T.length (kt - (i + 1))),(43,.int .i64 T.length),(44,.int .i64 (0 : Nat))] (⟨bt,0,L.flatMap cI,some 3,kt * 1⟩::⟨b8,0,cCt R p (some ⟨b,0,none⟩) k,some 79,6⟩::⟨b,0,(plcs R).flatMap cPk,some 86,k * 2⟩::H) (by repeat (first | exact uU _ | refine uV rfl ?_)) (by repeat (first | exact qR _ | apply qK | apply qC)) ⟨0,a0,b0,w0,by omega,by omega,hI,hw1,hw2,rfl,rfl⟩ ?_
    clear hI hw1 hw2 a0 b0 w0
    rintro _ _ _ ⟨j,a0,b0,w0,rfl,hj,hI,hw1,hw2,rfl,rfl⟩
    by_cases hlj : j < T.length
    ·obtain ⟨b9,o9,y,hq9,hy⟩:=(hS1 (⟨bt,0,L.flatMap cI,some 3,kt * 1⟩::⟨b8,0,cCt R p (some ⟨b,0,none⟩) k,some 79,6⟩::⟨b,0,(plcs R).flatMap cPk,some 86,k * 2⟩::H) (qH _)).elem (i:=j) hlj
     subst hq9
     have hyp:=hLp y (hTm y (List.mem_of_getElem? hy))
     have hdf:=fun S hS=>differ_spec R p (some ⟨b,0,none⟩) k ⟨x,m⟩ ⟨y,m⟩ S hr hok.mats hS hok.lens.ages hok.lens.mats hbk hxp hyp hT
     have hbd:=rng_bd hr hok.mats hT hxp hyp
     have hwd : wid2 R m x y = (rng R R.mats ⟨x,m⟩ ⟨y,m⟩).hi - (rng R R.mats ⟨x,m⟩ ⟨y,m⟩).lo:=rfl
     obtain ⟨s,hs⟩ : ∃ s,s = rng R R.mats ⟨x,m⟩ ⟨y,m⟩:=⟨_,rfl⟩
     rw [← hs] at hdf hbd hwd
     have hstep : askI (wid2 R m) x (y::T.drop (j + 1)) (a0,b0,w0)=askI (wid2 R m) x (T.drop (j + 1)) (if w0 < wid2 R m x y then (x,y,wid2 R m x y) else (a0,b0,w0)):=rfl
     rw [drop_cons hy,hstep,hwd] at hI
     by_cases hgt : w0 < s.hi - s.lo
     ·rw [if_pos hgt] at hI
      repeat' (first | (refine uP rfl ?_;(first | ((first | refine uN rfl ?_);(first | (refine uE (uQ (b:=true) rfl rfl rfl (congrArg some (decide_eq_true (by omega)))) rfl rfl ?_)|(refine uE (uL rfl rfl (LoadV.el0 (hS1 _ (by repeat (first | exact qH _ | apply qT))) hy (te rfl) rfl (fun _ hm=>hm) rfl)) rfl rfl ?_)|(refine uE (uL rfl rfl (uW (T:=79) (cs:=cCt R p (some ⟨b,0,none⟩) k) (te rfl) rfl (by repeat (first | exact qH _ | apply qT)) rfl)) rfl rfl ?_)|(refine uE (EvF.build (cs:=cPk ⟨x,m⟩) rfl (ArgsP.cons rfl (ArgsP.cons rfl ArgsP.nil)) (te rfl) (Places.cons (te rfl) (Places.cons (te rfl) Places.nil)) Tryz.zeroValue86 rfl) rfl rfl ?_)|(refine uE (EvF.build (cs:=cPk ⟨y,m⟩) rfl (ArgsP.cons rfl (ArgsP.cons rfl ArgsP.nil)) (te rfl) (Places.cons (te rfl) (Places.cons (te rfl) Places.nil)) Tryz.zeroValue86 rfl) rfl rfl ?_)|(refine uC (uT rfl (Args.cons rfl (Args.cons rfl (Args.cons rfl Args.nil)))) rfl rfl (hdf _ (hC _ (fun _ h=>by repeat (first | exact h | apply qT)) (by repeat (first | exact qH _ | apply qT)))) ?_;rintro _ H9 ⟨rfl,hH9⟩;subst H9)|(refine uE (uM rfl rfl) rfl rfl ?_)|(refine uE (uA rfl rfl) rfl rfl ?_)|(refine uE (EvF.sub64 rfl rfl rfl (by omega) (by omega)) rfl rfl ?_)|(refine uE (uF rfl rfl (te rfl) rfl (te rfl) (by decide)) rfl rfl ?_)|(refine uE (EvF.indexSlice rfl rfl rfl (te rfl) (te rfl) (by omega) (by omega)) rfl rfl ?_)|(refine uE (uL rfl rfl (uO (te rfl) rfl (qH _) rfl)) rfl rfl ?_)|(refine Xg.st (StF.alloc rfl Tryz.zeroValue24 rfl) rfl rfl ?_;rintro _ _ ⟨bx,rfl,rfl⟩)|(refine Xg.st0 (StF.storeAll (i:=0) rfl rfl rfl (te rfl) rfl rfl rfl rfl) rfl ?_;rintro _ _ ⟨rfl,rfl⟩;dsimp only [List.set])))))|(refine uD rfl ?_;refine hK _ _ ?_;clear hK K) | refine uS rfl ?_ | refine uR rfl (fun K hK=>?_) | refine X.block rfl ?_ | refine X.skip rfl ?_ | (refine X.ite rfl rfl (fun hc=>?_);(first | (with_reducible refine Xb.t hc ?_)) <;> clear hc))
      all_goals try (exfalso;contradiction)
      generalize bx = b14
      refine X.regionOb tsAq [1,8,9,10,11,13,14,32,33,34,42,43,44] [(1,(.int .i64 m)),(8,(.pointer (some ⟨b8,0,none⟩))),(9,(.slice (some ⟨bt,0,none⟩) L.length kt)),(10,(.int .i64 i)),(11,.int .i64 x),(13,.int .i64 y),(14,.pointer (some ⟨b14,0,none⟩)),(32,(.slice (some ⟨bt,0,none⟩) L.length kt)),(33,(.int .i64 L.length)),(34,(.int .i64 i)),(42,(.slice (some ⟨b9,o9,none⟩) T.length (kt - (i + 1)))),(43,(.int .i64 T.length)),(44,(.int .i64 j))] (valAq b14 x y s (.int .i64 m) (.pointer (some ⟨b8,0,none⟩)) (.slice (some ⟨bt,0,none⟩) L.length kt) (.int .i64 i) (.slice (some ⟨bt,0,none⟩) L.length kt) (.int .i64 L.length) (.int .i64 i) (.slice (some ⟨b9,o9,none⟩) T.length (kt - (i + 1))) (.int .i64 T.length) (.int .i64 j)) (rowsAq b14 x y s (.int .i64 m) (.pointer (some ⟨b8,0,none⟩)) (.slice (some ⟨bt,0,none⟩) L.length kt) (.int .i64 i) (.slice (some ⟨bt,0,none⟩) L.length kt) (.int .i64 L.length) (.int .i64 i) (.slice (some ⟨b9,o9,none⟩) T.length (kt - (i + 1))) (.int .i64 T.length) (.int .i64 j)) (fun _=>(0,0)) (⟨b14,0,cSp s,some 24,2⟩::⟨bt,0,L.flatMap cI,some 3,kt * 1⟩::⟨b8,0,cCt R p (some ⟨b,0,none⟩) k,some 79,6⟩::⟨b,0,(plcs R).flatMap cPk,some 86,k * 2⟩::H) rfl mixed (by repeat (first | exact uU _ | refine uV rfl ?_)) rfl (by kernel_rfl) (locAq b14 x y s (.int .i64 m) (.pointer (some ⟨b8,0,none⟩)) (.slice (some ⟨bt,0,none⟩) L.length kt) (.int .i64 i) (.slice (some ⟨bt,0,none⟩) L.length kt) (.int .i64 L.length) (.int .i64 i) (.slice (some ⟨b9,o9,none⟩) T.length (kt - (i + 1))) (.int .i64 T.length) (.int .i64 j)) (qR _) ?_ ?_
      ·repeat' (first | exact AllF.done rfl | (refine AllF.step rfl ?_ ?_;·(first | fail | ((first | refine Ob.ng rfl ?_);(first | exact ObK.pure (fun env R hR=>by exact ⟨_,uM rfl rfl,rfl⟩) rfl (fun _=>rfl) | exact ObK.pure (fun env R hR=>by exact ⟨_,uA rfl rfl,rfl⟩) rfl (fun _=>rfl) | exact ObK.pure (fun env R hR=>by exact ⟨_,uF rfl rfl (te rfl) rfl (te rfl) (by decide),rfl⟩) rfl (fun _=>rfl) | exact ObK.pure (fun env R hR=>by exact ⟨_,uL rfl rfl (uO (te rfl) rfl (hR _ (qH _)) rfl),rfl⟩) rfl (fun _=>rfl)|(exact ObK.pure (fun env S hS=>⟨_,EvF.sub64 rfl rfl rfl (by omega) (by omega),rfl⟩) rfl (fun _=>rfl)))))))
      intro env t ha2 hv;refine ⟨_,((ha2.cons (hv 7 4 (Nat.le_of_ble_eq_true rfl) rfl)).cons (hv 8 5 (Nat.le_of_ble_eq_true rfl) rfl)).cons (hv 9 6 (Nat.le_of_ble_eq_true rfl) rfl),?_⟩;clear hv ha2
      repeat' (first | (refine uP rfl ?_;(first | ((first | refine uN rfl ?_);(first | (refine uE (uM rfl rfl) rfl rfl ?_)|(refine uE (EvF.add64 rfl rfl rfl (by omega) (by omega)) rfl rfl ?_)))))|(refine uD rfl ?_;refine hK _ _ ?_;clear hK K) | refine uR rfl (fun K hK=>?_))
      exact ⟨_,_,⟨bt,0,L.flatMap cI,some 3,kt * 1⟩::⟨b8,0,cCt R p (some ⟨b,0,none⟩) k,some 79,6⟩::⟨b,0,(plcs R).flatMap cPk,some 86,k * 2⟩::H,(by repeat (first | exact uU _ | refine uV rfl ?_)),(by repeat (first | exact qR _ | apply qK | apply qC)),⟨j + 1,x,y,s.hi - s.lo,rfl,by omega,hI,by omega,by omega,rfl,rfl⟩,by omega⟩
     ·rw [if_neg hgt] at hI
      repeat' (first | (refine uP rfl ?_;(first | ((first | refine uN rfl ?_);(first | (refine uE (uQ (b:=true) rfl rfl rfl (congrArg some (decide_eq_true (by omega)))) rfl rfl ?_)|(refine uE (uQ (b:=false) rfl rfl rfl (congrArg some (decide_eq_false (by omega)))) rfl rfl ?_)|(refine uE (uL rfl rfl (LoadV.el0 (hS1 _ (by repeat (first | exact qH _ | apply qT))) hy (te rfl) rfl (fun _ hm=>hm) rfl)) rfl rfl ?_)|(refine uE (uL rfl rfl (uW (T:=79) (cs:=cCt R p (some ⟨b,0,none⟩) k) (te rfl) rfl (by repeat (first | exact qH _ | apply qT)) rfl)) rfl rfl ?_)|(refine uE (EvF.build (cs:=cPk ⟨x,m⟩) rfl (ArgsP.cons rfl (ArgsP.cons rfl ArgsP.nil)) (te rfl) (Places.cons (te rfl) (Places.cons (te rfl) Places.nil)) Tryz.zeroValue86 rfl) rfl rfl ?_)|(refine uE (EvF.build (cs:=cPk ⟨y,m⟩) rfl (ArgsP.cons rfl (ArgsP.cons rfl ArgsP.nil)) (te rfl) (Places.cons (te rfl) (Places.cons (te rfl) Places.nil)) Tryz.zeroValue86 rfl) rfl rfl ?_)|(refine uC (uT rfl (Args.cons rfl (Args.cons rfl (Args.cons rfl Args.nil)))) rfl rfl (hdf _ (hC _ (fun _ h=>by repeat (first | exact h | apply qT)) (by repeat (first | exact qH _ | apply qT)))) ?_;rintro _ H9 ⟨rfl,hH9⟩;subst H9)|(refine uE (uM rfl rfl) rfl rfl ?_)|(refine uE (uA rfl rfl) rfl rfl ?_)|(refine uE (EvF.add64 rfl rfl rfl (by omega) (by omega)) rfl rfl ?_)|(refine uE (EvF.sub64 rfl rfl rfl (by omega) (by omega)) rfl rfl ?_)|(refine uE (uF rfl rfl (te rfl) rfl (te rfl) (by decide)) rfl rfl ?_)|(refine uE (EvF.indexSlice rfl rfl rfl (te rfl) (te rfl) (by omega) (by omega)) rfl rfl ?_)|(refine uE (uL rfl rfl (uO (te rfl) rfl (qH _) rfl)) rfl rfl ?_)|(refine Xg.st (StF.alloc rfl Tryz.zeroValue24 rfl) rfl rfl ?_;rintro _ _ ⟨bx,rfl,rfl⟩)|(refine Xg.st0 (StF.storeAll (i:=0) rfl rfl rfl (te rfl) rfl rfl rfl rfl) rfl ?_;rintro _ _ ⟨rfl,rfl⟩;dsimp only [List.set])))))|(refine uD rfl ?_;refine hK _ _ ?_;clear hK K) | refine uS rfl ?_ | refine uR rfl (fun K hK=>?_) | refine X.block rfl ?_ | refine X.skip rfl ?_ | (refine X.ite rfl rfl (fun hc=>?_);(first | (with_reducible refine Xb.t hc ?_)|(with_reducible refine Xb.f hc ?_)) <;> clear hc))
      all_goals try (exfalso;contradiction)
      exact ⟨_,_,⟨bt,0,L.flatMap cI,some 3,kt * 1⟩::⟨b8,0,cCt R p (some ⟨b,0,none⟩) k,some 79,6⟩::⟨b,0,(plcs R).flatMap cPk,some 86,k * 2⟩::H,(by repeat (first | exact uU _ | refine uV rfl ?_)),(by repeat (first | exact qR _ | apply qK | apply qC)),⟨j + 1,a0,b0,w0,rfl,by omega,hI,by omega,by omega,rfl,rfl⟩,by omega⟩
    ·obtain rfl : j = T.length:=by omega
     rw [List.drop_length] at hI
     have hI : askO (wid2 R m) T (a0,b0,w0)=Fin:=hI
     rw [hTd] at hI
     repeat' (first | (refine uP rfl ?_;(first | ((first | refine uN rfl ?_);(first | (refine uE (uQ (b:=false) rfl rfl rfl (congrArg some (decide_eq_false (by omega)))) rfl rfl ?_)|(refine uE (uM rfl rfl) rfl rfl ?_)|(refine uE (EvF.add64 rfl rfl rfl (by omega) (by omega)) rfl rfl ?_)))))|(refine uD rfl ?_;refine hK _ _ ?_;clear hK K) | refine uS rfl ?_ | refine uR rfl (fun K hK=>?_)|(refine X.brk rfl ?_;repeat (first | refine blockX_hit rfl ?_ | refine blockX_miss (by decide) ?_))|(refine X.ite rfl rfl (fun hc=>?_);(first | (with_reducible refine Xb.f hc ?_)) <;> clear hc))
     all_goals try (exfalso;contradiction)
     exact ⟨_,_,⟨bt,0,L.flatMap cI,some 3,kt * 1⟩::⟨b8,0,cCt R p (some ⟨b,0,none⟩) k,some 79,6⟩::⟨b,0,(plcs R).flatMap cPk,some 86,k * 2⟩::H,(by repeat (first | exact uU _ | refine uV rfl ?_)),(by repeat (first | exact qR _ | apply qK | apply qC)),⟨i + 1,a0,b0,w0,rfl,by omega,hI,by omega,by omega,rfl,rfl⟩,by omega⟩
   ·obtain rfl : i = L.length:=by omega
    rw [List.drop_length] at hI
    have hI : (a0,b0,w0)=Fin:=hI
    repeat' (first | (refine uP rfl ?_;(first | ((first | refine uN rfl ?_);(first | (refine uE (uQ (b:=false) rfl rfl rfl (congrArg some (decide_eq_false (by omega)))) rfl rfl ?_)|(refine uE (uM rfl rfl) rfl rfl ?_)|(refine uE (uA rfl rfl) rfl rfl ?_)))))|(refine uD rfl ?_;refine hK _ _ ?_;clear hK K) | refine uS rfl ?_ | refine uR rfl (fun K hK=>?_)|(refine X.brk rfl ?_;repeat (first | refine blockX_hit rfl ?_ | refine blockX_miss (by decide) ?_)) | refine X.ret rfl ?_ | (refine X.ite rfl rfl (fun hc=>?_);(first | (with_reducible refine Xb.f hc ?_)) <;> clear hc))
    all_goals try (exfalso;contradiction)
    exact ret_four (by simp) Tryz.results23 rfl rfl rfl rfl (H' := H) (by (repeat (first | exact qR _ | apply qC));done) ⟨by rw [← hI],rfl⟩
 ·have hF : askF R m = ((0,0,0),e):=by unfold askF;rw [if_neg (by rw [he];exact h0),he]
  rw [hF]
  refine Fc.mk (callable Tryz.call23) Tryz.func23 rfl Tryz.ntmps23 rfl ?_;dsimp only [fr]
  repeat' (first | (refine uP rfl ?_;(first | ((first | refine uN rfl ?_);(first | (refine uE (uQ (b:=true) rfl rfl rfl (congrArg some (nd_t (by omega)))) rfl rfl ?_)|(refine Xg.st (StF.buildOne (v0 := .int .i64 m) rfl el55 rfl rfl rfl (by decide) (by decide)) rfl rfl ?_;rintro _ _ ⟨b1,rfl,rfl⟩)|(refine uE (EvF.build (cs:=cBt ⟨[],none,0,[m],some ⟨b1,0,none⟩,1⟩) rfl (ArgsP.cons rfl ArgsP.nil) (te rfl) (Places.cons (te rfl) (Places.cons (te rfl) Places.nil)) Tryz.zeroValue83 rfl) rfl rfl ?_)|(refine uC (uT rfl (Args.cons rfl (Args.cons rfl Args.nil))) rfl rfl (openN (hR.sub (fun _ h=>by repeat (first | exact h | apply qT))) (hbt _ b1 (qH _)) h2 he h0) ?_;rintro _ H9 ⟨rfl,hH9⟩;subst H9)|(refine Xg.st (StF.alloc rfl Tryz.zeroValue79 rfl) rfl rfl ?_;rintro _ _ ⟨b8,rfl,rfl⟩)|(refine Xg.st0 (StF.storeAll (i:=0) (vs:=zCt) rfl rfl rfl (te rfl) rfl rfl rfl rfl) rfl ?_;rintro _ _ ⟨rfl,rfl⟩;dsimp only [List.set])|(refine uE (uM rfl rfl) rfl rfl ?_)|(refine uE (uA rfl rfl) rfl rfl ?_)|(refine uE (uL rfl rfl (uW (te rfl) rfl (qH _) rfl)) rfl rfl ?_)|(refine uE (uX rfl rfl rfl) rfl rfl ?_)|(refine Xg.st (StF.boxAgg rfl rfl) rfl rfl ?_;rintro _ _ ⟨bx,rfl,rfl⟩)))))|(refine uD rfl ?_;refine hK _ _ ?_;clear hK K) | refine uS rfl ?_ | refine uR rfl (fun K hK=>?_) | refine X.ret rfl ?_ | (refine X.ite rfl rfl (fun hc=>?_);(first | (with_reducible refine Xb.t hc ?_)) <;> clear hc))
  all_goals try (exfalso;contradiction)
  exact ret_four (by simp) Tryz.results23 rfl rfl rfl rfl (H' := H) (by (repeat (first | exact qR _ | apply qC));done) ⟨rfl,rfl⟩
end Go.Proofs.YtmfppdpkalelhaaGreat
end
section
set_option linter.unusedVariables false
set_option linter.unusedSimpArgs false
namespace Go.Proofs.YtmfppdpkalelhaaGreat
open Go Go.Fw
set_option maxRecDepth 10000
def thL (m : Int) (l : List Bx) : List Int:=(l.filter (fun b=>decide (b.made ≤ m))).map (·.id)
end Go.Proofs.YtmfppdpkalelhaaGreat
end
