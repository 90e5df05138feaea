/- BoxJudges: for every room, two boxes, a month and points the law returns true (whether a box has yellowed by so much, whether it is as yellow as another one, since when it may have yellowed and surely has by so much, or the errors, are those of the reference, and the room stays), and each argument reads afterwards as before. No condition. -/
import Derived.Test.YtmfppdpkalelhaaW06
import Derived.Test.YtmfppdpkalelhaaRows
import Derived.WalkKit
import Derived.ChangeOld
import Derived.ShutString
section
set_option linter.unusedVariables false
set_option linter.unusedSimpArgs false
namespace Go.Proofs.Ytmfppdpkalelhaa
open Go Go.Fw
set_option maxRecDepth 10000
theorem EvF.neSf {P : Program} {n : Nat} {H : List Row} {F : FS} {o : Oper} {T T' : TypeId} {x y : Operand} {k : IntKind} {p : Int} (h : o.op = .binOp .neq T x y T') (hx : evF F x = some (.int k p)) (hy : evF F y = some (.int k p)) : EvF P n H F o (.bool false):=by
 have:=uQ (P:=P) (n:=n) (H:=H) h hx hy rfl
 rwa [show (!decide (p = p)) = false by simp] at this
set_option maxHeartbeats 8000000 in
theorem boxJudges_spec (R : Rm) (p : Pl) (a b m n : Int) (H : List Row) (hR : RmOk H R p) :
  Fc Try.prog 4 [.agg (cRm R p).toArray,.int .i64 a,.int .i64 b,.int .i64 m,.int .i64 n] H (fun v _=>v = .bool true):=by
 by_cases hg : great R
 ·have hgr:=great_spec R p
  simp only [decide_eq_true hg] at hgr
  refine Fc.mk (callable Try.call4) Try.func4 rfl Try.ntmps4 rfl ?_;dsimp only [fr]
  repeat' (first | (refine uP rfl ?_;(first | ((first | refine uN rfl ?_);(first | (refine uC (uT rfl (Args.cons rfl Args.nil)) rfl rfl (hgr _) ?_;rintro _ H9 ⟨rfl,hH9⟩;subst H9)|(refine uE (uA rfl rfl) rfl rfl ?_)|(refine uE (uL rfl rfl (uW (te rfl) rfl (qH _) rfl)) rfl rfl ?_)|(refine Xg.st (StF.boxAgg rfl rfl) rfl rfl ?_;rintro _ _ ⟨bx,rfl,rfl⟩)))))|(refine uD rfl ?_;refine hK _ _ ?_;clear hK K) | refine uS rfl ?_ | refine uR rfl (fun K hK=>?_) | refine X.ret rfl ?_ | (refine X.ite rfl rfl (fun hc=>?_);(first | (with_reducible refine Xb.t hc ?_)) <;> clear hc))
  all_goals try (exfalso;contradiction)
  exact ret_one (by simp) Try.results4 rfl (H' := _) (qR _) rfl
 ·have hgr:=great_spec R p
  simp only [decide_eq_false hg] at hgr
  have h1 : R.ages.length ≤ 1000000:=by unfold great at hg;omega
  have h2 : R.boxes.length ≤ 1000000:=by unfold great at hg;omega
  have h3 : R.mats.length ≤ 1000000:=by unfold great at hg;omega
  obtain ⟨⟨ks,ke⟩,hk⟩ : ∃ y,y = knP (yelF R a m) n:=⟨_,rfl⟩
  obtain ⟨⟨os,oe⟩,ho⟩ : ∃ y,y = knP (difF R a b m) 0:=⟨_,rfl⟩
  obtain ⟨⟨ps,pe⟩,hp⟩ : ∃ y,y = sinF R a (sinS false n):=⟨_,rfl⟩
  obtain ⟨⟨ss,se⟩,hs⟩ : ∃ y,y = sinF R a (sinS true n):=⟨_,rfl⟩
  have kkn:=fun p' H' (h : RmOk H' R p')=>kKnown_spec R p' a m n H' h h2
  have rkn:=fun p' H' (h : RmOk H' R p')=>rKnown_spec R p' a m n H' h
  have kor:=fun p' H' (h : RmOk H' R p')=>kOrder_spec R p' a b m H' h h2
  have ror:=fun p' H' (h : RmOk H' R p')=>rOrder_spec R p' a b m H' h
  have kpe:=fun p' H' (h : RmOk H' R p')=>kPerhaps_spec R p' a n H' h h2
  have rpe:=fun p' H' (h : RmOk H' R p')=>rPerhaps_spec R p' a n H' h
  have ksu:=fun p' H' (h : RmOk H' R p')=>kSurely_spec R p' a n H' h h2
  have rsu:=fun p' H' (h : RmOk H' R p')=>rSurely_spec R p' a n H' h
  rw [← hk] at kkn rkn
  rw [← ho] at kor ror
  rw [← hp] at kpe rpe
  rw [← hs] at ksu rsu
  clear hk ho hp hs
  refine Fc.mk (callable Try.call4) Try.func4 rfl Try.ntmps4 rfl ?_;dsimp only [fr]
  repeat' (first | (refine uP rfl ?_;(first | ((first | refine uN rfl ?_);(first | (refine uC (uT rfl (Args.cons rfl Args.nil)) rfl rfl (hgr _) ?_;rintro _ H9 ⟨rfl,hH9⟩;subst H9)|(refine uC (uT rfl (by (repeat (first | exact Args.nil | refine Args.cons rfl ?_));done)) rfl rfl (twin_spec R p _ (hR.sub (fun _ h=>by repeat (first | exact h | apply qT))) h1 h2 h3) ?_;rintro _ _ ⟨t1,k1,t2,k2,t3,k3,rfl,rfl⟩)|(refine uE (uM rfl rfl) rfl rfl ?_)|(refine uE (uA rfl rfl) rfl rfl ?_)|(refine uE (uL rfl rfl (uW (te rfl) rfl (qH _) rfl)) rfl rfl ?_)|(refine Xg.st (StF.boxAgg rfl rfl) rfl rfl ?_;rintro _ _ ⟨bx,rfl,rfl⟩)|(refine Xg.st (StF.alloc rfl Try.zeroValue26 rfl) rfl rfl ?_;rintro _ _ ⟨bx,rfl,rfl⟩)|(refine Xg.st0 (StF.storeAll (i:=0) rfl rfl rfl (te rfl) rfl rfl rfl rfl) rfl ?_;rintro _ _ ⟨rfl,rfl⟩;dsimp only [List.set])))))|(refine uD rfl ?_;refine hK _ _ ?_;clear hK K) | refine uS rfl ?_ | refine uR rfl (fun K hK=>?_) | refine X.skip rfl ?_ | (refine X.ite rfl rfl (fun hc=>?_);(first | (with_reducible refine Xb.f hc ?_)) <;> clear hc))
  all_goals try (exfalso;contradiction)
  have hT : ∀ H',(⟨t1,0,R.ages.flatMap cSp,some 35,k1 * 2⟩ : Row) ∈ H' → (⟨t2,0,R.boxes.flatMap cBx,some 81,k2 * 2⟩ : Row) ∈ H' → (⟨t3,0,R.mats.flatMap cMt,some 111,k3 * 6⟩ : Row) ∈ H' → RmOk H' R ⟨some ⟨t1,0,none⟩,k1,some ⟨t2,0,none⟩,k2,some ⟨t3,0,none⟩,k3⟩ :=
   fun H' m1 m2 m3=>⟨SlE.ofRow m1 (fun _ _=>rfl),SlE.ofRow m2 (fun _ _=>rfl),SlE.ofRow m3 (fun _ _=>rfl),by omega,by omega,by omega⟩
  obtain ⟨po,hpo⟩ : ∃ po,po = (⟨some ⟨t1,0,none⟩,k1,some ⟨t2,0,none⟩,k2,some ⟨t3,0,none⟩,k3⟩ : Pl):=⟨_,rfl⟩
  rw [← hpo] at hT ⊢
  clear hpo
  repeat' (first | (refine uP rfl ?_;(first | ((first | refine uN rfl ?_ | (refine Xo.g rfl rfl ?_;with_reducible refine Xw.tt ?_)|(refine Xo.g rfl rfl ?_;with_reducible refine Xw.ff ?_));(first | (refine uE (EvF.eqSf rfl rfl rfl) rfl rfl ?_)|(refine uE (EvF.neSf rfl rfl rfl) rfl rfl ?_)|(refine uE (uX rfl rfl rfl) rfl rfl ?_)|(refine uE (uL rfl rfl (uW (T:=26) (cs:=cRm R po) (te rfl) rfl (by repeat (first | exact qH _ | apply qT)) rfl)) rfl rfl ?_)|(refine uE (uL rfl rfl (uW (T:=26) (cs:=cRm R p) (te rfl) rfl (by repeat (first | exact qH _ | apply qT)) rfl)) rfl rfl ?_)|(refine uC (uT rfl (by (repeat (first | exact Args.nil | refine Args.cons rfl ?_));done)) rfl rfl (kkn _ _ (hT _ (by repeat (first | exact qH _ | apply qT)) (by repeat (first | exact qH _ | apply qT)) (by repeat (first | exact qH _ | apply qT)))) ?_;rintro _ H9 ⟨rfl,hH9⟩;subst H9)|(refine uC (uT rfl (by (repeat (first | exact Args.nil | refine Args.cons rfl ?_));done)) rfl rfl (rkn p _ (hR.sub (fun _ h=>by repeat (first | exact h | apply qT)))) ?_;rintro _ H9 ⟨rfl,hH9⟩;subst H9)|(refine uC (uT rfl (by (repeat (first | exact Args.nil | refine Args.cons rfl ?_));done)) rfl rfl (kor _ _ (hT _ (by repeat (first | exact qH _ | apply qT)) (by repeat (first | exact qH _ | apply qT)) (by repeat (first | exact qH _ | apply qT)))) ?_;rintro _ H9 ⟨rfl,hH9⟩;subst H9)|(refine uC (uT rfl (by (repeat (first | exact Args.nil | refine Args.cons rfl ?_));done)) rfl rfl (ror p _ (hR.sub (fun _ h=>by repeat (first | exact h | apply qT)))) ?_;rintro _ H9 ⟨rfl,hH9⟩;subst H9)|(refine uC (uT rfl (by (repeat (first | exact Args.nil | refine Args.cons rfl ?_));done)) rfl rfl (kpe _ _ (hT _ (by repeat (first | exact qH _ | apply qT)) (by repeat (first | exact qH _ | apply qT)) (by repeat (first | exact qH _ | apply qT)))) ?_;rintro _ H9 ⟨rfl,hH9⟩;subst H9)|(refine uC (uT rfl (by (repeat (first | exact Args.nil | refine Args.cons rfl ?_));done)) rfl rfl (rpe p _ (hR.sub (fun _ h=>by repeat (first | exact h | apply qT)))) ?_;rintro _ H9 ⟨rfl,hH9⟩;subst H9)|(refine uC (uT rfl (by (repeat (first | exact Args.nil | refine Args.cons rfl ?_));done)) rfl rfl (ksu _ _ (hT _ (by repeat (first | exact qH _ | apply qT)) (by repeat (first | exact qH _ | apply qT)) (by repeat (first | exact qH _ | apply qT)))) ?_;rintro _ H9 ⟨rfl,hH9⟩;subst H9)|(refine uC (uT rfl (by (repeat (first | exact Args.nil | refine Args.cons rfl ?_));done)) rfl rfl (rsu p _ (hR.sub (fun _ h=>by repeat (first | exact h | apply qT)))) ?_;rintro _ H9 ⟨rfl,hH9⟩;subst H9)|(refine uC (uT rfl (by (repeat (first | exact Args.nil | refine Args.cons rfl ?_));done)) rfl rfl (sameR_self R po p _ (hT _ (by repeat (first | exact qH _ | apply qT)) (by repeat (first | exact qH _ | apply qT)) (by repeat (first | exact qH _ | apply qT))) (hR.sub (fun _ h=>by repeat (first | exact h | apply qT)))) ?_;rintro _ H9 ⟨rfl,hH9⟩;subst H9)|(refine uE (uM rfl rfl) rfl rfl ?_)|(refine uE (uA rfl rfl) rfl rfl ?_)|(refine uE (EvF.pickT rfl rfl rfl) rfl rfl ?_)|(refine uE (EvF.pickF rfl rfl rfl) rfl rfl ?_)))))|(refine uD rfl ?_;refine hK _ _ ?_;clear hK K) | refine uS rfl ?_ | refine uR rfl (fun K hK=>?_) | refine X.skip rfl ?_ | refine X.ret rfl ?_ | (refine X.ite rfl rfl (fun hc=>?_);(first | (with_reducible refine Xb.f hc ?_)) <;> clear hc))
  all_goals try (exfalso;contradiction)
  exact ret_one (by simp) Try.results4 rfl (H' := _) (qR _) rfl
end Go.Proofs.Ytmfppdpkalelhaa
end
section
set_option linter.unusedVariables false
namespace Go.Proofs.Ytmfppdpkalelhaa
open Go Go.Fw Go.ChangeShapes Go.WideShapes Go.ChangeAt Go.RowKit
set_option linter.unusedVariables false
set_option maxRecDepth 100000
theorem boxJudges_run (R : Rm) (pR : Pl) (a : Int) (b : Int) (m : Int) (n : Int) (w : World)  (hR : InRm w R pR) :
  Calls Try.prog 4 #[.agg (cRm R pR).toArray,.int .i64 a,.int .i64 b,.int .i64 m,.int .i64 n] w fun e w' => e = .returned (.bool true)∧Below w.heap.size w w' :=
 Fc.calls (H:=rowsRm R pR) (boxJudges_spec R pR a b m n _ (hR.rm (fun _ h=>h))) (fun r hr=>by
  exact hR.ok r hr
 )
theorem boxJudges_lifted (os : Os) (started : os.Started) (H : Type) (enc : TypeId × Value → H) :
  ReturnsInHanded {} Try.checked os 4 .any (Rows.boxJudgesSpec.pre6 enc Try.prog Try.f4 Rows.boxJudgesRow.domain false) (Rows.boxJudgesSpec.post enc Try.prog Try.f4 false true false false):=by
 refine returnsInHanded_of_change (C:=Try.checked) ownK started (by kernel_rfl) Try.func4
  (ChangeSpec.witness6 (enc:=enc) (C:=Try.checked) false ⟨#[], #[.agg (cRm ⟨0,0,[],[],[]⟩ ⟨none,0,none,0,none,0⟩).toArray,.int .i64 0,.int .i64 0,.int .i64 0,.int .i64 0],[]⟩ 8 (by kernel_rfl) (by kernel_rfl) (by kernel_rfl) (by kernel_rfl)) ?_
 intro W base args ds gs before hval0 hW hcnd _
 have hval : ∀ (j : Nat) t v,Try.f4.params[j]? = some t → args[j]? = some v → Value.okWide Try.prog W .any base t v:=hval0
 have hW' := hW
 obtain ⟨p,q,hA0,hV,rfl,hfz,hnd⟩:=hW
 have hA : DataW.TrodAll enc Try.prog W 0 (fun _=>true) true Try.f4.params.toList args.toList ds p:=hA0
 rw [Try.params4] at hA hval
 obtain ⟨v0,vs0,d0,ds0,p0,q0,hargs,rfl,rfl,h0,r0⟩:=trodAll_cons hA
 obtain ⟨v1,vs1,d1,ds1,p1,q1,rfl,rfl,rfl,h1,r1⟩:=trodAll_cons r0
 obtain ⟨v2,vs2,d2,ds2,p2,q2,rfl,rfl,rfl,h2,r2⟩:=trodAll_cons r1
 obtain ⟨v3,vs3,d3,ds3,p3,q3,rfl,rfl,rfl,h3,r3⟩:=trodAll_cons r2
 obtain ⟨v4,vs4,d4,ds4,p4,q4,rfl,rfl,rfl,h4,r4⟩:=trodAll_cons r3
 obtain ⟨rfl,rfl,rfl⟩:=trodAll_nil r4
 obtain rfl : args = #[v0,v1,v2,v3,v4]:=by cases args;simp_all
 obtain ⟨rfl,rfl⟩:=trodVars_none hV
 have lt : ∀ {t v d ps},DataW.Trod enc Try.prog W 0 (fun _=>true) true t v d ps → ∀ x ∈ ps,x.block < W.heap.size:=fun h=>by obtain ⟨m,hm⟩:=h;exact DataW.trod_lt m _ _ _ hm
 obtain ⟨R,pR,rfl,hR⟩:=open_room (hval 0 _ v0 rfl rfl) h0
 obtain ⟨a,rfl⟩:=open_in (hval 1 _ v1 rfl rfl)
 obtain ⟨b,rfl⟩:=open_in (hval 2 _ v2 rfl rfl)
 obtain ⟨m,rfl⟩:=open_in (hval 3 _ v3 rfl rfl)
 obtain ⟨n,rfl⟩:=open_in (hval 4 _ v4 rfl rfl)
 clear hA0 hval0
 refine (boxJudges_run R pR a b m n W hR).mono fun e W' ⟨he,bel⟩=>?_
 subst he
 exact ⟨_,rfl,_,_,_,[],_,[],hW',trodAll_mk1 (shut_bool Try.underlying4 _),(trodAll_cons_mk (Below.trod laidO (by kernel_rfl) (of_decide_eq_true (by kernel_rfl)) h0 bel (lt h0)) (trodAll_cons_mk (Below.trod laidO (by kernel_rfl) (of_decide_eq_true (by kernel_rfl)) h1 bel (lt h1)) (trodAll_cons_mk (Below.trod laidO (by kernel_rfl) (of_decide_eq_true (by kernel_rfl)) h2 bel (lt h2)) (trodAll_cons_mk (Below.trod laidO (by kernel_rfl) (of_decide_eq_true (by kernel_rfl)) h3 bel (lt h3)) (trodAll_cons_mk (Below.trod laidO (by kernel_rfl) (of_decide_eq_true (by kernel_rfl)) h4 bel (lt h4)) trodAll_mk0))))),rfl,bel.frame _,fun h=>by cases h⟩
theorem boxJudges_over : Rows.boxJudgesRow.holds Try.pinned (OpenSpec.ofChange Rows.boxJudgesSpec) :=
 OpenClaim.holds_of_wide 4 Try.f4 rfl rfl rfl rfl rfl rfl rfl ⟨rfl,rfl,rfl,rfl,rfl⟩ rfl rfl rfl rfl rfl (by kernel_rfl) Try.func4 (by kernel_rfl)
  (of_decide_eq_true (by kernel_rfl)) (by unfold Func.isWrapper;first | (rw [if_pos (by decide +kernel)];kernel_rfl)|(rw [if_neg (by decide +kernel)];exact ⟨rfl,rfl⟩))
  (fun os started H enc _=>boxJudges_lifted os started H enc)
theorem boxJudges_proved : Rows.BoxJudgesSaid:=boxJudges_over
#print axioms boxJudges_proved
end Go.Proofs.Ytmfppdpkalelhaa
end
