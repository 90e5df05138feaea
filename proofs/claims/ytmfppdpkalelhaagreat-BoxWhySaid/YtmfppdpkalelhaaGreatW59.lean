/- Own work: contracts of functions, from rows of what is known of the memory; contracts of functions, from rows of what is known of the memory; contracts of functions, from rows of what is known of the memory; contracts of functions, from rows of what is known of the memory; contracts of functions, from rows of what is known of the memory; contracts of functions, from rows of what is known of the memory; contracts of functions, from rows of what is known of the memory; contracts of functions, from rows of what is known of the memory; contracts of functions, from rows of what is known of the memory; contracts of functions, from rows of what is known of the memory; contracts of functions, from rows of what is known of the memory; contracts of functions, from rows of what is known of the memory -/
import Derived.Test.YtmfppdpkalelhaaGreatW08
section
set_option linter.unusedVariables false
set_option linter.unusedSimpArgs false
namespace Go.Proofs.YtmfppdpkalelhaaGreat
open Go Go.Fw
set_option maxRecDepth 10000
theorem cloneNilBx (c : Nat) (H : List Row) : Fc Tryz.prog 91 [.slice none 0 c] H (fun v H' => v = .slice none 0 0∧H' = H):=by
 refine Fc.mk (callable Tryz.call91) Tryz.func91 rfl Tryz.ntmps91 rfl ?_;dsimp only [fr]
 repeat' (first | (refine uP rfl ?_;(first | ((first | refine uN rfl ?_);(first | (refine uE (EvF.eqNilT rfl rfl (te rfl)) rfl rfl ?_)|(refine uE (uM rfl rfl) rfl rfl ?_)|(refine uE (uA rfl rfl) rfl rfl ?_)))))|(refine uD rfl ?_;refine hK _ _ ?_;clear hK K) | refine uS rfl ?_ | refine uR rfl (fun K hK=>?_) | refine X.ret rfl ?_ | (refine X.ite rfl rfl (fun hc=>?_);(first | (with_reducible refine Xb.t hc ?_)) <;> clear hc))
 all_goals try (exfalso;contradiction)
 exact ret_one (by simp) Tryz.results91 rfl (H' := H) (by repeat (first | exact qR _ | apply qK | apply qC)) ⟨rfl,rfl⟩
theorem sleNone {α : Type} {H : List Row} {enc : α → List Value} {sz : Nat} {l : List α} (h : SlE H none enc sz l) : l = []:=by
 cases l with
 | nil=>rfl
 | cons x t=>obtain ⟨_,_,_,q,_⟩:=h.elem (i:=0) (by simp);cases q
theorem strOk_nil (l : List Int) : strOk [] l ↔ l = []:=by
 unfold strOk
 constructor
 ·intro h
  have:=h.2
  simp [leftMt] at this
  exact this
 ·rintro rfl
  exact ⟨by unfold risesOk;trivial,rfl⟩
set_option maxHeartbeats 4000000 in
theorem strikeL_nil0 (c : Nat) (l : List Int) (al : Option Addr) (cl : Nat) (H : List Row) (hl : SlE H al cI 1 l) (hb' : l.length ≤ 1000000) :
  Fc Tryz.prog 65 [.slice none 0 c,.slice al l.length cl,.func (.func 55) #[] #[]] H (fun v H' => (¬ strOk [] l∧v = .tuple #[.slice none 0 0,.bool false]∧H' = H)∨(strOk [] l∧v = .tuple #[.slice none 0 0,.bool true]∧H' = H)):=by
 have hl2 : ∀ r1 r2,SlE (r1::r2::H) al cI 1 l:=fun r1 r2=>hl.sub (fun _ h=>qT _ (qT _ h))
 refine Fc.mk (callable Tryz.call65) Tryz.func65 rfl Tryz.ntmps65 rfl ?_;dsimp only [fr]
 refine uS rfl ?_;refine uR rfl (fun K hK=>?_);repeat' (first | (refine uP rfl ?_;(first | ((first | refine uN rfl ?_);(first | (refine uE (uA rfl rfl) rfl rfl ?_)|(refine Xg.st (StF.boxOne rfl rfl rfl) rfl rfl ?_;rintro _ _ ⟨bx,rfl,rfl⟩)))))|(refine uD rfl ?_;refine hK _ _ ?_;clear hK K))
 rename_i b4
 rename Nat=>b5
 repeat' (first | (refine uP rfl ?_;(first | ((first | refine uN rfl ?_);(first | (refine uC (uT rfl (by (repeat (first | exact Args.nil | refine Args.cons rfl ?_));done)) rfl rfl (rising_spec l _ _ _ (hl2 _ _) (by omega)) ?_;rintro _ H9 ⟨rfl,hH9⟩;subst H9)|(refine uC (uT rfl (Args.cons rfl Args.nil)) rfl rfl (cloneNilMt c _) ?_;rintro _ H9 ⟨rfl,hH9⟩;subst H9)|(refine uE (EvF.makeFunc (fl:=[]) rfl Args.nil (Args.cons rfl (Args.cons rfl Args.nil))) rfl rfl ?_)|(refine uC (uT rfl (by (repeat (first | exact Args.nil | refine Args.cons rfl ?_));done)) rfl rfl (deleteNilMt 98 [.pointer (some ⟨b4,0,none⟩),.pointer (some ⟨b5,0,none⟩)] _) ?_;rintro _ H9 ⟨rfl,hH9⟩;subst H9)|(refine uE (uM rfl rfl) rfl rfl ?_)|(refine uE (uA rfl rfl) rfl rfl ?_)|(refine uE (uQ rfl rfl rfl rfl) rfl rfl ?_)|(refine uE (EvF.add64 rfl rfl rfl (by omega) (by omega)) rfl rfl ?_)|(refine uE (EvF.not rfl rfl) rfl rfl ?_)|(refine uE (EvF.lenSlice rfl rfl (te rfl)) rfl rfl ?_)|(refine uE (uL rfl rfl (uO (te rfl) rfl (qT _ (qH _)) rfl)) rfl rfl ?_)))))|(refine uD rfl ?_;refine hK _ _ ?_;clear hK K) | refine uS rfl ?_ | refine uR rfl (fun K hK=>?_) | refine X.skip rfl ?_ | refine X.ret rfl ?_ | (refine X.ite rfl rfl (fun hc=>?_);(first | (with_reducible refine Xb.caseN hc (fun h=>?_) (fun h=>?_))) <;> clear hc))
 ·exact ret_two (by simp) Tryz.results65 rfl rfl (H' := H) (by (repeat (first | exact qR _ | apply qC));done) (.inl ⟨fun q=>h q.1,rfl,rfl⟩)
 ·refine ret_two (by simp) Tryz.results65 rfl rfl (H' := H) (by (repeat (first | exact qR _ | apply qC));done) (.inl ⟨fun q=>h ?_,rfl,rfl⟩)
  rw [(strOk_nil l).1 q];rfl
 ·refine ret_two (by simp) Tryz.results65 rfl rfl (H' := H) (by (repeat (first | exact qR _ | apply qC));done) (.inr ⟨(strOk_nil l).2 ?_,rfl,rfl⟩)
  have : (0 : Int) + (l.length : Int)=0:=by assumption
  exact List.length_eq_zero_iff.1 (by omega)
theorem strikeL_nil (ms : List Mt) (h0 : ms = []) (c : Nat) (l : List Int) (al : Option Addr) (cl : Nat) (H : List Row) (hl : SlE H al cI 1 l) (hb' : l.length ≤ 1000000) :
  Fc Tryz.prog 65 [.slice none ms.length c,.slice al l.length cl,.func (.func 55) #[] #[]] H (fun v H' => (¬ strOk ms l∧v = .tuple #[.slice none 0 0,.bool false]∧H' = H)∨(strOk ms l∧v = .tuple #[.slice none 0 0,.bool true]∧H' = H)):=by
 subst h0
 exact strikeL_nil0 c l al cl H hl hb'
def val1sn (b1 : Nat) (R : Rm) (d1 : Addr) (c1 : Nat) (d2 : Addr) (c2 : Nat) (c3 : Nat) (k : Nat) (env : Env) : Value :=
 match k with
 | 0 => .pointer (some ⟨b1,2,none⟩)
 | 1 => .slice (some d1) R.ages.length c1
 | 2 => .slice (some ⟨(env 2).1,0,none⟩) R.ages.length (env 2).2
 | 3 => .pointer (some ⟨b1,3,none⟩)
 | 4 => .slice (some d2) R.boxes.length c2
 | 5 => .slice (some ⟨(env 5).1,0,none⟩) R.boxes.length (env 5).2
 | 6 => .pointer (some ⟨b1,4,none⟩)
 | 7 => .slice none 0 c3
 | 8 => .slice none 0 0
 | 9 => .pointer (some ⟨b1,2,none⟩)
 | 11 => .pointer (some ⟨b1,3,none⟩)
 | 13 => .pointer (some ⟨b1,4,none⟩)
 | _=>undef
def rows1sn (b1 b2 : Nat) (R : Rm) (d1 : Addr) (c1 : Nat) (d2 : Addr) (c2 : Nat) (c3 : Nat) (k : Nat) (env : Env) : List Row :=
 match k with
 | 2=>[⟨(env 2).1,0,R.ages.flatMap cSp,some 24,(env 2).2 * 2⟩]
 | 5=>[⟨(env 5).1,0,R.boxes.flatMap cBx,some 47,(env 5).2 * 2⟩]
 | 10=>[⟨b1,0,[.int .i64 R.months,.int .i64 R.step,.slice (some ⟨(env 2).1,0,none⟩) R.ages.length (env 2).2,.slice (some d2) R.boxes.length c2,.slice none 0 c3],some 32,5⟩]
 | 12=>[⟨b1,0,[.int .i64 R.months,.int .i64 R.step,.slice (some ⟨(env 2).1,0,none⟩) R.ages.length (env 2).2,.slice (some ⟨(env 5).1,0,none⟩) R.boxes.length (env 5).2,.slice none 0 c3],some 32,5⟩]
 | 14=>[⟨b1,0,[.int .i64 R.months,.int .i64 R.step,.slice (some ⟨(env 2).1,0,none⟩) R.ages.length (env 2).2,.slice (some ⟨(env 5).1,0,none⟩) R.boxes.length (env 5).2,.slice none 0 0],some 32,5⟩]
 | 15=>[⟨b2,0,[.int .i64 0,.int .i64 0,.slice none 0 0,.slice none 0 0,.slice none 0 0],some 32,5⟩]
 | 16=>[⟨b1,0,[.int .i64 R.months,.int .i64 R.step,.slice (some d1) R.ages.length c1,.slice (some d2) R.boxes.length c2,.slice none 0 c3],some 32,5⟩]
 | _=>[]
theorem loc1sn (b1 b2 : Nat) (R : Rm) (d1 : Addr) (c1 : Nat) (d2 : Addr) (c2 : Nat) (c3 : Nat) : ∀ k env i q9,i ≠ k → (tAt ts101 k).sup.contains i = false → val1sn b1 R d1 c1 d2 c2 c3 k (upd env i q9)=val1sn b1 R d1 c1 d2 c2 c3 k env∧rows1sn b1 b2 R d1 c1 d2 c2 c3 k (upd env i q9)=rows1sn b1 b2 R d1 c1 d2 c2 c3 k env:=by
 intro k env i q hk hs
 have hu : ∀ j,j ≠ i → upd env i q j = env j:=fun j hj=>by unfold upd;rw [if_neg hj]
 match k,hk,hs with
 | 0,_,_=>exact ⟨rfl,rfl⟩
 | 1,_,_=>exact ⟨rfl,rfl⟩
 | 2,hk,hs=>exact ⟨by simp only [val1sn,hu 2 (fun e=>hk e.symm)],by simp only [rows1sn,hu 2 (fun e=>hk e.symm)]⟩
 | 3,_,_=>exact ⟨rfl,rfl⟩
 | 4,_,_=>exact ⟨rfl,rfl⟩
 | 5,hk,hs=>exact ⟨by simp only [val1sn,hu 5 (fun e=>hk e.symm)],by simp only [rows1sn,hu 5 (fun e=>hk e.symm)]⟩
 | 6,_,_=>exact ⟨rfl,rfl⟩
 | 7,_,_=>exact ⟨rfl,rfl⟩
 | 8,_,_=>exact ⟨rfl,rfl⟩
 | 9,_,_=>exact ⟨rfl,rfl⟩
 | 10,hk,hs=>exact ⟨by simp only [val1sn,hu 2 (by rintro rfl;cases hs)],by simp only [rows1sn,hu 2 (by rintro rfl;cases hs)]⟩
 | 11,_,_=>exact ⟨rfl,rfl⟩
 | 12,hk,hs=>exact ⟨by simp only [val1sn,hu 2 (by rintro rfl;cases hs),hu 5 (by rintro rfl;cases hs)],by simp only [rows1sn,hu 2 (by rintro rfl;cases hs),hu 5 (by rintro rfl;cases hs)]⟩
 | 13,_,_=>exact ⟨rfl,rfl⟩
 | 14,hk,hs=>exact ⟨by simp only [val1sn,hu 2 (by rintro rfl;cases hs),hu 5 (by rintro rfl;cases hs)],by simp only [rows1sn,hu 2 (by rintro rfl;cases hs),hu 5 (by rintro rfl;cases hs)]⟩
 | 15,_,_=>exact ⟨rfl,rfl⟩
 | 16,_,_=>exact ⟨rfl,rfl⟩
 | _ + 17,_,_=>exact ⟨rfl,rfl⟩
set_option maxHeartbeats 4000000 in
theorem copiedsn (R : Rm) (d1 : Addr) (c1 : Nat) (d2 : Addr) (c2 : Nat) (c3 : Nat) (H : List Row) (hR : RmOk H R ⟨some d1,c1,some d2,c2,none,c3⟩) (hm0 : R.mats = []) (h1 : R.ages.length ≤ 1000000) (h2 : R.boxes.length ≤ 1000000) (h3 : R.mats.length ≤ 1000000) :
  Fc Tryz.prog 63 [.agg (cRm R ⟨some d1,c1,some d2,c2,none,c3⟩).toArray] H (fun v H' => ∃ t1 k1 t2 k2,v = .agg (cRm R ⟨some ⟨t1,0,none⟩,k1,some ⟨t2,0,none⟩,k2,none,0⟩).toArray∧H' = ⟨t1,0,R.ages.flatMap cSp,some 24,k1 * 2⟩::⟨t2,0,R.boxes.flatMap cBx,some 47,k2 * 2⟩::H):=by
 have hag:=hR.ages
 have hbx:=hR.boxes
 have hmt:=hR.mats
 obtain ⟨nb,hnb⟩ : ∃ n,n = R.boxes.length:=⟨_,rfl⟩
 obtain ⟨nm,hnm⟩ : ∃ n,n = R.mats.length:=⟨_,rfl⟩
 have hm1 : R.mats.length = 0:=by rw [hm0];rfl
 unfold cRm
 dsimp only
 rw [hm1]
 skip
 refine Fc.mk (callable Tryz.call63) Tryz.func63 rfl Tryz.ntmps63 rfl ?_;dsimp only [fr]
 refine uS rfl ?_;refine uR rfl (fun K hK=>?_);repeat' (first | (refine uP rfl ?_;(first | ((first | refine uN rfl ?_);(first | (refine Xg.st (StF.boxAgg rfl rfl) rfl rfl ?_;rintro _ _ ⟨bx,rfl,rfl⟩)|(refine Xg.st (StF.alloc rfl Tryz.zeroValue32 rfl) rfl rfl ?_;rintro _ _ ⟨bx,rfl,rfl⟩)))))|(refine uD rfl ?_;refine hK _ _ ?_;clear hK K))
 rename_i b1
 rename Nat=>b2
 refine uS rfl ?_
 refine X.regionRd ts101 rd101 [1,2] [(1,.pointer (some ⟨b1,0,none⟩)),(2,.pointer (some ⟨b2,0,none⟩))] (val1sn b1 R d1 c1 d2 c2 c3) (rows1sn b1 b2 R d1 c1 d2 c2 c3) (fun _=>(0,0)) H rfl mixed (by repeat (first | exact uU _ | refine uV rfl ?_)) rfl (by kernel_rfl) (by kernel_rfl) (loc1sn b1 b2 R d1 c1 d2 c2 c3) (qR _) ?_ ?_
 ·repeat' (first | exact AllF.done rfl | (refine AllF.step rfl ?_ ?_;·(first | exact (Ob.ng rfl (ObK.pure (fun env R hR=>by exact ⟨_,uF rfl rfl (te rfl) rfl (te rfl) (by decide),rfl⟩) rfl (fun _=>rfl))).toR | (refine ObR.ng rfl ?_;(first | (exact fun env S hS hrd=>(StF.ofEv (uL rfl rfl (uO (te rfl) rfl (hrd 16 (qH _) _ (qH _)) rfl))).op.mono (fun v H' ⟨hv,hH⟩=>⟨(0,0),fun _=>hv,by rw [hH];exact List.Perm.refl _⟩))|(exact fun env S hS hrd=>(OpF.call (uT rfl (by (repeat (first | exact Args.nil | refine Args.cons rfl ?_));done)) (clone_specSp R.ages d1 c1 _ (hag.sub (fun r hr=>hS r hr)) h1)).mono (fun v H' ⟨b,k,hv,hH⟩=>⟨(b,k),fun _=>hv,by rw [hH];exact List.Perm.refl _⟩))|(exact fun env S hS hrd=>(OpF.call (uT rfl (by (repeat (first | exact Args.nil | refine Args.cons rfl ?_));done)) (clone_specBx R.boxes d2 c2 _ (hbx.sub (fun r hr=>hS r hr)) h2)).mono (fun v H' ⟨b,k,hv,hH⟩=>⟨(b,k),fun _=>hv,by rw [hH];exact List.Perm.refl _⟩))|(exact fun env S hS hrd=>(OpF.call (uT rfl (by (repeat (first | exact Args.nil | refine Args.cons rfl ?_));done)) (cloneNilMt c3 _)).mono (fun v H' ⟨hv,hH⟩=>⟨(0,0),fun _=>hv,by rw [hH];exact List.Perm.refl _⟩))|(exact fun env S hS hrd=>(StF.storeOne (i:=0) rfl rfl rfl rfl (te rfl) rfl rfl (Nat.le_of_ble_eq_true rfl)).op.mono (fun v H' ⟨hv,hH⟩=>⟨(0,0),fun h=>absurd rfl h,by rw [hH];exact List.Perm.refl _⟩)))))))
 ·intro env t ha hv
  refine ⟨[(1,.pointer (some ⟨b1,0,none⟩)),(2,.pointer (some ⟨b2,0,none⟩))],ha,?_⟩
  show X _ _ _ _ (⟨(env 2).1,0,R.ages.flatMap cSp,some 24,(env 2).2 * 2⟩::⟨(env 5).1,0,R.boxes.flatMap cBx,some 47,(env 5).2 * 2⟩::⟨b1,0,[.int .i64 R.months,.int .i64 R.step,.slice (some ⟨(env 2).1,0,none⟩) R.ages.length (env 2).2,.slice (some ⟨(env 5).1,0,none⟩) R.boxes.length (env 5).2,.slice none 0 0],some 32,5⟩::⟨b2,0,[.int .i64 0,.int .i64 0,.slice none 0 0,.slice none 0 0,.slice none 0 0],some 32,5⟩::H) _
  repeat' (first | (refine uP rfl ?_;(first | ((first | refine uN rfl ?_);(first | (refine uE (uL rfl rfl (uW (te rfl) rfl (qT _ (qH _)) rfl)) rfl rfl ?_)|(refine uE (uL rfl rfl (uW (te rfl) rfl (qT _ (qT _ (qH _))) rfl)) rfl rfl ?_)|(refine Xg.st0 (StF.storeAll (i:=2) rfl rfl rfl (te rfl) rfl rfl rfl rfl) rfl ?_;rintro _ _ ⟨rfl,rfl⟩;dsimp only [List.set])|(refine Xg.st0 (StF.storeAll (i:=3) rfl rfl rfl (te rfl) rfl rfl rfl rfl) rfl ?_;rintro _ _ ⟨rfl,rfl⟩;dsimp only [List.set])))))|(refine uD rfl ?_;refine hK _ _ ?_;clear hK K) | refine uS rfl ?_ | refine uR rfl (fun K hK=>?_) | refine X.ret rfl ?_)
  exact ret_one (.inr rfl) Tryz.results63 ⟨_,rfl,uW (te rfl) rfl (by repeat (first | exact qH _ | apply qT)) rfl⟩ (H' := ⟨(env 2).1,0,R.ages.flatMap cSp,some 24,(env 2).2 * 2⟩::⟨(env 5).1,0,R.boxes.flatMap cBx,some 47,(env 5).2 * 2⟩::H) (by repeat (first | exact qR _ | apply qK | apply qC)) ⟨_,_,_,_,rfl,rfl⟩
set_option maxHeartbeats 4000000 in
theorem strsn (R : Rm) (l : List Int) (al : Option Addr) (cl : Nat) (d1 : Addr) (c1 : Nat) (d2 : Addr) (c2 : Nat) (c3 : Nat) (H : List Row) (hR : RmOk H R ⟨some d1,c1,some d2,c2,none,c3⟩) (hm0 : R.mats = []) (h1 : R.ages.length ≤ 1000000) (h2 : R.boxes.length ≤ 1000000) (h3 : R.mats.length ≤ 1000000) (hl : SlE H al cI 1 l) (hb : l.length ≤ 1000000) (hr : roomOk R) :
  Fc Tryz.prog 25 [.agg (cRm R ⟨some d1,c1,some d2,c2,none,c3⟩).toArray,.slice al l.length cl] H (fun v H' => (¬ strOk R.mats l)∨(strOk R.mats l ∧ ∃ p Z,v = .tuple #[.agg (cRm (strRm R l) p).toArray,.int .i64 0]∧H' = Z++H ∧ ∀ S,RmOk (Z++S) (strRm R l) p)):=by
 have hag:=hR.ages
 have hmt:=hR.mats
 have hlf : (leftMt R.mats l).length ≤ R.mats.length:=List.length_filter_le _ _
 have hm1 : R.mats.length = 0:=by rw [hm0];rfl
 have hl0:=strOk_nil l
 rw [← hm0] at hl0
 refine Fc.mk (callable Tryz.call25) Tryz.func25 rfl Tryz.ntmps25 rfl ?_;dsimp only [fr]
 repeat' (first | (refine uP rfl ?_;(first | ((first | refine uN rfl ?_);(first | (refine uE (EvF.build (cs:=zR) rfl ArgsP.nil (te rfl) (Places.cons (te rfl) (Places.cons (te rfl) (Places.cons (te rfl) (Places.cons (te rfl) (Places.cons (te rfl) Places.nil))))) Tryz.zeroValue32 rfl) rfl rfl ?_)|(refine uC (uT rfl (by (repeat (first | exact Args.nil | refine Args.cons rfl ?_));done)) rfl rfl (check_spec R _ _ (hR.sub (fun _ h=>by repeat (first | exact h | apply qT)))) ?_;rintro _ H9 ⟨⟨hr9,rfl⟩ | ⟨hr9,rfl⟩,hH9⟩ <;> subst H9)|(refine uC (uT rfl (by (repeat (first | exact Args.nil | refine Args.cons rfl ?_));done)) rfl rfl (strikeL_nil R.mats hm0 c3 l al cl _ (hl.sub (fun _ h=>by repeat (first | exact h | apply qT))) hb) ?_;rintro _ H9 (⟨hs,rfl,hH9⟩ | ⟨hs,rfl,hH9⟩) <;> subst H9)|(refine uC (uT rfl (by (repeat (first | exact Args.nil | refine Args.cons rfl ?_));done)) rfl rfl (copiedsn R d1 c1 d2 c2 c3 _ (hR.sub (fun _ h=>by repeat (first | exact h | apply qT))) hm0 h1 h2 h3) ?_;rintro _ _ ⟨t1,k1,t2,k2,rfl,rfl⟩)|(refine uE (uM rfl rfl) rfl rfl ?_)|(refine uE (uA rfl rfl) rfl rfl ?_)|(refine uE (uQ rfl rfl rfl rfl) rfl rfl ?_)|(refine uE (EvF.not rfl rfl) rfl rfl ?_)|(refine uE (uF rfl rfl (te rfl) rfl (te rfl) (by decide)) rfl rfl ?_)|(refine uE (uL rfl rfl (uO (te rfl) rfl (qT _ (qH _)) rfl)) rfl rfl ?_)|(refine uE (uL rfl rfl (uW (te rfl) rfl (qH _) rfl)) rfl rfl ?_)|(refine uE (uL rfl rfl (uW (te rfl) rfl (qT _ (qH _)) rfl)) rfl rfl ?_)|(refine uE (uX rfl rfl rfl) rfl rfl ?_)|(refine Xg.st (StF.boxAgg rfl rfl) rfl rfl ?_;rintro _ _ ⟨bx,rfl,rfl⟩)|(refine Xg.st (StF.alloc rfl Tryz.zeroValue32 rfl) rfl rfl ?_;rintro _ _ ⟨bx,rfl,rfl⟩)|(refine Xg.st0 (StF.storeOne (i:=0) rfl rfl rfl rfl (te rfl) rfl rfl (Nat.le_of_ble_eq_true rfl)) rfl ?_;rintro _ _ ⟨rfl,rfl⟩;dsimp only [List.set])|(refine Xg.st0 (StF.storeAll (i:=0) rfl rfl rfl (te rfl) rfl rfl rfl rfl) rfl ?_;rintro _ _ ⟨rfl,rfl⟩;dsimp only [List.set])|(refine Xg.st0 (StF.storeAll (i:=3) rfl rfl rfl (te rfl) rfl rfl rfl rfl) rfl ?_;rintro _ _ ⟨rfl,rfl⟩;dsimp only [List.set])))))|(refine uD rfl ?_;refine hK _ _ ?_;clear hK K) | refine uS rfl ?_ | refine uR rfl (fun K hK=>?_) | refine X.skip rfl ?_ | refine X.ret rfl ?_ | (refine X.ite rfl rfl (fun hc=>?_);(first | (with_reducible refine Xb.caseN hc (fun h=>?_) (fun h=>?_))|(with_reducible refine Xb.caseB hc (fun h=>?_) (fun h=>?_))) <;> clear hc))
 any_goals (exfalso;first | omega | (cases h;done) | contradiction)
 ·exact ret_two (by simp) Tryz.results25 ⟨_,rfl,uW (te rfl) rfl (by repeat (first | exact qH _ | apply qT)) rfl⟩ rfl (H' := _) (qR _) (.inl hs)
 ·refine ret_two (by simp) Tryz.results25 ⟨_,rfl,uW (te rfl) rfl (by repeat (first | exact qH _ | apply qT)) rfl⟩ rfl (H' := [⟨t1,0,R.ages.flatMap cSp,some 24,k1 * 2⟩,⟨t2,0,R.boxes.flatMap cBx,some 47,k2 * 2⟩]++H) (by repeat (first | exact qR _ | apply qK | apply qC)) (.inr ⟨hs,⟨some ⟨t1,0,none⟩,k1,some ⟨t2,0,none⟩,k2,none,0⟩,_,?_,rfl,fun S=>?_⟩)
  ·have e : (strRm R l).mats.length = 0:=by show (leftMt R.mats l).length = 0;rw [hm0];rfl
   unfold cRm
   rw [e]
   rfl
  ·exact ⟨SlE.ofRow (l:=R.ages) (qH _) (fun _ _=>rfl),SlE.ofRow (l:=R.boxes) (qT _ (qH _)) (fun _ _=>rfl),by show SlE _ none cMt 6 (leftMt R.mats l);rw [hm0];exact sleNil,Nat.le_trans h1 (by omega),Nat.le_trans h2 (by omega),by show (leftMt R.mats l).length ≤ _;omega⟩
def val1ns (b1 : Nat) (R : Rm) (d1 : Addr) (c1 : Nat) (c2 : Nat) (d3 : Addr) (c3 : Nat) (k : Nat) (env : Env) : Value :=
 match k with
 | 0 => .pointer (some ⟨b1,2,none⟩)
 | 1 => .slice (some d1) R.ages.length c1
 | 2 => .slice (some ⟨(env 2).1,0,none⟩) R.ages.length (env 2).2
 | 3 => .pointer (some ⟨b1,3,none⟩)
 | 4 => .slice none 0 c2
 | 5 => .slice none 0 0
 | 6 => .pointer (some ⟨b1,4,none⟩)
 | 7 => .slice (some d3) R.mats.length c3
 | 8 => .slice (some ⟨(env 8).1,0,none⟩) R.mats.length (env 8).2
 | 9 => .pointer (some ⟨b1,2,none⟩)
 | 11 => .pointer (some ⟨b1,3,none⟩)
 | 13 => .pointer (some ⟨b1,4,none⟩)
 | _=>undef
def rows1ns (b1 b2 : Nat) (R : Rm) (d1 : Addr) (c1 : Nat) (c2 : Nat) (d3 : Addr) (c3 : Nat) (k : Nat) (env : Env) : List Row :=
 match k with
 | 2=>[⟨(env 2).1,0,R.ages.flatMap cSp,some 24,(env 2).2 * 2⟩]
 | 8=>[⟨(env 8).1,0,R.mats.flatMap cMt,some 44,(env 8).2 * 6⟩]
 | 10=>[⟨b1,0,[.int .i64 R.months,.int .i64 R.step,.slice (some ⟨(env 2).1,0,none⟩) R.ages.length (env 2).2,.slice none 0 c2,.slice (some d3) R.mats.length c3],some 32,5⟩]
 | 12=>[⟨b1,0,[.int .i64 R.months,.int .i64 R.step,.slice (some ⟨(env 2).1,0,none⟩) R.ages.length (env 2).2,.slice none 0 0,.slice (some d3) R.mats.length c3],some 32,5⟩]
 | 14=>[⟨b1,0,[.int .i64 R.months,.int .i64 R.step,.slice (some ⟨(env 2).1,0,none⟩) R.ages.length (env 2).2,.slice none 0 0,.slice (some ⟨(env 8).1,0,none⟩) R.mats.length (env 8).2],some 32,5⟩]
 | 15=>[⟨b2,0,[.int .i64 0,.int .i64 0,.slice none 0 0,.slice none 0 0,.slice none 0 0],some 32,5⟩]
 | 16=>[⟨b1,0,[.int .i64 R.months,.int .i64 R.step,.slice (some d1) R.ages.length c1,.slice none 0 c2,.slice (some d3) R.mats.length c3],some 32,5⟩]
 | _=>[]
theorem loc1ns (b1 b2 : Nat) (R : Rm) (d1 : Addr) (c1 : Nat) (c2 : Nat) (d3 : Addr) (c3 : Nat) : ∀ k env i q9,i ≠ k → (tAt ts101 k).sup.contains i = false → val1ns b1 R d1 c1 c2 d3 c3 k (upd env i q9)=val1ns b1 R d1 c1 c2 d3 c3 k env∧rows1ns b1 b2 R d1 c1 c2 d3 c3 k (upd env i q9)=rows1ns b1 b2 R d1 c1 c2 d3 c3 k env:=by
 intro k env i q hk hs
 have hu : ∀ j,j ≠ i → upd env i q j = env j:=fun j hj=>by unfold upd;rw [if_neg hj]
 match k,hk,hs with
 | 0,_,_=>exact ⟨rfl,rfl⟩
 | 1,_,_=>exact ⟨rfl,rfl⟩
 | 2,hk,hs=>exact ⟨by simp only [val1ns,hu 2 (fun e=>hk e.symm)],by simp only [rows1ns,hu 2 (fun e=>hk e.symm)]⟩
 | 3,_,_=>exact ⟨rfl,rfl⟩
 | 4,_,_=>exact ⟨rfl,rfl⟩
 | 5,_,_=>exact ⟨rfl,rfl⟩
 | 6,_,_=>exact ⟨rfl,rfl⟩
 | 7,_,_=>exact ⟨rfl,rfl⟩
 | 8,hk,hs=>exact ⟨by simp only [val1ns,hu 8 (fun e=>hk e.symm)],by simp only [rows1ns,hu 8 (fun e=>hk e.symm)]⟩
 | 9,_,_=>exact ⟨rfl,rfl⟩
 | 10,hk,hs=>exact ⟨by simp only [val1ns,hu 2 (by rintro rfl;cases hs)],by simp only [rows1ns,hu 2 (by rintro rfl;cases hs)]⟩
 | 11,_,_=>exact ⟨rfl,rfl⟩
 | 12,hk,hs=>exact ⟨by simp only [val1ns,hu 2 (by rintro rfl;cases hs)],by simp only [rows1ns,hu 2 (by rintro rfl;cases hs)]⟩
 | 13,_,_=>exact ⟨rfl,rfl⟩
 | 14,hk,hs=>exact ⟨by simp only [val1ns,hu 2 (by rintro rfl;cases hs),hu 8 (by rintro rfl;cases hs)],by simp only [rows1ns,hu 2 (by rintro rfl;cases hs),hu 8 (by rintro rfl;cases hs)]⟩
 | 15,_,_=>exact ⟨rfl,rfl⟩
 | 16,_,_=>exact ⟨rfl,rfl⟩
 | _ + 17,_,_=>exact ⟨rfl,rfl⟩
set_option maxHeartbeats 4000000 in
theorem copiedns (R : Rm) (d1 : Addr) (c1 : Nat) (c2 : Nat) (d3 : Addr) (c3 : Nat) (H : List Row) (hR : RmOk H R ⟨some d1,c1,none,c2,some d3,c3⟩) (hb0 : R.boxes = []) (h1 : R.ages.length ≤ 1000000) (h2 : R.boxes.length ≤ 1000000) (h3 : R.mats.length ≤ 1000000) :
  Fc Tryz.prog 63 [.agg (cRm R ⟨some d1,c1,none,c2,some d3,c3⟩).toArray] H (fun v H' => ∃ t1 k1 t3 k3,v = .agg (cRm R ⟨some ⟨t1,0,none⟩,k1,none,0,some ⟨t3,0,none⟩,k3⟩).toArray∧H' = ⟨t1,0,R.ages.flatMap cSp,some 24,k1 * 2⟩::⟨t3,0,R.mats.flatMap cMt,some 44,k3 * 6⟩::H):=by
 have hag:=hR.ages
 have hbx:=hR.boxes
 have hmt:=hR.mats
 obtain ⟨nb,hnb⟩ : ∃ n,n = R.boxes.length:=⟨_,rfl⟩
 obtain ⟨nm,hnm⟩ : ∃ n,n = R.mats.length:=⟨_,rfl⟩
 have hb1 : R.boxes.length = 0:=by rw [hb0];rfl
 unfold cRm
 dsimp only
 rw [hb1]
 skip
 refine Fc.mk (callable Tryz.call63) Tryz.func63 rfl Tryz.ntmps63 rfl ?_;dsimp only [fr]
 refine uS rfl ?_;refine uR rfl (fun K hK=>?_);repeat' (first | (refine uP rfl ?_;(first | ((first | refine uN rfl ?_);(first | (refine Xg.st (StF.boxAgg rfl rfl) rfl rfl ?_;rintro _ _ ⟨bx,rfl,rfl⟩)|(refine Xg.st (StF.alloc rfl Tryz.zeroValue32 rfl) rfl rfl ?_;rintro _ _ ⟨bx,rfl,rfl⟩)))))|(refine uD rfl ?_;refine hK _ _ ?_;clear hK K))
 rename_i b1
 rename Nat=>b2
 refine uS rfl ?_
 refine X.regionRd ts101 rd101 [1,2] [(1,.pointer (some ⟨b1,0,none⟩)),(2,.pointer (some ⟨b2,0,none⟩))] (val1ns b1 R d1 c1 c2 d3 c3) (rows1ns b1 b2 R d1 c1 c2 d3 c3) (fun _=>(0,0)) H rfl mixed (by repeat (first | exact uU _ | refine uV rfl ?_)) rfl (by kernel_rfl) (by kernel_rfl) (loc1ns b1 b2 R d1 c1 c2 d3 c3) (qR _) ?_ ?_
 ·repeat' (first | exact AllF.done rfl | (refine AllF.step rfl ?_ ?_;·(first | exact (Ob.ng rfl (ObK.pure (fun env R hR=>by exact ⟨_,uF rfl rfl (te rfl) rfl (te rfl) (by decide),rfl⟩) rfl (fun _=>rfl))).toR | (refine ObR.ng rfl ?_;(first | (exact fun env S hS hrd=>(StF.ofEv (uL rfl rfl (uO (te rfl) rfl (hrd 16 (qH _) _ (qH _)) rfl))).op.mono (fun v H' ⟨hv,hH⟩=>⟨(0,0),fun _=>hv,by rw [hH];exact List.Perm.refl _⟩))|(exact fun env S hS hrd=>(OpF.call (uT rfl (by (repeat (first | exact Args.nil | refine Args.cons rfl ?_));done)) (clone_specSp R.ages d1 c1 _ (hag.sub (fun r hr=>hS r hr)) h1)).mono (fun v H' ⟨b,k,hv,hH⟩=>⟨(b,k),fun _=>hv,by rw [hH];exact List.Perm.refl _⟩))|(exact fun env S hS hrd=>(OpF.call (uT rfl (by (repeat (first | exact Args.nil | refine Args.cons rfl ?_));done)) (cloneNilBx c2 _)).mono (fun v H' ⟨hv,hH⟩=>⟨(0,0),fun _=>hv,by rw [hH];exact List.Perm.refl _⟩))|(exact fun env S hS hrd=>(OpF.call (uT rfl (by (repeat (first | exact Args.nil | refine Args.cons rfl ?_));done)) (clone_specMt R.mats d3 c3 _ (hmt.sub (fun r hr=>hS r hr)) h3)).mono (fun v H' ⟨b,k,hv,hH⟩=>⟨(b,k),fun _=>hv,by rw [hH];exact List.Perm.refl _⟩))|(exact fun env S hS hrd=>(StF.storeOne (i:=0) rfl rfl rfl rfl (te rfl) rfl rfl (Nat.le_of_ble_eq_true rfl)).op.mono (fun v H' ⟨hv,hH⟩=>⟨(0,0),fun h=>absurd rfl h,by rw [hH];exact List.Perm.refl _⟩)))))))
 ·intro env t ha hv
  refine ⟨[(1,.pointer (some ⟨b1,0,none⟩)),(2,.pointer (some ⟨b2,0,none⟩))],ha,?_⟩
  show X _ _ _ _ (⟨(env 2).1,0,R.ages.flatMap cSp,some 24,(env 2).2 * 2⟩::⟨(env 8).1,0,R.mats.flatMap cMt,some 44,(env 8).2 * 6⟩::⟨b1,0,[.int .i64 R.months,.int .i64 R.step,.slice (some ⟨(env 2).1,0,none⟩) R.ages.length (env 2).2,.slice none 0 0,.slice (some ⟨(env 8).1,0,none⟩) R.mats.length (env 8).2],some 32,5⟩::⟨b2,0,[.int .i64 0,.int .i64 0,.slice none 0 0,.slice none 0 0,.slice none 0 0],some 32,5⟩::H) _
  repeat' (first | (refine uP rfl ?_;(first | ((first | refine uN rfl ?_);(first | (refine uE (uL rfl rfl (uW (te rfl) rfl (qT _ (qH _)) rfl)) rfl rfl ?_)|(refine uE (uL rfl rfl (uW (te rfl) rfl (qT _ (qT _ (qH _))) rfl)) rfl rfl ?_)|(refine Xg.st0 (StF.storeAll (i:=2) rfl rfl rfl (te rfl) rfl rfl rfl rfl) rfl ?_;rintro _ _ ⟨rfl,rfl⟩;dsimp only [List.set])|(refine Xg.st0 (StF.storeAll (i:=3) rfl rfl rfl (te rfl) rfl rfl rfl rfl) rfl ?_;rintro _ _ ⟨rfl,rfl⟩;dsimp only [List.set])))))|(refine uD rfl ?_;refine hK _ _ ?_;clear hK K) | refine uS rfl ?_ | refine uR rfl (fun K hK=>?_) | refine X.ret rfl ?_)
  exact ret_one (.inr rfl) Tryz.results63 ⟨_,rfl,uW (te rfl) rfl (by repeat (first | exact qH _ | apply qT)) rfl⟩ (H' := ⟨(env 2).1,0,R.ages.flatMap cSp,some 24,(env 2).2 * 2⟩::⟨(env 8).1,0,R.mats.flatMap cMt,some 44,(env 8).2 * 6⟩::H) (by repeat (first | exact qR _ | apply qK | apply qC)) ⟨_,_,_,_,rfl,rfl⟩
set_option maxHeartbeats 4000000 in
theorem strns (R : Rm) (l : List Int) (al : Option Addr) (cl : Nat) (d1 : Addr) (c1 : Nat) (c2 : Nat) (d3 : Addr) (c3 : Nat) (H : List Row) (hR : RmOk H R ⟨some d1,c1,none,c2,some d3,c3⟩) (hb0 : R.boxes = []) (h1 : R.ages.length ≤ 1000000) (h2 : R.boxes.length ≤ 1000000) (h3 : R.mats.length ≤ 1000000) (hl : SlE H al cI 1 l) (hb : l.length ≤ 1000000) (hr : roomOk R) :
  Fc Tryz.prog 25 [.agg (cRm R ⟨some d1,c1,none,c2,some d3,c3⟩).toArray,.slice al l.length cl] H (fun v H' => (¬ strOk R.mats l)∨(strOk R.mats l ∧ ∃ p Z,v = .tuple #[.agg (cRm (strRm R l) p).toArray,.int .i64 0]∧H' = Z++H ∧ ∀ S,RmOk (Z++S) (strRm R l) p)):=by
 have hag:=hR.ages
 have hmt:=hR.mats
 have hlf : (leftMt R.mats l).length ≤ R.mats.length:=List.length_filter_le _ _
 have hb1 : R.boxes.length = 0:=by rw [hb0];rfl
 skip
 refine Fc.mk (callable Tryz.call25) Tryz.func25 rfl Tryz.ntmps25 rfl ?_;dsimp only [fr]
 repeat' (first | (refine uP rfl ?_;(first | ((first | refine uN rfl ?_);(first | (refine uE (EvF.build (cs:=zR) rfl ArgsP.nil (te rfl) (Places.cons (te rfl) (Places.cons (te rfl) (Places.cons (te rfl) (Places.cons (te rfl) (Places.cons (te rfl) Places.nil))))) Tryz.zeroValue32 rfl) rfl rfl ?_)|(refine uC (uT rfl (by (repeat (first | exact Args.nil | refine Args.cons rfl ?_));done)) rfl rfl (check_spec R _ _ (hR.sub (fun _ h=>by repeat (first | exact h | apply qT)))) ?_;rintro _ H9 ⟨⟨hr9,rfl⟩ | ⟨hr9,rfl⟩,hH9⟩ <;> subst H9)|(refine uC (uT rfl (by (repeat (first | exact Args.nil | refine Args.cons rfl ?_));done)) rfl rfl (strikeL_spec R.mats d3 c3 l al cl _ (hmt.sub (fun _ h=>by repeat (first | exact h | apply qT))) h3 (hl.sub (fun _ h=>by repeat (first | exact h | apply qT))) hb) ?_;rintro _ H9 (⟨hs,rfl,hH9⟩ | ⟨hs,bc,kc,rfl,hH9⟩) <;> subst H9)|(refine uC (uT rfl (by (repeat (first | exact Args.nil | refine Args.cons rfl ?_));done)) rfl rfl (copiedns R d1 c1 c2 d3 c3 _ (hR.sub (fun _ h=>by repeat (first | exact h | apply qT))) hb0 h1 h2 h3) ?_;rintro _ _ ⟨t1,k1,t3,k3,rfl,rfl⟩)|(refine uE (uM rfl rfl) rfl rfl ?_)|(refine uE (uA rfl rfl) rfl rfl ?_)|(refine uE (uQ rfl rfl rfl rfl) rfl rfl ?_)|(refine uE (EvF.not rfl rfl) rfl rfl ?_)|(refine uE (uF rfl rfl (te rfl) rfl (te rfl) (by decide)) rfl rfl ?_)|(refine uE (uL rfl rfl (uO (te rfl) rfl (qT _ (qH _)) rfl)) rfl rfl ?_)|(refine uE (uL rfl rfl (uW (te rfl) rfl (qH _) rfl)) rfl rfl ?_)|(refine uE (uL rfl rfl (uW (te rfl) rfl (qT _ (qH _)) rfl)) rfl rfl ?_)|(refine uE (uL rfl rfl (uW (te rfl) rfl (qT _ (qT _ (qH _))) rfl)) rfl rfl ?_)|(refine uE (uX rfl rfl rfl) rfl rfl ?_)|(refine Xg.st (StF.boxAgg rfl rfl) rfl rfl ?_;rintro _ _ ⟨bx,rfl,rfl⟩)|(refine Xg.st (StF.alloc rfl Tryz.zeroValue32 rfl) rfl rfl ?_;rintro _ _ ⟨bx,rfl,rfl⟩)|(refine Xg.st0 (StF.storeOne (i:=0) rfl rfl rfl rfl (te rfl) rfl rfl (Nat.le_of_ble_eq_true rfl)) rfl ?_;rintro _ _ ⟨rfl,rfl⟩;dsimp only [List.set])|(refine Xg.st0 (StF.storeAll (i:=0) rfl rfl rfl (te rfl) rfl rfl rfl rfl) rfl ?_;rintro _ _ ⟨rfl,rfl⟩;dsimp only [List.set])|(refine Xg.st0 (StF.storeAll (i:=1) rfl rfl rfl (te rfl) rfl rfl rfl rfl) rfl ?_;rintro _ _ ⟨rfl,rfl⟩;dsimp only [List.set])|(refine Xg.st0 (StF.storeAll (i:=3) rfl rfl rfl (te rfl) rfl rfl rfl rfl) rfl ?_;rintro _ _ ⟨rfl,rfl⟩;dsimp only [List.set])|(refine Xg.st0 (StF.storeAll (i:=4) rfl rfl rfl (te rfl) rfl rfl rfl rfl) rfl ?_;rintro _ _ ⟨rfl,rfl⟩;dsimp only [List.set])))))|(refine uD rfl ?_;refine hK _ _ ?_;clear hK K) | refine uS rfl ?_ | refine uR rfl (fun K hK=>?_) | refine X.skip rfl ?_ | refine X.ret rfl ?_ | (refine X.ite rfl rfl (fun hc=>?_);(first | (with_reducible refine Xb.caseN hc (fun h=>?_) (fun h=>?_))|(with_reducible refine Xb.caseB hc (fun h=>?_) (fun h=>?_))) <;> clear hc))
 any_goals (exfalso;first | omega | (cases h;done) | contradiction)
 ·exact ret_two (by simp) Tryz.results25 ⟨_,rfl,uW (te rfl) rfl (by repeat (first | exact qH _ | apply qT)) rfl⟩ rfl (H' := _) (qR _) (.inl hs)
 ·refine ret_two (by simp) Tryz.results25 ⟨_,rfl,uW (te rfl) rfl (by repeat (first | exact qH _ | apply qT)) rfl⟩ rfl (H' := [⟨t1,0,R.ages.flatMap cSp,some 24,k1 * 2⟩,⟨bc,0,(leftMt R.mats l).flatMap cMt,some 44,kc * 6⟩]++H) (by repeat (first | exact qR _ | apply qK | apply qC)) (.inr ⟨hs,⟨some ⟨t1,0,none⟩,k1,none,0,some ⟨bc,0,none⟩,kc⟩,_,?_,rfl,fun S=>?_⟩)
  ·rfl
  ·exact ⟨SlE.ofRow (l:=R.ages) (qH _) (fun _ _=>rfl),by show SlE _ none cBx 2 R.boxes;rw [hb0];exact sleNil,SlE.ofRow (l:=leftMt R.mats l) (by repeat (first | exact qH _ | apply qT)) (fun _ _=>rfl),Nat.le_trans h1 (by omega),Nat.le_trans h2 (by omega),by show (leftMt R.mats l).length ≤ _;omega⟩
def val1nn (b1 : Nat) (R : Rm) (d1 : Addr) (c1 : Nat) (c2 : Nat) (c3 : Nat) (k : Nat) (env : Env) : Value :=
 match k with
 | 0 => .pointer (some ⟨b1,2,none⟩)
 | 1 => .slice (some d1) R.ages.length c1
 | 2 => .slice (some ⟨(env 2).1,0,none⟩) R.ages.length (env 2).2
 | 3 => .pointer (some ⟨b1,3,none⟩)
 | 4 => .slice none 0 c2
 | 5 => .slice none 0 0
 | 6 => .pointer (some ⟨b1,4,none⟩)
 | 7 => .slice none 0 c3
 | 8 => .slice none 0 0
 | 9 => .pointer (some ⟨b1,2,none⟩)
 | 11 => .pointer (some ⟨b1,3,none⟩)
 | 13 => .pointer (some ⟨b1,4,none⟩)
 | _=>undef
def rows1nn (b1 b2 : Nat) (R : Rm) (d1 : Addr) (c1 : Nat) (c2 : Nat) (c3 : Nat) (k : Nat) (env : Env) : List Row :=
 match k with
 | 2=>[⟨(env 2).1,0,R.ages.flatMap cSp,some 24,(env 2).2 * 2⟩]
 | 10=>[⟨b1,0,[.int .i64 R.months,.int .i64 R.step,.slice (some ⟨(env 2).1,0,none⟩) R.ages.length (env 2).2,.slice none 0 c2,.slice none 0 c3],some 32,5⟩]
 | 12=>[⟨b1,0,[.int .i64 R.months,.int .i64 R.step,.slice (some ⟨(env 2).1,0,none⟩) R.ages.length (env 2).2,.slice none 0 0,.slice none 0 c3],some 32,5⟩]
 | 14=>[⟨b1,0,[.int .i64 R.months,.int .i64 R.step,.slice (some ⟨(env 2).1,0,none⟩) R.ages.length (env 2).2,.slice none 0 0,.slice none 0 0],some 32,5⟩]
 | 15=>[⟨b2,0,[.int .i64 0,.int .i64 0,.slice none 0 0,.slice none 0 0,.slice none 0 0],some 32,5⟩]
 | 16=>[⟨b1,0,[.int .i64 R.months,.int .i64 R.step,.slice (some d1) R.ages.length c1,.slice none 0 c2,.slice none 0 c3],some 32,5⟩]
 | _=>[]
theorem loc1nn (b1 b2 : Nat) (R : Rm) (d1 : Addr) (c1 : Nat) (c2 : Nat) (c3 : Nat) : ∀ k env i q9,i ≠ k → (tAt ts101 k).sup.contains i = false → val1nn b1 R d1 c1 c2 c3 k (upd env i q9)=val1nn b1 R d1 c1 c2 c3 k env∧rows1nn b1 b2 R d1 c1 c2 c3 k (upd env i q9)=rows1nn b1 b2 R d1 c1 c2 c3 k env:=by
 intro k env i q hk hs
 have hu : ∀ j,j ≠ i → upd env i q j = env j:=fun j hj=>by unfold upd;rw [if_neg hj]
 match k,hk,hs with
 | 0,_,_=>exact ⟨rfl,rfl⟩
 | 1,_,_=>exact ⟨rfl,rfl⟩
 | 2,hk,hs=>exact ⟨by simp only [val1nn,hu 2 (fun e=>hk e.symm)],by simp only [rows1nn,hu 2 (fun e=>hk e.symm)]⟩
 | 3,_,_=>exact ⟨rfl,rfl⟩
 | 4,_,_=>exact ⟨rfl,rfl⟩
 | 5,_,_=>exact ⟨rfl,rfl⟩
 | 6,_,_=>exact ⟨rfl,rfl⟩
 | 7,_,_=>exact ⟨rfl,rfl⟩
 | 8,_,_=>exact ⟨rfl,rfl⟩
 | 9,_,_=>exact ⟨rfl,rfl⟩
 | 10,hk,hs=>exact ⟨by simp only [val1nn,hu 2 (by rintro rfl;cases hs)],by simp only [rows1nn,hu 2 (by rintro rfl;cases hs)]⟩
 | 11,_,_=>exact ⟨rfl,rfl⟩
 | 12,hk,hs=>exact ⟨by simp only [val1nn,hu 2 (by rintro rfl;cases hs)],by simp only [rows1nn,hu 2 (by rintro rfl;cases hs)]⟩
 | 13,_,_=>exact ⟨rfl,rfl⟩
 | 14,hk,hs=>exact ⟨by simp only [val1nn,hu 2 (by rintro rfl;cases hs)],by simp only [rows1nn,hu 2 (by rintro rfl;cases hs)]⟩
 | 15,_,_=>exact ⟨rfl,rfl⟩
 | 16,_,_=>exact ⟨rfl,rfl⟩
 | _ + 17,_,_=>exact ⟨rfl,rfl⟩
set_option maxHeartbeats 4000000 in
theorem copiednn (R : Rm) (d1 : Addr) (c1 : Nat) (c2 : Nat) (c3 : Nat) (H : List Row) (hR : RmOk H R ⟨some d1,c1,none,c2,none,c3⟩) (hb0 : R.boxes = []) (hm0 : R.mats = []) (h1 : R.ages.length ≤ 1000000) (h2 : R.boxes.length ≤ 1000000) (h3 : R.mats.length ≤ 1000000) :
  Fc Tryz.prog 63 [.agg (cRm R ⟨some d1,c1,none,c2,none,c3⟩).toArray] H (fun v H' => ∃ t1 k1,v = .agg (cRm R ⟨some ⟨t1,0,none⟩,k1,none,0,none,0⟩).toArray∧H' = ⟨t1,0,R.ages.flatMap cSp,some 24,k1 * 2⟩::H):=by
 have hag:=hR.ages
 have hbx:=hR.boxes
 have hmt:=hR.mats
 obtain ⟨nb,hnb⟩ : ∃ n,n = R.boxes.length:=⟨_,rfl⟩
 obtain ⟨nm,hnm⟩ : ∃ n,n = R.mats.length:=⟨_,rfl⟩
 have hb1 : R.boxes.length = 0:=by rw [hb0];rfl
 have hm1 : R.mats.length = 0:=by rw [hm0];rfl
 unfold cRm
 dsimp only
 rw [hb1]
 rw [hm1]
 skip
 refine Fc.mk (callable Tryz.call63) Tryz.func63 rfl Tryz.ntmps63 rfl ?_;dsimp only [fr]
 refine uS rfl ?_;refine uR rfl (fun K hK=>?_);repeat' (first | (refine uP rfl ?_;(first | ((first | refine uN rfl ?_);(first | (refine Xg.st (StF.boxAgg rfl rfl) rfl rfl ?_;rintro _ _ ⟨bx,rfl,rfl⟩)|(refine Xg.st (StF.alloc rfl Tryz.zeroValue32 rfl) rfl rfl ?_;rintro _ _ ⟨bx,rfl,rfl⟩)))))|(refine uD rfl ?_;refine hK _ _ ?_;clear hK K))
 rename_i b1
 rename Nat=>b2
 refine uS rfl ?_
 refine X.regionRd ts101 rd101 [1,2] [(1,.pointer (some ⟨b1,0,none⟩)),(2,.pointer (some ⟨b2,0,none⟩))] (val1nn b1 R d1 c1 c2 c3) (rows1nn b1 b2 R d1 c1 c2 c3) (fun _=>(0,0)) H rfl mixed (by repeat (first | exact uU _ | refine uV rfl ?_)) rfl (by kernel_rfl) (by kernel_rfl) (loc1nn b1 b2 R d1 c1 c2 c3) (qR _) ?_ ?_
 ·repeat' (first | exact AllF.done rfl | (refine AllF.step rfl ?_ ?_;·(first | exact (Ob.ng rfl (ObK.pure (fun env R hR=>by exact ⟨_,uF rfl rfl (te rfl) rfl (te rfl) (by decide),rfl⟩) rfl (fun _=>rfl))).toR | (refine ObR.ng rfl ?_;(first | (exact fun env S hS hrd=>(StF.ofEv (uL rfl rfl (uO (te rfl) rfl (hrd 16 (qH _) _ (qH _)) rfl))).op.mono (fun v H' ⟨hv,hH⟩=>⟨(0,0),fun _=>hv,by rw [hH];exact List.Perm.refl _⟩))|(exact fun env S hS hrd=>(OpF.call (uT rfl (by (repeat (first | exact Args.nil | refine Args.cons rfl ?_));done)) (clone_specSp R.ages d1 c1 _ (hag.sub (fun r hr=>hS r hr)) h1)).mono (fun v H' ⟨b,k,hv,hH⟩=>⟨(b,k),fun _=>hv,by rw [hH];exact List.Perm.refl _⟩))|(exact fun env S hS hrd=>(OpF.call (uT rfl (by (repeat (first | exact Args.nil | refine Args.cons rfl ?_));done)) (cloneNilBx c2 _)).mono (fun v H' ⟨hv,hH⟩=>⟨(0,0),fun _=>hv,by rw [hH];exact List.Perm.refl _⟩))|(exact fun env S hS hrd=>(OpF.call (uT rfl (by (repeat (first | exact Args.nil | refine Args.cons rfl ?_));done)) (cloneNilMt c3 _)).mono (fun v H' ⟨hv,hH⟩=>⟨(0,0),fun _=>hv,by rw [hH];exact List.Perm.refl _⟩))|(exact fun env S hS hrd=>(StF.storeOne (i:=0) rfl rfl rfl rfl (te rfl) rfl rfl (Nat.le_of_ble_eq_true rfl)).op.mono (fun v H' ⟨hv,hH⟩=>⟨(0,0),fun h=>absurd rfl h,by rw [hH];exact List.Perm.refl _⟩)))))))
 ·intro env t ha hv
  refine ⟨[(1,.pointer (some ⟨b1,0,none⟩)),(2,.pointer (some ⟨b2,0,none⟩))],ha,?_⟩
  show X _ _ _ _ (⟨(env 2).1,0,R.ages.flatMap cSp,some 24,(env 2).2 * 2⟩::⟨b1,0,[.int .i64 R.months,.int .i64 R.step,.slice (some ⟨(env 2).1,0,none⟩) R.ages.length (env 2).2,.slice none 0 0,.slice none 0 0],some 32,5⟩::⟨b2,0,[.int .i64 0,.int .i64 0,.slice none 0 0,.slice none 0 0,.slice none 0 0],some 32,5⟩::H) _
  repeat' (first | (refine uP rfl ?_;(first | ((first | refine uN rfl ?_);(first | (refine uE (uL rfl rfl (uW (te rfl) rfl (qT _ (qH _)) rfl)) rfl rfl ?_)|(refine uE (uL rfl rfl (uW (te rfl) rfl (qT _ (qT _ (qH _))) rfl)) rfl rfl ?_)|(refine Xg.st0 (StF.storeAll (i:=2) rfl rfl rfl (te rfl) rfl rfl rfl rfl) rfl ?_;rintro _ _ ⟨rfl,rfl⟩;dsimp only [List.set])|(refine Xg.st0 (StF.storeAll (i:=3) rfl rfl rfl (te rfl) rfl rfl rfl rfl) rfl ?_;rintro _ _ ⟨rfl,rfl⟩;dsimp only [List.set])))))|(refine uD rfl ?_;refine hK _ _ ?_;clear hK K) | refine uS rfl ?_ | refine uR rfl (fun K hK=>?_) | refine X.ret rfl ?_)
  exact ret_one (.inr rfl) Tryz.results63 ⟨_,rfl,uW (te rfl) rfl (by repeat (first | exact qH _ | apply qT)) rfl⟩ (H' := ⟨(env 2).1,0,R.ages.flatMap cSp,some 24,(env 2).2 * 2⟩::H) (by repeat (first | exact qR _ | apply qK | apply qC)) ⟨_,_,rfl,rfl⟩
set_option maxHeartbeats 4000000 in
theorem strnn (R : Rm) (l : List Int) (al : Option Addr) (cl : Nat) (d1 : Addr) (c1 : Nat) (c2 : Nat) (c3 : Nat) (H : List Row) (hR : RmOk H R ⟨some d1,c1,none,c2,none,c3⟩) (hb0 : R.boxes = []) (hm0 : R.mats = []) (h1 : R.ages.length ≤ 1000000) (h2 : R.boxes.length ≤ 1000000) (h3 : R.mats.length ≤ 1000000) (hl : SlE H al cI 1 l) (hb : l.length ≤ 1000000) (hr : roomOk R) :
  Fc Tryz.prog 25 [.agg (cRm R ⟨some d1,c1,none,c2,none,c3⟩).toArray,.slice al l.length cl] H (fun v H' => (¬ strOk R.mats l)∨(strOk R.mats l ∧ ∃ p Z,v = .tuple #[.agg (cRm (strRm R l) p).toArray,.int .i64 0]∧H' = Z++H ∧ ∀ S,RmOk (Z++S) (strRm R l) p)):=by
 have hag:=hR.ages
 have hmt:=hR.mats
 have hlf : (leftMt R.mats l).length ≤ R.mats.length:=List.length_filter_le _ _
 have hb1 : R.boxes.length = 0:=by rw [hb0];rfl
 have hm1 : R.mats.length = 0:=by rw [hm0];rfl
 have hl0:=strOk_nil l
 rw [← hm0] at hl0
 refine Fc.mk (callable Tryz.call25) Tryz.func25 rfl Tryz.ntmps25 rfl ?_;dsimp only [fr]
 repeat' (first | (refine uP rfl ?_;(first | ((first | refine uN rfl ?_);(first | (refine uE (EvF.build (cs:=zR) rfl ArgsP.nil (te rfl) (Places.cons (te rfl) (Places.cons (te rfl) (Places.cons (te rfl) (Places.cons (te rfl) (Places.cons (te rfl) Places.nil))))) Tryz.zeroValue32 rfl) rfl rfl ?_)|(refine uC (uT rfl (by (repeat (first | exact Args.nil | refine Args.cons rfl ?_));done)) rfl rfl (check_spec R _ _ (hR.sub (fun _ h=>by repeat (first | exact h | apply qT)))) ?_;rintro _ H9 ⟨⟨hr9,rfl⟩ | ⟨hr9,rfl⟩,hH9⟩ <;> subst H9)|(refine uC (uT rfl (by (repeat (first | exact Args.nil | refine Args.cons rfl ?_));done)) rfl rfl (strikeL_nil R.mats hm0 c3 l al cl _ (hl.sub (fun _ h=>by repeat (first | exact h | apply qT))) hb) ?_;rintro _ H9 (⟨hs,rfl,hH9⟩ | ⟨hs,rfl,hH9⟩) <;> subst H9)|(refine uC (uT rfl (by (repeat (first | exact Args.nil | refine Args.cons rfl ?_));done)) rfl rfl (copiednn R d1 c1 c2 c3 _ (hR.sub (fun _ h=>by repeat (first | exact h | apply qT))) hb0 hm0 h1 h2 h3) ?_;rintro _ _ ⟨t1,k1,rfl,rfl⟩)|(refine uE (uM rfl rfl) rfl rfl ?_)|(refine uE (uA rfl rfl) rfl rfl ?_)|(refine uE (uQ rfl rfl rfl rfl) rfl rfl ?_)|(refine uE (EvF.not rfl rfl) rfl rfl ?_)|(refine uE (uF rfl rfl (te rfl) rfl (te rfl) (by decide)) rfl rfl ?_)|(refine uE (uL rfl rfl (uO (te rfl) rfl (qT _ (qH _)) rfl)) rfl rfl ?_)|(refine uE (uL rfl rfl (uW (te rfl) rfl (qH _) rfl)) rfl rfl ?_)|(refine uE (uL rfl rfl (uW (te rfl) rfl (qT _ (qH _)) rfl)) rfl rfl ?_)|(refine uE (uX rfl rfl rfl) rfl rfl ?_)|(refine Xg.st (StF.boxAgg rfl rfl) rfl rfl ?_;rintro _ _ ⟨bx,rfl,rfl⟩)|(refine Xg.st (StF.alloc rfl Tryz.zeroValue32 rfl) rfl rfl ?_;rintro _ _ ⟨bx,rfl,rfl⟩)|(refine Xg.st0 (StF.storeOne (i:=0) rfl rfl rfl rfl (te rfl) rfl rfl (Nat.le_of_ble_eq_true rfl)) rfl ?_;rintro _ _ ⟨rfl,rfl⟩;dsimp only [List.set])|(refine Xg.st0 (StF.storeAll (i:=0) rfl rfl rfl (te rfl) rfl rfl rfl rfl) rfl ?_;rintro _ _ ⟨rfl,rfl⟩;dsimp only [List.set])|(refine Xg.st0 (StF.storeAll (i:=2) rfl rfl rfl (te rfl) rfl rfl rfl rfl) rfl ?_;rintro _ _ ⟨rfl,rfl⟩;dsimp only [List.set])))))|(refine uD rfl ?_;refine hK _ _ ?_;clear hK K) | refine uS rfl ?_ | refine uR rfl (fun K hK=>?_) | refine X.skip rfl ?_ | refine X.ret rfl ?_ | (refine X.ite rfl rfl (fun hc=>?_);(first | (with_reducible refine Xb.caseN hc (fun h=>?_) (fun h=>?_))|(with_reducible refine Xb.caseB hc (fun h=>?_) (fun h=>?_))) <;> clear hc))
 any_goals (exfalso;first | omega | (cases h;done) | contradiction)
 ·exact ret_two (by simp) Tryz.results25 ⟨_,rfl,uW (te rfl) rfl (by repeat (first | exact qH _ | apply qT)) rfl⟩ rfl (H' := _) (qR _) (.inl hs)
 ·refine ret_two (by simp) Tryz.results25 ⟨_,rfl,uW (te rfl) rfl (by repeat (first | exact qH _ | apply qT)) rfl⟩ rfl (H' := [⟨t1,0,R.ages.flatMap cSp,some 24,k1 * 2⟩]++H) (by repeat (first | exact qR _ | apply qK | apply qC)) (.inr ⟨hs,⟨some ⟨t1,0,none⟩,k1,none,0,none,0⟩,_,?_,rfl,fun S=>?_⟩)
  ·have e : (strRm R l).mats.length = 0:=by show (leftMt R.mats l).length = 0;rw [hm0];rfl
   unfold cRm
   rw [e]
   rfl
  ·exact ⟨SlE.ofRow (l:=R.ages) (qH _) (fun _ _=>rfl),by show SlE _ none cBx 2 R.boxes;rw [hb0];exact sleNil,by show SlE _ none cMt 6 (leftMt R.mats l);rw [hm0];exact sleNil,Nat.le_trans h1 (by omega),Nat.le_trans h2 (by omega),by show (leftMt R.mats l).length ≤ _;omega⟩
end Go.Proofs.YtmfppdpkalelhaaGreat
end
section
set_option linter.unusedVariables false
namespace Go.Fw
open Go Go.RowKit
section
variable {P : Program} {H : List Row} {F : FS} {n : Nat} {o : Oper}
/-- what is shifted to the right, and what numbers have in common bit by bit -/
def shrW (k : IntKind) (p q : Int) : Int:=p.fdiv (2 ^ (min q.toNat k.bits))
def andW (k : IntKind) (p q : Int) : Int:=k.wrap ((BitVec.ofInt k.bits p &&& BitVec.ofInt k.bits q).toNat : Nat)
theorem EvF.shrQ {T T' : TypeId} {x y : Operand} {k k' : IntKind} {p q : Int} (h : o.op = .binOp .shr T x y T') (hx : evF F x = some (.int k p)) (hy : evF F y = some (.int k' q)) (h0 : 0 ≤ q) : EvF P n H F o (.int k (shrW k p q)):=by
 unfold EvF EvOp
 intro t ha B w0 w hS
 have h1 : ¬ q < 0:=by omega
 simp [execOp,h,ha.ev hx,ha.ev hy,eqGuard,binOp,Op.shift,h1,shrW]
theorem EvF.andQ {T T' : TypeId} {x y : Operand} {k : IntKind} {p q : Int} (h : o.op = .binOp .and T x y T') (hx : evF F x = some (.int k p)) (hy : evF F y = some (.int k q)) : EvF P n H F o (.int k (andW k p q)):=by
 unfold EvF EvOp
 intro t ha B w0 w hS
 simp [execOp,h,ha.ev hx,ha.ev hy,eqGuard,binOp,Op.intBits,andW]
end
end Go.Fw
end
section
set_option linter.unusedVariables false
set_option linter.unusedSimpArgs false
namespace Go.Proofs.YtmfppdpkalelhaaGreat
open Go Go.Fw
set_option maxRecDepth 10000
theorem num_snoc {l : List Mt} {k : Nat} {e : Mt} (he : l[k]? = some e) {s : List Int} (h : s.Sublist ((l.take k).map (·.number))) : (s++[e.number]).Sublist ((l.take (k + 1)).map (·.number))∧s.Sublist ((l.take (k + 1)).map (·.number)):=by
 rw [take_snoc he,List.map_append]
 exact ⟨List.Sublist.append h (qR _),h.trans (List.sublist_append_left _ _)⟩
end Go.Proofs.YtmfppdpkalelhaaGreat
end
section
set_option linter.unusedVariables false
set_option linter.unusedSimpArgs false
namespace Go.Proofs.YtmfppdpkalelhaaGreat
open Go Go.Fw
set_option maxRecDepth 10000
def tsKb0 : List TOp:=[⟨some 22,[],[],[]⟩,⟨some 23,[],[],[]⟩,⟨some 24,[0,1],[0,1],[]⟩,⟨some 25,[0,1,2],[2],[]⟩,⟨some 26,[],[],[]⟩,⟨some 27,[],[],[]⟩,⟨some 28,[4,5],[4,5],[]⟩,⟨some 29,[4,5,6],[6],[]⟩,⟨some 30,[0,1,2,3,4,5,6,7],[3,7],[]⟩]
def valKb0 (b1 o1 n1 c1 b3 o3 n3 c3 kk : Nat) (x y : Int) (k : Nat) (env : Env) : Value :=
 match k with
 | 0 => .slice (some ⟨b1,o1,none⟩) n1 c1
 | 1 => .int .i64 (kk : Nat)
 | 2 => .pointer (some ⟨b1,o1 + kk * 1,none⟩)
 | 3 => .int .i64 x
 | 4 => .slice (some ⟨b3,o3,none⟩) n3 c3
 | 5 => .int .i64 (kk : Nat)
 | 6 => .pointer (some ⟨b3,o3 + kk * 1,none⟩)
 | 7 => .int .i64 y
 | 8 => .bool false
 | _=>undef
def rowsKb0 (b1 o1 n1 c1 b3 o3 n3 c3 kk : Nat) (x y : Int) (k : Nat) (env : Env) : List Row :=
 match k with
 | _=>[]
theorem locKb0 (b1 o1 n1 c1 b3 o3 n3 c3 kk : Nat) (x y : Int) : ∀ k env i q9,i ≠ k → (tAt tsKb0 k).sup.contains i = false → valKb0 b1 o1 n1 c1 b3 o3 n3 c3 kk x y k (upd env i q9)=valKb0 b1 o1 n1 c1 b3 o3 n3 c3 kk x y k env∧rowsKb0 b1 o1 n1 c1 b3 o3 n3 c3 kk x y k (upd env i q9)=rowsKb0 b1 o1 n1 c1 b3 o3 n3 c3 kk x y k env:=by
 intro k env i q hk hs
 have hu : ∀ j,j ≠ i → upd env i q j = env j:=fun j hj=>by unfold upd;rw [if_neg hj]
 match k,hk,hs with
 | 0,_,_=>exact ⟨rfl,rfl⟩
 | 1,_,_=>exact ⟨rfl,rfl⟩
 | 2,_,_=>exact ⟨rfl,rfl⟩
 | 3,_,_=>exact ⟨rfl,rfl⟩
 | 4,_,_=>exact ⟨rfl,rfl⟩
 | 5,_,_=>exact ⟨rfl,rfl⟩
 | 6,_,_=>exact ⟨rfl,rfl⟩
 | 7,_,_=>exact ⟨rfl,rfl⟩
 | 8,_,_=>exact ⟨rfl,rfl⟩
 | _ + 9,_,_=>exact ⟨rfl,rfl⟩
def tsKb1 : List TOp:=[⟨some 22,[],[],[]⟩,⟨some 23,[],[],[]⟩,⟨some 24,[0,1],[0,1],[]⟩,⟨some 25,[0,1,2],[2],[]⟩,⟨some 26,[],[],[]⟩,⟨some 27,[],[],[]⟩,⟨some 28,[4,5],[4,5],[]⟩,⟨some 29,[4,5,6],[6],[]⟩,⟨some 30,[0,1,2,3,4,5,6,7],[3,7],[]⟩]
def valKb1 (b1 o1 n1 c1 b3 o3 n3 c3 kk : Nat) (x y : Int) (k : Nat) (env : Env) : Value :=
 match k with
 | 0 => .slice (some ⟨b1,o1,none⟩) n1 c1
 | 1 => .int .i64 (kk : Nat)
 | 2 => .pointer (some ⟨b1,o1 + kk * 1,none⟩)
 | 3 => .int .i64 x
 | 4 => .slice (some ⟨b3,o3,none⟩) n3 c3
 | 5 => .int .i64 (kk : Nat)
 | 6 => .pointer (some ⟨b3,o3 + kk * 1,none⟩)
 | 7 => .int .i64 y
 | 8 => .bool true
 | _=>undef
def rowsKb1 (b1 o1 n1 c1 b3 o3 n3 c3 kk : Nat) (x y : Int) (k : Nat) (env : Env) : List Row :=
 match k with
 | _=>[]
theorem locKb1 (b1 o1 n1 c1 b3 o3 n3 c3 kk : Nat) (x y : Int) : ∀ k env i q9,i ≠ k → (tAt tsKb1 k).sup.contains i = false → valKb1 b1 o1 n1 c1 b3 o3 n3 c3 kk x y k (upd env i q9)=valKb1 b1 o1 n1 c1 b3 o3 n3 c3 kk x y k env∧rowsKb1 b1 o1 n1 c1 b3 o3 n3 c3 kk x y k (upd env i q9)=rowsKb1 b1 o1 n1 c1 b3 o3 n3 c3 kk x y k env:=by
 intro k env i q hk hs
 have hu : ∀ j,j ≠ i → upd env i q j = env j:=fun j hj=>by unfold upd;rw [if_neg hj]
 match k,hk,hs with
 | 0,_,_=>exact ⟨rfl,rfl⟩
 | 1,_,_=>exact ⟨rfl,rfl⟩
 | 2,_,_=>exact ⟨rfl,rfl⟩
 | 3,_,_=>exact ⟨rfl,rfl⟩
 | 4,_,_=>exact ⟨rfl,rfl⟩
 | 5,_,_=>exact ⟨rfl,rfl⟩
 | 6,_,_=>exact ⟨rfl,rfl⟩
 | 7,_,_=>exact ⟨rfl,rfl⟩
 | 8,_,_=>exact ⟨rfl,rfl⟩
 | _ + 9,_,_=>exact ⟨rfl,rfl⟩
def tsKb7 : List TOp:=[⟨some 31,[],[],[]⟩,⟨some 32,[],[],[]⟩,⟨some 33,[0,1],[0,1],[]⟩,⟨some 34,[0,1,2],[2],[]⟩,⟨some 35,[],[],[]⟩,⟨some 36,[],[],[]⟩,⟨some 37,[4,5],[4,5],[]⟩,⟨some 38,[4,5,6],[6],[]⟩,⟨some 39,[0,1,2,3,4,5,6,7],[3,7],[]⟩,⟨some 4,[0,1,2,3,4,5,6,7,8],[8],[]⟩]
def valKb7 (b1 o1 n1 c1 b3 o3 n3 c3 kk : Nat) (x y : Int) (k : Nat) (env : Env) : Value :=
 match k with
 | 0 => .slice (some ⟨b1,o1,none⟩) n1 c1
 | 1 => .int .i64 (kk : Nat)
 | 2 => .pointer (some ⟨b1,o1 + kk * 1,none⟩)
 | 3 => .int .i64 x
 | 4 => .slice (some ⟨b3,o3,none⟩) n3 c3
 | 5 => .int .i64 (kk : Nat)
 | 6 => .pointer (some ⟨b3,o3 + kk * 1,none⟩)
 | 7 => .int .i64 y
 | 8 => .bool (decide (x < y))
 | 9 => .bool (decide (x < y))
 | _=>undef
def rowsKb7 (b1 o1 n1 c1 b3 o3 n3 c3 kk : Nat) (x y : Int) (k : Nat) (env : Env) : List Row :=
 match k with
 | _=>[]
theorem locKb7 (b1 o1 n1 c1 b3 o3 n3 c3 kk : Nat) (x y : Int) : ∀ k env i q9,i ≠ k → (tAt tsKb7 k).sup.contains i = false → valKb7 b1 o1 n1 c1 b3 o3 n3 c3 kk x y k (upd env i q9)=valKb7 b1 o1 n1 c1 b3 o3 n3 c3 kk x y k env∧rowsKb7 b1 o1 n1 c1 b3 o3 n3 c3 kk x y k (upd env i q9)=rowsKb7 b1 o1 n1 c1 b3 o3 n3 c3 kk x y k env:=by
 intro k env i q hk hs
 have hu : ∀ j,j ≠ i → upd env i q j = env j:=fun j hj=>by unfold upd;rw [if_neg hj]
 match k,hk,hs with
 | 0,_,_=>exact ⟨rfl,rfl⟩
 | 1,_,_=>exact ⟨rfl,rfl⟩
 | 2,_,_=>exact ⟨rfl,rfl⟩
 | 3,_,_=>exact ⟨rfl,rfl⟩
 | 4,_,_=>exact ⟨rfl,rfl⟩
 | 5,_,_=>exact ⟨rfl,rfl⟩
 | 6,_,_=>exact ⟨rfl,rfl⟩
 | 7,_,_=>exact ⟨rfl,rfl⟩
 | 8,_,_=>exact ⟨rfl,rfl⟩
 | 9,_,_=>exact ⟨rfl,rfl⟩
 | _ + 10,_,_=>exact ⟨rfl,rfl⟩
theorem lexB_drop {a b : List Int} {k : Nat} {x y : Int} (ha : a[k]? = some x) (hb : b[k]? = some y) : lexB (a.drop k) (b.drop k)=if x = y then lexB (a.drop (k + 1)) (b.drop (k + 1)) else decide (x < y):=by
 rw [drop_cons ha,drop_cons hb];rfl
set_option maxHeartbeats 8000000 in
theorem before_spec (a b : List Int) (aa ab : Option Addr) (ca cb : Nat) (H : List Row) (ha : SlE H aa cI 1 a) (hb : SlE H ab cI 1 b) (hla : a.length ≤ 1000000) (hlb : b.length ≤ 1000000) : Fc Tryz.prog 38 [.slice aa a.length ca,.slice ab b.length cb] H (fun v H' => v = .bool (befF a b)∧H' = H):=by
 by_cases hl : a.length = b.length
 ·have hl' : ((a.length : Nat) : Int)=(b.length : Int):=by omega
  have hF : befF a b = lexB (a.drop 0) (b.drop 0):=by unfold befF;rw [if_pos hl];rfl
  obtain ⟨w,hw⟩ : ∃ w,w = befF a b:=⟨_,rfl⟩
  rw [← hw] at hF ⊢
  refine Fc.mk (callable Tryz.call38) Tryz.func38 rfl Tryz.ntmps38 rfl ?_;dsimp only [fr]
  repeat' (first | (refine uP rfl ?_;(first | ((first | refine uN rfl ?_);(first | (refine uE (uQ (b:=false) rfl rfl rfl (congrArg some (nd_f hl'))) rfl rfl ?_)|(refine uE (EvF.lenSlice rfl rfl (te rfl)) rfl rfl ?_)|(refine uE (uM rfl rfl) rfl rfl ?_)|(refine uE (uA rfl rfl) rfl rfl ?_)))))|(refine uD rfl ?_;refine hK _ _ ?_;clear hK K) | refine uS rfl ?_ | refine uR rfl (fun K hK=>?_) | refine X.block rfl ?_ | refine X.skip rfl ?_ | (refine X.ite rfl rfl (fun hc=>?_);(first | (with_reducible refine Xb.f hc ?_)) <;> clear hc))
  all_goals try (exfalso;contradiction)
  refine X.lp rfl (fun q F' H' => ∃ k : Nat,q = a.length - k∧k ≤ a.length∧w = lexB (a.drop k) (b.drop k)∧H = H'∧F' = [(0,.slice aa a.length ca),(1,.slice ab b.length cb),(5,.int .i64 (k : Nat))])
   a.length [(0,.slice aa a.length ca),(1,.slice ab b.length cb),(5,.int .i64 (0 : Nat))] H (by repeat (first | exact uU _ | refine uV rfl ?_)) (qR _) ⟨0,rfl,by omega,hF,rfl,rfl⟩ ?_
  clear hw hF
  rintro _ _ _ ⟨k,rfl,hk,hw,rfl,rfl⟩
  by_cases hlt : k < a.length
  ·have hlt' : (k : Int)<(a.length : Int):=by omega
   obtain ⟨b1,o1,x,rfl,hx⟩:=ha.elem (i:=k) hlt
   obtain ⟨b3,o3,y,rfl,hy⟩:=hb.elem (i:=k) (by omega)
   rw [lexB_drop hx hy] at hw
   by_cases hxy : x = y
   ·rw [if_pos hxy] at hw
    repeat' (first | (refine uP rfl ?_;(first | ((first | refine uN rfl ?_);(first | (refine uE (uQ (b:=true) rfl rfl rfl (congrArg some (decide_eq_true hlt'))) rfl rfl ?_)|(refine uE (EvF.lenSlice rfl rfl (te rfl)) rfl rfl ?_)|(refine uE (uM rfl rfl) rfl rfl ?_)))))|(refine uD rfl ?_;refine hK _ _ ?_;clear hK K) | refine uS rfl ?_ | refine uR rfl (fun K hK=>?_) | refine X.block rfl ?_ | refine X.skip rfl ?_ | (refine X.ite rfl rfl (fun hc=>?_);(first | (with_reducible refine Xb.t hc ?_)) <;> clear hc))
    all_goals try (exfalso;contradiction)
    refine X.weak (F' := [(0,.slice (some ⟨b1,o1,none⟩) a.length ca),(1,.slice (some ⟨b3,o3,none⟩) b.length cb),(5,.int .i64 (k : Nat))]) (H' := H) (by repeat (first | exact uU _ | refine uV rfl ?_)) (by repeat (first | exact qR _ | apply qK | apply qC)) ?_
    refine X.regionOb tsKb0 [0,1,5] [(0,.slice (some ⟨b1,o1,none⟩) a.length ca),(1,.slice (some ⟨b3,o3,none⟩) b.length cb),(5,.int .i64 (k : Nat))] (valKb0 b1 o1 a.length ca b3 o3 b.length cb k x y) (rowsKb0 b1 o1 a.length ca b3 o3 b.length cb k x y) (fun _=>(0,0)) (H) rfl mixed (by repeat (first | exact uU _ | refine uV rfl ?_)) rfl (by kernel_rfl) (locKb0 b1 o1 a.length ca b3 o3 b.length cb k x y) (qR _) ?_ ?_
    ·repeat' (first | exact AllF.done rfl | (refine AllF.step rfl ?_ ?_;·(first | fail | ((first | refine Ob.ng rfl ?_);(first | exact ObK.pure (fun env R hR=>by exact ⟨_,uM rfl rfl,rfl⟩) rfl (fun _=>rfl)|((refine ObK.pure (fun env S hS=>⟨.pointer (some ⟨b1,o1 + k * 1,none⟩),?_,rfl⟩) rfl (fun _=>rfl);exact EvF.indexSlice (i:=(k : Int)) (off:=o1) (b:=b1) (T:=38) (e:=3) (len:=a.length) (ti:=⟨.int .i64,1,8⟩) rfl rfl rfl (te rfl) (te rfl) (by omega) (by omega)))|((refine ObK.pure (fun env S hS=>⟨.pointer (some ⟨b3,o3 + k * 1,none⟩),?_,rfl⟩) rfl (fun _=>rfl);exact EvF.indexSlice (i:=(k : Int)) (off:=o3) (b:=b3) (T:=38) (e:=3) (len:=b.length) (ti:=⟨.int .i64,1,8⟩) rfl rfl rfl (te rfl) (te rfl) (by omega) (by omega)))|(exact ObK.pure (fun env S hS=>⟨.int .i64 x,uL rfl rfl (LoadV.el0 (n:=k) (ha.sub hS) hx (te rfl) rfl (fun _ h=>h) rfl),rfl⟩) rfl (fun _=>rfl))|(exact ObK.pure (fun env S hS=>⟨.int .i64 y,uL rfl rfl (LoadV.el0 (n:=k) (hb.sub hS) hy (te rfl) rfl (fun _ h=>h) rfl),rfl⟩) rfl (fun _=>rfl))|(exact ObK.pure (fun env S hS=>⟨_,uQ (b:=false) rfl rfl rfl (congrArg some (nd_f hxy)),rfl⟩) rfl (fun _=>rfl)))))))
    ·intro env t ha2 hv;refine ⟨_,ha2.cons (hv 8 30 (Nat.le_of_ble_eq_true rfl) rfl),?_⟩;clear hv ha2
     repeat' (first | (refine uP rfl ?_;(first | ((first | refine uN rfl ?_);(first | (refine uE (EvF.add64 (p:=(k : Int)) (q:=1) rfl rfl rfl (by omega) (by omega)) rfl rfl ?_)|(refine uE (uM rfl rfl) rfl rfl ?_)|(refine uE (uA rfl rfl) rfl rfl ?_)))))|(refine uD rfl ?_;refine hK _ _ ?_;clear hK K) | refine uR rfl (fun K hK=>?_) | refine X.skip rfl ?_ | (refine X.ite rfl rfl (fun hc=>?_);(first | (with_reducible refine Xb.f hc ?_)) <;> clear hc))
     all_goals try (exfalso;contradiction)
     exact ⟨_,_,H,(by repeat (first | exact uU _ | refine uV rfl ?_)),(by repeat (first | exact qR _ | apply qK | apply qC)),⟨k + 1,rfl,by omega,hw,rfl,rfl⟩,by omega⟩
   ·rw [if_neg hxy] at hw
    repeat' (first | (refine uP rfl ?_;(first | ((first | refine uN rfl ?_);(first | (refine uE (uQ (b:=true) rfl rfl rfl (congrArg some (decide_eq_true hlt'))) rfl rfl ?_)|(refine uE (EvF.lenSlice rfl rfl (te rfl)) rfl rfl ?_)|(refine uE (uM rfl rfl) rfl rfl ?_)))))|(refine uD rfl ?_;refine hK _ _ ?_;clear hK K) | refine uS rfl ?_ | refine uR rfl (fun K hK=>?_) | refine X.block rfl ?_ | refine X.skip rfl ?_ | (refine X.ite rfl rfl (fun hc=>?_);(first | (with_reducible refine Xb.t hc ?_)) <;> clear hc))
    all_goals try (exfalso;contradiction)
    refine X.weak (F' := [(0,.slice (some ⟨b1,o1,none⟩) a.length ca),(1,.slice (some ⟨b3,o3,none⟩) b.length cb),(5,.int .i64 (k : Nat))]) (H' := H) (by repeat (first | exact uU _ | refine uV rfl ?_)) (by repeat (first | exact qR _ | apply qK | apply qC)) ?_
    refine X.regionOb tsKb1 [0,1,5] [(0,.slice (some ⟨b1,o1,none⟩) a.length ca),(1,.slice (some ⟨b3,o3,none⟩) b.length cb),(5,.int .i64 (k : Nat))] (valKb1 b1 o1 a.length ca b3 o3 b.length cb k x y) (rowsKb1 b1 o1 a.length ca b3 o3 b.length cb k x y) (fun _=>(0,0)) (H) rfl mixed (by repeat (first | exact uU _ | refine uV rfl ?_)) rfl (by kernel_rfl) (locKb1 b1 o1 a.length ca b3 o3 b.length cb k x y) (qR _) ?_ ?_
    ·repeat' (first | exact AllF.done rfl | (refine AllF.step rfl ?_ ?_;·(first | fail | ((first | refine Ob.ng rfl ?_);(first | exact ObK.pure (fun env R hR=>by exact ⟨_,uM rfl rfl,rfl⟩) rfl (fun _=>rfl)|((refine ObK.pure (fun env S hS=>⟨.pointer (some ⟨b1,o1 + k * 1,none⟩),?_,rfl⟩) rfl (fun _=>rfl);exact EvF.indexSlice (i:=(k : Int)) (off:=o1) (b:=b1) (T:=38) (e:=3) (len:=a.length) (ti:=⟨.int .i64,1,8⟩) rfl rfl rfl (te rfl) (te rfl) (by omega) (by omega)))|((refine ObK.pure (fun env S hS=>⟨.pointer (some ⟨b3,o3 + k * 1,none⟩),?_,rfl⟩) rfl (fun _=>rfl);exact EvF.indexSlice (i:=(k : Int)) (off:=o3) (b:=b3) (T:=38) (e:=3) (len:=b.length) (ti:=⟨.int .i64,1,8⟩) rfl rfl rfl (te rfl) (te rfl) (by omega) (by omega)))|(exact ObK.pure (fun env S hS=>⟨.int .i64 x,uL rfl rfl (LoadV.el0 (n:=k) (ha.sub hS) hx (te rfl) rfl (fun _ h=>h) rfl),rfl⟩) rfl (fun _=>rfl))|(exact ObK.pure (fun env S hS=>⟨.int .i64 y,uL rfl rfl (LoadV.el0 (n:=k) (hb.sub hS) hy (te rfl) rfl (fun _ h=>h) rfl),rfl⟩) rfl (fun _=>rfl))|(exact ObK.pure (fun env S hS=>⟨_,uQ (b:=true) rfl rfl rfl (congrArg some (nd_t hxy)),rfl⟩) rfl (fun _=>rfl)))))))
    ·intro env t ha2 hv;refine ⟨_,ha2.cons (hv 8 30 (Nat.le_of_ble_eq_true rfl) rfl),?_⟩;clear hv ha2
     repeat' (first | refine uS rfl ?_ | (refine X.ite rfl rfl (fun hc=>?_);(first | (with_reducible refine Xb.t hc ?_)) <;> clear hc))
     all_goals try (exfalso;contradiction)
     refine X.weak (F' := [(0,.slice (some ⟨b1,o1,none⟩) a.length ca),(1,.slice (some ⟨b3,o3,none⟩) b.length cb),(5,.int .i64 (k : Nat))]) (H' := H) (by repeat (first | exact uU _ | refine uV rfl ?_)) (by repeat (first | exact qR _ | apply qK | apply qC)) ?_
     refine X.regionOb tsKb7 [0,1,5] [(0,.slice (some ⟨b1,o1,none⟩) a.length ca),(1,.slice (some ⟨b3,o3,none⟩) b.length cb),(5,.int .i64 (k : Nat))] (valKb7 b1 o1 a.length ca b3 o3 b.length cb k x y) (rowsKb7 b1 o1 a.length ca b3 o3 b.length cb k x y) (fun _=>(0,0)) (H) rfl mixed (by repeat (first | exact uU _ | refine uV rfl ?_)) rfl (by kernel_rfl) (locKb7 b1 o1 a.length ca b3 o3 b.length cb k x y) (qR _) ?_ ?_
     ·repeat' (first | exact AllF.done rfl | (refine AllF.step rfl ?_ ?_;·(first | fail | ((first | refine Ob.ng rfl ?_);(first | exact ObK.pure (fun env R hR=>by exact ⟨_,uM rfl rfl,rfl⟩) rfl (fun _=>rfl) | exact ObK.pure (fun env R hR=>by exact ⟨_,uA rfl rfl,rfl⟩) rfl (fun _=>rfl) | exact ObK.pure (fun env R hR=>by exact ⟨_,uQ rfl rfl rfl rfl,rfl⟩) rfl (fun _=>rfl)|((refine ObK.pure (fun env S hS=>⟨.pointer (some ⟨b1,o1 + k * 1,none⟩),?_,rfl⟩) rfl (fun _=>rfl);exact EvF.indexSlice (i:=(k : Int)) (off:=o1) (b:=b1) (T:=38) (e:=3) (len:=a.length) (ti:=⟨.int .i64,1,8⟩) rfl rfl rfl (te rfl) (te rfl) (by omega) (by omega)))|((refine ObK.pure (fun env S hS=>⟨.pointer (some ⟨b3,o3 + k * 1,none⟩),?_,rfl⟩) rfl (fun _=>rfl);exact EvF.indexSlice (i:=(k : Int)) (off:=o3) (b:=b3) (T:=38) (e:=3) (len:=b.length) (ti:=⟨.int .i64,1,8⟩) rfl rfl rfl (te rfl) (te rfl) (by omega) (by omega)))|(exact ObK.pure (fun env S hS=>⟨.int .i64 x,uL rfl rfl (LoadV.el0 (n:=k) (ha.sub hS) hx (te rfl) rfl (fun _ h=>h) rfl),rfl⟩) rfl (fun _=>rfl))|(exact ObK.pure (fun env S hS=>⟨.int .i64 y,uL rfl rfl (LoadV.el0 (n:=k) (hb.sub hS) hy (te rfl) rfl (fun _ h=>h) rfl),rfl⟩) rfl (fun _=>rfl)))))))
     ·intro env t ha2 hv;refine ⟨_,ha2.cons (hv 9 4 (Nat.le_of_ble_eq_true rfl) rfl),?_⟩;clear hv ha2
      repeat' (first | refine X.ret rfl ?_)
      all_goals try (exfalso;contradiction)
      exact ret_one (by simp) Tryz.results38 rfl (H' := H) (by repeat (first | exact qR _ | apply qK | apply qC)) ⟨by rw [hw];rfl,rfl⟩
  ·have hlt' : ¬ (k : Int)<(a.length : Int):=by omega
   rw [List.drop_of_length_le (by omega : a.length ≤ k)] at hw
   repeat' (first | (refine uP rfl ?_;(first | ((first | refine uN rfl ?_);(first | (refine uE (uQ (b:=false) rfl rfl rfl (congrArg some (decide_eq_false hlt'))) rfl rfl ?_)|(refine uE (EvF.lenSlice rfl rfl (te rfl)) rfl rfl ?_)|(refine uE (uM rfl rfl) rfl rfl ?_)|(refine uE (uA rfl rfl) rfl rfl ?_)))))|(refine uD rfl ?_;refine hK _ _ ?_;clear hK K) | refine uS rfl ?_ | refine uR rfl (fun K hK=>?_)|(refine X.brk rfl ?_;repeat (first | refine blockX_hit rfl ?_ | refine blockX_miss (by decide) ?_)) | refine X.ret rfl ?_ | (refine X.ite rfl rfl (fun hc=>?_);(first | (with_reducible refine Xb.f hc ?_)) <;> clear hc))
   all_goals try (exfalso;contradiction)
   exact ret_one (by simp) Tryz.results38 rfl (H' := H) (by repeat (first | exact qR _ | apply qK | apply qC)) ⟨by rw [hw];rfl,rfl⟩
 ·have hl' : ¬ ((a.length : Nat) : Int)=(b.length : Int):=by omega
  have hF : befF a b = decide ((a.length : Int)<(b.length : Int)):=by
   unfold befF;rw [if_neg hl]
   exact decide_eq_decide.2 ⟨fun h=>by omega,fun h=>by omega⟩
  rw [hF]
  refine Fc.mk (callable Tryz.call38) Tryz.func38 rfl Tryz.ntmps38 rfl ?_;dsimp only [fr]
  repeat' (first | (refine uP rfl ?_;(first | ((first | refine uN rfl ?_);(first | (refine uE (uQ (b:=true) rfl rfl rfl (congrArg some (nd_t hl'))) rfl rfl ?_)|(refine uE (EvF.lenSlice rfl rfl (te rfl)) rfl rfl ?_)|(refine uE (uM rfl rfl) rfl rfl ?_)|(refine uE (uA rfl rfl) rfl rfl ?_)|(refine uE (uQ rfl rfl rfl rfl) rfl rfl ?_)))))|(refine uD rfl ?_;refine hK _ _ ?_;clear hK K) | refine uS rfl ?_ | refine uR rfl (fun K hK=>?_) | refine X.ret rfl ?_ | (refine X.ite rfl rfl (fun hc=>?_);(first | (with_reducible refine Xb.t hc ?_)) <;> clear hc))
  all_goals try (exfalso;contradiction)
  exact ret_one (by simp) Tryz.results38 rfl (H' := H) (by repeat (first | exact qR _ | apply qK | apply qC)) ⟨rfl,rfl⟩
end Go.Proofs.YtmfppdpkalelhaaGreat
end
section
set_option linter.unusedVariables false
set_option linter.unusedSimpArgs false
namespace Go.Proofs.YtmfppdpkalelhaaGreat
open Go Go.Fw
set_option maxRecDepth 10000
theorem rises_of : ∀ (l : List Int) (p : Int),l.Pairwise (·< ·) → (∀ x ∈ l,p < x) → rises p l
 | [],_,_,_=>trivial
 | x::t,p,h,h1=>⟨h1 x List.mem_cons_self,rises_of t x (List.pairwise_cons.1 h).2 (List.pairwise_cons.1 h).1⟩
theorem lastOf_le : ∀ (l : List Int) (p q : Int),p ≤ q → (∀ x ∈ l,x ≤ q) → lastOf p l ≤ q
 | [],_,_,h,_=>h
 | x::t,_,q,_,h1=>lastOf_le t x q (h1 x List.mem_cons_self) (fun y hy=>h1 y (List.mem_cons_of_mem _ hy))
theorem okMats_bd (R : Rm) : ∀ (l : List Mt) (p : Int),okMats R p l → ∀ x ∈ l,p < x.number∧x.number ≤ 9999∧matchOk R x
 | [],_,_,x,h=>absurd h List.not_mem_nil
 | y::l,p,h,x,hx=>by
  rcases List.mem_cons.1 hx with rfl | hx
  ·exact ⟨by have:=h.1;omega,h.2.1,h.2.2.1⟩
  ·have q:=okMats_bd R l y.number h.2.2.2 x hx
   have:=h.1
   exact ⟨by omega,q.2.1,q.2.2⟩
theorem okMats_sub {R R' : Rm} (hm : ∀ x,matchOk R x → matchOk R' x) {l l' : List Mt} (h : l'.Sublist l) : ∀ {p p' : Int},p' ≤ p → okMats R p l → okMats R' p' l' := by
 induction h with
 | slnil=>intro _ _ _ _;trivial
 | @cons r l a h ih =>
  intro p p' hp hk
  exact ih (by have:=hk.1;omega) hk.2.2.2
 | @cons_cons r l a h ih =>
  intro p p' hp hk
  exact ⟨by have:=hk.1;omega,hk.2.1,hm _ hk.2.2.1,ih (Int.le_refl _) hk.2.2.2⟩
theorem sub_mats {R : Rm} (hok : roomOk R) {s : List Int} (hs : s.Sublist (R.mats.map (·.number))) : ∃ M,M.Sublist R.mats∧s = M.map (·.number)∧inM R.mats s = M:=by
 obtain ⟨M,hM,rfl⟩:=List.sublist_map_iff.1 hs
 have hnd : (R.mats.map (·.number)).Nodup:=(okMats_num R R.mats 0 hok.2.2.2).2.imp (fun h e=>by omega)
 exact ⟨M,hM,rfl,filter_sub (fun x : Mt=>x.number) hM hnd⟩
theorem filter_two {α : Type} (q : α → Bool) : ∀ l : List α,(l.filter (fun x => !q x)).length + (l.filter q).length = l.length
 | []=>rfl
 | x::t=>by
  have:=filter_two q t
  cases h : q x
  ·rw [List.filter_cons_of_pos (by rw [h];rfl),List.filter_cons_of_neg (by rw [h];decide)]
   simp only [List.length_cons];omega
  ·rw [List.filter_cons_of_neg (by rw [h];decide),List.filter_cons_of_pos h]
   simp only [List.length_cons];omega
theorem strOk_sub {R : Rm} (hok : roomOk R) {s : List Int} (hs : s.Sublist (R.mats.map (·.number))) : strOk R.mats s:=by
 obtain ⟨M,hM,e,hin⟩:=sub_mats hok hs
 have hb:=okMats_bd R R.mats 0 hok.2.2.2
 have hp:=(okMats_num R R.mats 0 hok.2.2.2).2.sublist hs
 have hmem : ∀ x ∈ s,0 < x∧x ≤ 9999:=fun x hx=>by
  obtain ⟨m,hm,rfl⟩:=List.mem_map.1 (hs.subset hx)
  have:=hb m hm
  exact ⟨this.1,this.2.1⟩
 refine ⟨⟨rises_of s 0 hp (fun x hx=>(hmem x hx).1),lastOf_le s 0 9999 (by omega) (fun x hx=>(hmem x hx).2)⟩,?_⟩
 have h2:=filter_two (fun x : Mt=>decide (x.number ∈ s)) R.mats
 have h3 : (R.mats.filter (fun x=>decide (x.number ∈ s))).length = s.length:=by
  show (inM R.mats s).length = _
  rw [hin,e,List.length_map]
 rw [h3] at h2
 exact h2
theorem strRm_ok {R : Rm} (hok : roomOk R) (l : List Int) : roomOk (strRm R l):=by
 have hlf : (leftMt R.mats l).length ≤ R.mats.length:=List.length_filter_le _ _
 obtain ⟨⟨a1,a2,a3,a4,a5,a6,a7⟩,h2,h3,h4⟩:=hok
 exact ⟨⟨a1,a2,a3,a4,a5,a6,Nat.le_trans hlf a7⟩,h2,h3,okMats_sub (R:=R) (R' := strRm R l) (fun x h=>h) (List.filter_sublist (l:=R.mats)) (Int.le_refl _) h4⟩
set_option maxHeartbeats 1000000 in
theorem strG_spec (R : Rm) (p : Pl) (l : List Int) (al : Option Addr) (cl : Nat) (H : List Row) (hR : RmOk H R p) (hok : roomOk R) (hl : SlE H al cI 1 l) (hb : l.length ≤ 1000000) (hs : strOk R.mats l) :
  Fc Tryz.prog 25 [.agg (cRm R p).toArray,.slice al l.length cl] H (fun v H' => ∃ p' Z,v = .tuple #[.agg (cRm (strRm R l) p').toArray,.int .i64 0]∧H' = Z++H ∧ ∀ S,RmOk (Z++S) (strRm R l) p'):=by
 have hlf : (leftMt R.mats l).length ≤ R.mats.length:=List.length_filter_le _ _
 have hb4:=hok.ok.b4
 have hm8 : R.mats.length ≤ 8:=hok.1.2.2.2.2.2.2
 have ha12 : (R.ages.length : Int)=R.months:=hok.1.2.2.2.2.1
 have hm1:=hok.ok.m1
 have hm12:=hok.ok.m12
 obtain ⟨a1,c1,a2,c2,a3,c3⟩:=p
 obtain ⟨ba,oa,_,rfl,_⟩:=hR.ages.elem (i:=0) (by omega)
 have hfin : ∀ {v : Value} {H' : List Row},((¬ strOk R.mats l)∨(strOk R.mats l ∧ ∃ p Z,v = .tuple #[.agg (cRm (strRm R l) p).toArray,.int .i64 0]∧H' = Z++H ∧ ∀ S,RmOk (Z++S) (strRm R l) p)) → ∃ p' Z,v = .tuple #[.agg (cRm (strRm R l) p').toArray,.int .i64 0]∧H' = Z++H ∧ ∀ S,RmOk (Z++S) (strRm R l) p' := fun h=>by
  rcases h with h | ⟨_,h⟩
  ·exact absurd hs h
  ·exact h
 cases a2 with
 | none =>
  have hb0:=sleNone hR.boxes
  cases a3 with
  | none =>
   have hm0:=sleNone hR.mats
   exact (strnn R l al cl _ c1 c2 c3 H hR hb0 hm0 (by omega) (by omega) (by omega) hl hb hok).mono (fun v H' h=>hfin h)
  | some d3=>exact (strns R l al cl _ c1 c2 d3 c3 H hR hb0 (by omega) (by omega) (by omega) hl hb hok).mono (fun v H' h=>hfin h)
 | some d2 =>
  cases a3 with
  | none =>
   have hm0:=sleNone hR.mats
   exact (strsn R l al cl _ c1 d2 c2 c3 H hR hm0 (by omega) (by omega) (by omega) hl hb hok).mono (fun v H' h=>hfin h)
  | some d3 =>
   refine (strB_spec R l al cl _ c1 d2 c2 d3 c3 H hR (by omega) (by omega) (by omega) hl hb).mono (fun v H' h=>?_)
   have e : strF R l = (strRm R l,0):=by unfold strF;rw [if_pos hok,if_pos hs]
   unfold ProgR at h
   rw [e] at h
   obtain ⟨p,Z,h1,h2,h3⟩:=h
   refine ⟨p,Z,h1,h2,fun S=>?_⟩
   rcases h3 with ⟨h3,_,_⟩ | ⟨t1,k1,t2,k2,t3,k3,rfl,hp⟩
   ·have : R.months = 0:=congrArg Rm.months h3
    omega
   ·have hin : ∀ r ∈ [rAges (strRm R l) t1 k1,rBoxes (strRm R l) t2 k2,rMats (strRm R l) t3 k3],r ∈ Z++S:=fun r hr=>List.mem_append_left _ (hp.symm.subset hr)
    exact ⟨SlE.ofRow (l:=(strRm R l).ages) (hin _ List.mem_cons_self) (fun _ _=>rfl),SlE.ofRow (l:=(strRm R l).boxes) (hin _ (List.mem_cons_of_mem _ List.mem_cons_self)) (fun _ _=>rfl),SlE.ofRow (l:=(strRm R l).mats) (hin _ (List.mem_cons_of_mem _ (List.mem_cons_of_mem _ List.mem_cons_self))) (fun _ _=>rfl),by show R.ages.length ≤ _;omega,by show R.boxes.length ≤ _;omega,by show (leftMt R.mats l).length ≤ _;omega⟩
end Go.Proofs.YtmfppdpkalelhaaGreat
end
section
set_option linter.unusedVariables false
set_option linter.unusedSimpArgs false
namespace Go.Proofs.YtmfppdpkalelhaaGreat
open Go Go.Fw
set_option maxRecDepth 10000
def pr2 (p : Nat × Nat) : Nat:=(p.1 + p.2) * (p.1 + p.2) + p.1
theorem sq_lt {s s' a c : Nat} (ha : a ≤ s) (h : s * s + a = s' * s' + c) : ¬ s < s' := fun hs=>by
 have h1:=Nat.mul_le_mul (Nat.succ_le_of_lt hs) (Nat.succ_le_of_lt hs)
 have h2 : (s + 1) * (s + 1)=s * s + s + s + 1:=by rw [Nat.add_mul,Nat.mul_add];omega
 have h3 : s.succ * s.succ = (s + 1) * (s + 1):=rfl
 omega
theorem pr2_inj : ∀ {p q : Nat × Nat},pr2 p = pr2 q → p = q:=by
 rintro ⟨a,b⟩ ⟨c,d⟩ h
 unfold pr2 at h
 dsimp only at h
 have h1:=sq_lt (by omega) h
 have h2:=sq_lt (by omega) h.symm
 have h3 : a + b = c + d:=by omega
 rw [h3] at h
 have h4 : a = c:=by omega
 have h5 : b = d:=by omega
 rw [h4,h5]
open Classical in
noncomputable def un2 (n : Nat) : Nat × Nat:=if h : ∃ p,pr2 p = n then h.choose else (0,0)
theorem un2_pr2 (p : Nat × Nat) : un2 (pr2 p)=p:=by
 have h : ∃ q,pr2 q = pr2 p:=⟨p,rfl⟩
 unfold un2
 rw [dif_pos h]
 exact pr2_inj h.choose_spec
def enc6 (t1 k1 t2 k2 t3 k3 : Nat) : Nat × Nat:=(pr2 (t1,k1),pr2 (pr2 (t2,k2),pr2 (t3,k3)))
noncomputable def plQ (q : Nat × Nat) : Pl:=⟨some ⟨(un2 q.1).1,0,none⟩,(un2 q.1).2,some ⟨(un2 (un2 q.2).1).1,0,none⟩,(un2 (un2 q.2).1).2,some ⟨(un2 (un2 q.2).2).1,0,none⟩,(un2 (un2 q.2).2).2⟩
noncomputable def rowsQ (R : Rm) (q : Nat × Nat) : List Row:=[rAges R (un2 q.1).1 (un2 q.1).2,rBoxes R (un2 (un2 q.2).1).1 (un2 (un2 q.2).1).2,rMats R (un2 (un2 q.2).2).1 (un2 (un2 q.2).2).2]
theorem plQ_enc (t1 k1 t2 k2 t3 k3 : Nat) : plQ (enc6 t1 k1 t2 k2 t3 k3) = ⟨some ⟨t1,0,none⟩,k1,some ⟨t2,0,none⟩,k2,some ⟨t3,0,none⟩,k3⟩:=by
 unfold plQ enc6;simp only [un2_pr2]
theorem rowsQ_enc (R : Rm) (t1 k1 t2 k2 t3 k3 : Nat) : rowsQ R (enc6 t1 k1 t2 k2 t3 k3) = [rAges R t1 k1,rBoxes R t2 k2,rMats R t3 k3]:=by
 unfold rowsQ enc6;simp only [un2_pr2]
theorem rmQ (R : Rm) (q : Nat × Nat) (S : List Row) (hs : ∀ r ∈ rowsQ R q,r ∈ S) (h1 : R.ages.length ≤ 1000000) (h2 : R.boxes.length ≤ 1000000) (h3 : R.mats.length ≤ 1000000) : RmOk S R (plQ q) :=
 ⟨SlE.ofRow (l:=R.ages) (hs _ (qH _)) (fun _ _=>rfl),SlE.ofRow (l:=R.boxes) (hs _ (qT _ (qH _))) (fun _ _=>rfl),SlE.ofRow (l:=R.mats) (hs _ (qT _ (qT _ (qH _)))) (fun _ _=>rfl),Nat.le_trans h1 (by omega),Nat.le_trans h2 (by omega),Nat.le_trans h3 (by omega)⟩
end Go.Proofs.YtmfppdpkalelhaaGreat
end
section
set_option linter.unusedVariables false
set_option linter.unusedSimpArgs false
namespace Go.Proofs.YtmfppdpkalelhaaGreat
open Go Go.Fw
set_option maxRecDepth 10000
theorem tru_mono {R : Rm} {M M' : List Mt} {z : Pk → Int} (hs : ∀ x ∈ M,x ∈ M') (h : Tru R M' z) : Tru R M z:=⟨h.zero,h.age,h.step,fun x hx=>h.mat x (hs x hx)⟩
theorem rng_in {R : Rm} {M M' : List Mt} {a b : Pk} {s t : Sp} (h : ExR R M a b s) (g : ExR R M' a b t) (hs : ∀ x ∈ M,x ∈ M') : s.lo ≤ t.lo∧t.hi ≤ s.hi:=by
 obtain ⟨z1,q1,e1⟩:=g.lo
 obtain ⟨z2,q2,e2⟩:=g.hi
 have a1:=h.all z1 (tru_mono hs q1)
 have a2:=h.all z2 (tru_mono hs q2)
 omega
theorem sp_two {s t : Sp} (h1 : s.lo = t.lo) (h2 : s.hi = t.hi) : s = t:=by cases s;cases t;cases h1;cases h2;rfl
theorem has_sub {R : Rm} (h : hasT R R.mats) {M : List Mt} (hs : ∀ x ∈ M,x ∈ R.mats) : hasT R M:=by
 obtain ⟨z,hz⟩:=h
 exact ⟨z,tru_mono hs hz⟩
theorem out_sub (M : List Mt) (l : List Int) : ∀ x ∈ outM M l,x ∈ M:=fun x hx=>(List.mem_filter.1 hx).1
theorem in_sub (M : List Mt) (l : List Int) : ∀ x ∈ inM M l,x ∈ M:=fun x hx=>(List.mem_filter.1 hx).1
theorem ex_sub {R : Rm} (h : Rdy R) {M : List Mt} (hs : ∀ x ∈ M,x ∈ R.mats) {m a : Int} (hm : 0 ≤ m∧m ≤ R.months - 1) (ha : a ∈ thI R m) : ExR R M ⟨a,m⟩ zp (rng R M ⟨a,m⟩ zp) :=
 hasT_rng h.ok.ok (mats_sub h.ok.mats hs) (rdy_pl hm ha) (zp_mem R) (has_sub h.t hs)
theorem rdy_str {R : Rm} (h : Rdy R) (l : List Int) : Rdy (strRm R l):=by
 have hok:=strRm_ok h.ok l
 refine ⟨?_,hok,wM_has.2 (has_sub h.t (out_sub _ _))⟩
 unfold great
 have h1:=hok.ok.m12
 have h2:=hok.1.2.2.2.2.1
 have h3:=hok.ok.b4
 have h4:=hok.1.2.2.2.2.2.2
 omega
theorem str_yel {R : Rm} (h : Rdy R) (l : List Int) {m a : Int} (hm : 0 ≤ m∧m ≤ R.months - 1) (ha : a ∈ thI R m) : yelF (strRm R l) a m = (rng R (outM R.mats l) ⟨a,m⟩ zp,0):=by
 rw [rdy_yel (rdy_str h l) hm ha]
 have e : rng (strRm R l) (strRm R l).mats ⟨a,m⟩ zp = rng R (outM R.mats l) ⟨a,m⟩ zp:=wM_rng R (outM R.mats l) (outM R.mats l) ⟨a,m⟩ zp
 rw [e]
def restN (R : Rm) (l : List Int) : List Int:=(outM R.mats l).map (·.number)
theorem rest_subl (R : Rm) (l : List Int) : (restN R l).Sublist (R.mats.map (·.number)):=List.Sublist.map _ List.filter_sublist
theorem out_rest {R : Rm} (hok : roomOk R) (l : List Int) : outM R.mats (restN R l)=inM R.mats l:=by
 unfold outM inM
 refine List.filter_congr (fun x hx=>?_)
 by_cases hl : x.number ∈ l
 ·have : x.number ∉ restN R l:=fun q=>by
   obtain ⟨y,hy,e⟩:=List.mem_map.1 q
   obtain ⟨h1,h2⟩:=List.mem_filter.1 hy
   rw [e] at h2
   simp [hl] at h2
  simp [hl,this]
 ·have : x.number ∈ restN R l:=List.mem_map.2 ⟨x,List.mem_filter.2 ⟨hx,by simp [hl]⟩,rfl⟩
  simp [hl,this]
structure WhyF (R : Rm) (a m : Int) (l rs : List Int) : Prop where
 why : whyF R a m = (l,0)
 rst : rstF R a m = (rs,0)
 sub : l.Sublist (R.mats.map (·.number))
 prv : rng R (inM R.mats l) ⟨a,m⟩ zp = rng R R.mats ⟨a,m⟩ zp
 few : ∀ t,t.Sublist (R.mats.map (·.number)) → rng R (inM R.mats t) ⟨a,m⟩ zp = rng R R.mats ⟨a,m⟩ zp → befF t l = false
 all : ∀ n ∈ rs,n ∈ l
 each : ∀ x ∈ R.mats,(x.number ∈ rs ↔ rng R (outM R.mats [x.number]) ⟨a,m⟩ zp ≠ rng R R.mats ⟨a,m⟩ zp)
 rsub : rs.Sublist (R.mats.map (·.number))
theorem in_all (R : Rm) : inM R.mats (R.mats.map (·.number)) = R.mats:=by
 unfold inM
 exact List.filter_eq_self.2 (fun x hx=>decide_eq_true (List.mem_map.2 ⟨x,hx,rfl⟩))
open Classical in
theorem prvM_iff {R : Rm} {q : Pk} {s : Sp} {M : List Mt} : prvM R q s M = true ↔ rng R M q zp = s:=by
 unfold prvM
 exact decide_eq_true_iff
theorem why_facts {R : Rm} (h : Rdy R) {m a : Int} (hm : 0 ≤ m∧m ≤ R.months - 1) (ha : a ∈ thI R m) : ∃ l rs,WhyF R a m l rs:=by
 have ho : openE R [a] [m] = 0:=rdy_open h hm (fun x hx=>by rw [List.mem_singleton.1 hx];exact ha)
 have hf:=fewG_first (prvN R ⟨a,m⟩ (rng R R.mats ⟨a,m⟩ zp)) (R.mats.map (·.number)) (okMats_num R R.mats 0 h.ok.2.2.2).2 (R.mats.length + 1) 0
 have hrs : rstL R ⟨a,m⟩ R.mats = (R.mats.filter (fun x => !prvM R ⟨a,m⟩ (rng R R.mats ⟨a,m⟩ zp) (outM R.mats [x.number]))).map (·.number):=rfl
 have heach : ∀ x ∈ R.mats,(x.number ∈ rstL R ⟨a,m⟩ R.mats ↔ rng R (outM R.mats [x.number]) ⟨a,m⟩ zp ≠ rng R R.mats ⟨a,m⟩ zp):=fun x hx=>by
  rw [hrs]
  constructor
  ·intro q e
   obtain ⟨y,hy,e2⟩:=List.mem_map.1 q
   obtain ⟨h1,h2⟩:=List.mem_filter.1 hy
   rw [e2,prvM_iff.2 e] at h2
   cases h2
  ·intro q
   refine List.mem_map.2 ⟨x,List.mem_filter.2 ⟨hx,?_⟩,rfl⟩
   cases hc : prvM R ⟨a,m⟩ (rng R R.mats ⟨a,m⟩ zp) (outM R.mats [x.number]) with
   | false=>rfl
   | true=>exact absurd (prvM_iff.1 hc) q
 cases hc : fewG (prvN R ⟨a,m⟩ (rng R R.mats ⟨a,m⟩ zp)) (R.mats.map (·.number)) (R.mats.length + 1) 0 with
 | none =>
  have:=hf.2 hc (R.mats.map (·.number)) (qR _) (Nat.zero_le _) (by rw [List.length_map];omega)
  unfold prvN at this
  rw [in_all,prvM_iff.2 rfl] at this
  cases this
 | some l =>
  obtain ⟨h1,h2,h3,h4,h5⟩:=hf.1 l hc
  have hp : rng R (inM R.mats l) ⟨a,m⟩ zp = rng R R.mats ⟨a,m⟩ zp:=prvM_iff.1 h4
  refine ⟨l,rstL R ⟨a,m⟩ R.mats,?_,?_,h1,hp,fun t ht e=>h5 t ht (Nat.zero_le _) (prvM_iff.2 e),?_,heach,?_⟩
  ·unfold whyF whyL
   rw [if_pos ho,hc];rfl
  ·unfold rstF
   rw [if_pos ho]
  ·intro n hn
   obtain ⟨x,hx,rfl⟩ : ∃ x ∈ R.mats,x.number = n:=by
    rw [hrs] at hn
    obtain ⟨y,hy,e2⟩:=List.mem_map.1 hn
    exact ⟨y,(List.mem_filter.1 hy).1,e2⟩
   have q:=(heach x hx).1 hn
   refine Classical.byContradiction fun hnl=>q ?_
   have hio : ∀ y ∈ inM R.mats l,y ∈ outM R.mats [x.number]:=fun y hy=>by
    obtain ⟨g1,g2⟩:=List.mem_filter.1 hy
    refine List.mem_filter.2 ⟨g1,?_⟩
    have g3 : y.number ∈ l:=of_decide_eq_true g2
    have g4 : y.number ≠ x.number:=fun e=>hnl (e ▸ g3)
    simp [g4]
   have e1:=rng_in (ex_sub h (in_sub _ _) hm ha) (ex_sub h (out_sub R.mats [x.number]) hm ha) hio
   have e2:=rng_in (ex_sub h (out_sub R.mats [x.number]) hm ha) (rdy_exz h hm ha) (out_sub R.mats [x.number])
   rw [hp] at e1
   exact sp_two (by omega) (by omega)
  ·rw [hrs];exact List.Sublist.map _ List.filter_sublist
end Go.Proofs.YtmfppdpkalelhaaGreat
end
section
set_option linter.unusedVariables false
set_option linter.unusedSimpArgs false
namespace Go.Proofs.YtmfppdpkalelhaaGreat
open Go Go.Fw
set_option maxRecDepth 10000
set_option maxHeartbeats 4000000 in
theorem strsn2 (R : Rm) (l : List Int) (al : Option Addr) (cl : Nat) (d1 : Addr) (c1 : Nat) (d2 : Addr) (c2 : Nat) (c3 : Nat) (H : List Row) (hR : RmOk H R ⟨some d1,c1,some d2,c2,none,c3⟩) (hm0 : R.mats = []) (h1 : R.ages.length ≤ 1000000) (h2 : R.boxes.length ≤ 1000000) (h3 : R.mats.length ≤ 1000000) (hl : SlE H al cI 1 l) (hb : l.length ≤ 1000000) (hr : roomOk R) :
  Fc Tryz.prog 25 [.agg (cRm R ⟨some d1,c1,some d2,c2,none,c3⟩).toArray,.slice al l.length cl] H (fun v H' => (¬ strOk R.mats l)∨(strOk R.mats l ∧ ∃ t1 k1 t2 k2,v = .tuple #[.agg (cRm (strRm R l) ⟨some ⟨t1,0,none⟩,k1,some ⟨t2,0,none⟩,k2,none,0⟩).toArray,.int .i64 0]∧H' = [rAges R t1 k1,rBoxes R t2 k2]++H)):=by
 have hag:=hR.ages
 have hmt:=hR.mats
 have hlf : (leftMt R.mats l).length ≤ R.mats.length:=List.length_filter_le _ _
 have hm1 : R.mats.length = 0:=by rw [hm0];rfl
 have hl0:=strOk_nil l
 rw [← hm0] at hl0
 refine Fc.mk (callable Tryz.call25) Tryz.func25 rfl Tryz.ntmps25 rfl ?_;dsimp only [fr]
 repeat' (first | (refine uP rfl ?_;(first | ((first | refine uN rfl ?_);(first | (refine uE (EvF.build (cs:=zR) rfl ArgsP.nil (te rfl) (Places.cons (te rfl) (Places.cons (te rfl) (Places.cons (te rfl) (Places.cons (te rfl) (Places.cons (te rfl) Places.nil))))) Tryz.zeroValue32 rfl) rfl rfl ?_)|(refine uC (uT rfl (by (repeat (first | exact Args.nil | refine Args.cons rfl ?_));done)) rfl rfl (check_spec R _ _ (hR.sub (fun _ h=>by repeat (first | exact h | apply qT)))) ?_;rintro _ H9 ⟨⟨hr9,rfl⟩ | ⟨hr9,rfl⟩,hH9⟩ <;> subst H9)|(refine uC (uT rfl (by (repeat (first | exact Args.nil | refine Args.cons rfl ?_));done)) rfl rfl (strikeL_nil R.mats hm0 c3 l al cl _ (hl.sub (fun _ h=>by repeat (first | exact h | apply qT))) hb) ?_;rintro _ H9 (⟨hs,rfl,hH9⟩ | ⟨hs,rfl,hH9⟩) <;> subst H9)|(refine uC (uT rfl (by (repeat (first | exact Args.nil | refine Args.cons rfl ?_));done)) rfl rfl (copiedsn R d1 c1 d2 c2 c3 _ (hR.sub (fun _ h=>by repeat (first | exact h | apply qT))) hm0 h1 h2 h3) ?_;rintro _ _ ⟨t1,k1,t2,k2,rfl,rfl⟩)|(refine uE (uM rfl rfl) rfl rfl ?_)|(refine uE (uA rfl rfl) rfl rfl ?_)|(refine uE (uQ rfl rfl rfl rfl) rfl rfl ?_)|(refine uE (EvF.not rfl rfl) rfl rfl ?_)|(refine uE (uF rfl rfl (te rfl) rfl (te rfl) (by decide)) rfl rfl ?_)|(refine uE (uL rfl rfl (uO (te rfl) rfl (qT _ (qH _)) rfl)) rfl rfl ?_)|(refine uE (uL rfl rfl (uW (te rfl) rfl (qH _) rfl)) rfl rfl ?_)|(refine uE (uL rfl rfl (uW (te rfl) rfl (qT _ (qH _)) rfl)) rfl rfl ?_)|(refine uE (uX rfl rfl rfl) rfl rfl ?_)|(refine Xg.st (StF.boxAgg rfl rfl) rfl rfl ?_;rintro _ _ ⟨bx,rfl,rfl⟩)|(refine Xg.st (StF.alloc rfl Tryz.zeroValue32 rfl) rfl rfl ?_;rintro _ _ ⟨bx,rfl,rfl⟩)|(refine Xg.st0 (StF.storeOne (i:=0) rfl rfl rfl rfl (te rfl) rfl rfl (Nat.le_of_ble_eq_true rfl)) rfl ?_;rintro _ _ ⟨rfl,rfl⟩;dsimp only [List.set])|(refine Xg.st0 (StF.storeAll (i:=0) rfl rfl rfl (te rfl) rfl rfl rfl rfl) rfl ?_;rintro _ _ ⟨rfl,rfl⟩;dsimp only [List.set])|(refine Xg.st0 (StF.storeAll (i:=3) rfl rfl rfl (te rfl) rfl rfl rfl rfl) rfl ?_;rintro _ _ ⟨rfl,rfl⟩;dsimp only [List.set])))))|(refine uD rfl ?_;refine hK _ _ ?_;clear hK K) | refine uS rfl ?_ | refine uR rfl (fun K hK=>?_) | refine X.skip rfl ?_ | refine X.ret rfl ?_ | (refine X.ite rfl rfl (fun hc=>?_);(first | (with_reducible refine Xb.caseN hc (fun h=>?_) (fun h=>?_))|(with_reducible refine Xb.caseB hc (fun h=>?_) (fun h=>?_))) <;> clear hc))
 any_goals (exfalso;first | omega | (cases h;done) | contradiction)
 ·exact ret_two (by simp) Tryz.results25 ⟨_,rfl,uW (te rfl) rfl (by repeat (first | exact qH _ | apply qT)) rfl⟩ rfl (H' := _) (qR _) (.inl hs)
 ·refine ret_two (by simp) Tryz.results25 ⟨_,rfl,uW (te rfl) rfl (by repeat (first | exact qH _ | apply qT)) rfl⟩ rfl (H' := [⟨t1,0,R.ages.flatMap cSp,some 24,k1 * 2⟩,⟨t2,0,R.boxes.flatMap cBx,some 47,k2 * 2⟩]++H) (by repeat (first | exact qR _ | apply qK | apply qC)) (.inr ⟨hs,t1,k1,t2,k2,?_,rfl⟩)
  have e : (strRm R l).mats.length = 0:=by show (leftMt R.mats l).length = 0;rw [hm0];rfl
  unfold cRm
  rw [e]
  rfl
noncomputable def plS (nl : Bool) (q : Nat × Nat) : Pl:=if nl = true then ⟨some ⟨(un2 q.1).1,0,none⟩,(un2 q.1).2,some ⟨(un2 q.2).1,0,none⟩,(un2 q.2).2,none,0⟩ else plQ q
noncomputable def rowsS (nl : Bool) (R : Rm) (q : Nat × Nat) : List Row:=if nl = true then [rAges R (un2 q.1).1 (un2 q.1).2,rBoxes R (un2 q.2).1 (un2 q.2).2] else rowsQ R q
theorem rmS (nl : Bool) (R : Rm) (q : Nat × Nat) (S : List Row) (hn : nl = true → R.mats = []) (hs : ∀ r ∈ rowsS nl R q,r ∈ S) (h1 : R.ages.length ≤ 1000000) (h2 : R.boxes.length ≤ 1000000) (h3 : R.mats.length ≤ 1000000) : RmOk S R (plS nl q):=by
 cases nl with
 | true =>
  have h0:=hn rfl
  have hs : ∀ r ∈ [rAges R (un2 q.1).1 (un2 q.1).2,rBoxes R (un2 q.2).1 (un2 q.2).2],r ∈ S:=hs
  exact ⟨SlE.ofRow (l:=R.ages) (hs _ (qH _)) (fun _ _=>rfl),SlE.ofRow (l:=R.boxes) (hs _ (qT _ (qH _))) (fun _ _=>rfl),by show SlE S none cMt 6 R.mats;rw [h0];exact sleNil,Nat.le_trans h1 (by omega),Nat.le_trans h2 (by omega),Nat.le_trans h3 (by omega)⟩
 | false=>exact rmQ R q S hs h1 h2 h3
set_option maxHeartbeats 1000000 in
/-- Strike of a valid room that has boxes, its places as two numbers -/
theorem strS_spec (R : Rm) (p : Pl) (l : List Int) (al : Option Addr) (cl : Nat) (H : List Row) (hR : RmOk H R p) (hok : roomOk R) (hbx : 0 < R.boxes.length) (hl : SlE H al cI 1 l) (hb : l.length ≤ 1000000) (hs : strOk R.mats l) :
  Fc Tryz.prog 25 [.agg (cRm R p).toArray,.slice al l.length cl] H (fun v H' => ∃ q : Nat × Nat,v = .tuple #[.agg (cRm (strRm R l) (plS p.a3.isNone q)).toArray,.int .i64 0]∧H'.Perm (rowsS p.a3.isNone (strRm R l) q++H)):=by
 have hlf : (leftMt R.mats l).length ≤ R.mats.length:=List.length_filter_le _ _
 have hb4:=hok.ok.b4
 have hm8 : R.mats.length ≤ 8:=hok.1.2.2.2.2.2.2
 have ha12 : (R.ages.length : Int)=R.months:=hok.1.2.2.2.2.1
 have hm1:=hok.ok.m1
 have hm12:=hok.ok.m12
 obtain ⟨a1,c1,a2,c2,a3,c3⟩:=p
 obtain ⟨ba,oa,_,rfl,_⟩:=hR.ages.elem (i:=0) (by omega)
 obtain ⟨bb,ob,_,rfl,_⟩:=hR.boxes.elem (i:=0) hbx
 cases a3 with
 | none =>
  have hm0:=sleNone hR.mats
  refine (strsn2 R l al cl _ c1 _ c2 c3 H hR hm0 (by omega) (by omega) (by omega) hl hb hok).mono (fun v H' h=>?_)
  rcases h with h | ⟨_,t1,k1,t2,k2,h1,h2⟩
  ·exact absurd hs h
  ·refine ⟨(pr2 (t1,k1),pr2 (t2,k2)),?_,?_⟩
   ·rw [h1];unfold plS;simp only [Option.isNone_none,if_true,un2_pr2]
   ·rw [h2];unfold rowsS;simp only [Option.isNone_none,if_true,un2_pr2];exact List.Perm.refl _
 | some d3 =>
  refine (strB_spec R l al cl _ c1 _ c2 d3 c3 H hR (by omega) (by omega) (by omega) hl hb).mono (fun v H' h=>?_)
  have e : strF R l = (strRm R l,0):=by unfold strF;rw [if_pos hok,if_pos hs]
  unfold ProgR at h
  rw [e] at h
  obtain ⟨p,Z,h1,h2,h3⟩:=h
  rcases h3 with ⟨h3,_,_⟩ | ⟨t1,k1,t2,k2,t3,k3,rfl,hp⟩
  ·have : R.months = 0:=congrArg Rm.months h3
   omega
  ·refine ⟨enc6 t1 k1 t2 k2 t3 k3,?_,?_⟩
   ·unfold plS;simp only [Option.isNone_some,Bool.false_eq_true,if_false];rw [plQ_enc];exact h1
   ·unfold rowsS;simp only [Option.isNone_some,Bool.false_eq_true,if_false];rw [rowsQ_enc,h2];exact hp.append_right _
theorem restT_snoc {M : List Mt} {l : List Int} {k : Nat} {e : Mt} (he : M[k]? = some e) : (outM (M.take (k + 1)) l).map (·.number)=(outM (M.take k) l).map (·.number)++(if e.number ∈ l then [] else [e.number]):=by
 unfold outM
 rw [take_snoc he,List.filter_append,List.map_append]
 by_cases h : e.number ∈ l
 ·rw [if_pos h,List.filter_cons_of_neg (by simp [h])];rfl
 ·rw [if_neg h,List.filter_cons_of_pos (by simp [h])];rfl
set_option maxHeartbeats 8000000 in
theorem rest_spec (R : Rm) (p : Pl) (l : List Int) (al : Option Addr) (cl : Nat) (H : List Row) (hR : RmOk H R p) (hlm : R.mats.length ≤ 100) (hl : SlE H al cI 1 l) (hll : l.length ≤ 1000000) : Fc Tryz.prog 36 [.agg (cRm R p).toArray,.slice al l.length cl] H (fun v H' => ∃ Z,TrvI (restN R l) v Z∧H' = Z++H):=by
 refine Fc.mk (callable Tryz.call36) Tryz.func36 rfl Tryz.ntmps36 rfl ?_;dsimp only [fr]
 repeat' (first | (refine uP rfl ?_;(first | ((first | refine uN rfl ?_);(first | (refine uE (EvF.lenSlice rfl rfl (te rfl)) rfl rfl ?_)|(refine uE (uM rfl rfl) rfl rfl ?_)|(refine uE (uA rfl rfl) rfl rfl ?_)|(refine uE (uF rfl rfl (te rfl) rfl (te rfl) (by decide)) rfl rfl ?_)|(refine uE (uL rfl rfl (uO (te rfl) rfl (qH _) rfl)) rfl rfl ?_)|(refine Xg.st (StF.boxAgg rfl rfl) rfl rfl ?_;rintro _ _ ⟨bx,rfl,rfl⟩)))))|(refine uD rfl ?_;refine hK _ _ ?_;clear hK K) | refine uS rfl ?_ | refine uR rfl (fun K hK=>?_) | refine X.block rfl ?_)
 generalize bx = b2
 refine X.lp rfl (fun q F' H' => ∃ (k : Nat) (s : List Int) (out : Value) (Z : List Row),q = R.mats.length - k∧k ≤ R.mats.length∧s = (outM (R.mats.take k) l).map (·.number)∧((s = []∧out = .slice none 0 0∧Z = []) ∨ ∃ bn kn,out = .slice (some ⟨bn,0,none⟩) s.length kn∧Z = [⟨bn,0,s.flatMap cI,some 3,kn * 1⟩])∧Z++⟨b2,0,cRm R p,some 32,5⟩::H = H'∧F' = [(1,.slice al l.length cl),(2,.pointer (some ⟨b2,0,none⟩)),(5,out),(9,.slice p.a3 R.mats.length p.c3),(10,.int .i64 R.mats.length),(11,.int .i64 (k : Nat))])
  R.mats.length [(1,.slice al l.length cl),(2,.pointer (some ⟨b2,0,none⟩)),(5,.slice none 0 0),(9,.slice p.a3 R.mats.length p.c3),(10,.int .i64 R.mats.length),(11,.int .i64 (0 : Nat))] (⟨b2,0,cRm R p,some 32,5⟩::H) (by repeat (first | exact uU _ | refine uV rfl ?_)) (by repeat (first | exact qR _ | apply qK | apply qC)) ⟨0,[],_,[],rfl,by omega,rfl,.inl ⟨rfl,rfl,rfl⟩,rfl,rfl⟩ ?_
 rintro _ _ _ ⟨k,s,out,Z,rfl,hk,hs,hTz,rfl,rfl⟩
 have hsl : s.length ≤ k:=by
  rw [hs,List.length_map]
  refine Nat.le_trans (List.length_filter_le _ _) ?_
  rw [List.length_take];omega
 by_cases hlt : k < R.mats.length
 ·have hlt' : (k : Int)<(R.mats.length : Int):=by omega
  obtain ⟨G,hG⟩ : ∃ G : List Row,Z++⟨b2,0,cRm R p,some 32,5⟩::H = G:=⟨_,rfl⟩
  have hGR : RmOk G R p:=hR.sub (fun r h=>by rw [← hG];exact List.mem_append_right _ (qT _ h))
  have hlG : SlE G al cI 1 l:=hl.sub (fun r h=>by rw [← hG];exact List.mem_append_right _ (qT _ h))
  obtain ⟨bb,off,e,hq3,he⟩:=hR.mats.elem (i:=k) hlt
  have hsn:=restT_snoc (l:=l) he
  rw [← hs] at hsn
  rw [hG]
  have hGb:=hGR.mats
  rw [hq3] at hGb
  rw [hq3]
  have kh:=fun S hS=>lawHas l al cl e.number S hS (by omega)
  by_cases hbit : e.number ∈ l
  ·rw [if_pos hbit,List.append_nil] at hsn
   rw [decide_eq_true hbit] at kh
   repeat' (first | (refine uP rfl ?_;(first | ((first | refine uN rfl ?_);(first | (refine uE (uQ (b:=true) rfl rfl rfl (congrArg some (decide_eq_true hlt'))) rfl rfl ?_)|(refine uE (uL rfl rfl (LoadV.elA0 (hGb) he (te rfl) rfl (fun _ hm=>hm) rfl)) rfl rfl ?_)|(refine Xg.st (StF.alloc rfl Tryz.zeroValue44 rfl) rfl rfl ?_;rintro _ _ ⟨b7,rfl,rfl⟩)|(refine Xg.st0 (StF.storeAll (i:=0) (vs:=cMt e) rfl rfl rfl (te rfl) rfl rfl rfl rfl) rfl ?_;rintro _ _ ⟨rfl,rfl⟩;dsimp only [List.set])|(refine uE (uL rfl rfl (uO (te rfl) rfl (qH _) rfl)) rfl rfl ?_)|(refine uC (uT rfl (Args.cons rfl (Args.cons rfl Args.nil))) rfl rfl (kh _ (hlG.sub (fun _ h=>qT _ h))) ?_;rintro _ _ ⟨rfl,rfl⟩)|(refine uE (EvF.add64 (p:=(k : Int)) (q:=1) rfl rfl rfl (by omega) (by omega)) rfl rfl ?_)|(refine uE (uM rfl rfl) rfl rfl ?_)|(refine uE (EvF.not rfl rfl) rfl rfl ?_)|(refine uE (uF rfl rfl (te rfl) rfl (te rfl) (by decide)) rfl rfl ?_)|(refine uE (EvF.indexSlice rfl rfl rfl (te rfl) (te rfl) (by omega) (by omega)) rfl rfl ?_)))))|(refine uD rfl ?_;refine hK _ _ ?_;clear hK K) | refine uS rfl ?_ | refine uR rfl (fun K hK=>?_) | refine X.block rfl ?_ | refine X.skip rfl ?_ | (refine X.ite rfl rfl (fun hc=>?_);(first | (with_reducible refine Xb.t hc ?_)|(with_reducible refine Xb.caseB hc (fun h=>?_) (fun h=>?_))) <;> clear hc))
   all_goals try (exfalso;contradiction)
   exact ⟨_,_,G,(by repeat (first | exact uU _ | refine uV rfl ?_)),(by repeat (first | exact qR _ | apply qK | apply qC)),⟨k + 1,s,out,Z,rfl,by omega,hsn.symm,hTz,hG,rfl⟩,by omega⟩
  ·rw [if_neg hbit] at hsn
   rw [decide_eq_false hbit] at kh
   rcases hTz with ⟨rfl,rfl,rfl⟩ | ⟨bo,ko,rfl,rfl⟩
   ·rw [List.nil_append] at hG
    subst hG
    repeat' (first | (refine uP rfl ?_;(first | ((first | refine uN rfl ?_);(first | (refine uE (uQ (b:=true) rfl rfl rfl (congrArg some (decide_eq_true hlt'))) rfl rfl ?_)|(refine uE (uL rfl rfl (LoadV.elA0 (hGb) he (te rfl) rfl (fun _ hm=>hm) rfl)) rfl rfl ?_)|(refine Xg.st (StF.alloc rfl Tryz.zeroValue44 rfl) rfl rfl ?_;rintro _ _ ⟨b7,rfl,rfl⟩)|(refine Xg.st0 (StF.storeAll (i:=0) (vs:=cMt e) rfl rfl rfl (te rfl) rfl rfl rfl rfl) rfl ?_;rintro _ _ ⟨rfl,rfl⟩;dsimp only [List.set])|(refine uE (uL rfl rfl (uO (te rfl) rfl (qH _) rfl)) rfl rfl ?_)|(refine uC (uT rfl (Args.cons rfl (Args.cons rfl Args.nil))) rfl rfl (kh _ (hlG.sub (fun _ h=>qT _ h))) ?_;rintro _ _ ⟨rfl,rfl⟩)|(refine Xg.st (StF.buildOne (cs:=[.int .i64 e.number]) rfl el55 rfl rfl rfl (by decide) (by decide)) rfl rfl ?_;rintro _ _ ⟨bs,rfl,rfl⟩)|(refine Xg.st (StF.appendNew rfl el55 rfl rfl (by decide) rfl (Rd.own (qH _)) (by decide)) rfl rfl ?_;rintro _ _ ⟨bn,kn,rfl,rfl⟩)|(refine uE (EvF.add64 (p:=(k : Int)) (q:=1) rfl rfl rfl (by omega) (by omega)) rfl rfl ?_)|(refine uE (uM rfl rfl) rfl rfl ?_)|(refine uE (uA rfl rfl) rfl rfl ?_)|(refine uE (EvF.not rfl rfl) rfl rfl ?_)|(refine uE (uF rfl rfl (te rfl) rfl (te rfl) (by decide)) rfl rfl ?_)|(refine uE (EvF.indexSlice rfl rfl rfl (te rfl) (te rfl) (by omega) (by omega)) rfl rfl ?_)))))|(refine uD rfl ?_;refine hK _ _ ?_;clear hK K) | refine uS rfl ?_ | refine uR rfl (fun K hK=>?_) | refine X.block rfl ?_ | refine X.skip rfl ?_ | (refine X.ite rfl rfl (fun hc=>?_);(first | (with_reducible refine Xb.t hc ?_)|(with_reducible refine Xb.caseB hc (fun h=>?_) (fun h=>?_))) <;> clear hc))
    all_goals try (exfalso;contradiction)
    exact ⟨_,_,⟨bn,0,([]++[e.number]).flatMap cI,some 3,kn * 1⟩::⟨b2,0,cRm R p,some 32,5⟩::H,(by repeat (first | exact uU _ | refine uV rfl ?_)),(by repeat (first | exact qR _ | apply qK | apply qC)),⟨k + 1,[]++[e.number],.slice (some ⟨bn,0,none⟩) 1 kn,[_],rfl,by omega,hsn.symm,.inr ⟨bn,kn,rfl,rfl⟩,rfl,rfl⟩,by omega⟩
   ·simp only [List.cons_append,List.nil_append] at hG
    subst hG
    have hlen9 : (s.flatMap cI).length = s.length * 1:=lenI _
    repeat' (first | (refine uP rfl ?_;(first | ((first | refine uN rfl ?_);(first | (refine uE (uQ (b:=true) rfl rfl rfl (congrArg some (decide_eq_true hlt'))) rfl rfl ?_)|(refine uE (uL rfl rfl (LoadV.elA0 (hGb) he (te rfl) rfl (fun _ hm=>hm) rfl)) rfl rfl ?_)|(refine Xg.st (StF.alloc rfl Tryz.zeroValue44 rfl) rfl rfl ?_;rintro _ _ ⟨b7,rfl,rfl⟩)|(refine Xg.st0 (StF.storeAll (i:=0) (vs:=cMt e) rfl rfl rfl (te rfl) rfl rfl rfl rfl) rfl ?_;rintro _ _ ⟨rfl,rfl⟩;dsimp only [List.set])|(refine uE (uL rfl rfl (uO (te rfl) rfl (qH _) rfl)) rfl rfl ?_)|(refine uC (uT rfl (Args.cons rfl (Args.cons rfl Args.nil))) rfl rfl (kh _ (hlG.sub (fun _ h=>qT _ h))) ?_;rintro _ _ ⟨rfl,rfl⟩)|(refine Xg.st (StF.buildOne (cs:=[.int .i64 e.number]) rfl el55 rfl rfl rfl (by decide) (by decide)) rfl rfl ?_;rintro _ _ ⟨bs,rfl,rfl⟩)|(refine Xg.st (StF.appendOwn (i:=2) rfl el55 rfl rfl rfl hlen9 rfl (Rd.own (qH _)) rfl (by omega)) rfl rfl ?_;rintro _ _ ⟨bn,kn,rfl,rfl⟩;dsimp only [List.eraseIdx])|(refine uE (EvF.add64 (p:=(k : Int)) (q:=1) rfl rfl rfl (by omega) (by omega)) rfl rfl ?_)|(refine uE (uM rfl rfl) rfl rfl ?_)|(refine uE (uA rfl rfl) rfl rfl ?_)|(refine uE (EvF.not rfl rfl) rfl rfl ?_)|(refine uE (uF rfl rfl (te rfl) rfl (te rfl) (by decide)) rfl rfl ?_)|(refine uE (EvF.indexSlice rfl rfl rfl (te rfl) (te rfl) (by omega) (by omega)) rfl rfl ?_)))))|(refine uD rfl ?_;refine hK _ _ ?_;clear hK K) | refine uS rfl ?_ | refine uR rfl (fun K hK=>?_) | refine X.block rfl ?_ | refine X.skip rfl ?_ | (refine X.ite rfl rfl (fun hc=>?_);(first | (with_reducible refine Xb.t hc ?_)|(with_reducible refine Xb.caseB hc (fun h=>?_) (fun h=>?_))) <;> clear hc))
    all_goals try (exfalso;contradiction)
    refine ⟨_,[(1,.slice al l.length cl),(2,.pointer (some ⟨b2,0,none⟩)),(5,.slice (some ⟨bn,0,none⟩) (s.length + 1) kn),(9,.slice (some ⟨bb,off,none⟩) R.mats.length p.c3),(10,.int .i64 R.mats.length),(11,.int .i64 (k + 1 : Nat))],⟨bn,0,(s++[e.number]).flatMap cI,some 3,kn * 1⟩::⟨b2,0,cRm R p,some 32,5⟩::H,(by repeat (first | exact uU _ | refine uV rfl ?_)),?_,⟨k + 1,s++[e.number],.slice (some ⟨bn,0,none⟩) (s.length + 1) kn,[_],rfl,by omega,hsn.symm,.inr ⟨bn,kn,by rw [List.length_append];rfl,rfl⟩,rfl,rfl⟩,by omega⟩
    rw [List.flatMap_append]
    exact (by repeat (first | exact qR _ | apply qK | apply qC))
 ·obtain rfl : k = R.mats.length:=by omega
  have hlt' : ¬ (R.mats.length : Int)<(R.mats.length : Int):=by omega
  rw [List.take_length] at hs
  repeat' (first | (refine uP rfl ?_;(first | ((first | refine uN rfl ?_);(first | (refine uE (uQ (b:=false) rfl rfl rfl (congrArg some (decide_eq_false hlt'))) rfl rfl ?_)|(refine uE (uM rfl rfl) rfl rfl ?_)|(refine uE (uA rfl rfl) rfl rfl ?_)))))|(refine uD rfl ?_;refine hK _ _ ?_;clear hK K) | refine uS rfl ?_ | refine uR rfl (fun K hK=>?_)|(refine X.brk rfl ?_;repeat (first | refine blockX_hit rfl ?_ | refine blockX_miss (by decide) ?_)) | refine X.ret rfl ?_ | (refine X.ite rfl rfl (fun hc=>?_);(first | (with_reducible refine Xb.f hc ?_)) <;> clear hc))
  all_goals try (exfalso;contradiction)
  have hs' : restN R l = s:=hs.symm
  rw [hs']
  rcases hTz with ⟨rfl,rfl,rfl⟩ | ⟨bo,ko,rfl,rfl⟩
  ·exact ret_one (by simp) Tryz.results36 rfl (H' := H) (by repeat (first | exact qR _ | apply qK | apply qC)) ⟨[],.inl ⟨rfl,rfl,rfl⟩,rfl⟩
  ·exact ret_one (by simp) Tryz.results36 rfl (H' := [⟨bo,0,s.flatMap cI,some 3,ko * 1⟩]++H) (by repeat (first | exact qR _ | apply qK | apply qC)) ⟨[_],.inr ⟨bo,ko,rfl,rfl⟩,rfl⟩
end Go.Proofs.YtmfppdpkalelhaaGreat
end
section
set_option linter.unusedVariables false
set_option linter.unusedSimpArgs false
namespace Go.Proofs.YtmfppdpkalelhaaGreat
open Go Go.Fw
set_option maxRecDepth 10000
theorem eqSpN {s t : Sp} (h : s ≠ t) (w : World) : (Op.equalIn 10000 24 (.agg (cSp s).toArray) (.agg (cSp t).toArray)).run Tryz.prog w = .ok false w:=by
 rw [show (10000 : Nat)=9998 + 2 from rfl,eqSp 9998 s t w,decide_eq_false h]
theorem eqSpY (s : Sp) (w : World) : (Op.equalIn 10000 24 (.agg (cSp s).toArray) (.agg (cSp s).toArray)).run Tryz.prog w = .ok true w:=by
 rw [show (10000 : Nat)=9998 + 2 from rfl,eqSp 9998 s s w,decide_eq_true rfl]
theorem eqSpW {s t : Sp} {q : Bool} (h : q = true ↔ s = t) (w : World) : (Op.equalIn 10000 24 (.agg (cSp s).toArray) (.agg (cSp t).toArray)).run Tryz.prog w = .ok q w:=by
 cases q with
 | true=>rw [← h.1 rfl];exact eqSpY s w
 | false=>exact eqSpN (fun e=>by have:=h.2 e;cases this) w
set_option maxHeartbeats 8000000 in
theorem why_r33 (RX : Rm) (pX : Pl) (x : Bx) (m : Int) (s t tS : Sp) (b10 b12 b18 b19 : Nat) (G : List Row) (h10 : (⟨b10,0,cBx x,some 47,2⟩ : Row) ∈ G) (h12 : (⟨b12,0,cSp s,some 24,2⟩ : Row) ∈ G) (h18 : (⟨b18,0,cRm RX pX,some 32,5⟩ : Row) ∈ G) (hX : RmOk G RX pX) (hlx : RX.boxes.length ≤ 1000000) (hy : yelF RX x.id m = (t,0)) (hne : s ≠ t) (F : FS) (hF : Sub [(9,.bool true),(10,.pointer (some ⟨b10,0,none⟩)),(11,.int .i64 m),(12,.pointer (some ⟨b12,0,none⟩)),(13,.int .i64 0),(18,.pointer (some ⟨b18,0,none⟩)),(19,.pointer (some ⟨b19,0,none⟩))] F) :
  X Tryz.prog 215 (csnd (csnd (csnd (csnd (csnd (csnd (csnd (csnd (csnd (csnd (csnd (csnd (csnd (csnd (csnd (csnd (csnd (cof Tryz.f6)))))))))))))))))) F (⟨b19,0,cSp tS,some 24,2⟩::G) (retX Tryz.prog Tryz.f6 (fun v _=>v = .bool true)):=by
 have ky:=fun S hS=>kYellow_spec RX pX x.id m S hS hlx
 rw [hy] at ky
 clear hy
 have hse:=eqSpN hne
 refine X.weak hF (qR _) ?_
 repeat' (first | (refine uP rfl ?_;(first | ((first | refine uN rfl ?_ | (refine Xo.g rfl rfl ?_;with_reducible refine Xw.tt ?_));(first | (refine uE (uX rfl rfl rfl) rfl rfl ?_)|(refine uE (uL rfl rfl (uW (T:=32) (cs:=cRm RX pX) (te rfl) rfl (qT _ h18) rfl)) rfl rfl ?_)|(refine uE (uL rfl rfl (uO (te rfl) rfl (qT _ h10) rfl)) rfl rfl ?_)|(refine uC (uT rfl (Args.cons rfl (Args.cons rfl (Args.cons rfl Args.nil)))) rfl rfl (ky _ (hX.sub (fun _ h=>qT _ h))) ?_;rintro _ _ ⟨rfl,rfl⟩)|(refine Xg.st0 (StF.storeAll (i:=0) (vs:=cSp t) rfl rfl rfl (te rfl) rfl rfl rfl rfl) rfl ?_;rintro _ _ ⟨rfl,rfl⟩;dsimp only [List.set])|(refine uE (uQ (b:=true) rfl rfl rfl (congrArg some (decide_eq_true (Eq.refl (0 : Int))))) rfl rfl ?_)|(refine uE (uL rfl rfl (uW (T:=24) (cs:=cSp t) (te rfl) rfl (qH _) rfl)) rfl rfl ?_)|(refine uE (uL rfl rfl (uW (T:=24) (cs:=cSp s) (te rfl) rfl (qT _ h12) rfl)) rfl rfl ?_)|(refine uE (EvF.eqSt (r:=false) (b:=true) rfl rfl rfl (by kernel_rfl) (fun w=>hse w) rfl) rfl rfl ?_)|(refine uE (uM rfl rfl) rfl rfl ?_)|(refine uE (uA rfl rfl) rfl rfl ?_)|(refine uE (EvF.pickT rfl rfl rfl) rfl rfl ?_)|(refine uE (uF rfl rfl (te rfl) rfl (te rfl) (by decide)) rfl rfl ?_)))))|(refine uD rfl ?_;refine hK _ _ ?_;clear hK K) | refine uS rfl ?_ | refine uR rfl (fun K hK=>?_) | refine X.ret rfl ?_)
 all_goals try (exfalso;contradiction)
 exact ret_one (by simp) Tryz.results6 rfl (H' := _) (qR _) rfl
def tsKw2 : List TOp:=[⟨some 186,[],[],[]⟩,⟨some 187,[],[],[]⟩,⟨some 188,[],[],[]⟩,⟨some 189,[1,2],[1,2],[]⟩,⟨some 190,[0,1,2,3],[0,3],[]⟩,⟨some 185,[0,1,2,3,4],[4],[]⟩,⟨some 191,[0,1,2,3,4,5],[5],[]⟩,⟨some 192,[0,1,2,3,4,5],[5],[]⟩,⟨none,[0,1,2,3,4,5,6],[6],[10]⟩,⟨some 13,[0,1,2,3,4,5,6,7,8],[7],[]⟩,⟨none,[],[],[]⟩]
noncomputable def valKw2 (b4 b10 b12 b18 b19 : Nat) (m : Int) (R RS : Rm) (p pS : Pl) (o : List Int) (ao : Option Addr) (co : Nat) (L : List Int) (nl : Bool) (nv : Nat × Nat → Value) (rn : Nat × Nat → List Row) (k : Nat) (env : Env) : Value :=
 match k with
 | 0 => .agg (cRm R p).toArray
 | 1 => .agg (cRm R p).toArray
 | 2 => .slice ao o.length co
 | 3=>nv (env 3)
 | 4 => .tuple #[.agg (cRm (strRm R L) (plS nl (env 4))).toArray,.int .i64 0]
 | 5 => .tuple #[.agg (cRm (strRm R L) (plS nl (env 4))).toArray,.int .i64 0]
 | 6 => .agg (cRm (strRm R L) (plS nl (env 4))).toArray
 | 7 => .int .i64 0
 | 8=>undef
 | 9 => .int .i64 0
 | _=>undef
noncomputable def rowsKw2 (b4 b10 b12 b18 b19 : Nat) (m : Int) (R RS : Rm) (p pS : Pl) (o : List Int) (ao : Option Addr) (co : Nat) (L : List Int) (nl : Bool) (nv : Nat × Nat → Value) (rn : Nat × Nat → List Row) (k : Nat) (env : Env) : List Row :=
 match k with
 | 3=>rn (env 3)
 | 4=>rowsS nl (strRm R L) (env 4)
 | 8=>[⟨b18,0,cRm (strRm R L) (plS nl (env 4)),some 32,5⟩]
 | 10=>[⟨b18,0,cRm RS pS,some 32,5⟩]
 | _=>[]
theorem locKw2 (b4 b10 b12 b18 b19 : Nat) (m : Int) (R RS : Rm) (p pS : Pl) (o : List Int) (ao : Option Addr) (co : Nat) (L : List Int) (nl : Bool) (nv : Nat × Nat → Value) (rn : Nat × Nat → List Row) : ∀ k env i q9,i ≠ k → (tAt tsKw2 k).sup.contains i = false → valKw2 b4 b10 b12 b18 b19 m R RS p pS o ao co L nl nv rn k (upd env i q9)=valKw2 b4 b10 b12 b18 b19 m R RS p pS o ao co L nl nv rn k env∧rowsKw2 b4 b10 b12 b18 b19 m R RS p pS o ao co L nl nv rn k (upd env i q9)=rowsKw2 b4 b10 b12 b18 b19 m R RS p pS o ao co L nl nv rn k env:=by
 intro k env i q hk hs
 have hu : ∀ j,j ≠ i → upd env i q j = env j:=fun j hj=>by unfold upd;rw [if_neg hj]
 match k,hk,hs with
 | 0,_,_=>exact ⟨rfl,rfl⟩
 | 1,_,_=>exact ⟨rfl,rfl⟩
 | 2,_,_=>exact ⟨rfl,rfl⟩
 | 3,hk,hs=>exact ⟨by simp only [valKw2,hu 3 (fun e=>hk e.symm)],by simp only [rowsKw2,hu 3 (fun e=>hk e.symm)]⟩
 | 4,hk,hs=>exact ⟨by simp only [valKw2,hu 4 (fun e=>hk e.symm)],by simp only [rowsKw2,hu 4 (fun e=>hk e.symm)]⟩
 | 5,hk,hs=>exact ⟨by simp only [valKw2,hu 4 (by rintro rfl;cases hs)],by simp only [rowsKw2,hu 4 (by rintro rfl;cases hs)]⟩
 | 6,hk,hs=>exact ⟨by simp only [valKw2,hu 4 (by rintro rfl;cases hs)],by simp only [rowsKw2,hu 4 (by rintro rfl;cases hs)]⟩
 | 7,_,_=>exact ⟨rfl,rfl⟩
 | 8,hk,hs=>exact ⟨by simp only [valKw2,hu 4 (by rintro rfl;cases hs)],by simp only [rowsKw2,hu 4 (by rintro rfl;cases hs)]⟩
 | 9,_,_=>exact ⟨rfl,rfl⟩
 | 10,_,_=>exact ⟨rfl,rfl⟩
 | _ + 11,_,_=>exact ⟨rfl,rfl⟩
def rdKw2 (k : Nat) : List Nat:=match k with
 | 4=>[3]
 | _=>[]
set_option maxHeartbeats 8000000 in
theorem why_r32 (R RS : Rm) (p pS : Pl) (x : Bx) (m : Int) (s t9 tS : Sp) (o : List Int) (ao : Option Addr) (co : Nat) (b4 b10 b12 b18 b19 : Nat) (G : List Row) (h : Rdy R) (hbx : 0 < R.boxes.length) (h4 : (⟨b4,0,cRm R p,some 32,5⟩ : Row) ∈ G) (h10 : (⟨b10,0,cBx x,some 47,2⟩ : Row) ∈ G) (h12 : (⟨b12,0,cSp s,some 24,2⟩ : Row) ∈ G) (hR : RmOk G R p) (ho : SlE G ao cI 1 o) (hol : o.length ≤ 1000) (hy : yelF (strRm R (restN R o)) x.id m = (t9,0)) (hne : s ≠ t9) (F : FS) (hF : Sub [(4,.pointer (some ⟨b4,0,none⟩)),(9,.bool true),(10,.pointer (some ⟨b10,0,none⟩)),(11,.int .i64 m),(12,.pointer (some ⟨b12,0,none⟩)),(18,.pointer (some ⟨b18,0,none⟩)),(19,.pointer (some ⟨b19,0,none⟩)),(28,.slice ao o.length co)] F) :
  X Tryz.prog 215 (csnd (csnd (csnd (csnd (csnd (csnd (csnd (csnd (csnd (csnd (csnd (csnd (csnd (csnd (csnd (csnd (cof Tryz.f6))))))))))))))))) F (⟨b19,0,cSp tS,some 24,2⟩::⟨b18,0,cRm RS pS,some 32,5⟩::G) (retX Tryz.prog Tryz.f6 (fun v _=>v = .bool true)):=by
 have hlb4:=h.ok.ok.b4
 have hm12:=h.ok.ok.m12
 have ha12 : (R.ages.length : Int)=R.months:=h.ok.1.2.2.2.2.1
 have hlm : R.mats.length ≤ 8:=h.ok.1.2.2.2.2.2.2
 have hlf : (leftMt R.mats (restN R o)).length ≤ R.mats.length:=List.length_filter_le _ _
 have hrs:=rest_subl R o
 have hrl:=hrs.length_le
 rw [List.length_map] at hrl
 have hso:=strOk_sub h.ok hrs
 have kr:=fun S hS hS2=>rest_spec R p o ao co S hS (by omega) hS2 (by omega)
 have kst:=fun al cl S hS hS2=>strS_spec R p (restN R o) al cl S hS h.ok hbx hS2 (by omega) hso
 have hnm : p.a3.isNone = true → (strRm R (restN R o)).mats = []:=fun e=>by
  have h0 : R.mats = []:=by
   cases hq : p.a3 with
   | none=>exact sleNone (by rw [← hq];exact hR.mats)
   | some d=>rw [hq] at e;cases e
  show leftMt R.mats _ = []
  rw [h0];rfl
 have hrm:=fun q S hS=>rmS p.a3.isNone (strRm R (restN R o)) q S hnm hS (by show R.ages.length ≤ _;omega) (by show R.boxes.length ≤ _;omega) (by show (leftMt R.mats _).length ≤ _;omega)
 clear hnm hrs hso
 obtain ⟨L,hL⟩ : ∃ L,L = restN R o:=⟨_,rfl⟩
 obtain ⟨nl,hnl⟩ : ∃ nl,nl = p.a3.isNone:=⟨_,rfl⟩
 rw [← hL] at kr
 rw [← hL, ← hnl] at kst hrm
 rw [← hL] at hy
 obtain ⟨nv,rn,hn1,hn2⟩:=slDraw L
 refine X.weak hF (qR _) ?_
 refine X.permH (List.Perm.swap _ _ _) ?_
 refine uS rfl ?_
 refine X.regionRd tsKw2 rdKw2 [4,9,10,11,12,18,19,28] [(4,.pointer (some ⟨b4,0,none⟩)),(9,.bool true),(10,.pointer (some ⟨b10,0,none⟩)),(11,.int .i64 m),(12,.pointer (some ⟨b12,0,none⟩)),(18,.pointer (some ⟨b18,0,none⟩)),(19,.pointer (some ⟨b19,0,none⟩)),(28,.slice ao o.length co)] (valKw2 b4 b10 b12 b18 b19 m R RS p pS o ao co L nl nv rn) (rowsKw2 b4 b10 b12 b18 b19 m R RS p pS o ao co L nl nv rn) (fun _=>(0,0)) (⟨b19,0,cSp tS,some 24,2⟩::G) rfl mixed (by repeat (first | exact uU _ | refine uV rfl ?_)) rfl (by kernel_rfl) (by kernel_rfl) (locKw2 b4 b10 b12 b18 b19 m R RS p pS o ao co L nl nv rn) (qR _) ?_ ?_
 ·repeat' (first | exact AllF.done rfl | (refine AllF.step rfl ?_ ?_;·(first | exact (Ob.ng rfl (ObK.pure (fun env R hR=>by exact ⟨_,uM rfl rfl,rfl⟩) rfl (fun _=>rfl))).toR | exact (Ob.ng rfl (ObK.pure (fun env R hR=>by exact ⟨_,uA rfl rfl,rfl⟩) rfl (fun _=>rfl))).toR | (refine ObR.ng rfl ?_;(first | (exact fun env S hS hrd=>(StF.ofEv (uL rfl rfl (uW (T:=32) (cs:=cRm R p) (te rfl) rfl (hS _ (qT _ h4)) rfl))).op.mono (fun v H' ⟨hv,hH⟩=>⟨(0,0),fun _=>hv,by rw [hH];exact List.Perm.refl _⟩))|(exact fun env S hS hrd=>(OpF.call (uT rfl (Args.cons rfl (Args.cons rfl Args.nil))) (kr S (hR.sub (fun r h=>hS r (qT _ h))) (ho.sub (fun r h=>hS r (qT _ h))))).mono (fun v H' ⟨Z,hZ,hH⟩=>by obtain ⟨q,h1,h3⟩:=hn1 _ _ hZ;exact ⟨q,fun _=>h1,by rw [hH,h3];exact List.Perm.refl _⟩))|((refine fun env S hS hrd=>?_;obtain ⟨al,cl,hal,hsl⟩:=hn2 (env 3) S (hrd 3 (qH _));have hca:=kst al cl S (hR.sub (fun r h=>hS r (qT _ h))) hsl;rw [← hal] at hca;exact (OpF.call (uT rfl (Args.cons rfl (Args.cons rfl Args.nil))) hca).mono (fun v H' ⟨q,hv,hH⟩=>⟨q,fun _=>hv,hH⟩)))|(exact fun env S hS hrd=>(StF.ofEv (v := .agg (cRm (strRm R L) (plS nl (env 4))).toArray) (uX rfl rfl rfl)).op.mono (fun v H' ⟨hv,hH⟩=>⟨(0,0),fun _=>hv,by rw [hH];exact List.Perm.refl _⟩))|(exact fun env S hS hrd=>(StF.ofEv (v := .int .i64 0) (uX rfl rfl rfl)).op.mono (fun v H' ⟨hv,hH⟩=>⟨(0,0),fun _=>hv,by rw [hH];exact List.Perm.refl _⟩))|(exact fun env S hS hrd=>(StF.storeAll (i:=0) (vs:=cRm (strRm R L) (plS nl (env 4))) (cs:=cRm RS pS) rfl rfl rfl (te rfl) rfl rfl rfl rfl).op.mono (fun v H' ⟨hv,hH⟩=>⟨(0,0),fun h=>absurd rfl h,by rw [hH];exact List.Perm.refl _⟩)))))))
 ·intro env t ha2 hv;refine ⟨_,ha2.cons (hv 9 13 (Nat.le_of_ble_eq_true rfl) rfl),?_⟩;clear hv ha2
  show X _ _ _ [(13,.int .i64 0),(4,.pointer (some ⟨b4,0,none⟩)),(9,.bool true),(10,.pointer (some ⟨b10,0,none⟩)),(11,.int .i64 m),(12,.pointer (some ⟨b12,0,none⟩)),(18,.pointer (some ⟨b18,0,none⟩)),(19,.pointer (some ⟨b19,0,none⟩)),(28,.slice ao o.length co)] ((rn (env 3)++(rowsS nl (strRm R L) (env 4)++⟨b18,0,cRm (strRm R L) (plS nl (env 4)),some 32,5⟩::[]))++⟨b19,0,cSp tS,some 24,2⟩::G) _
  generalize env 4 = q4
  generalize rn (env 3)=Z3
  clear env
  refine X.permH List.perm_middle.symm ?_
  exact why_r33 (strRm R L) (plS nl q4) x m s t9 tS b10 b12 b18 b19 _ (List.mem_append_right _ h10) (List.mem_append_right _ h12) (List.mem_append_left _ (List.mem_append_right _ (List.mem_append_right _ (qH _)))) (hrm q4 _ (fun r h=>List.mem_append_left _ (List.mem_append_right _ (List.mem_append_left _ h)))) (show R.boxes.length ≤ 1000000 by omega) hy hne _ (by repeat (first | exact uU _ | refine uV rfl ?_))
end Go.Proofs.YtmfppdpkalelhaaGreat
end
section
set_option linter.unusedVariables false
set_option linter.unusedSimpArgs false
namespace Go.Proofs.YtmfppdpkalelhaaGreat
open Go Go.Fw
set_option maxRecDepth 10000
set_option maxHeartbeats 8000000 in
theorem some_spec2 (R : Rm) (p : Pl) (bi : Int) (H : List Row) (hR : RmOk H R p) (hlm : R.mats.length ≤ 100) : Fc Tryz.prog 37 [.agg (cRm R p).toArray,.int .u8 bi] H (fun v H' => ∃ s Z,s.Sublist (R.mats.map (·.number))∧TrvI s v Z∧H' = Z++H):=by
 refine Fc.mk (callable Tryz.call37) Tryz.func37 rfl Tryz.ntmps37 rfl ?_;dsimp only [fr]
 repeat' (first | (refine uP rfl ?_;(first | ((first | refine uN rfl ?_);(first | (refine uE (EvF.lenSlice rfl rfl (te rfl)) rfl rfl ?_)|(refine uE (uM rfl rfl) rfl rfl ?_)|(refine uE (uA rfl rfl) rfl rfl ?_)|(refine uE (uF rfl rfl (te rfl) rfl (te rfl) (by decide)) rfl rfl ?_)|(refine uE (uL rfl rfl (uO (te rfl) rfl (qH _) rfl)) rfl rfl ?_)|(refine Xg.st (StF.boxAgg rfl rfl) rfl rfl ?_;rintro _ _ ⟨bx,rfl,rfl⟩)))))|(refine uD rfl ?_;refine hK _ _ ?_;clear hK K) | refine uS rfl ?_ | refine uR rfl (fun K hK=>?_) | refine X.block rfl ?_)
 generalize bx = b2
 refine X.lp rfl (fun q F' H' => ∃ (k : Nat) (s : List Int) (out : Value) (Z : List Row),q = R.mats.length - k∧k ≤ R.mats.length∧s.Sublist ((R.mats.take k).map (·.number))∧((s = []∧out = .slice none 0 0∧Z = []) ∨ ∃ bn kn,out = .slice (some ⟨bn,0,none⟩) s.length kn∧Z = [⟨bn,0,s.flatMap cI,some 3,kn * 1⟩])∧Z++⟨b2,0,cRm R p,some 32,5⟩::H = H'∧F' = [(1,.int .u8 bi),(2,.pointer (some ⟨b2,0,none⟩)),(5,out),(9,.slice p.a3 R.mats.length p.c3),(10,.int .i64 R.mats.length),(11,.int .i64 (k : Nat))])
  R.mats.length [(1,.int .u8 bi),(2,.pointer (some ⟨b2,0,none⟩)),(5,.slice none 0 0),(9,.slice p.a3 R.mats.length p.c3),(10,.int .i64 R.mats.length),(11,.int .i64 (0 : Nat))] (⟨b2,0,cRm R p,some 32,5⟩::H) (by repeat (first | exact uU _ | refine uV rfl ?_)) (by repeat (first | exact qR _ | apply qK | apply qC)) ⟨0,[],_,[],rfl,by omega,List.nil_sublist _,.inl ⟨rfl,rfl,rfl⟩,rfl,rfl⟩ ?_
 rintro _ _ _ ⟨k,s,out,Z,rfl,hk,hs,hTz,rfl,rfl⟩
 have hsl:=hs.length_le
 rw [List.length_map,List.length_take] at hsl
 by_cases hlt : k < R.mats.length
 ·have hlt' : (k : Int)<(R.mats.length : Int):=by omega
  obtain ⟨G,hG⟩ : ∃ G : List Row,Z++⟨b2,0,cRm R p,some 32,5⟩::H = G:=⟨_,rfl⟩
  have hGR : RmOk G R p:=hR.sub (fun r h=>by rw [← hG];exact List.mem_append_right _ (qT _ h))
  obtain ⟨bb,off,e,hq3,he⟩:=hR.mats.elem (i:=k) hlt
  have hsn:=num_snoc he hs
  rw [hG]
  have hGb:=hGR.mats
  rw [hq3] at hGb
  rw [hq3]
  by_cases hbit : andW .u8 (shrW .u8 bi ((k : Int) % 8)) 1 = 1
  ·rcases hTz with ⟨rfl,rfl,rfl⟩ | ⟨bo,ko,rfl,rfl⟩
   ·rw [List.nil_append] at hG
    subst hG
    repeat' (first | (refine uP rfl ?_;(first | ((first | refine uN rfl ?_);(first | (refine uE (uQ (b:=true) rfl rfl rfl (congrArg some (decide_eq_true hlt'))) rfl rfl ?_)|(refine uE (uL rfl rfl (LoadV.elA0 (hGb) he (te rfl) rfl (fun _ hm=>hm) rfl)) rfl rfl ?_)|(refine Xg.st (StF.alloc rfl Tryz.zeroValue44 rfl) rfl rfl ?_;rintro _ _ ⟨b7,rfl,rfl⟩)|(refine Xg.st0 (StF.storeAll (i:=0) (vs:=cMt e) rfl rfl rfl (te rfl) rfl rfl rfl rfl) rfl ?_;rintro _ _ ⟨rfl,rfl⟩;dsimp only [List.set])|(refine uE (uL rfl rfl (uO (te rfl) rfl (qH _) rfl)) rfl rfl ?_)|(refine uE (EvF.rem64 (p:=(k : Int)) rfl rfl rfl (by omega) (by omega)) rfl rfl ?_)|(refine uE (EvF.shrQ rfl rfl rfl (by omega)) rfl rfl ?_)|(refine uE (EvF.andQ rfl rfl rfl) rfl rfl ?_)|(refine uE (uQ (b:=true) rfl rfl rfl (congrArg some (decide_eq_true hbit))) rfl rfl ?_)|(refine Xg.st (StF.buildOne (cs:=[.int .i64 e.number]) rfl el55 rfl rfl rfl (by decide) (by decide)) rfl rfl ?_;rintro _ _ ⟨bs,rfl,rfl⟩)|(refine Xg.st (StF.appendNew rfl el55 rfl rfl (by decide) rfl (Rd.own (qH _)) (by decide)) rfl rfl ?_;rintro _ _ ⟨bn,kn,rfl,rfl⟩)|(refine uE (EvF.add64 (p:=(k : Int)) (q:=1) rfl rfl rfl (by omega) (by omega)) rfl rfl ?_)|(refine uE (uM rfl rfl) rfl rfl ?_)|(refine uE (uA rfl rfl) rfl rfl ?_)|(refine uE (uF rfl rfl (te rfl) rfl (te rfl) (by decide)) rfl rfl ?_)|(refine uE (EvF.indexSlice rfl rfl rfl (te rfl) (te rfl) (by omega) (by omega)) rfl rfl ?_)))))|(refine uD rfl ?_;refine hK _ _ ?_;clear hK K) | refine uS rfl ?_ | refine uR rfl (fun K hK=>?_) | refine X.block rfl ?_ | refine X.skip rfl ?_ | (refine X.ite rfl rfl (fun hc=>?_);(first | (with_reducible refine Xb.t hc ?_)) <;> clear hc))
    all_goals try (exfalso;contradiction)
    exact ⟨_,_,⟨bn,0,([]++[e.number]).flatMap cI,some 3,kn * 1⟩::⟨b2,0,cRm R p,some 32,5⟩::H,(by repeat (first | exact uU _ | refine uV rfl ?_)),(by repeat (first | exact qR _ | apply qK | apply qC)),⟨k + 1,[]++[e.number],.slice (some ⟨bn,0,none⟩) 1 kn,[_],rfl,by omega,hsn.1,.inr ⟨bn,kn,rfl,rfl⟩,rfl,rfl⟩,by omega⟩
   ·simp only [List.cons_append,List.nil_append] at hG
    subst hG
    have hlen9 : (s.flatMap cI).length = s.length * 1:=lenI _
    repeat' (first | (refine uP rfl ?_;(first | ((first | refine uN rfl ?_);(first | (refine uE (uQ (b:=true) rfl rfl rfl (congrArg some (decide_eq_true hlt'))) rfl rfl ?_)|(refine uE (uL rfl rfl (LoadV.elA0 (hGb) he (te rfl) rfl (fun _ hm=>hm) rfl)) rfl rfl ?_)|(refine Xg.st (StF.alloc rfl Tryz.zeroValue44 rfl) rfl rfl ?_;rintro _ _ ⟨b7,rfl,rfl⟩)|(refine Xg.st0 (StF.storeAll (i:=0) (vs:=cMt e) rfl rfl rfl (te rfl) rfl rfl rfl rfl) rfl ?_;rintro _ _ ⟨rfl,rfl⟩;dsimp only [List.set])|(refine uE (uL rfl rfl (uO (te rfl) rfl (qH _) rfl)) rfl rfl ?_)|(refine uE (EvF.rem64 (p:=(k : Int)) rfl rfl rfl (by omega) (by omega)) rfl rfl ?_)|(refine uE (EvF.shrQ rfl rfl rfl (by omega)) rfl rfl ?_)|(refine uE (EvF.andQ rfl rfl rfl) rfl rfl ?_)|(refine uE (uQ (b:=true) rfl rfl rfl (congrArg some (decide_eq_true hbit))) rfl rfl ?_)|(refine Xg.st (StF.buildOne (cs:=[.int .i64 e.number]) rfl el55 rfl rfl rfl (by decide) (by decide)) rfl rfl ?_;rintro _ _ ⟨bs,rfl,rfl⟩)|(refine Xg.st (StF.appendOwn (i:=2) rfl el55 rfl rfl rfl hlen9 rfl (Rd.own (qH _)) rfl (by omega)) rfl rfl ?_;rintro _ _ ⟨bn,kn,rfl,rfl⟩;dsimp only [List.eraseIdx])|(refine uE (EvF.add64 (p:=(k : Int)) (q:=1) rfl rfl rfl (by omega) (by omega)) rfl rfl ?_)|(refine uE (uM rfl rfl) rfl rfl ?_)|(refine uE (uA rfl rfl) rfl rfl ?_)|(refine uE (uF rfl rfl (te rfl) rfl (te rfl) (by decide)) rfl rfl ?_)|(refine uE (EvF.indexSlice rfl rfl rfl (te rfl) (te rfl) (by omega) (by omega)) rfl rfl ?_)))))|(refine uD rfl ?_;refine hK _ _ ?_;clear hK K) | refine uS rfl ?_ | refine uR rfl (fun K hK=>?_) | refine X.block rfl ?_ | refine X.skip rfl ?_ | (refine X.ite rfl rfl (fun hc=>?_);(first | (with_reducible refine Xb.t hc ?_)) <;> clear hc))
    all_goals try (exfalso;contradiction)
    refine ⟨_,[(1,.int .u8 bi),(2,.pointer (some ⟨b2,0,none⟩)),(5,.slice (some ⟨bn,0,none⟩) (s.length + 1) kn),(9,.slice (some ⟨bb,off,none⟩) R.mats.length p.c3),(10,.int .i64 R.mats.length),(11,.int .i64 (k + 1 : Nat))],⟨bn,0,(s++[e.number]).flatMap cI,some 3,kn * 1⟩::⟨b2,0,cRm R p,some 32,5⟩::H,(by repeat (first | exact uU _ | refine uV rfl ?_)),?_,⟨k + 1,s++[e.number],.slice (some ⟨bn,0,none⟩) (s.length + 1) kn,[_],rfl,by omega,hsn.1,.inr ⟨bn,kn,by rw [List.length_append];rfl,rfl⟩,rfl,rfl⟩,by omega⟩
    rw [List.flatMap_append]
    exact (by repeat (first | exact qR _ | apply qK | apply qC))
  ·repeat' (first | (refine uP rfl ?_;(first | ((first | refine uN rfl ?_);(first | (refine uE (uQ (b:=true) rfl rfl rfl (congrArg some (decide_eq_true hlt'))) rfl rfl ?_)|(refine uE (uL rfl rfl (LoadV.elA0 (hGb) he (te rfl) rfl (fun _ hm=>hm) rfl)) rfl rfl ?_)|(refine Xg.st (StF.alloc rfl Tryz.zeroValue44 rfl) rfl rfl ?_;rintro _ _ ⟨b7,rfl,rfl⟩)|(refine Xg.st0 (StF.storeAll (i:=0) (vs:=cMt e) rfl rfl rfl (te rfl) rfl rfl rfl rfl) rfl ?_;rintro _ _ ⟨rfl,rfl⟩;dsimp only [List.set])|(refine uE (EvF.rem64 (p:=(k : Int)) rfl rfl rfl (by omega) (by omega)) rfl rfl ?_)|(refine uE (EvF.shrQ rfl rfl rfl (by omega)) rfl rfl ?_)|(refine uE (EvF.andQ rfl rfl rfl) rfl rfl ?_)|(refine uE (uQ (b:=false) rfl rfl rfl (congrArg some (decide_eq_false hbit))) rfl rfl ?_)|(refine uE (EvF.add64 (p:=(k : Int)) (q:=1) rfl rfl rfl (by omega) (by omega)) rfl rfl ?_)|(refine uE (uM rfl rfl) rfl rfl ?_)|(refine uE (uA rfl rfl) rfl rfl ?_)|(refine uE (EvF.indexSlice rfl rfl rfl (te rfl) (te rfl) (by omega) (by omega)) rfl rfl ?_)))))|(refine uD rfl ?_;refine hK _ _ ?_;clear hK K) | refine uS rfl ?_ | refine uR rfl (fun K hK=>?_) | refine X.block rfl ?_ | refine X.skip rfl ?_ | (refine X.ite rfl rfl (fun hc=>?_);(first | (with_reducible refine Xb.t hc ?_)|(with_reducible refine Xb.f hc ?_)) <;> clear hc))
   all_goals try (exfalso;contradiction)
   exact ⟨_,_,G,(by repeat (first | exact uU _ | refine uV rfl ?_)),(by repeat (first | exact qR _ | apply qK | apply qC)),⟨k + 1,s,out,Z,rfl,by omega,hsn.2,hTz,hG,rfl⟩,by omega⟩
 ·obtain rfl : k = R.mats.length:=by omega
  have hlt' : ¬ (R.mats.length : Int)<(R.mats.length : Int):=by omega
  rw [List.take_length] at hs
  repeat' (first | (refine uP rfl ?_;(first | ((first | refine uN rfl ?_);(first | (refine uE (uQ (b:=false) rfl rfl rfl (congrArg some (decide_eq_false hlt'))) rfl rfl ?_)|(refine uE (uM rfl rfl) rfl rfl ?_)|(refine uE (uA rfl rfl) rfl rfl ?_)))))|(refine uD rfl ?_;refine hK _ _ ?_;clear hK K) | refine uS rfl ?_ | refine uR rfl (fun K hK=>?_)|(refine X.brk rfl ?_;repeat (first | refine blockX_hit rfl ?_ | refine blockX_miss (by decide) ?_)) | refine X.ret rfl ?_ | (refine X.ite rfl rfl (fun hc=>?_);(first | (with_reducible refine Xb.f hc ?_)) <;> clear hc))
  all_goals try (exfalso;contradiction)
  rcases hTz with ⟨rfl,rfl,rfl⟩ | ⟨bo,ko,rfl,rfl⟩
  ·exact ret_one (by simp) Tryz.results37 rfl (H' := H) (by repeat (first | exact qR _ | apply qK | apply qC)) ⟨[],[],List.nil_sublist _,.inl ⟨rfl,rfl,rfl⟩,rfl⟩
  ·exact ret_one (by simp) Tryz.results37 rfl (H' := [⟨bo,0,s.flatMap cI,some 3,ko * 1⟩]++H) (by repeat (first | exact qR _ | apply qK | apply qC)) ⟨s,[_],hs,.inr ⟨bo,ko,rfl,rfl⟩,rfl⟩
theorem trv_sl {L : List Int} {v : Value} {Z : List Row} (h : TrvI L v Z) : ∃ a c,v = .slice a L.length c ∧ ∀ S,SlE (Z++S) a cI 1 L:=by
 rcases h with ⟨rfl,rfl,rfl⟩ | ⟨b,q,rfl,rfl⟩
 ·exact ⟨none,0,rfl,fun S=>sleNil⟩
 ·exact ⟨_,_,rfl,fun S=>SlE.ofRow (qH _) (fun _ _=>rfl)⟩
theorem neB_self {P : Program} {n : Nat} {H : List Row} {F : FS} {o : Oper} {T T' : TypeId} {x y : Operand} {p : Bool} (h : o.op = .binOp .neq T x y T') (hx : evF F x = some (.bool p)) (hy : evF F y = some (.bool p)) (hu : P.underlying T = some .bool) : EvF P n H F o (.bool false):=by
 have:=EvF.cmpB (P:=P) (n:=n) (H:=H) h hx hy hu rfl
 rwa [beq_self_eq_true] at this
theorem perm_two {α : Type} (a b : α) (Z G : List α) : (a::b::(Z++G)).Perm (Z++a::b::G):=by
 have:=List.perm_append_comm_assoc [a,b] Z G
 exact this
set_option maxHeartbeats 8000000 in
theorem why_r29 (R RS : Rm) (p pS : Pl) (x : Bx) (m bi : Int) (s tS : Sp) (l rs : List Int) (al ar : Option Addr) (cl cr : Nat) (b4 b10 b12 b18 b19 : Nat) (G : List Row) (hd : Rdy R) (hx : x ∈ R.boxes) (hm : 0 ≤ m∧m ≤ R.months - 1) (ha : x.id ∈ thI R m) (hw : WhyF R x.id m l rs) (hs : s = rng R R.mats ⟨x.id,m⟩ zp) (hbi : 0 ≤ bi∧bi ≤ 255) (h4 : (⟨b4,0,cRm R p,some 32,5⟩ : Row) ∈ G) (h10 : (⟨b10,0,cBx x,some 47,2⟩ : Row) ∈ G) (h12 : (⟨b12,0,cSp s,some 24,2⟩ : Row) ∈ G) (hR : RmOk G R p) (hl : SlE G al cI 1 l) (hrs : SlE G ar cI 1 rs) (F : FS) (hF : Sub [(3,.int .u8 bi),(4,.pointer (some ⟨b4,0,none⟩)),(9,.bool true),(10,.pointer (some ⟨b10,0,none⟩)),(11,.int .i64 m),(12,.pointer (some ⟨b12,0,none⟩)),(14,.slice al l.length cl),(18,.pointer (some ⟨b18,0,none⟩)),(19,.pointer (some ⟨b19,0,none⟩))] F) :
  X Tryz.prog 215 (csnd (csnd (csnd (csnd (csnd (csnd (csnd (csnd (csnd (csnd (csnd (csnd (csnd (csnd (cof Tryz.f6))))))))))))))) F (⟨b19,0,cSp tS,some 24,2⟩::⟨b18,0,cRm RS pS,some 32,5⟩::G) (retX Tryz.prog Tryz.f6 (fun v _=>v = .bool true)):=by
 have hlb4:=hd.ok.ok.b4
 have hlm : R.mats.length ≤ 8:=hd.ok.1.2.2.2.2.2.2
 have hll:=hw.sub.length_le
 rw [List.length_map] at hll
 have hbx : 0 < R.boxes.length:=List.length_pos_of_mem hx
 refine X.weak hF (qR _) ?_
 repeat' (first | (refine uP rfl ?_;(first | ((first | refine uN rfl ?_);(first | (refine uE (uL rfl rfl (uW (T:=32) (cs:=cRm R p) (te rfl) rfl (qT _ (qT _ h4)) rfl)) rfl rfl ?_)|(refine uC (uT rfl (Args.cons rfl (Args.cons rfl Args.nil))) rfl rfl (some_spec2 R p bi _ (hR.sub (fun _ h=>qT _ (qT _ h))) (by omega)) ?_;rintro _ _ ⟨o,Z,hos,hoT,rfl⟩;obtain ⟨ao,co,rfl,hol⟩:=trv_sl hoT)|(refine uE (uM rfl rfl) rfl rfl ?_)|(refine uE (uA rfl rfl) rfl rfl ?_)))))|(refine uD rfl ?_;refine hK _ _ ?_;clear hK K) | refine uS rfl ?_ | refine uR rfl (fun K hK=>?_))
 all_goals try (exfalso;contradiction)
 have hoo:=hos.length_le
 rw [List.length_map] at hoo
 have kb:=fun S h1 h2=>before_spec o l ao al co cl S h1 h2 (by omega) (by omega)
 cases hbf : befF o l with
 | false =>
  rw [hbf] at kb
  repeat' (first | (refine uP rfl ?_;(first | ((first | refine uN rfl ?_);(first | (refine uC (uT rfl (Args.cons rfl (Args.cons rfl Args.nil))) rfl rfl (kb _ (hol _) (hl.sub (fun _ h=>List.mem_append_right _ (qT _ (qT _ h))))) ?_;rintro _ _ ⟨rfl,rfl⟩)|(refine uE (uM rfl rfl) rfl rfl ?_)|(refine uE (uA rfl rfl) rfl rfl ?_)|(refine uE (EvF.not rfl rfl) rfl rfl ?_)))))|(refine uD rfl ?_;refine hK _ _ ?_;clear hK K) | refine uS rfl ?_ | refine uR rfl (fun K hK=>?_) | refine X.skip rfl ?_ | refine X.ret rfl ?_ | (refine X.ite rfl rfl (fun hc=>?_);(first | (with_reducible refine Xb.caseB hc (fun h=>?_) (fun h=>?_))) <;> clear hc))
  all_goals try (exfalso;contradiction)
  exact ret_one (by simp) Tryz.results6 rfl (H' := _) (qR _) rfl
 | true =>
  rw [hbf] at kb
  have hne : s ≠ rng R (inM R.mats o) ⟨x.id,m⟩ zp:=fun e=>by
   have:=hw.few o hos (by rw [← e,hs])
   rw [this] at hbf;cases hbf
  have hy : yelF (strRm R (restN R o)) x.id m = (rng R (inM R.mats o) ⟨x.id,m⟩ zp,0):=by rw [str_yel hd _ hm ha,out_rest hd.ok]
  obtain ⟨t,ht⟩ : ∃ t,t = rng R (inM R.mats o) ⟨x.id,m⟩ zp:=⟨_,rfl⟩
  rw [← ht] at hne hy
  repeat' (first | (refine X.permH (perm_two _ _ Z G) ?_;refine why_r32 R RS p pS x m s t tS o ao co b4 b10 b12 b18 b19 _ hd hbx (List.mem_append_right _ h4) (List.mem_append_right _ h10) (List.mem_append_right _ h12) (hR.sub (fun _ h=>List.mem_append_right _ h)) (hol _) (by omega) hy hne _ ?_;exact (by repeat (first | exact uU _ | refine uV rfl ?_)))|(refine uP rfl ?_;(first | ((first | refine uN rfl ?_);(first | (refine uC (uT rfl (Args.cons rfl (Args.cons rfl Args.nil))) rfl rfl (kb _ (hol _) (hl.sub (fun _ h=>List.mem_append_right _ (qT _ (qT _ h))))) ?_;rintro _ _ ⟨rfl,rfl⟩)|(refine uE (uM rfl rfl) rfl rfl ?_)|(refine uE (uA rfl rfl) rfl rfl ?_)|(refine uE (EvF.not rfl rfl) rfl rfl ?_)))))|(refine uD rfl ?_;refine hK _ _ ?_;clear hK K) | refine uS rfl ?_ | refine uR rfl (fun K hK=>?_) | refine X.skip rfl ?_ | refine X.ret rfl ?_ | (refine X.ite rfl rfl (fun hc=>?_);(first | (with_reducible refine Xb.caseB hc (fun h=>?_) (fun h=>?_))) <;> clear hc))
  all_goals try (exfalso;contradiction)
def tsKw6 : List TOp:=[⟨some 160,[],[],[]⟩,⟨some 161,[0],[0],[]⟩,⟨some 162,[0,1],[1],[]⟩,⟨some 163,[0,1,2],[],[]⟩,⟨some 164,[0,1,2,3],[3],[]⟩,⟨some 165,[0,1,2,3,4],[2,4],[]⟩,⟨some 166,[0,1,2,3,4,5],[5],[]⟩,⟨some 167,[0,1,2,3,4,5,6],[],[]⟩,⟨some 168,[0,1,2,3,4,5,6],[],[]⟩,⟨some 169,[0,1,2,3,4,5,6,7,8],[7,8],[]⟩,⟨some 170,[0,1,2,3,4,5,6],[],[]⟩,⟨some 171,[0,1,2,3,4,5,6],[],[]⟩,⟨some 172,[0,1,2,3,4,5,6,11],[11],[]⟩,⟨some 173,[0,1,2,3,4,5,6,10,11,12],[10,12],[]⟩,⟨some 174,[0,1,2,3,4,5,6,7,8,9,10,11,12,13],[9,13],[]⟩,⟨some 175,[0,1,2,3,4,5,6,7,8,9,10,11,12,13,14],[6,14],[]⟩]
def valKw6 (b4 b7 b10 b12 b18 b19 b26 bb off q6 k : Nat) (m bi : Int) (R : Rm) (s t9 : Sp) (e : Mt) (l rs : List Int) (al ar : Option Addr) (cl cr : Nat) (w : Bool) (k : Nat) (env : Env) : Value :=
 match k with
 | 0 => .int .i64 0
 | 1 => .bool false
 | 2 => .bool false
 | 3=>gt (false) (.int .i64 0)
 | 4=>gt (false) (.bool false)
 | 5 => .bool (false && true)
 | 6 => .bool (false && true)
 | 7=>gt (false && true) (.agg (cSp s).toArray)
 | 8=>gt (false && true) (.agg (cSp t9).toArray)
 | 9=>gt (false && true) (.bool (!w))
 | 10=>gt (false && true) (.slice ar rs.length cr)
 | 11=>gt (false && true) (.pointer (some ⟨b7,0,none⟩))
 | 12=>gt (false && true) (.int .i64 e.number)
 | 13=>gt (false && true) (.bool (!w))
 | 14=>gt (false && true) (.bool false)
 | 15 => .bool ((false && true) && true)
 | _=>undef
def rowsKw6 (b4 b7 b10 b12 b18 b19 b26 bb off q6 k : Nat) (m bi : Int) (R : Rm) (s t9 : Sp) (e : Mt) (l rs : List Int) (al ar : Option Addr) (cl cr : Nat) (w : Bool) (k : Nat) (env : Env) : List Row :=
 match k with
 | _=>[]
theorem locKw6 (b4 b7 b10 b12 b18 b19 b26 bb off q6 k : Nat) (m bi : Int) (R : Rm) (s t9 : Sp) (e : Mt) (l rs : List Int) (al ar : Option Addr) (cl cr : Nat) (w : Bool) : ∀ k env i q9,i ≠ k → (tAt tsKw6 k).sup.contains i = false → valKw6 b4 b7 b10 b12 b18 b19 b26 bb off q6 k m bi R s t9 e l rs al ar cl cr w k (upd env i q9)=valKw6 b4 b7 b10 b12 b18 b19 b26 bb off q6 k m bi R s t9 e l rs al ar cl cr w k env∧rowsKw6 b4 b7 b10 b12 b18 b19 b26 bb off q6 k m bi R s t9 e l rs al ar cl cr w k (upd env i q9)=rowsKw6 b4 b7 b10 b12 b18 b19 b26 bb off q6 k m bi R s t9 e l rs al ar cl cr w k env:=by
 intro k env i q hk hs
 have hu : ∀ j,j ≠ i → upd env i q j = env j:=fun j hj=>by unfold upd;rw [if_neg hj]
 match k,hk,hs with
 | 0,_,_=>exact ⟨rfl,rfl⟩
 | 1,_,_=>exact ⟨rfl,rfl⟩
 | 2,_,_=>exact ⟨rfl,rfl⟩
 | 3,_,_=>exact ⟨rfl,rfl⟩
 | 4,_,_=>exact ⟨rfl,rfl⟩
 | 5,_,_=>exact ⟨rfl,rfl⟩
 | 6,_,_=>exact ⟨rfl,rfl⟩
 | 7,_,_=>exact ⟨rfl,rfl⟩
 | 8,_,_=>exact ⟨rfl,rfl⟩
 | 9,_,_=>exact ⟨rfl,rfl⟩
 | 10,_,_=>exact ⟨rfl,rfl⟩
 | 11,_,_=>exact ⟨rfl,rfl⟩
 | 12,_,_=>exact ⟨rfl,rfl⟩
 | 13,_,_=>exact ⟨rfl,rfl⟩
 | 14,_,_=>exact ⟨rfl,rfl⟩
 | 15,_,_=>exact ⟨rfl,rfl⟩
 | _ + 16,_,_=>exact ⟨rfl,rfl⟩
set_option maxHeartbeats 16000000 in
theorem why_l2 (R RS : Rm) (p pS : Pl) (x : Bx) (m bi : Int) (s tS : Sp) (l rs : List Int) (al ar : Option Addr) (cl cr : Nat) (b4 b10 b12 b18 b19 : Nat) (G : List Row) (hd : Rdy R) (hx : x ∈ R.boxes) (hm : 0 ≤ m∧m ≤ R.months - 1) (ha : x.id ∈ thI R m) (hw : WhyF R x.id m l rs) (hs : s = rng R R.mats ⟨x.id,m⟩ zp) (hbi : 0 ≤ bi∧bi ≤ 255) (h4 : (⟨b4,0,cRm R p,some 32,5⟩ : Row) ∈ G) (h10 : (⟨b10,0,cBx x,some 47,2⟩ : Row) ∈ G) (h12 : (⟨b12,0,cSp s,some 24,2⟩ : Row) ∈ G) (hR : RmOk G R p) (hl : SlE G al cI 1 l) (hrs : SlE G ar cI 1 rs) (F : FS) (hF : Sub [(3,.int .u8 bi),(4,.pointer (some ⟨b4,0,none⟩)),(9,.bool true),(10,.pointer (some ⟨b10,0,none⟩)),(11,.int .i64 m),(12,.pointer (some ⟨b12,0,none⟩)),(14,.slice al l.length cl),(16,.slice ar rs.length cr),(18,.pointer (some ⟨b18,0,none⟩)),(19,.pointer (some ⟨b19,0,none⟩))] F) :
  X Tryz.prog 215 (csnd (csnd (csnd (csnd (csnd (csnd (csnd (csnd (csnd (csnd (csnd (csnd (csnd (cof Tryz.f6)))))))))))))) F (⟨b19,0,cSp tS,some 24,2⟩::⟨b18,0,cRm RS pS,some 32,5⟩::G) (retX Tryz.prog Tryz.f6 (fun v _=>v = .bool true)):=by
 have hlb4:=hd.ok.ok.b4
 have hlm : R.mats.length ≤ 8:=hd.ok.1.2.2.2.2.2.2
 have hrl:=hw.rsub.length_le
 rw [List.length_map] at hrl
 obtain ⟨q1,q2,q3,q4,q5,q6⟩:=p
 have hmt : SlE (⟨b19,0,cSp tS,some 24,2⟩::⟨b18,0,cRm RS pS,some 32,5⟩::G) q5 cMt 6 R.mats:=hR.mats.sub (fun _ h=>qT _ (qT _ h))
 refine X.weak hF (qR _) ?_
 repeat' (first | (refine uP rfl ?_;(first | ((first | refine uN rfl ?_);(first | (refine uE (uL rfl rfl (uO (te rfl) rfl (qT _ (qT _ h4)) rfl)) rfl rfl ?_)|(refine uE (EvF.lenSlice rfl rfl (te rfl)) rfl rfl ?_)|(refine uE (uM rfl rfl) rfl rfl ?_)|(refine uE (uF rfl rfl (te rfl) rfl (te rfl) (by decide)) rfl rfl ?_)))))|(refine uD rfl ?_;refine hK _ _ ?_;clear hK K) | refine uS rfl ?_ | refine uR rfl (fun K hK=>?_) | refine X.block rfl ?_)
 all_goals try (exfalso;contradiction)
 refine X.lp rfl (fun r F' H' => ∃ k : Nat,r = R.mats.length - k∧k ≤ R.mats.length∧⟨b19,0,cSp tS,some 24,2⟩::⟨b18,0,cRm RS pS,some 32,5⟩::G = H'∧F' = [(3,.int .u8 bi),(4,.pointer (some ⟨b4,0,none⟩)),(9,.bool true),(10,.pointer (some ⟨b10,0,none⟩)),(11,.int .i64 m),(12,.pointer (some ⟨b12,0,none⟩)),(14,.slice al l.length cl),(16,.slice ar rs.length cr),(18,.pointer (some ⟨b18,0,none⟩)),(19,.pointer (some ⟨b19,0,none⟩)),(138,.slice q5 R.mats.length q6),(139,.int .i64 R.mats.length),(140,.int .i64 (k : Nat))])
  R.mats.length [(3,.int .u8 bi),(4,.pointer (some ⟨b4,0,none⟩)),(9,.bool true),(10,.pointer (some ⟨b10,0,none⟩)),(11,.int .i64 m),(12,.pointer (some ⟨b12,0,none⟩)),(14,.slice al l.length cl),(16,.slice ar rs.length cr),(18,.pointer (some ⟨b18,0,none⟩)),(19,.pointer (some ⟨b19,0,none⟩)),(138,.slice q5 R.mats.length q6),(139,.int .i64 R.mats.length),(140,.int .i64 (0 : Nat))] (⟨b19,0,cSp tS,some 24,2⟩::⟨b18,0,cRm RS pS,some 32,5⟩::G) (by repeat (first | exact uU _ | refine uV rfl ?_)) (qR _) ⟨0,rfl,Nat.zero_le _,rfl,rfl⟩ ?_
 rintro _ _ _ ⟨k,rfl,hk,rfl,rfl⟩
 by_cases hlt : k < R.mats.length
 ·have hlt' : (k : Int)<(R.mats.length : Int):=by omega
  obtain ⟨bb,off,e,rfl,he⟩:=hmt.elem (i:=k) hlt
  have hem:=List.mem_of_getElem? he
  have hes : [e.number].Sublist (R.mats.map (·.number)):=List.singleton_sublist.2 (List.mem_map.2 ⟨e,hem,rfl⟩)
  have hso:=strOk_sub hd.ok hes
  have kst:=fun bs S hS hS2=>strG_spec R ⟨q1,q2,q3,q4,(some ⟨bb,off,none⟩),q6⟩ [e.number] (some ⟨bs,0,none⟩) 1 S hS hd.ok hS2 (Nat.le_of_ble_eq_true rfl) hso
  have ky:=fun ps S hS=>kYellow_spec (strRm R [e.number]) ps x.id m S hS (by show R.boxes.length ≤ _;omega)
  rw [str_yel hd _ hm ha] at ky
  obtain ⟨t9,ht⟩ : ∃ t,t = rng R (outM R.mats [e.number]) ⟨x.id,m⟩ zp:=⟨_,rfl⟩
  rw [← ht] at ky
  obtain ⟨w,hwq⟩ : ∃ w : Bool,(w = true ↔ s = t9):=by
   classical
   exact ⟨decide (s = t9),decide_eq_true_iff⟩
  have hse:=fun W=>eqSpW hwq W
  have hin : decide (e.number ∈ rs) = !w:=by
   have q:=hw.each e hem
   rw [← ht, ← hs] at q
   cases w with
   | true =>
    have : e.number ∉ rs:=fun z=>(q.1 z) (hwq.1 rfl).symm
    rw [decide_eq_false this];rfl
   | false =>
    have : e.number ∈ rs:=q.2 (fun z=>by have:=hwq.2 z.symm;cases this)
    rw [decide_eq_true this];rfl
  have khas:=fun S hS=>lawHas rs ar cr e.number S hS (by omega)
  rw [hin] at khas
  clear hwq hin hso hes
  repeat' (first | (refine uP rfl ?_;(first | ((first | refine uN rfl ?_);(first | (refine uE (uQ (b:=true) rfl rfl rfl (congrArg some (decide_eq_true hlt'))) rfl rfl ?_)|(refine uE (uL rfl rfl (LoadV.elA0 hmt he (te rfl) rfl (fun _ hm=>hm) rfl)) rfl rfl ?_)|(refine Xg.st (StF.alloc rfl Tryz.zeroValue44 rfl) rfl rfl ?_;rintro _ _ ⟨b7,rfl,rfl⟩)|(refine Xg.st0 (StF.storeAll (i:=0) (vs:=cMt e) rfl rfl rfl (te rfl) rfl rfl rfl rfl) rfl ?_;rintro _ _ ⟨rfl,rfl⟩;dsimp only [List.set])|(refine uE (uL rfl rfl (uO (te rfl) rfl (qH _) rfl)) rfl rfl ?_)|(refine uE (uL rfl rfl (uW (T:=32) (cs:=cRm R ⟨q1,q2,q3,q4,(some ⟨bb,off,none⟩),q6⟩) (te rfl) rfl (qT _ (qT _ (qT _ h4))) rfl)) rfl rfl ?_)|(refine Xg.st (StF.buildOne (cs:=[.int .i64 e.number]) rfl el55 rfl rfl rfl (by decide) (by decide)) rfl rfl ?_;rintro _ _ ⟨bs,rfl,rfl⟩)|(refine uC (uT rfl (Args.cons rfl (Args.cons rfl Args.nil))) rfl rfl (kst bs _ (hR.sub (fun _ h=>qT _ (qT _ (qT _ (qT _ h))))) (SlE.ofRow (l:=[e.number]) (qH _) (fun _ _=>rfl))) ?_;rintro _ _ ⟨ps,Zs,rfl,rfl,hps⟩)|(refine uE (uX rfl rfl rfl) rfl rfl ?_)|(refine Xg.st (StF.alloc rfl Tryz.zeroValue32 rfl) rfl rfl ?_;rintro _ _ ⟨b24,rfl,rfl⟩)|(refine Xg.st0 (StF.storeAll (i:=0) (vs:=cRm (strRm R [e.number]) ps) rfl rfl rfl (te rfl) rfl rfl rfl rfl) rfl ?_;rintro _ _ ⟨rfl,rfl⟩;dsimp only [List.set])|(refine uE (uL rfl rfl (uW (T:=32) (cs:=cRm (strRm R [e.number]) ps) (te rfl) rfl (qH _) rfl)) rfl rfl ?_)|(refine uE (uL rfl rfl (uO (te rfl) rfl (qT _ (List.mem_append_right _ (qT _ (qT _ (qT _ (qT _ h10)))))) rfl)) rfl rfl ?_)|(refine uC (uT rfl (Args.cons rfl (Args.cons rfl (Args.cons rfl Args.nil)))) rfl rfl (ky ps _ ((hps _).sub (fun _ h=>qT _ h))) ?_;rintro _ _ ⟨rfl,rfl⟩)|(refine Xg.st (StF.alloc rfl Tryz.zeroValue24 rfl) rfl rfl ?_;rintro _ _ ⟨b26,rfl,rfl⟩)|(refine Xg.st0 (StF.storeAll (i:=0) (vs:=cSp t9) rfl rfl rfl (te rfl) rfl rfl rfl rfl) rfl ?_;rintro _ _ ⟨rfl,rfl⟩;dsimp only [List.set])|(refine uE (uM rfl rfl) rfl rfl ?_)|(refine uE (uA rfl rfl) rfl rfl ?_)|(refine uE (uF rfl rfl (te rfl) rfl (te rfl) (by decide)) rfl rfl ?_)|(refine uE (EvF.indexSlice rfl rfl rfl (te rfl) (te rfl) (by omega) (by omega)) rfl rfl ?_)))))|(refine uD rfl ?_;refine hK _ _ ?_;clear hK K) | refine uS rfl ?_ | refine uR rfl (fun K hK=>?_) | refine X.block rfl ?_ | refine X.skip rfl ?_ | (refine X.ite rfl rfl (fun hc=>?_);(first | (with_reducible refine Xb.t hc ?_)) <;> clear hc))
  all_goals try (exfalso;contradiction)
  refine X.weak (F' := [(3,.int .u8 bi),(4,.pointer (some ⟨b4,0,none⟩)),(9,.bool true),(10,.pointer (some ⟨b10,0,none⟩)),(11,.int .i64 m),(12,.pointer (some ⟨b12,0,none⟩)),(14,.slice al l.length cl),(16,.slice ar rs.length cr),(18,.pointer (some ⟨b18,0,none⟩)),(19,.pointer (some ⟨b19,0,none⟩)),(23,.pointer (some ⟨b7,0,none⟩)),(25,.int .i64 0),(26,.pointer (some ⟨b26,0,none⟩)),(27,.int .i64 0),(138,.slice (some ⟨bb,off,none⟩) R.mats.length q6),(139,.int .i64 R.mats.length),(140,.int .i64 (k : Nat))]) (H' := ⟨b26,0,cSp t9,some 24,2⟩::⟨b7,0,cMt e,some 44,6⟩::⟨b19,0,cSp tS,some 24,2⟩::⟨b18,0,cRm RS pS,some 32,5⟩::G) (by repeat (first | exact uU _ | refine uV rfl ?_)) (by repeat (first | exact qR _ | apply qK | apply qC | refine List.Sublist.trans ?_ (List.sublist_append_right _ _))) ?_
  refine X.regionOb tsKw6 [3,4,9,10,11,12,14,16,18,19,23,25,26,27,138,139,140] [(3,.int .u8 bi),(4,.pointer (some ⟨b4,0,none⟩)),(9,.bool true),(10,.pointer (some ⟨b10,0,none⟩)),(11,.int .i64 m),(12,.pointer (some ⟨b12,0,none⟩)),(14,.slice al l.length cl),(16,.slice ar rs.length cr),(18,.pointer (some ⟨b18,0,none⟩)),(19,.pointer (some ⟨b19,0,none⟩)),(23,.pointer (some ⟨b7,0,none⟩)),(25,.int .i64 0),(26,.pointer (some ⟨b26,0,none⟩)),(27,.int .i64 0),(138,.slice (some ⟨bb,off,none⟩) R.mats.length q6),(139,.int .i64 R.mats.length),(140,.int .i64 (k : Nat))] (valKw6 b4 b7 b10 b12 b18 b19 b26 bb off q6 k m bi R s t9 e l rs al ar cl cr w) (rowsKw6 b4 b7 b10 b12 b18 b19 b26 bb off q6 k m bi R s t9 e l rs al ar cl cr w) (fun _=>(0,0)) (⟨b26,0,cSp t9,some 24,2⟩::⟨b7,0,cMt e,some 44,6⟩::⟨b19,0,cSp tS,some 24,2⟩::⟨b18,0,cRm RS pS,some 32,5⟩::G) rfl mixed (by repeat (first | exact uU _ | refine uV rfl ?_)) rfl (by kernel_rfl) (locKw6 b4 b7 b10 b12 b18 b19 b26 bb off q6 k m bi R s t9 e l rs al ar cl cr w) (qR _) ?_ ?_
  ·repeat' (first | exact AllF.done rfl | (refine AllF.step rfl ?_ ?_;·(first | fail | ((first | refine Ob.ng rfl ?_ | refine Ob.g rfl rfl (fun _=>rfl) ?_);(first | exact ObK.pure (fun env R hR=>by exact ⟨_,uM rfl rfl,rfl⟩) rfl (fun _=>rfl) | exact ObK.pure (fun env R hR=>by exact ⟨_,EvF.pickF rfl rfl rfl,rfl⟩) rfl (fun _=>rfl) | exact ObK.pure (fun env R hR=>by exact ⟨_,uF rfl rfl (te rfl) rfl (te rfl) (by decide),rfl⟩) rfl (fun _=>rfl) | exact ObK.pure (fun env R hR=>by exact ⟨_,uQ rfl rfl rfl rfl,rfl⟩) rfl (fun _=>rfl) | exact ObK.pure (fun env R hR=>by exact ⟨_,uL rfl rfl (uO (te rfl) rfl (hR _ (qT _ (qH _))) rfl),rfl⟩) rfl (fun _=>rfl) | exact ObK.pure (fun env R hR=>by exact ⟨_,uL rfl rfl (uW (te rfl) rfl (hR _ (qH _)) rfl),rfl⟩) rfl (fun _=>rfl)|(exact ObK.pure (fun env S hS=>⟨_,uL rfl rfl (uW (T:=24) (cs:=cSp s) (te rfl) rfl (hS _ (qT _ (qT _ (qT _ (qT _ h12))))) rfl),rfl⟩) rfl (fun _=>rfl))|(exact ObK.pure (fun env S hS=>⟨_,EvF.eqSt (r:=w) (b := !w) rfl rfl rfl (by kernel_rfl) hse rfl,rfl⟩) rfl (fun _=>rfl))|(exact ObK.pure (fun env S hS=>⟨_,neB_self rfl rfl rfl (by kernel_rfl),rfl⟩) rfl (fun _=>rfl))|(exact fun env S hS=>(OpF.call (uT rfl (Args.cons rfl (Args.cons rfl Args.nil))) (khas _ (hrs.sub (fun r h=>hS r (qT _ (qT _ (qT _ (qT _ h)))))))).mono (fun v H' ⟨hv,hH⟩=>⟨(0,0),fun _=>hv,by rw [hH];exact List.Perm.refl _⟩)))))))
  ·intro env t ha2 hv;refine ⟨_,ha2.cons (hv 15 175 (Nat.le_of_ble_eq_true rfl) rfl),?_⟩;clear hv ha2
   show X _ _ _ [(175,.bool false),(3,.int .u8 bi),(4,.pointer (some ⟨b4,0,none⟩)),(9,.bool true),(10,.pointer (some ⟨b10,0,none⟩)),(11,.int .i64 m),(12,.pointer (some ⟨b12,0,none⟩)),(14,.slice al l.length cl),(16,.slice ar rs.length cr),(18,.pointer (some ⟨b18,0,none⟩)),(19,.pointer (some ⟨b19,0,none⟩)),(23,.pointer (some ⟨b7,0,none⟩)),(25,.int .i64 0),(26,.pointer (some ⟨b26,0,none⟩)),(27,.int .i64 0),(138,.slice (some ⟨bb,off,none⟩) R.mats.length q6),(139,.int .i64 R.mats.length),(140,.int .i64 (k : Nat))] (⟨b26,0,cSp t9,some 24,2⟩::⟨b7,0,cMt e,some 44,6⟩::⟨b19,0,cSp tS,some 24,2⟩::⟨b18,0,cRm RS pS,some 32,5⟩::G) _
   clear env
   repeat' (first | (refine uP rfl ?_;(first | ((first | refine uN rfl ?_);(first | (refine uE (EvF.add64 (p:=(k : Int)) (q:=1) rfl rfl rfl (by omega) (by omega)) rfl rfl ?_)|(refine uE (uM rfl rfl) rfl rfl ?_)))))|(refine uD rfl ?_;refine hK _ _ ?_;clear hK K) | refine uR rfl (fun K hK=>?_) | refine X.skip rfl ?_ | (refine X.ite rfl rfl (fun hc=>?_);(first | (with_reducible refine Xb.f hc ?_)) <;> clear hc))
   all_goals try (exfalso;contradiction)
   exact ⟨_,_,_,(by repeat (first | exact uU _ | refine uV rfl ?_)),(by repeat (first | exact qR _ | apply qK | apply qC)),⟨k + 1,rfl,by omega,rfl,rfl⟩,by omega⟩
 ·obtain rfl : k = R.mats.length:=by omega
  have hlt' : ¬ (R.mats.length : Int)<(R.mats.length : Int):=by omega
  repeat' (first | (refine why_r29 R RS ⟨q1,q2,q3,q4,q5,q6⟩ pS x m bi s tS l rs al ar cl cr b4 b10 b12 b18 b19 G hd hx hm ha hw hs hbi h4 h10 h12 hR hl hrs _ ?_;exact (by repeat (first | exact uU _ | refine uV rfl ?_)))|(refine uP rfl ?_;(first | ((first | refine uN rfl ?_);(first | (refine uE (uQ (b:=false) rfl rfl rfl (congrArg some (decide_eq_false hlt'))) rfl rfl ?_)))))|(refine uD rfl ?_;refine hK _ _ ?_;clear hK K) | refine uS rfl ?_ | refine uR rfl (fun K hK=>?_)|(refine X.brk rfl ?_;repeat (first | refine blockX_hit rfl ?_ | refine blockX_miss (by decide) ?_))|(refine X.ite rfl rfl (fun hc=>?_);(first | (with_reducible refine Xb.f hc ?_)) <;> clear hc))
  all_goals try (exfalso;contradiction)
end Go.Proofs.YtmfppdpkalelhaaGreat
end
section
set_option linter.unusedVariables false
set_option linter.unusedSimpArgs false
namespace Go.Proofs.YtmfppdpkalelhaaGreat
open Go Go.Fw
set_option maxRecDepth 10000
theorem perm_four {α : Type} (a : α) (Z W G : List α) : (a::(Z++(W++G))).Perm ((Z++(W++a::[]))++G):=by
 have h:=(List.perm_middle (a:=a) (l₁:=Z++W) (l₂:=G)).symm
 simpa [List.append_assoc] using h
set_option maxHeartbeats 16000000 in
theorem why_l1 (R RS : Rm) (p pS : Pl) (x : Bx) (m bi : Int) (s tS : Sp) (l rs : List Int) (al ar : Option Addr) (cl cr : Nat) (b4 b10 b12 b18 b19 : Nat) (G : List Row) (hd : Rdy R) (hx : x ∈ R.boxes) (hm : 0 ≤ m∧m ≤ R.months - 1) (ha : x.id ∈ thI R m) (hw : WhyF R x.id m l rs) (hs : s = rng R R.mats ⟨x.id,m⟩ zp) (hbi : 0 ≤ bi∧bi ≤ 255) (h4 : (⟨b4,0,cRm R p,some 32,5⟩ : Row) ∈ G) (h10 : (⟨b10,0,cBx x,some 47,2⟩ : Row) ∈ G) (h12 : (⟨b12,0,cSp s,some 24,2⟩ : Row) ∈ G) (hR : RmOk G R p) (hl : SlE G al cI 1 l) (hrs : SlE G ar cI 1 rs) (F : FS) (hF : Sub [(3,.int .u8 bi),(4,.pointer (some ⟨b4,0,none⟩)),(9,.bool true),(10,.pointer (some ⟨b10,0,none⟩)),(11,.int .i64 m),(12,.pointer (some ⟨b12,0,none⟩)),(14,.slice al l.length cl),(16,.slice ar rs.length cr),(18,.pointer (some ⟨b18,0,none⟩)),(19,.pointer (some ⟨b19,0,none⟩))] F) :
  X Tryz.prog 215 (csnd (csnd (csnd (csnd (csnd (csnd (csnd (csnd (csnd (csnd (csnd (csnd (cof Tryz.f6))))))))))))) F (⟨b19,0,cSp tS,some 24,2⟩::⟨b18,0,cRm RS pS,some 32,5⟩::G) (retX Tryz.prog Tryz.f6 (fun v _=>v = .bool true)):=by
 have hlm : R.mats.length ≤ 8:=hd.ok.1.2.2.2.2.2.2
 have hll:=hw.sub.length_le
 rw [List.length_map] at hll
 have hrl:=hw.rsub.length_le
 rw [List.length_map] at hrl
 have hrs2 : SlE (⟨b19,0,cSp tS,some 24,2⟩::⟨b18,0,cRm RS pS,some 32,5⟩::G) ar cI 1 rs:=hrs.sub (fun _ h=>qT _ (qT _ h))
 have khas:=fun (n : Int) S hS=>lawHas l al cl n S hS (by omega)
 refine X.weak hF (qR _) ?_
 repeat' (first | (refine uP rfl ?_;(first | ((first | refine uN rfl ?_);(first | (refine uE (EvF.lenSlice rfl rfl (te rfl)) rfl rfl ?_)|(refine uE (uM rfl rfl) rfl rfl ?_)))))|(refine uD rfl ?_;refine hK _ _ ?_;clear hK K) | refine uS rfl ?_ | refine uR rfl (fun K hK=>?_) | refine X.block rfl ?_)
 all_goals try (exfalso;contradiction)
 refine X.lp rfl (fun r F' H' => ∃ k : Nat,r = rs.length - k∧k ≤ rs.length∧⟨b19,0,cSp tS,some 24,2⟩::⟨b18,0,cRm RS pS,some 32,5⟩::G = H'∧F' = [(3,.int .u8 bi),(4,.pointer (some ⟨b4,0,none⟩)),(9,.bool true),(10,.pointer (some ⟨b10,0,none⟩)),(11,.int .i64 m),(12,.pointer (some ⟨b12,0,none⟩)),(14,.slice al l.length cl),(16,.slice ar rs.length cr),(18,.pointer (some ⟨b18,0,none⟩)),(19,.pointer (some ⟨b19,0,none⟩)),(126,.slice ar rs.length cr),(127,.int .i64 rs.length),(128,.int .i64 (k : Nat))])
  rs.length [(3,.int .u8 bi),(4,.pointer (some ⟨b4,0,none⟩)),(9,.bool true),(10,.pointer (some ⟨b10,0,none⟩)),(11,.int .i64 m),(12,.pointer (some ⟨b12,0,none⟩)),(14,.slice al l.length cl),(16,.slice ar rs.length cr),(18,.pointer (some ⟨b18,0,none⟩)),(19,.pointer (some ⟨b19,0,none⟩)),(126,.slice ar rs.length cr),(127,.int .i64 rs.length),(128,.int .i64 (0 : Nat))] (⟨b19,0,cSp tS,some 24,2⟩::⟨b18,0,cRm RS pS,some 32,5⟩::G) (by repeat (first | exact uU _ | refine uV rfl ?_)) (qR _) ⟨0,rfl,Nat.zero_le _,rfl,rfl⟩ ?_
 rintro _ _ _ ⟨k,rfl,hk,rfl,rfl⟩
 by_cases hlt : k < rs.length
 ·have hlt' : (k : Int)<(rs.length : Int):=by omega
  obtain ⟨bb,off,e,rfl,he⟩:=hrs2.elem (i:=k) hlt
  have kh:=fun S hS=>khas e S hS
  rw [decide_eq_true (hw.all e (List.mem_of_getElem? he))] at kh
  repeat' (first | (refine uP rfl ?_;(first | ((first | refine uN rfl ?_);(first | (refine uE (uQ (b:=true) rfl rfl rfl (congrArg some (decide_eq_true hlt'))) rfl rfl ?_)|(refine uE (uL rfl rfl (LoadV.el0 hrs2 he (te rfl) rfl (fun _ hm=>hm) rfl)) rfl rfl ?_)|(refine uC (uT rfl (Args.cons rfl (Args.cons rfl Args.nil))) rfl rfl (kh _ (hl.sub (fun _ h=>qT _ (qT _ h)))) ?_;rintro _ _ ⟨rfl,rfl⟩)|(refine uE (EvF.add64 (p:=(k : Int)) (q:=1) rfl rfl rfl (by omega) (by omega)) rfl rfl ?_)|(refine uE (uM rfl rfl) rfl rfl ?_)|(refine uE (uA rfl rfl) rfl rfl ?_)|(refine uE (EvF.not rfl rfl) rfl rfl ?_)|(refine uE (EvF.indexSlice rfl rfl rfl (te rfl) (te rfl) (by omega) (by omega)) rfl rfl ?_)))))|(refine uD rfl ?_;refine hK _ _ ?_;clear hK K) | refine uS rfl ?_ | refine uR rfl (fun K hK=>?_) | refine X.block rfl ?_ | refine X.skip rfl ?_ | refine X.ret rfl ?_ | (refine X.ite rfl rfl (fun hc=>?_);(first | (with_reducible refine Xb.t hc ?_)|(with_reducible refine Xb.caseB hc (fun h=>?_) (fun h=>?_))) <;> clear hc))
  all_goals try (exfalso;contradiction)
  exact ⟨_,_,_,(by repeat (first | exact uU _ | refine uV rfl ?_)),qR _,⟨k + 1,rfl,by omega,rfl,rfl⟩,by omega⟩
 ·obtain rfl : k = rs.length:=by omega
  have hlt' : ¬ (rs.length : Int)<(rs.length : Int):=by omega
  repeat' (first | (refine why_l2 R RS p pS x m bi s tS l rs al ar cl cr b4 b10 b12 b18 b19 G hd hx hm ha hw hs hbi h4 h10 h12 hR hl hrs _ ?_;exact (by repeat (first | exact uU _ | refine uV rfl ?_)))|(refine uP rfl ?_;(first | ((first | refine uN rfl ?_);(first | (refine uE (uQ (b:=false) rfl rfl rfl (congrArg some (decide_eq_false hlt'))) rfl rfl ?_)))))|(refine uD rfl ?_;refine hK _ _ ?_;clear hK K) | refine uS rfl ?_ | refine uR rfl (fun K hK=>?_)|(refine X.brk rfl ?_;repeat (first | refine blockX_hit rfl ?_ | refine blockX_miss (by decide) ?_))|(refine X.ite rfl rfl (fun hc=>?_);(first | (with_reducible refine Xb.f hc ?_)) <;> clear hc))
  all_goals try (exfalso;contradiction)
set_option maxHeartbeats 8000000 in
theorem why_r12 (R RS : Rm) (p pS : Pl) (x : Bx) (m bi : Int) (s : Sp) (l rs : List Int) (al ar : Option Addr) (cl cr : Nat) (b4 b10 b12 b18 : Nat) (G : List Row) (hd : Rdy R) (hx : x ∈ R.boxes) (hm : 0 ≤ m∧m ≤ R.months - 1) (ha : x.id ∈ thI R m) (hw : WhyF R x.id m l rs) (hs : s = rng R R.mats ⟨x.id,m⟩ zp) (hbi : 0 ≤ bi∧bi ≤ 255) (h4 : (⟨b4,0,cRm R p,some 32,5⟩ : Row) ∈ G) (h10 : (⟨b10,0,cBx x,some 47,2⟩ : Row) ∈ G) (h12 : (⟨b12,0,cSp s,some 24,2⟩ : Row) ∈ G) (hR : RmOk G R p) (hl : SlE G al cI 1 l) (hrs : SlE G ar cI 1 rs) (hRS : RmOk G RS pS) (hlx : RS.boxes.length ≤ 1000000) (hy : yelF RS x.id m = (s,0)) (F : FS) (hF : Sub [(3,.int .u8 bi),(4,.pointer (some ⟨b4,0,none⟩)),(9,.bool true),(10,.pointer (some ⟨b10,0,none⟩)),(11,.int .i64 m),(12,.pointer (some ⟨b12,0,none⟩)),(13,.int .i64 0),(14,.slice al l.length cl),(16,.slice ar rs.length cr),(18,.pointer (some ⟨b18,0,none⟩))] F) :
  X Tryz.prog 215 (csnd (csnd (csnd (csnd (csnd (csnd (csnd (csnd (csnd (csnd (cof Tryz.f6))))))))))) F (⟨b18,0,cRm RS pS,some 32,5⟩::G) (retX Tryz.prog Tryz.f6 (fun v _=>v = .bool true)):=by
 have ky:=fun S hS=>kYellow_spec RS pS x.id m S hS hlx
 rw [hy] at ky
 clear hy
 have hse:=eqSpY s
 refine X.weak hF (qR _) ?_
 repeat' (first | (refine why_l1 R RS p pS x m bi s s l rs al ar cl cr b4 b10 b12 b18 b19 G hd hx hm ha hw hs hbi h4 h10 h12 hR hl hrs _ ?_;exact (by repeat (first | exact uU _ | refine uV rfl ?_)))|(refine uP rfl ?_;(first | ((first | refine uN rfl ?_ | (refine Xo.g rfl rfl ?_;with_reducible refine Xw.ff ?_));(first | (refine uE (uX rfl rfl rfl) rfl rfl ?_)|(refine uE (uL rfl rfl (uW (T:=32) (cs:=cRm RS pS) (te rfl) rfl (qH _) rfl)) rfl rfl ?_)|(refine uE (uL rfl rfl (uO (te rfl) rfl (qT _ h10) rfl)) rfl rfl ?_)|(refine uC (uT rfl (Args.cons rfl (Args.cons rfl (Args.cons rfl Args.nil)))) rfl rfl (ky _ (hRS.sub (fun _ h=>qT _ h))) ?_;rintro _ _ ⟨rfl,rfl⟩)|(refine Xg.st (StF.alloc rfl Tryz.zeroValue24 rfl) rfl rfl ?_;rintro _ _ ⟨b19,rfl,rfl⟩)|(refine Xg.st0 (StF.storeAll (i:=0) (vs:=cSp s) rfl rfl rfl (te rfl) rfl rfl rfl rfl) rfl ?_;rintro _ _ ⟨rfl,rfl⟩;dsimp only [List.set])|(refine uE (uQ (b:=false) rfl rfl rfl (congrArg some (nd_f (Eq.refl (0 : Int))))) rfl rfl ?_)|(refine uE (uL rfl rfl (uW (T:=24) (cs:=cSp s) (te rfl) rfl (qH _) rfl)) rfl rfl ?_)|(refine uE (uL rfl rfl (uW (T:=24) (cs:=cSp s) (te rfl) rfl (qT _ (qT _ h12)) rfl)) rfl rfl ?_)|(refine uE (EvF.eqSt (r:=true) (b:=false) rfl rfl rfl (by kernel_rfl) (fun w=>hse w) rfl) rfl rfl ?_)|(refine uE (uM rfl rfl) rfl rfl ?_)|(refine uE (uA rfl rfl) rfl rfl ?_)|(refine uE (EvF.pickF rfl rfl rfl) rfl rfl ?_)|(refine uE (uF rfl rfl (te rfl) rfl (te rfl) (by decide)) rfl rfl ?_)))))|(refine uD rfl ?_;refine hK _ _ ?_;clear hK K) | refine uS rfl ?_ | refine uR rfl (fun K hK=>?_) | refine X.skip rfl ?_ | (refine X.ite rfl rfl (fun hc=>?_);(first | (with_reducible refine Xb.f hc ?_)) <;> clear hc))
 all_goals try (exfalso;contradiction)
def tsKw1 : List TOp:=[⟨some 100,[],[],[]⟩,⟨some 101,[],[],[]⟩,⟨some 102,[],[],[]⟩,⟨some 103,[1,2],[1,2],[]⟩,⟨some 104,[0,1,2,3],[0,3],[]⟩,⟨some 99,[0,1,2,3,4],[4],[]⟩,⟨some 105,[0,1,2,3,4,5],[5],[]⟩,⟨some 106,[0,1,2,3,4,5],[5],[]⟩,⟨some 18,[],[],[]⟩,⟨none,[0,1,2,3,4,5,6,8],[8,6],[8]⟩,⟨some 13,[0,1,2,3,4,5,6,7,8,9],[7],[]⟩]
noncomputable def valKw1 (b4 b10 b12 : Nat) (m bi : Int) (R : Rm) (p : Pl) (l rs : List Int) (al ar : Option Addr) (cl cr : Nat) (L : List Int) (nl : Bool) (nv : Nat × Nat → Value) (rn : Nat × Nat → List Row) (k : Nat) (env : Env) : Value :=
 match k with
 | 0 => .agg (cRm R p).toArray
 | 1 => .agg (cRm R p).toArray
 | 2 => .slice al l.length cl
 | 3=>nv (env 3)
 | 4 => .tuple #[.agg (cRm (strRm R L) (plS nl (env 4))).toArray,.int .i64 0]
 | 5 => .tuple #[.agg (cRm (strRm R L) (plS nl (env 4))).toArray,.int .i64 0]
 | 6 => .agg (cRm (strRm R L) (plS nl (env 4))).toArray
 | 7 => .int .i64 0
 | 8 => .pointer (some ⟨(env 8).1,0,none⟩)
 | 9=>undef
 | 10 => .int .i64 0
 | _=>undef
noncomputable def rowsKw1 (b4 b10 b12 : Nat) (m bi : Int) (R : Rm) (p : Pl) (l rs : List Int) (al ar : Option Addr) (cl cr : Nat) (L : List Int) (nl : Bool) (nv : Nat × Nat → Value) (rn : Nat × Nat → List Row) (k : Nat) (env : Env) : List Row :=
 match k with
 | 3=>rn (env 3)
 | 4=>rowsS nl (strRm R L) (env 4)
 | 8=>[⟨(env 8).1,0,cRm Rz pz,some 32,5⟩]
 | 9=>[⟨(env 8).1,0,cRm (strRm R L) (plS nl (env 4)),some 32,5⟩]
 | _=>[]
theorem locKw1 (b4 b10 b12 : Nat) (m bi : Int) (R : Rm) (p : Pl) (l rs : List Int) (al ar : Option Addr) (cl cr : Nat) (L : List Int) (nl : Bool) (nv : Nat × Nat → Value) (rn : Nat × Nat → List Row) : ∀ k env i q9,i ≠ k → (tAt tsKw1 k).sup.contains i = false → valKw1 b4 b10 b12 m bi R p l rs al ar cl cr L nl nv rn k (upd env i q9)=valKw1 b4 b10 b12 m bi R p l rs al ar cl cr L nl nv rn k env∧rowsKw1 b4 b10 b12 m bi R p l rs al ar cl cr L nl nv rn k (upd env i q9)=rowsKw1 b4 b10 b12 m bi R p l rs al ar cl cr L nl nv rn k env:=by
 intro k env i q hk hs
 have hu : ∀ j,j ≠ i → upd env i q j = env j:=fun j hj=>by unfold upd;rw [if_neg hj]
 match k,hk,hs with
 | 0,_,_=>exact ⟨rfl,rfl⟩
 | 1,_,_=>exact ⟨rfl,rfl⟩
 | 2,_,_=>exact ⟨rfl,rfl⟩
 | 3,hk,hs=>exact ⟨by simp only [valKw1,hu 3 (fun e=>hk e.symm)],by simp only [rowsKw1,hu 3 (fun e=>hk e.symm)]⟩
 | 4,hk,hs=>exact ⟨by simp only [valKw1,hu 4 (fun e=>hk e.symm)],by simp only [rowsKw1,hu 4 (fun e=>hk e.symm)]⟩
 | 5,hk,hs=>exact ⟨by simp only [valKw1,hu 4 (by rintro rfl;cases hs)],by simp only [rowsKw1,hu 4 (by rintro rfl;cases hs)]⟩
 | 6,hk,hs=>exact ⟨by simp only [valKw1,hu 4 (by rintro rfl;cases hs)],by simp only [rowsKw1,hu 4 (by rintro rfl;cases hs)]⟩
 | 7,_,_=>exact ⟨rfl,rfl⟩
 | 8,hk,hs=>exact ⟨by simp only [valKw1,hu 8 (fun e=>hk e.symm)],by simp only [rowsKw1,hu 8 (fun e=>hk e.symm)]⟩
 | 9,hk,hs=>exact ⟨by simp only [valKw1,hu 4 (by rintro rfl;cases hs),hu 8 (by rintro rfl;cases hs)],by simp only [rowsKw1,hu 4 (by rintro rfl;cases hs),hu 8 (by rintro rfl;cases hs)]⟩
 | 10,_,_=>exact ⟨rfl,rfl⟩
 | _ + 11,_,_=>exact ⟨rfl,rfl⟩
def rdKw1 (k : Nat) : List Nat:=match k with
 | 4=>[3]
 | _=>[]
set_option maxHeartbeats 8000000 in
theorem why_r11 (R : Rm) (p : Pl) (x : Bx) (m bi : Int) (s : Sp) (l rs : List Int) (al ar : Option Addr) (cl cr : Nat) (b4 b10 b12 : Nat) (G : List Row) (hd : Rdy R) (hx : x ∈ R.boxes) (hm : 0 ≤ m∧m ≤ R.months - 1) (ha : x.id ∈ thI R m) (hw : WhyF R x.id m l rs) (hs : s = rng R R.mats ⟨x.id,m⟩ zp) (hbi : 0 ≤ bi∧bi ≤ 255) (h4 : (⟨b4,0,cRm R p,some 32,5⟩ : Row) ∈ G) (h10 : (⟨b10,0,cBx x,some 47,2⟩ : Row) ∈ G) (h12 : (⟨b12,0,cSp s,some 24,2⟩ : Row) ∈ G) (hR : RmOk G R p) (hl : SlE G al cI 1 l) (hrs : SlE G ar cI 1 rs) (F : FS) (hF : Sub [(3,.int .u8 bi),(4,.pointer (some ⟨b4,0,none⟩)),(9,.bool true),(10,.pointer (some ⟨b10,0,none⟩)),(11,.int .i64 m),(12,.pointer (some ⟨b12,0,none⟩)),(14,.slice al l.length cl),(16,.slice ar rs.length cr)] F) :
  X Tryz.prog 215 (csnd (csnd (csnd (csnd (csnd (csnd (csnd (csnd (csnd (cof Tryz.f6)))))))))) F G (retX Tryz.prog Tryz.f6 (fun v _=>v = .bool true)):=by
 have hlb4:=hd.ok.ok.b4
 have hm12:=hd.ok.ok.m12
 have ha12 : (R.ages.length : Int)=R.months:=hd.ok.1.2.2.2.2.1
 have hlm : R.mats.length ≤ 8:=hd.ok.1.2.2.2.2.2.2
 have hbx : 0 < R.boxes.length:=List.length_pos_of_mem hx
 have hlf : (leftMt R.mats (restN R l)).length ≤ R.mats.length:=List.length_filter_le _ _
 have hrr:=rest_subl R l
 have hrl:=hrr.length_le
 rw [List.length_map] at hrl
 have hll:=hw.sub.length_le
 rw [List.length_map] at hll
 have hso:=strOk_sub hd.ok hrr
 have hy : yelF (strRm R (restN R l)) x.id m = (s,0):=by rw [str_yel hd _ hm ha,out_rest hd.ok,hw.prv,hs]
 have kr:=fun S hS hS2=>rest_spec R p l al cl S hS (by omega) hS2 (by omega)
 have kst:=fun al cl S hS hS2=>strS_spec R p (restN R l) al cl S hS hd.ok hbx hS2 (by omega) hso
 have hnm : p.a3.isNone = true → (strRm R (restN R l)).mats = []:=fun e=>by
  have h0 : R.mats = []:=by
   cases hq : p.a3 with
   | none=>exact sleNone (by rw [← hq];exact hR.mats)
   | some d=>rw [hq] at e;cases e
  show leftMt R.mats _ = []
  rw [h0];rfl
 have hrm:=fun q S hS=>rmS p.a3.isNone (strRm R (restN R l)) q S hnm hS (by show R.ages.length ≤ _;omega) (by show R.boxes.length ≤ _;omega) (by show (leftMt R.mats _).length ≤ _;omega)
 clear hnm hrr hso
 obtain ⟨L,hL⟩ : ∃ L,L = restN R l:=⟨_,rfl⟩
 obtain ⟨nl,hnl⟩ : ∃ nl,nl = p.a3.isNone:=⟨_,rfl⟩
 rw [← hL] at kr
 rw [← hL, ← hnl] at kst hrm
 rw [← hL] at hy
 obtain ⟨nv,rn,hn1,hn2⟩:=slDraw L
 refine X.weak hF (qR _) ?_
 refine uS rfl ?_
 refine X.regionRd tsKw1 rdKw1 [3,4,9,10,11,12,14,16] [(3,.int .u8 bi),(4,.pointer (some ⟨b4,0,none⟩)),(9,.bool true),(10,.pointer (some ⟨b10,0,none⟩)),(11,.int .i64 m),(12,.pointer (some ⟨b12,0,none⟩)),(14,.slice al l.length cl),(16,.slice ar rs.length cr)] (valKw1 b4 b10 b12 m bi R p l rs al ar cl cr L nl nv rn) (rowsKw1 b4 b10 b12 m bi R p l rs al ar cl cr L nl nv rn) (fun _=>(0,0)) (G) rfl mixed (by repeat (first | exact uU _ | refine uV rfl ?_)) rfl (by kernel_rfl) (by kernel_rfl) (locKw1 b4 b10 b12 m bi R p l rs al ar cl cr L nl nv rn) (qR _) ?_ ?_
 ·repeat' (first | exact AllF.done rfl | (refine AllF.step rfl ?_ ?_;·(first | exact (Ob.ng rfl (ObK.pure (fun env R hR=>by exact ⟨_,uM rfl rfl,rfl⟩) rfl (fun _=>rfl))).toR | exact (Ob.ng rfl (ObK.pure (fun env R hR=>by exact ⟨_,uA rfl rfl,rfl⟩) rfl (fun _=>rfl))).toR | (refine ObR.ng rfl ?_;(first | (exact fun env S hS hrd=>(StF.ofEv (uL rfl rfl (uW (T:=32) (cs:=cRm R p) (te rfl) rfl (hS _ h4) rfl))).op.mono (fun v H' ⟨hv,hH⟩=>⟨(0,0),fun _=>hv,by rw [hH];exact List.Perm.refl _⟩))|(exact fun env S hS hrd=>(OpF.call (uT rfl (Args.cons rfl (Args.cons rfl Args.nil))) (kr S (hR.sub (fun r h=>hS r h)) (hl.sub (fun r h=>hS r h)))).mono (fun v H' ⟨Z,hZ,hH⟩=>by obtain ⟨q,h1,h3⟩:=hn1 _ _ hZ;exact ⟨q,fun _=>h1,by rw [hH,h3];exact List.Perm.refl _⟩))|((refine fun env S hS hrd=>?_;obtain ⟨al,cl,hal,hsl⟩:=hn2 (env 3) S (hrd 3 (qH _));have hca:=kst al cl S (hR.sub (fun r h=>hS r h)) hsl;rw [← hal] at hca;exact (OpF.call (uT rfl (Args.cons rfl (Args.cons rfl Args.nil))) hca).mono (fun v H' ⟨q,hv,hH⟩=>⟨q,fun _=>hv,hH⟩)))|(exact fun env S hS hrd=>(StF.ofEv (v := .agg (cRm (strRm R L) (plS nl (env 4))).toArray) (uX rfl rfl rfl)).op.mono (fun v H' ⟨hv,hH⟩=>⟨(0,0),fun _=>hv,by rw [hH];exact List.Perm.refl _⟩))|(exact fun env S hS hrd=>(StF.ofEv (v := .int .i64 0) (uX rfl rfl rfl)).op.mono (fun v H' ⟨hv,hH⟩=>⟨(0,0),fun _=>hv,by rw [hH];exact List.Perm.refl _⟩))|(exact fun env S hS hrd=>(StF.alloc rfl Tryz.zeroValue32 rfl).op.mono (fun v H' ⟨b,hv,hH⟩=>⟨(b,0),fun _=>hv,by rw [hH];exact List.Perm.refl _⟩))|(exact fun env S hS hrd=>(StF.storeAll (i:=0) (vs:=cRm (strRm R L) (plS nl (env 4))) (cs:=cRm Rz pz) rfl rfl rfl (te rfl) rfl rfl rfl rfl).op.mono (fun v H' ⟨hv,hH⟩=>⟨(0,0),fun h=>absurd rfl h,by rw [hH];exact List.Perm.refl _⟩)))))))
 ·intro env t ha2 hv;refine ⟨_,(ha2.cons (hv 8 18 (Nat.le_of_ble_eq_true rfl) rfl)).cons (hv 10 13 (Nat.le_of_ble_eq_true rfl) rfl),?_⟩;clear hv ha2
  show X _ _ _ [(13,.int .i64 0),(18,.pointer (some ⟨(env 8).1,0,none⟩)),(3,.int .u8 bi),(4,.pointer (some ⟨b4,0,none⟩)),(9,.bool true),(10,.pointer (some ⟨b10,0,none⟩)),(11,.int .i64 m),(12,.pointer (some ⟨b12,0,none⟩)),(14,.slice al l.length cl),(16,.slice ar rs.length cr)] ((rn (env 3)++(rowsS nl (strRm R L) (env 4)++⟨(env 8).1,0,cRm (strRm R L) (plS nl (env 4)),some 32,5⟩::[]))++G) _
  generalize env 4 = q4
  generalize rn (env 3)=Z3
  generalize (env 8).1 = b18
  clear env
  refine X.permH (H' := ⟨b18,0,cRm (strRm R L) (plS nl q4),some 32,5⟩::(Z3++(rowsS nl (strRm R L) q4++G))) (perm_four _ _ _ _) ?_
  have hGs : ∀ r ∈ G,r ∈ Z3++(rowsS nl (strRm R L) q4++G):=fun r h=>List.mem_append_right _ (List.mem_append_right _ h)
  exact why_r12 R (strRm R L) p (plS nl q4) x m bi s l rs al ar cl cr b4 b10 b12 b18 _ hd hx hm ha hw hs hbi (hGs _ h4) (hGs _ h10) (hGs _ h12) (hR.sub hGs) (hl.sub hGs) (hrs.sub hGs) (hrm q4 _ (fun r h=>List.mem_append_right _ (List.mem_append_left _ h))) (by show R.boxes.length ≤ _;omega) hy _ (by repeat (first | exact uU _ | refine uV rfl ?_))
end Go.Proofs.YtmfppdpkalelhaaGreat
end
section
set_option linter.unusedVariables false
set_option linter.unusedSimpArgs false
namespace Go.Proofs.YtmfppdpkalelhaaGreat
open Go Go.Fw
set_option maxRecDepth 10000
set_option maxHeartbeats 8000000 in
theorem why_r6 (R : Rm) (p : Pl) (x : Bx) (m bi : Int) (b4 b10 : Nat) (G : List Row) (hd : Rdy R) (hx : x ∈ R.boxes) (hm : 0 ≤ m∧m ≤ R.months - 1) (ha : x.id ∈ thI R m) (hbi : 0 ≤ bi∧bi ≤ 255) (h4 : (⟨b4,0,cRm R p,some 32,5⟩ : Row) ∈ G) (h10 : (⟨b10,0,cBx x,some 47,2⟩ : Row) ∈ G) (hR : RmOk G R p) (F : FS) (hF : Sub [(3,.int .u8 bi),(4,.pointer (some ⟨b4,0,none⟩)),(9,.bool true),(10,.pointer (some ⟨b10,0,none⟩)),(11,.int .i64 m)] F) :
  X Tryz.prog 215 (csnd (csnd (csnd (csnd (csnd (cof Tryz.f6)))))) F G (retX Tryz.prog Tryz.f6 (fun v _=>v = .bool true)):=by
 have hlb4:=hd.ok.ok.b4
 obtain ⟨l,rs,hw⟩:=why_facts hd hm ha
 have ky:=fun S hS=>kYellow_spec R p x.id m S hS (by omega)
 have kw:=fun S hS=>kWhy_spec R p x.id m S hS (by omega)
 have kr:=fun S hS=>kRests_spec R p x.id m S hS (by omega)
 rw [rdy_yel hd hm ha] at ky
 have kw2 : ∀ S,RmOk S R p → Fc Tryz.prog 16 [.agg (cRm R p).toArray,.int .i64 x.id,.int .i64 m] S (LstR l 0 S):=fun S hS=>by
  have:=kw S hS
  rw [hw.why] at this
  exact this
 have kr2 : ∀ S,RmOk S R p → Fc Tryz.prog 35 [.agg (cRm R p).toArray,.int .i64 x.id,.int .i64 m] S (LstR rs 0 S):=fun S hS=>by
  have:=kr S hS
  rw [hw.rst] at this
  exact this
 obtain ⟨s,hs⟩ : ∃ s,s = rng R R.mats ⟨x.id,m⟩ zp:=⟨_,rfl⟩
 rw [← hs] at ky
 clear kw kr
 refine X.weak hF (qR _) ?_
 repeat' (first | (refine why_r11 R p x m bi s l rs al ar cl cr b4 b10 b12 _ hd hx hm ha hw hs hbi (List.mem_append_right _ (List.mem_append_right _ (qT _ h4))) (List.mem_append_right _ (List.mem_append_right _ (qT _ h10))) (List.mem_append_right _ (List.mem_append_right _ (qH _))) (hR.sub (fun _ h=>List.mem_append_right _ (List.mem_append_right _ (qT _ h)))) (hl1.sub (fun _ h=>List.mem_append_right _ h)) hl2 _ ?_;exact (by repeat (first | exact uU _ | refine uV rfl ?_)))|(refine uP rfl ?_;(first | ((first | refine uN rfl ?_ | (refine Xo.g rfl rfl ?_;with_reducible refine Xw.ff ?_));(first | (refine uE (uX rfl rfl rfl) rfl rfl ?_)|(refine uE (uL rfl rfl (uW (T:=32) (cs:=cRm R p) (te rfl) rfl h4 rfl)) rfl rfl ?_)|(refine uE (uL rfl rfl (uO (te rfl) rfl h10 rfl)) rfl rfl ?_)|(refine uC (uT rfl (Args.cons rfl (Args.cons rfl (Args.cons rfl Args.nil)))) rfl rfl (ky _ hR) ?_;rintro _ G ⟨rfl,rfl⟩)|(refine Xg.st (StF.alloc rfl Tryz.zeroValue24 rfl) rfl rfl ?_;rintro _ _ ⟨b12,rfl,rfl⟩)|(refine Xg.st0 (StF.storeAll (i:=0) (vs:=cSp s) rfl rfl rfl (te rfl) rfl rfl rfl rfl) rfl ?_;rintro _ _ ⟨rfl,rfl⟩;dsimp only [List.set])|(refine uE (uL rfl rfl (uW (T:=32) (cs:=cRm R p) (te rfl) rfl (qT _ h4) rfl)) rfl rfl ?_)|(refine uE (uL rfl rfl (uO (te rfl) rfl (qT _ h10) rfl)) rfl rfl ?_)|(refine uC (uT rfl (Args.cons rfl (Args.cons rfl (Args.cons rfl Args.nil)))) rfl rfl (kw2 _ (hR.sub (fun _ h=>qT _ h))) ?_;rintro _ _ ⟨al,cl,Z1,rfl,hl1,rfl⟩)|(refine uE (uL rfl rfl (uW (T:=32) (cs:=cRm R p) (te rfl) rfl (List.mem_append_right _ (qT _ h4)) rfl)) rfl rfl ?_)|(refine uE (uL rfl rfl (uO (te rfl) rfl (List.mem_append_right _ (qT _ h10)) rfl)) rfl rfl ?_)|(refine uC (uT rfl (Args.cons rfl (Args.cons rfl (Args.cons rfl Args.nil)))) rfl rfl (kr2 _ (hR.sub (fun _ h=>List.mem_append_right _ (qT _ h)))) ?_;rintro _ _ ⟨ar,cr,Z2,rfl,hl2,rfl⟩)|(refine uE (uQ (b:=false) rfl rfl rfl (congrArg some (nd_f (Eq.refl (0 : Int))))) rfl rfl ?_)|(refine uE (uM rfl rfl) rfl rfl ?_)|(refine uE (uA rfl rfl) rfl rfl ?_)|(refine uE (EvF.pickF rfl rfl rfl) rfl rfl ?_)|(refine uE (uF rfl rfl (te rfl) rfl (te rfl) (by decide)) rfl rfl ?_)))))|(refine uD rfl ?_;refine hK _ _ ?_;clear hK K) | refine uS rfl ?_ | refine uR rfl (fun K hK=>?_) | refine X.skip rfl ?_ | (refine X.ite rfl rfl (fun hc=>?_);(first | (with_reducible refine Xb.f hc ?_)) <;> clear hc))
 all_goals try (exfalso;contradiction)
def tsKw5 : List TOp:=[⟨some 54,[],[],[]⟩,⟨some 55,[0],[0],[]⟩,⟨some 56,[],[],[]⟩,⟨some 57,[2],[2],[]⟩,⟨some 58,[],[],[]⟩,⟨some 59,[4],[4],[]⟩,⟨some 60,[],[],[]⟩,⟨some 61,[6],[6],[]⟩,⟨some 62,[4,5,6,7],[5,7],[]⟩,⟨some 63,[2,3,4,5,6,7,8],[3,8],[]⟩,⟨some 64,[0,1,2,3,4,5,6,7,8,9],[1,9],[]⟩,⟨some 11,[0,1,2,3,4,5,6,7,8,9,10],[10],[]⟩]
def valKw5 (b4 b10 : Nat) (mo bi mk : Int) (x : Bx) (k : Nat) (env : Env) : Value :=
 match k with
 | 0 => .pointer (some ⟨b10,1,none⟩)
 | 1 => .int .i64 x.made
 | 2 => .int .u8 mo
 | 3 => .int .i64 mo
 | 4 => .pointer (some ⟨b4,0,none⟩)
 | 5 => .int .i64 mk
 | 6 => .pointer (some ⟨b10,1,none⟩)
 | 7 => .int .i64 x.made
 | 8 => .int .i64 (mk - x.made)
 | 9 => .int .i64 (mo % (mk - x.made))
 | 10 => .int .i64 (x.made + (mo % (mk - x.made)))
 | 11 => .int .i64 (x.made + (mo % (mk - x.made)))
 | _=>undef
def rowsKw5 (b4 b10 : Nat) (mo bi mk : Int) (x : Bx) (k : Nat) (env : Env) : List Row :=
 match k with
 | _=>[]
theorem locKw5 (b4 b10 : Nat) (mo bi mk : Int) (x : Bx) : ∀ k env i q9,i ≠ k → (tAt tsKw5 k).sup.contains i = false → valKw5 b4 b10 mo bi mk x k (upd env i q9)=valKw5 b4 b10 mo bi mk x k env∧rowsKw5 b4 b10 mo bi mk x k (upd env i q9)=rowsKw5 b4 b10 mo bi mk x k env:=by
 intro k env i q hk hs
 have hu : ∀ j,j ≠ i → upd env i q j = env j:=fun j hj=>by unfold upd;rw [if_neg hj]
 match k,hk,hs with
 | 0,_,_=>exact ⟨rfl,rfl⟩
 | 1,_,_=>exact ⟨rfl,rfl⟩
 | 2,_,_=>exact ⟨rfl,rfl⟩
 | 3,_,_=>exact ⟨rfl,rfl⟩
 | 4,_,_=>exact ⟨rfl,rfl⟩
 | 5,_,_=>exact ⟨rfl,rfl⟩
 | 6,_,_=>exact ⟨rfl,rfl⟩
 | 7,_,_=>exact ⟨rfl,rfl⟩
 | 8,_,_=>exact ⟨rfl,rfl⟩
 | 9,_,_=>exact ⟨rfl,rfl⟩
 | 10,_,_=>exact ⟨rfl,rfl⟩
 | 11,_,_=>exact ⟨rfl,rfl⟩
 | _ + 12,_,_=>exact ⟨rfl,rfl⟩
set_option maxHeartbeats 8000000 in
theorem why_r5 (R : Rm) (p : Pl) (x : Bx) (mo bi : Int) (b4 b10 : Nat) (G : List Row) (hd : Rdy R) (hx : x ∈ R.boxes) (hmo : 0 ≤ mo∧mo ≤ 255) (hbi : 0 ≤ bi∧bi ≤ 255) (h4 : (⟨b4,0,cRm R p,some 32,5⟩ : Row) ∈ G) (h10 : (⟨b10,0,cBx x,some 47,2⟩ : Row) ∈ G) (hR : RmOk G R p) (F : FS) (hF : Sub [(2,.int .u8 mo),(3,.int .u8 bi),(4,.pointer (some ⟨b4,0,none⟩)),(9,.bool true),(10,.pointer (some ⟨b10,0,none⟩))] F) :
  X Tryz.prog 215 (csnd (csnd (csnd (csnd (cof Tryz.f6))))) F G (retX Tryz.prog Tryz.f6 (fun v _=>v = .bool true)):=by
 have h1:=okBoxes_mem _ _ _ hd.ok.2.2.1 x hx
 have h2:=hd.ok.ok.m12
 have hd1:=Int.emod_nonneg mo (b:=R.months - x.made) (by omega)
 have hd2:=Int.emod_lt_of_pos mo (b:=R.months - x.made) (by omega)
 obtain ⟨_,hm,ha⟩:=rdy_bx hd hx (m:=x.made + mo % (R.months - x.made)) (by omega) (by omega)
 refine X.weak hF (qR _) ?_
 refine uS rfl ?_
 refine X.regionOb tsKw5 [2,3,4,9,10] [(2,.int .u8 mo),(3,.int .u8 bi),(4,.pointer (some ⟨b4,0,none⟩)),(9,.bool true),(10,.pointer (some ⟨b10,0,none⟩))] (valKw5 b4 b10 mo bi R.months x) (rowsKw5 b4 b10 mo bi R.months x) (fun _=>(0,0)) (G) rfl mixed (by repeat (first | exact uU _ | refine uV rfl ?_)) rfl (by kernel_rfl) (locKw5 b4 b10 mo bi R.months x) (qR _) ?_ ?_
 ·repeat' (first | exact AllF.done rfl | (refine AllF.step rfl ?_ ?_;·(first | fail | ((first | refine Ob.ng rfl ?_);(first | exact ObK.pure (fun env R hR=>by exact ⟨_,uM rfl rfl,rfl⟩) rfl (fun _=>rfl) | exact ObK.pure (fun env R hR=>by exact ⟨_,uA rfl rfl,rfl⟩) rfl (fun _=>rfl) | exact ObK.pure (fun env R hR=>by exact ⟨_,uF rfl rfl (te rfl) rfl (te rfl) (by decide),rfl⟩) rfl (fun _=>rfl)|(exact ObK.pure (fun env S hS=>⟨_,uL rfl rfl (uO (te rfl) rfl (hS _ h10) rfl),rfl⟩) rfl (fun _=>rfl))|(exact ObK.pure (fun env S hS=>⟨_,uL rfl rfl (uO (te rfl) rfl (hS _ h4) rfl),rfl⟩) rfl (fun _=>rfl))|(exact ObK.pure (fun env S hS=>⟨_,EvF.conv rfl rfl byte_und int_undI (by omega) (by omega),rfl⟩) rfl (fun _=>rfl))|(exact ObK.pure (fun env S hS=>⟨_,EvF.rem64 rfl rfl rfl (by omega) (by omega),rfl⟩) rfl (fun _=>rfl))|(exact ObK.pure (fun env S hS=>⟨_,EvF.add64 rfl rfl rfl (by omega) (by omega),rfl⟩) rfl (fun _=>rfl))|(exact ObK.pure (fun env S hS=>⟨_,EvF.sub64 rfl rfl rfl (by omega) (by omega),rfl⟩) rfl (fun _=>rfl)))))))
 ·intro env t ha2 hv;refine ⟨_,ha2.cons (hv 11 11 (Nat.le_of_ble_eq_true rfl) rfl),?_⟩;clear hv ha2
  show X _ _ _ [(11,.int .i64 (x.made + mo % (R.months - x.made))),(2,.int .u8 mo),(3,.int .u8 bi),(4,.pointer (some ⟨b4,0,none⟩)),(9,.bool true),(10,.pointer (some ⟨b10,0,none⟩))] G _
  clear env
  exact why_r6 R p x (x.made + mo % (R.months - x.made)) bi b4 b10 G hd hx hm ha hbi h4 h10 hR _ (by repeat (first | exact uU _ | refine uV rfl ?_))
def tsKw4 : List TOp:=[⟨some 44,[],[],[]⟩,⟨some 45,[0],[0],[]⟩,⟨some 46,[],[],[]⟩,⟨some 47,[2],[2],[]⟩,⟨some 48,[],[],[]⟩,⟨some 49,[4],[4],[]⟩,⟨some 50,[4,5],[5],[]⟩,⟨some 51,[2,3,4,5,6],[3,6],[]⟩,⟨some 52,[0,1,2,3,4,5,6,7],[1,7],[]⟩,⟨some 53,[0,1,2,3,4,5,6,7,8],[8],[]⟩,⟨some 10,[],[],[]⟩,⟨none,[0,1,2,3,4,5,6,7,8,9,10],[10,9],[10]⟩]
def valKw4 (b4 bb off nn c2 kk : Nat) (mo bi wh : Int) (x : Bx) (k : Nat) (env : Env) : Value :=
 match k with
 | 0 => .pointer (some ⟨b4,3,none⟩)
 | 1 => .slice (some ⟨bb,off,none⟩) nn c2
 | 2 => .int .u8 wh
 | 3 => .int .i64 wh
 | 4 => .pointer (some ⟨b4,3,none⟩)
 | 5 => .slice (some ⟨bb,off,none⟩) nn c2
 | 6 => .int .i64 nn
 | 7 => .int .i64 (kk : Nat)
 | 8 => .pointer (some ⟨bb,off + kk * 2,none⟩)
 | 9 => .agg (cBx x).toArray
 | 10 => .pointer (some ⟨(env 10).1,0,none⟩)
 | 11=>undef
 | _=>undef
def rowsKw4 (b4 bb off nn c2 kk : Nat) (mo bi wh : Int) (x : Bx) (k : Nat) (env : Env) : List Row :=
 match k with
 | 10=>[⟨(env 10).1,0,cBx ⟨0,0⟩,some 47,2⟩]
 | 11=>[⟨(env 10).1,0,cBx x,some 47,2⟩]
 | _=>[]
theorem locKw4 (b4 bb off nn c2 kk : Nat) (mo bi wh : Int) (x : Bx) : ∀ k env i q9,i ≠ k → (tAt tsKw4 k).sup.contains i = false → valKw4 b4 bb off nn c2 kk mo bi wh x k (upd env i q9)=valKw4 b4 bb off nn c2 kk mo bi wh x k env∧rowsKw4 b4 bb off nn c2 kk mo bi wh x k (upd env i q9)=rowsKw4 b4 bb off nn c2 kk mo bi wh x k env:=by
 intro k env i q hk hs
 have hu : ∀ j,j ≠ i → upd env i q j = env j:=fun j hj=>by unfold upd;rw [if_neg hj]
 match k,hk,hs with
 | 0,_,_=>exact ⟨rfl,rfl⟩
 | 1,_,_=>exact ⟨rfl,rfl⟩
 | 2,_,_=>exact ⟨rfl,rfl⟩
 | 3,_,_=>exact ⟨rfl,rfl⟩
 | 4,_,_=>exact ⟨rfl,rfl⟩
 | 5,_,_=>exact ⟨rfl,rfl⟩
 | 6,_,_=>exact ⟨rfl,rfl⟩
 | 7,_,_=>exact ⟨rfl,rfl⟩
 | 8,_,_=>exact ⟨rfl,rfl⟩
 | 9,_,_=>exact ⟨rfl,rfl⟩
 | 10,hk,hs=>exact ⟨by simp only [valKw4,hu 10 (fun e=>hk e.symm)],by simp only [rowsKw4,hu 10 (fun e=>hk e.symm)]⟩
 | 11,hk,hs=>exact ⟨by simp only [valKw4,hu 10 (by rintro rfl;cases hs)],by simp only [rowsKw4,hu 10 (by rintro rfl;cases hs)]⟩
 | _ + 12,_,_=>exact ⟨rfl,rfl⟩
set_option maxHeartbeats 8000000 in
theorem boxWhy_spec (R : Rm) (p : Pl) (wh mo bi : Int) (hwh : 0 ≤ wh∧wh ≤ 255) (hmo : 0 ≤ mo∧mo ≤ 255) (hbi : 0 ≤ bi∧bi ≤ 255) (H : List Row) (hR : RmOk H R p) :
  Fc Tryz.prog 6 [.agg (cRm R p).toArray,.int .u8 wh,.int .u8 mo,.int .u8 bi] H (fun v _=>v = .bool true):=by
 by_cases hrd : Rdy R
 ·have hlb4:=hrd.ok.ok.b4
  by_cases hb0 : R.boxes.length = 0
  ·have hb0' : ((R.boxes.length : Nat) : Int)=0:=by omega
   refine Fc.mk (callable Tryz.call6) Tryz.func6 rfl Tryz.ntmps6 rfl ?_;dsimp only [fr]
   repeat' (first | (refine uP rfl ?_;(first | ((first | refine uN rfl ?_ | (refine Xo.g rfl rfl ?_;with_reducible refine Xw.ff ?_));(first | (refine uC (uT rfl Args.nil) rfl rfl (alive_spec _) ?_;rintro _ _ ⟨rfl,rfl⟩)|(refine uE (uL rfl rfl (uW (te rfl) rfl (qH _) rfl)) rfl rfl ?_)|(refine uC (uT rfl (Args.cons rfl Args.nil)) rfl rfl (ready_yes R p _ (hR.sub (fun _ h=>by repeat (first | exact h | apply qT))) hrd) ?_;rintro _ _ ⟨rfl,rfl⟩)|(refine uE (EvF.lenSlice rfl rfl (te rfl)) rfl rfl ?_)|(refine uE (uQ (b:=true) rfl rfl rfl (congrArg some (decide_eq_true hb0'))) rfl rfl ?_)|(refine uE (uM rfl rfl) rfl rfl ?_)|(refine uE (uA rfl rfl) rfl rfl ?_)|(refine uE (EvF.pickT rfl rfl rfl) rfl rfl ?_)|(refine uE (EvF.pickF rfl rfl rfl) rfl rfl ?_)|(refine uE (EvF.not rfl rfl) rfl rfl ?_)|(refine uE (uF rfl rfl (te rfl) rfl (te rfl) (by decide)) rfl rfl ?_)|(refine uE (uL rfl rfl (uO (te rfl) rfl (qH _) rfl)) rfl rfl ?_)|(refine Xg.st (StF.boxAgg rfl rfl) rfl rfl ?_;rintro _ _ ⟨bx,rfl,rfl⟩)))|(refine Xo.g rfl rfl ?_;(first | (with_reducible refine Xw.tf rfl rfl ?_)|(with_reducible refine Xw.caseB (fun h=>?_) (fun h=>?_) <;> simp only [h,decide_true,decide_false,Bool.not_true,Bool.not_false,and_self,and_true,true_and,and_false,false_and])))))|(refine uD rfl ?_;refine hK _ _ ?_;clear hK K) | refine uS rfl ?_ | refine uR rfl (fun K hK=>?_) | refine X.ret rfl ?_ | (refine X.ite rfl rfl (fun hc=>?_);(first | (with_reducible refine Xb.t hc ?_)) <;> clear hc))
   all_goals try (exfalso;contradiction)
   exact ret_one (by simp) Tryz.results6 rfl (H' := _) (qR _) rfl
  ·have hb0' : ¬ ((R.boxes.length : Nat) : Int)=0:=by omega
   obtain ⟨kk,hk1,hk2⟩:=rem_nat hwh.1 (n:=R.boxes.length) (by omega)
   obtain ⟨x,he⟩ : ∃ e,R.boxes[kk]? = some e:=⟨_,List.getElem?_eq_getElem hk1⟩
   have hx:=List.mem_of_getElem? he
   obtain ⟨q1,q2,q3,q4,q5,q6⟩:=p
   obtain ⟨bb,off,_,rfl,_⟩:=hR.boxes.elem (i:=kk) hk1
   refine Fc.mk (callable Tryz.call6) Tryz.func6 rfl Tryz.ntmps6 rfl ?_;dsimp only [fr]
   repeat' (first | (refine uP rfl ?_;(first | ((first | refine uN rfl ?_ | (refine Xo.g rfl rfl ?_;with_reducible refine Xw.ff ?_));(first | (refine uC (uT rfl Args.nil) rfl rfl (alive_spec _) ?_;rintro _ _ ⟨rfl,rfl⟩)|(refine uE (uL rfl rfl (uW (te rfl) rfl (qH _) rfl)) rfl rfl ?_)|(refine uC (uT rfl (Args.cons rfl Args.nil)) rfl rfl (ready_yes R _ _ (hR.sub (fun _ h=>by repeat (first | exact h | apply qT))) hrd) ?_;rintro _ _ ⟨rfl,rfl⟩)|(refine uE (EvF.lenSlice rfl rfl (te rfl)) rfl rfl ?_)|(refine uE (uQ (b:=false) rfl rfl rfl (congrArg some (decide_eq_false hb0'))) rfl rfl ?_)|(refine uE (uM rfl rfl) rfl rfl ?_)|(refine uE (uA rfl rfl) rfl rfl ?_)|(refine uE (EvF.pickT rfl rfl rfl) rfl rfl ?_)|(refine uE (EvF.pickF rfl rfl rfl) rfl rfl ?_)|(refine uE (EvF.not rfl rfl) rfl rfl ?_)|(refine uE (uF rfl rfl (te rfl) rfl (te rfl) (by decide)) rfl rfl ?_)|(refine uE (uL rfl rfl (uO (te rfl) rfl (qH _) rfl)) rfl rfl ?_)|(refine Xg.st (StF.boxAgg rfl rfl) rfl rfl ?_;rintro _ _ ⟨bx,rfl,rfl⟩)))|(refine Xo.g rfl rfl ?_;(first | (with_reducible refine Xw.tf rfl rfl ?_)|(with_reducible refine Xw.caseB (fun h=>?_) (fun h=>?_) <;> simp only [h,decide_true,decide_false,Bool.not_true,Bool.not_false,and_self,and_true,true_and,and_false,false_and])))))|(refine uD rfl ?_;refine hK _ _ ?_;clear hK K) | refine uS rfl ?_ | refine uR rfl (fun K hK=>?_) | refine X.skip rfl ?_ | refine X.ret rfl ?_ | (refine X.ite rfl rfl (fun hc=>?_);(first | (with_reducible refine Xb.t hc ?_)|(with_reducible refine Xb.caseB hc (fun h=>?_) (fun h=>?_))) <;> clear hc))
   all_goals try (exfalso;contradiction)
   generalize bx = b4
   have hbs:=hR.boxes
   refine X.weak (F' := [(1,.int .u8 wh),(2,.int .u8 mo),(3,.int .u8 bi),(4,.pointer (some ⟨b4,0,none⟩)),(9,.bool true)]) (H' := ⟨b4,0,cRm R ⟨q1,q2,some ⟨bb,off,none⟩,q4,q5,q6⟩,some 32,5⟩::H) (by repeat (first | exact uU _ | refine uV rfl ?_)) (by repeat (first | exact qR _ | apply qK | apply qC)) ?_
   refine X.regionOb tsKw4 [1,2,3,4,9] [(1,.int .u8 wh),(2,.int .u8 mo),(3,.int .u8 bi),(4,.pointer (some ⟨b4,0,none⟩)),(9,.bool true)] (valKw4 b4 bb off R.boxes.length q4 kk mo bi wh x) (rowsKw4 b4 bb off R.boxes.length q4 kk mo bi wh x) (fun _=>(0,0)) (⟨b4,0,cRm R ⟨q1,q2,some ⟨bb,off,none⟩,q4,q5,q6⟩,some 32,5⟩::H) rfl mixed (by repeat (first | exact uU _ | refine uV rfl ?_)) rfl (by kernel_rfl) (locKw4 b4 bb off R.boxes.length q4 kk mo bi wh x) (qR _) ?_ ?_
   ·repeat' (first | exact AllF.done rfl | (refine AllF.step rfl ?_ ?_;·(first | fail | ((first | refine Ob.ng rfl ?_);(first | exact ObK.pure (fun env R hR=>by exact ⟨_,uM rfl rfl,rfl⟩) rfl (fun _=>rfl) | exact ObK.pure (fun env R hR=>by exact ⟨_,uF rfl rfl (te rfl) rfl (te rfl) (by decide),rfl⟩) rfl (fun _=>rfl) | exact ObK.pure (fun env R hR=>by exact ⟨_,EvF.lenSlice rfl rfl (te rfl),rfl⟩) rfl (fun _=>rfl) | exact ObK.pure (fun env R hR=>by exact ⟨_,uL rfl rfl (uO (te rfl) rfl (hR _ (qH _)) rfl),rfl⟩) rfl (fun _=>rfl)|(exact ObK.pure (fun env S hS=>⟨_,EvF.conv rfl rfl byte_und int_undI (by omega) (by omega),rfl⟩) rfl (fun _=>rfl))|((refine ObK.pure (fun env S hS=>⟨.int .i64 (kk : Nat),?_,rfl⟩) rfl (fun _=>rfl);rw [← hk2];exact EvF.rem64 (p:=wh) rfl rfl rfl (by omega) (by omega)))|((refine ObK.pure (fun env S hS=>⟨.pointer (some ⟨bb,off + kk * 2,none⟩),?_,rfl⟩) rfl (fun _=>rfl);exact EvF.indexSlice (i:=(kk : Int)) (off:=off) (b:=bb) (T:=29) (e:=47) (len:=R.boxes.length) rfl rfl rfl (te rfl) (te rfl) (by omega) (by omega)))|(exact ObK.pure (fun env S hS=>⟨.agg (cBx x).toArray,uL rfl rfl (LoadV.elA0 (n:=kk) (hbs.sub (fun r h=>hS r (qT _ h))) he (te rfl) rfl (fun _ h=>h) rfl),rfl⟩) rfl (fun _=>rfl))|(exact fun env S hS=>(StF.alloc rfl Tryz.zeroValue47 rfl).op.mono (fun v H' ⟨b,hv,hH⟩=>⟨(b,0),fun _=>hv,by rw [hH];exact List.Perm.refl _⟩))|(exact fun env S hS=>(StF.storeAll (i:=0) (vs:=cBx x) (cs:=cBx ⟨0,0⟩) rfl rfl rfl (te rfl) rfl rfl rfl rfl).op.mono (fun v H' ⟨hv,hH⟩=>⟨(0,0),fun h=>absurd rfl h,by rw [hH];exact List.Perm.refl _⟩)))))))
   ·intro env t ha2 hv;refine ⟨_,ha2.cons (hv 10 10 (Nat.le_of_ble_eq_true rfl) rfl),?_⟩;clear hv ha2
    show X _ _ _ [(10,.pointer (some ⟨(env 10).1,0,none⟩)),(1,.int .u8 wh),(2,.int .u8 mo),(3,.int .u8 bi),(4,.pointer (some ⟨b4,0,none⟩)),(9,.bool true)] (⟨(env 10).1,0,cBx x,some 47,2⟩::⟨b4,0,cRm R ⟨q1,q2,some ⟨bb,off,none⟩,q4,q5,q6⟩,some 32,5⟩::H) _
    generalize (env 10).1 = b10
    exact why_r5 R ⟨q1,q2,some ⟨bb,off,none⟩,q4,q5,q6⟩ x mo bi b4 b10 _ hrd hx hmo hbi (qT _ (qH _)) (qH _) (hR.sub (fun _ h=>by repeat (first | exact h | apply qT))) _ (by repeat (first | exact uU _ | refine uV rfl ?_))
 ·refine Fc.mk (callable Tryz.call6) Tryz.func6 rfl Tryz.ntmps6 rfl ?_;dsimp only [fr]
  repeat' (first | (refine uP rfl ?_;(first | ((first | refine uN rfl ?_ | (refine Xo.g rfl rfl ?_;with_reducible refine Xw.ff ?_));(first | (refine uC (uT rfl Args.nil) rfl rfl (alive_spec _) ?_;rintro _ _ ⟨rfl,rfl⟩)|(refine uE (uL rfl rfl (uW (te rfl) rfl (qH _) rfl)) rfl rfl ?_)|(refine uC (uT rfl (Args.cons rfl Args.nil)) rfl rfl (ready_no R p _ (hR.sub (fun _ h=>by repeat (first | exact h | apply qT))) hrd) ?_;rintro _ _ ⟨rfl,rfl⟩)|(refine uE (uM rfl rfl) rfl rfl ?_)|(refine uE (uA rfl rfl) rfl rfl ?_)|(refine uE (EvF.pickT rfl rfl rfl) rfl rfl ?_)|(refine uE (EvF.pickF rfl rfl rfl) rfl rfl ?_)|(refine uE (uQ rfl rfl rfl rfl) rfl rfl ?_)|(refine uE (EvF.not rfl rfl) rfl rfl ?_)|(refine uE (uF rfl rfl (te rfl) rfl (te rfl) (by decide)) rfl rfl ?_)|(refine uE (EvF.lenSlice rfl rfl (te rfl)) rfl rfl ?_)|(refine uE (uL rfl rfl (uO (te rfl) rfl (qH _) rfl)) rfl rfl ?_)|(refine Xg.st (StF.boxAgg rfl rfl) rfl rfl ?_;rintro _ _ ⟨bx,rfl,rfl⟩)))|(refine Xo.g rfl rfl ?_;(first | (with_reducible refine Xw.tf rfl rfl ?_)|(with_reducible refine Xw.case (fun h=>?_) (fun h=>?_) <;> simp only [h,decide_true,decide_false,Bool.not_true,Bool.not_false,and_self,and_true,true_and,and_false,false_and])|(with_reducible refine Xw.caseB (fun h=>?_) (fun h=>?_) <;> simp only [h,decide_true,decide_false,Bool.not_true,Bool.not_false,and_self,and_true,true_and,and_false,false_and])))))|(refine uD rfl ?_;refine hK _ _ ?_;clear hK K) | refine uS rfl ?_ | refine uR rfl (fun K hK=>?_) | refine X.skip rfl ?_ | refine X.ret rfl ?_ | (refine X.ite rfl rfl (fun hc=>?_);(first | (with_reducible refine Xb.t hc ?_)|(with_reducible refine Xb.caseB hc (fun h=>?_) (fun h=>?_))) <;> clear hc))
  all_goals try (exfalso;contradiction)
  exact ret_one (by simp) Tryz.results6 rfl (H' := _) (qR _) rfl
end Go.Proofs.YtmfppdpkalelhaaGreat
end
