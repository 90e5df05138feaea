/- Own work: contracts of functions, from rows of what is known of the memory; contracts of functions, from rows of what is known of the memory; contracts of functions, from rows of what is known of the memory; contracts of functions, from rows of what is known of the memory; contracts of functions, from rows of what is known of the memory; contracts of functions, from rows of what is known of the memory; The program: DeleteFunc.; contracts of functions, from rows of what is known of the memory; contracts of functions, from rows of what is known of the memory; contracts of functions, from rows of what is known of the memory; The law BoxTells returns true from whatever memory.; contracts of functions, from rows of what is known of the memory; contracts of functions, from rows of what is known of the mem -/
import Derived.Test.YtmfppdpkalelhaaW06
set_option linter.unusedVariables false
set_option linter.unusedSimpArgs false
namespace Go.Proofs.Ytmfppdpkalelhaa
open Go Go.Fw
set_option maxRecDepth 10000
/-- a list of numbers and an error -/
def LstR (l : List Int) (e : Int) (H : List Row) (v : Value) (H' : List Row) : Prop := ∃ a c Z,v = .tuple #[.slice a l.length c,.int .i64 e]∧SlE (Z++H) a cI 1 l∧H' = Z++H
def mOf (m : Int) (l : List Pk) : List Int:=(l.filter (fun p=>decide (p.month = m))).map (·.box)
theorem mOf_snoc {m : Int} {l : List Pk} {k : Nat} {e : Pk} (he : l[k]? = some e) : mOf m (l.take (k + 1)) = mOf m (l.take k)++(if e.month = m then [e.box] else []):=by
 unfold mOf
 rw [take_snoc he,List.filter_append,List.map_append]
 by_cases h : e.month = m
 ·rw [if_pos h,List.filter_cons_of_pos (by simpa using h)];rfl
 ·rw [if_neg h,List.filter_cons_of_neg (by simpa using h)];rfl
set_option maxHeartbeats 4000000 in
theorem there_spec (R : Rm) (p : Pl) (a : Option Addr) (c : Nat) (m : Int) (H : List Row) (hr : okRm R) (hC : CtOk H R p a) (hpc : (plcs R).length ≤ c) :
  Fc Try.prog 74 [.agg (cCt R p a c).toArray,.int .i64 m] H (fun v H' => ∃ Z,TrvI (mOf m ((plcs R).drop 1)) v Z∧H' = Z++H):=by
 have hpl:=plcs_len hr
 obtain ⟨pb,po,q0,hpa,hq0,_⟩:=hC.pl.elem (i:=0) (by unfold plcs;simp)
 subst hpa
 have hp1 : 1 ≤ (plcs R).length:=by unfold plcs;simp
 have hdl : ((plcs R).drop 1).length = (plcs R).length - 1:=List.length_drop
 have hS1 : SlE H (sfrom (some ⟨pb,po,none⟩) c 1 2) cPk 2 ((plcs R).drop 1):=sleFrom hC.pl hpc 1
 obtain ⟨a9,ha9⟩ : ∃ a9,a9 = sfrom (some ⟨pb,po,none⟩) c 1 2:=⟨_,rfl⟩
 obtain ⟨L,hL⟩ : ∃ L,L = (plcs R).drop 1:=⟨_,rfl⟩
 refine Fc.mk (callable Try.call74) Try.func74 rfl Try.ntmps74 rfl ?_;dsimp only [fr]
 repeat' (first | (refine uP rfl ?_;(first | ((first | refine uN rfl ?_);(first | (refine uE (EvF.sliceFrom (lo:=1) rfl rfl (te rfl) (te rfl) rfl (by omega) hpc) rfl rfl ?_)|(refine uE (uM rfl rfl) rfl rfl ?_)|(refine uE (uA rfl rfl) rfl rfl ?_)|(refine uE (uF rfl rfl (te rfl) rfl (te rfl) (by decide)) rfl rfl ?_)|(refine uE (uY rfl rfl (te rfl)) rfl rfl ?_)|(refine uE (uL rfl rfl (uO (te rfl) rfl (qH _) rfl)) rfl rfl ?_)|(refine Xg.st (StF.boxAgg rfl rfl) rfl rfl ?_;rintro _ _ ⟨bx,rfl,rfl⟩)))))|(refine uD rfl ?_;refine hK _ _ ?_;clear hK K) | refine uS rfl ?_ | refine uR rfl (fun K hK=>?_) | refine X.block rfl ?_)
 generalize bx = b2
 rw [← ha9, ← hdl, ← hL]
 rw [← ha9, ← hL] at hS1
 have hLl : L.length ≤ 48:=by rw [hL,hdl];omega
 clear hL hdl ha9
 refine X.lp rfl (fun q F' H' => ∃ (k : Nat) (out : Value) (Z : List Row),q = L.length - k∧k ≤ L.length∧TrvI (mOf m (L.take k)) out Z∧H' = Z++⟨b2,0,cCt R p (some ⟨pb,po,none⟩) c,some 93,6⟩::H ∧
   F' = [(1,.int .i64 m),(5,out),(10,.slice a9 L.length (c - 1)),(11,.int .i64 L.length),(12,.int .i64 k)])
  L.length [(1,.int .i64 m),(5,.slice none 0 0),(10,.slice a9 L.length (c - 1)),(11,.int .i64 L.length),(12,.int .i64 (0 : Nat))] (⟨b2,0,cCt R p (some ⟨pb,po,none⟩) c,some 93,6⟩::H) (by repeat (first | exact uU _ | refine uV rfl ?_)) (qR _) ⟨0,_,[],by omega,by omega,.inl ⟨rfl,rfl,rfl⟩,rfl,rfl⟩ ?_
 rintro _ _ _ ⟨k,out,Z,rfl,hk,hT,rfl,rfl⟩
 by_cases hlt : k < L.length
 ·obtain ⟨b9,o9,e,hq9,he⟩:=hS1.elem (i:=k) hlt
  subst hq9
  have hsn:=mOf_snoc (m:=m) he
  rcases hT with ⟨h0,rfl,rfl⟩ | ⟨b0,q0,rfl,rfl⟩
  ·simp only [List.nil_append]
   rw [h0,List.nil_append] at hsn
   repeat' (first | (refine uP rfl ?_;(first | ((first | refine uN rfl ?_);(first | (refine uE (uQ (b:=true) rfl rfl rfl (congrArg some (decide_eq_true (by omega)))) rfl rfl ?_)|(refine uE (uL rfl rfl (LoadV.elA0 (hS1.sub (fun _ h=>by repeat (first | exact h | apply qT))) he (te rfl) rfl (fun _ hm=>hm) rfl)) rfl rfl ?_)|(refine Xg.st (StF.buildOne rfl el55 rfl rfl rfl (by decide) (by decide)) rfl rfl ?_;rintro _ _ ⟨bs,rfl,rfl⟩)|(refine Xg.st (StF.appendNew rfl el55 rfl rfl (by decide) rfl (Rd.own (qH _)) (by decide)) rfl rfl ?_;rintro _ _ ⟨bn,kn,rfl,rfl⟩)|(refine uE (uM rfl rfl) rfl rfl ?_)|(refine uE (uA rfl rfl) rfl rfl ?_)|(refine uE (uQ rfl rfl rfl rfl) rfl rfl ?_)|(refine uE (EvF.add64 rfl rfl rfl (by omega) (by omega)) rfl rfl ?_)|(refine uE (uF rfl rfl (te rfl) rfl (te rfl) (by decide)) rfl rfl ?_)|(refine uE (uJ rfl rfl rfl (te rfl) (te rfl) (by omega) (by omega)) rfl rfl ?_)|(refine uE (uL rfl rfl (uO (te rfl) rfl (qH _) rfl)) rfl rfl ?_)|(refine Xg.st (StF.alloc rfl Try.zeroValue35 rfl) rfl rfl ?_;rintro _ _ ⟨bx,rfl,rfl⟩)|(refine Xg.st0 (uZ (i:=0) rfl rfl rfl (te rfl) rfl rfl rfl rfl) rfl ?_;rintro _ _ ⟨rfl,rfl⟩;dsimp only [List.set])))))|(refine uD rfl ?_;refine hK _ _ ?_;clear hK K) | refine uS rfl ?_ | refine uR rfl (fun K hK=>?_) | refine X.block rfl ?_ | refine X.skip rfl ?_ | (refine X.ite rfl rfl (fun hc=>?_);(first | (with_reducible refine Xb.t hc ?_)|(with_reducible refine Xb.case hc (fun h=>?_) (fun h=>?_))) <;> clear hc))
   all_goals try (exfalso;contradiction)
   ·rw [if_pos (by assumption)] at hsn
    refine ⟨_,_,⟨bn,0,(mOf m (L.take (k + 1))).flatMap cI,some 3,kn * 1⟩::⟨b2,0,cCt R p (some ⟨pb,po,none⟩) c,some 93,6⟩::H,(by repeat (first | exact uU _ | refine uV rfl ?_)),?_,⟨k + 1,_,[_],rfl,by omega,.inr ⟨bn,kn,by rw [hsn];rfl,rfl⟩,rfl,rfl⟩,by omega⟩
    rw [hsn]
    exact (by repeat (first | exact qR _ | apply qK | apply qC))
   ·rw [if_neg (by assumption)] at hsn
    exact ⟨_,_,⟨b2,0,cCt R p (some ⟨pb,po,none⟩) c,some 93,6⟩::H,(by repeat (first | exact uU _ | refine uV rfl ?_)),(by repeat (first | exact qR _ | apply qK | apply qC)),⟨k + 1,_,[],rfl,by omega,.inl ⟨hsn,rfl,rfl⟩,rfl,rfl⟩,by omega⟩
  ·have hlen : ((mOf m (L.take k)).flatMap cI).length = (mOf m (L.take k)).length * 1:=lenI _
   have hll : (mOf m (L.take k)).length ≤ 48:=by
    unfold mOf
    rw [List.length_map]
    have h1:=List.length_filter_le (fun p : Pk=>decide (p.month = m)) (L.take k)
    have h2:=List.length_take (i:=k) (l:=L)
    omega
   simp only [List.cons_append,List.nil_append]
   repeat' (first | (refine uP rfl ?_;(first | ((first | refine uN rfl ?_);(first | (refine uE (uQ (b:=true) rfl rfl rfl (congrArg some (decide_eq_true (by omega)))) rfl rfl ?_)|(refine uE (uL rfl rfl (LoadV.elA0 (hS1.sub (fun _ h=>by repeat (first | exact h | apply qT))) he (te rfl) rfl (fun _ hm=>hm) rfl)) rfl rfl ?_)|(refine Xg.st (StF.buildOne rfl el55 rfl rfl rfl (by decide) (by decide)) rfl rfl ?_;rintro _ _ ⟨bs,rfl,rfl⟩)|(refine Xg.st (StF.appendOwn (i:=2) rfl el55 rfl rfl rfl hlen rfl (Rd.own (qH _)) rfl (by omega)) rfl rfl ?_;rintro _ _ ⟨bn,kn,rfl,rfl⟩;dsimp only [List.eraseIdx])|(refine uE (uM rfl rfl) rfl rfl ?_)|(refine uE (uA rfl rfl) rfl rfl ?_)|(refine uE (uQ rfl rfl rfl rfl) rfl rfl ?_)|(refine uE (EvF.add64 rfl rfl rfl (by omega) (by omega)) rfl rfl ?_)|(refine uE (uF rfl rfl (te rfl) rfl (te rfl) (by decide)) rfl rfl ?_)|(refine uE (uJ rfl rfl rfl (te rfl) (te rfl) (by omega) (by omega)) rfl rfl ?_)|(refine uE (uL rfl rfl (uO (te rfl) rfl (qH _) rfl)) rfl rfl ?_)|(refine Xg.st (StF.alloc rfl Try.zeroValue35 rfl) rfl rfl ?_;rintro _ _ ⟨bx,rfl,rfl⟩)|(refine Xg.st0 (uZ (i:=0) rfl rfl rfl (te rfl) rfl rfl rfl rfl) rfl ?_;rintro _ _ ⟨rfl,rfl⟩;dsimp only [List.set])))))|(refine uD rfl ?_;refine hK _ _ ?_;clear hK K) | refine uS rfl ?_ | refine uR rfl (fun K hK=>?_) | refine X.block rfl ?_ | refine X.skip rfl ?_ | (refine X.ite rfl rfl (fun hc=>?_);(first | (with_reducible refine Xb.t hc ?_)|(with_reducible refine Xb.case hc (fun h=>?_) (fun h=>?_))) <;> clear hc))
   all_goals try (exfalso;contradiction)
   ·rw [if_pos (by assumption)] at hsn
    refine ⟨_,_,⟨bn,0,(mOf m (L.take (k + 1))).flatMap cI,some 3,kn * 1⟩::⟨b2,0,cCt R p (some ⟨pb,po,none⟩) c,some 93,6⟩::H,(by repeat (first | exact uU _ | refine uV rfl ?_)),?_,⟨k + 1,_,[_],rfl,by omega,.inr ⟨bn,kn,by rw [hsn,List.length_append];rfl,rfl⟩,rfl,rfl⟩,by omega⟩
    rw [hsn,List.flatMap_append]
    exact (by repeat (first | exact qR _ | apply qK | apply qC))
   ·rw [if_neg (by assumption),List.append_nil] at hsn
    exact ⟨_,_,⟨b0,0,(mOf m (L.take k)).flatMap cI,some 3,q0 * 1⟩::⟨b2,0,cCt R p (some ⟨pb,po,none⟩) c,some 93,6⟩::H,(by repeat (first | exact uU _ | refine uV rfl ?_)),(by repeat (first | exact qR _ | apply qK | apply qC)),⟨k + 1,_,[_],rfl,by omega,.inr ⟨b0,q0,by rw [hsn],by rw [hsn]⟩,rfl,rfl⟩,by omega⟩
 ·obtain rfl : k = L.length:=by omega
  rw [List.take_length] at hT
  repeat' (first | (refine uP rfl ?_;(first | ((first | refine uN rfl ?_);(first | (refine uE (uQ (b:=false) rfl rfl rfl (congrArg some (decide_eq_false (by omega)))) rfl rfl ?_)|(refine uE (uM rfl rfl) rfl rfl ?_)|(refine uE (uA rfl rfl) rfl rfl ?_)))))|(refine uD rfl ?_;refine hK _ _ ?_;clear hK K) | refine uS rfl ?_ | refine uR rfl (fun K hK=>?_)|(refine X.brk rfl ?_;repeat (first | refine blockX_hit rfl ?_ | refine blockX_miss (by decide) ?_)) | refine X.ret rfl ?_ | (refine X.ite rfl rfl (fun hc=>?_);(first | (with_reducible refine Xb.f hc ?_)) <;> clear hc))
  all_goals try (exfalso;contradiction)
  exact ret_one (by simp) Try.results74 rfl (H' := Z++H) (List.Sublist.append (qR _) (List.sublist_cons_self _ _)) ⟨Z,hT,rfl⟩
theorem fresh11_spec (R : Rm) (p : Pl) (a : Option Addr) (c : Nat) (m x y : Int) (bc ba bm : Nat) (w1 w2 w3 : Option Kd) (k1 k2 k3 : Nat) (H : List Row) (hr : okRm R) (hm : matsThere R R.mats) (hC : CtOk H R p a) (hla : R.ages.length ≤ 1000) (hlm : R.mats.length ≤ 1000) (hpc : (plcs R).length ≤ c) (hT : hasT R R.mats)
  (hx : (⟨x,m⟩ : Pk) ∈ plcs R) (hy : (⟨y,m⟩ : Pk) ∈ plcs R) (mc : ⟨bc,0,cCt R p a c,w1,k1⟩ ∈ H) (ma : ⟨ba,0,[.int .i64 x],w2,k2⟩ ∈ H) (mm : ⟨bm,0,[.int .i64 m],w3,k3⟩ ∈ H) :
  Fc Try.prog 77 ([.int .i64 y]++[.pointer (some ⟨bc,0,none⟩),.pointer (some ⟨ba,0,none⟩),.pointer (some ⟨bm,0,none⟩)]) H (fun v H' => v = .bool (decide (0 < (rng R R.mats ⟨x,m⟩ ⟨y,m⟩).lo))∧H' = H):=by
 show Fc Try.prog 77 [.int .i64 y,.pointer (some ⟨bc,0,none⟩),.pointer (some ⟨ba,0,none⟩),.pointer (some ⟨bm,0,none⟩)] H _
 have hd:=fun H' hC' => differ_spec R p a c ⟨x,m⟩ ⟨y,m⟩ H' hr hm hC' hla hlm hpc hx hy hT
 obtain ⟨s,hs⟩ : ∃ s,s = rng R R.mats ⟨x,m⟩ ⟨y,m⟩:=⟨_,rfl⟩
 rw [← hs] at hd ⊢
 refine Fc.mk (callable Try.call77) Try.func77 rfl Try.ntmps77 rfl ?_;dsimp only [fr]
 repeat' (first | (refine uP rfl ?_;(first | ((first | refine uN rfl ?_);(first | (refine uE (uL rfl rfl (uW (T:=93) (cs:=cCt R p a c) (te rfl) rfl mc rfl)) rfl rfl ?_)|(refine uE (uL rfl rfl (uO (te rfl) rfl ma rfl)) rfl rfl ?_)|(refine uE (uL rfl rfl (uO (te rfl) rfl mm rfl)) rfl rfl ?_)|(refine uE (EvF.build (cs:=cPk ⟨x,m⟩) rfl (ArgsP.cons rfl (ArgsP.cons rfl ArgsP.nil)) (te rfl) (Places.cons (te rfl) (Places.cons (te rfl) Places.nil)) Try.zeroValue101 rfl) rfl rfl ?_)|(refine uE (EvF.build (cs:=cPk ⟨y,m⟩) rfl (ArgsP.cons rfl (ArgsP.cons rfl ArgsP.nil)) (te rfl) (Places.cons (te rfl) (Places.cons (te rfl) Places.nil)) Try.zeroValue101 rfl) rfl rfl ?_)|(refine uC (uT rfl (Args.cons rfl (Args.cons rfl (Args.cons rfl Args.nil)))) rfl rfl (hd _ (hC.sub (fun _ h=>by repeat (first | exact h | apply qT)))) ?_;rintro _ H9 ⟨rfl,hH9⟩;subst H9)|(refine uE (uM rfl rfl) rfl rfl ?_)|(refine uE (uA rfl rfl) rfl rfl ?_)|(refine uE (uQ rfl rfl rfl rfl) rfl rfl ?_)|(refine uE (EvF.field rfl rfl (te rfl) rfl (te rfl) rfl rfl) rfl rfl ?_)))))|(refine uD rfl ?_;refine hK _ _ ?_;clear hK K) | refine uS rfl ?_ | refine uR rfl (fun K hK=>?_) | refine X.ret rfl ?_)
 exact ret_one (by simp) Try.results77 rfl (H' := H) (by repeat (first | exact qR _ | apply qK | apply qC)) ⟨rfl,rfl⟩
theorem any_dec {α : Type} (l : List α) (p : α → Bool) [Decidable (∃ e ∈ l,p e = true)] : decide (∃ e ∈ l,p e = true)=l.any p:=by
 by_cases h : ∃ e ∈ l,p e = true
 ·rw [decide_eq_true h];exact (List.any_eq_true.2 h).symm
 ·rw [decide_eq_false h];exact (Bool.eq_false_iff.2 (fun q=>h (List.any_eq_true.1 q))).symm
theorem fresh1_spec (R : Rm) (p : Pl) (a a' : Option Addr) (c c' : Nat) (m x : Int) (bt bc bm : Nat) (w1 w2 w3 : Option Kd) (k1 k2 k3 : Nat) (H : List Row) (hr : okRm R) (hm : matsThere R R.mats) (hC : CtOk H R p a) (hla : R.ages.length ≤ 1000) (hlm : R.mats.length ≤ 1000) (hpc : (plcs R).length ≤ c) (hT : hasT R R.mats) (hmm : m ≤ R.months - 1)
  (hx : x ∈ thI R m) (hl : SlE H a' cI 1 (thI R m)) (mt : ⟨bt,0,[.slice a' (thI R m).length c'],w1,k1⟩ ∈ H) (mc : ⟨bc,0,cCt R p a c,w2,k2⟩ ∈ H) (mm : ⟨bm,0,[.int .i64 m],w3,k3⟩ ∈ H) :
  Fc Try.prog 75 ([.int .i64 x]++[.pointer (some ⟨bt,0,none⟩),.pointer (some ⟨bc,0,none⟩),.pointer (some ⟨bm,0,none⟩)]) H (fun v H' => v = .bool (stale R m x)∧H' = H):=by
 show Fc Try.prog 75 [.int .i64 x,.pointer (some ⟨bt,0,none⟩),.pointer (some ⟨bc,0,none⟩),.pointer (some ⟨bm,0,none⟩)] H _
 have hin : ∀ y ∈ thI R m,(⟨y,m⟩ : Pk) ∈ plcs R:=fun y hy=>by
  obtain ⟨b,hb,rfl⟩:=(mem_thI hmm).1 hy
  exact plcs_mem hb
 have hll : (thI R m).length ≤ 4:=by
  unfold thI
  rw [List.length_map]
  exact Nat.le_trans (List.length_filter_le _ _) hr.b4
 have hst : stale R m x = decide (∃ y ∈ thI R m,decide (0 < (rng R R.mats ⟨x,m⟩ ⟨y,m⟩).lo)=true):=(any_dec _ _).symm
 rw [hst]
 refine Fc.mk (callable Try.call75) Try.func75 rfl Try.ntmps75 rfl ?_;dsimp only [fr]
 repeat' (first | (refine uP rfl ?_;(first | ((first | refine uN rfl ?_);(first | (refine uE (uL rfl rfl (uO (te rfl) rfl (qT _ mt) rfl)) rfl rfl ?_)|(refine uE (EvF.makeFunc (fl:=[]) rfl Args.nil (Args.cons rfl (Args.cons rfl (Args.cons rfl Args.nil)))) rfl rfl ?_)|(refine uC (uT rfl (Args.cons rfl (Args.cons rfl Args.nil))) rfl rfl (containsFunc_specI (thI R m) a' c' 77 (fun y=>decide (0 < (rng R R.mats ⟨x,m⟩ ⟨y,m⟩).lo)) [_,_,_] _ (hl.sub (fun _ h=>by repeat (first | exact h | apply qT))) (by omega) (fun y hy=>fresh11_spec R p a c m x y bc _ bm _ _ _ _ _ _ _ hr hm (hC.sub (fun _ h=>by repeat (first | exact h | apply qT))) hla hlm hpc hT (hin x hx) (hin y hy) (qT _ mc) (qH _) (qT _ mm))) ?_;rintro _ H9 ⟨rfl,hH9⟩;subst H9)|(refine uE (uA rfl rfl) rfl rfl ?_)|(refine Xg.st (StF.boxOne rfl rfl rfl) rfl rfl ?_;rintro _ _ ⟨bx,rfl,rfl⟩)))))|(refine uD rfl ?_;refine hK _ _ ?_;clear hK K) | refine uS rfl ?_ | refine uR rfl (fun K hK=>?_) | refine X.ret rfl ?_)
 exact ret_one (by simp) Try.results75 rfl (H' := H) (by repeat (first | exact qR _ | apply qK | apply qC)) ⟨rfl,rfl⟩
theorem EvF.eqNilT {P : Program} {n : Nat} {H : List Row} {F : FS} {o : Oper} {T T' e : TypeId} {x : Operand} {len cap s y : Nat} (h : o.op = .binOp .eql T x (.const (.slice none 0 0)) T') (hx : evF F x = some (.slice none len cap)) (hT : tiOf P T = some ⟨.sl e,s,y⟩) : EvF P n H F o (.bool true):=by
 unfold EvF EvOp
 intro t ha B w0 w hS
 have hu:=ti_slice hT
 have h1 : (binOp .eql T (.slice none len cap) (.slice none 0 0)).run P w = .ok (.bool true) w:=by
  show Sem.run P (do pure (Value.bool (← Op.equalIn 10000 T (.slice none len cap) (.slice none 0 0)))) w = _
  rw [show (10000 : Nat)=9999 + 1 from rfl]
  unfold Op.equalIn
  simp [underlying,hu]
 have hxv:=ha.ev hx
 simp [execOp,h,hxv,show Fw.ev t (.const (.slice none 0 0)) = .slice none 0 0 from rfl,eqGuard,h1]
theorem cloneNilI (H : List Row) : Fc Try.prog 79 [.slice none 0 0] H (fun v H' => v = .slice none 0 0∧H' = H):=by
 refine Fc.mk (callable Try.call79) Try.func79 rfl Try.ntmps79 rfl ?_;dsimp only [fr]
 repeat' (first | (refine uP rfl ?_;(first | ((first | refine uN rfl ?_);(first | (refine uE (EvF.eqNilT rfl rfl (te rfl)) rfl rfl ?_)|(refine uE (uM rfl rfl) rfl rfl ?_)|(refine uE (uA rfl rfl) rfl rfl ?_)))))|(refine uD rfl ?_;refine hK _ _ ?_;clear hK K) | refine uS rfl ?_ | refine uR rfl (fun K hK=>?_) | refine X.ret rfl ?_ | (refine X.ite rfl rfl (fun hc=>?_);(first | (with_reducible refine Xb.t hc ?_)) <;> clear hc))
 all_goals try (exfalso;contradiction)
 exact ret_one (by simp) Try.results79 rfl (H' := H) (by repeat (first | exact qR _ | apply qK | apply qC)) ⟨rfl,rfl⟩
theorem deleteNilI (g : Nat) (cap : List Value) (H : List Row) : Fc Try.prog 78 [.slice none 0 0,.func (.func g) #[] cap.toArray] H (fun v H' => v = .slice none 0 0∧H' = H):=by
 have hi:=indexFunc_specI [] none 0 g (fun _=>false) cap H sleNil (Nat.zero_le _) (fun e he=>absurd he List.not_mem_nil)
 have hi' : Fc Try.prog 118 [.slice none 0 0,.func (.func g) #[] cap.toArray] H (fun v H' => v = .int .i64 (-1)∧H' = H):=hi.mono fun v H' ⟨⟨z,hv,hz⟩,hH⟩=>⟨by
  rcases hz with ⟨rfl,_⟩ | ⟨k,e,_,he,_⟩
  ·exact hv
  ·simp at he,hH⟩
 refine Fc.mk (callable Try.call78) Try.func78 rfl Try.ntmps78 rfl ?_;dsimp only [fr]
 repeat' (first | (refine uP rfl ?_;(first | ((first | refine uN rfl ?_);(first | (refine uE (uQ (b:=true) rfl rfl rfl (congrArg some (decide_eq_true (by omega)))) rfl rfl ?_)|(refine uC (uT rfl (Args.cons rfl (Args.cons rfl Args.nil))) rfl rfl (hi') ?_;rintro _ H9 ⟨rfl,hH9⟩;subst H9)|(refine uE (uM rfl rfl) rfl rfl ?_)|(refine uE (uA rfl rfl) rfl rfl ?_)))))|(refine uD rfl ?_;refine hK _ _ ?_;clear hK K) | refine uS rfl ?_ | refine uR rfl (fun K hK=>?_) | refine X.ret rfl ?_ | (refine X.ite rfl rfl (fun hc=>?_);(first | (with_reducible refine Xb.t hc ?_)) <;> clear hc))
 all_goals try (exfalso;contradiction)
 exact ret_one (by simp) Try.results78 rfl (H' := H) (by repeat (first | exact qR _ | apply qK | apply qC)) ⟨rfl,rfl⟩
theorem thI_len {R : Rm} (hr : okRm R) (m : Int) : (thI R m).length ≤ 4:=by
 unfold thI
 rw [List.length_map]
 exact Nat.le_trans (List.length_filter_le _ _) hr.b4
theorem thereI_spec (R : Rm) (p : Pl) (b k : Nat) (m : Int) (H : List Row) (hr : okRm R) (hmm : m ≤ R.months - 1) (hC : CtOk H R p (some ⟨b,0,none⟩)) (hpc : (plcs R).length ≤ k) :
  Fc Try.prog 74 [.agg (cCt R p (some ⟨b,0,none⟩) k).toArray,.int .i64 m] H (fun v H' => (thI R m = []∧v = .slice none 0 0∧H' = H) ∨ ∃ bt kt,v = .slice (some ⟨bt,0,none⟩) (thI R m).length kt∧H' = ⟨bt,0,(thI R m).flatMap cI,some 3,kt * 1⟩::H):=by
 have:=there_spec R p (some ⟨b,0,none⟩) k m H hr hC hpc
 rw [show mOf m ((plcs R).drop 1)=thI R m from plcs_month hr hmm] at this
 refine this.mono fun v H' ⟨Z,hZ,hH⟩=>?_
 rcases hZ with ⟨h0,hv,rfl⟩ | ⟨bt,kt,hv,rfl⟩
 ·exact .inl ⟨h0,hv,hH⟩
 ·exact .inr ⟨bt,kt,hv,hH⟩
set_option maxHeartbeats 8000000 in
theorem kFresh_spec (R : Rm) (p : Pl) (m : Int) (H : List Row) (hR : RmOk H R p) (h2 : R.boxes.length ≤ 1000000) : Fc Try.prog 34 [.agg (cRm R p).toArray,.int .i64 m] H (LstR (freF R m).1 (freF R m).2 H):=by
 obtain ⟨e,he⟩ : ∃ e,openE R [] [m] = e:=⟨_,rfl⟩
 have hbt : ∀ (H' : List Row) (b1 : Nat),⟨b1,0,[.int .i64 m],some 3,1 * 1⟩ ∈ H' → BtOk H' ⟨[],none,0,[m],some ⟨b1,0,none⟩,1⟩:=fun H' b1 q1=>⟨sleNil,SlE.ofRow (l:=[m]) q1 (fun _ _=>rfl),Nat.le_of_ble_eq_true rfl,Nat.le_of_ble_eq_true rfl⟩
 by_cases h0 : e = 0
 ·subst h0
  obtain ⟨hok,_,hin,hT⟩:=openE_ok he
  have hmm : m ≤ R.months - 1:=(hin m (List.mem_singleton.2 rfl)).1.2
  have hF : freF R m = (freL R m,0):=by unfold freF;rw [if_pos he]
  have htl:=thI_len hok.ok m
  rw [hF]
  refine Fc.mk (callable Try.call34) Try.func34 rfl Try.ntmps34 rfl ?_;dsimp only [fr]
  repeat' (first | (refine uP rfl ?_;(first | ((first | refine uN rfl ?_);(first | (refine uE (uQ (b:=false) rfl rfl rfl (congrArg some (nd_f (by omega)))) rfl rfl ?_)|(refine Xg.st (StF.buildOne (v0 := .int .i64 m) rfl el55 rfl rfl rfl (by decide) (by decide)) rfl rfl ?_;rintro _ _ ⟨b1,rfl,rfl⟩)|(refine uE (EvF.build (cs:=cBt ⟨[],none,0,[m],some ⟨b1,0,none⟩,1⟩) rfl (ArgsP.cons rfl ArgsP.nil) (te rfl) (Places.cons (te rfl) (Places.cons (te rfl) Places.nil)) Try.zeroValue98 rfl) rfl rfl ?_)|(refine uC (uT rfl (by (repeat (first | exact Args.nil | refine Args.cons rfl ?_));done)) rfl rfl (openY (hR.sub (fun _ h=>by repeat (first | exact h | apply qT))) (hbt _ b1 (qH _)) h2 he) ?_;rintro _ _ ⟨b,k,hbk,rfl,rfl⟩)|(refine Xg.st (StF.alloc rfl Try.zeroValue93 rfl) rfl rfl ?_;rintro _ _ ⟨b8,rfl,rfl⟩)|(refine Xg.st0 (uZ (i:=0) (vs:=cCt R p (some ⟨b,0,none⟩) k) rfl rfl rfl (te rfl) rfl rfl rfl rfl) rfl ?_;rintro _ _ ⟨rfl,rfl⟩;dsimp only [List.set])|(refine uE (uL rfl rfl (uW (T:=93) (cs:=cCt R p (some ⟨b,0,none⟩) k) (te rfl) rfl (by repeat (first | exact qH _ | apply qT)) rfl)) rfl rfl ?_)|(refine Xg.st (StF.alloc rfl Try.zeroValue55 rfl) rfl rfl ?_;rintro _ _ ⟨b9,rfl,rfl⟩)|(refine uE (EvF.makeFunc (fl:=[]) rfl Args.nil (Args.cons rfl (Args.cons rfl (Args.cons rfl Args.nil)))) rfl rfl ?_)|(refine uC (uT rfl (by (repeat (first | exact Args.nil | refine Args.cons rfl ?_));done)) rfl rfl (thereI_spec R p b k m _ hok.ok hmm ⟨hR.sub (fun _ h=>by repeat (first | exact h | apply qT)),SlE.ofRow (qT _ (qH _)) (fun _ _=>rfl)⟩ hbk) ?_;rintro _ _ (⟨ht,rfl,rfl⟩ | ⟨bt,kt,rfl,rfl⟩))|(refine uC (uT rfl (Args.cons rfl Args.nil)) rfl rfl (cloneNilI _) ?_;rintro _ H9 ⟨rfl,hH9⟩;subst H9)|(refine uC (uT rfl (Args.cons rfl (Args.cons rfl Args.nil))) rfl rfl (deleteNilI _ [_,_,_] _) ?_;rintro _ H9 ⟨rfl,hH9⟩;subst H9)|(refine uC (uT rfl (by (repeat (first | exact Args.nil | refine Args.cons rfl ?_));done)) rfl rfl (clone_specInt (thI R m) ⟨bt,0,none⟩ kt _ (SlE.ofRow (by repeat (first | exact qH _ | apply qT)) (fun _ _=>rfl)) (by omega)) ?_;rintro _ _ ⟨bc,kc,rfl,rfl⟩)|(refine uC (uT rfl (Args.cons rfl (Args.cons rfl Args.nil))) rfl rfl (deleteFunc_specInt (thI R m) bc kc 75 (stale R m) [_,_,_] _ (by omega) (fun Z x hx=>fresh1_spec R p (some ⟨b,0,none⟩) (some ⟨bt,0,none⟩) k kt m x _ _ _ _ _ _ _ _ _ (Z++_) hok.ok hok.mats ⟨hR.sub (fun _ h=>List.mem_append_right _ (by repeat (first | exact h | apply qT))),SlE.ofRow (List.mem_append_right _ (by repeat (first | exact qH _ | apply qT))) (fun _ _=>rfl)⟩ hok.lens.ages hok.lens.mats hbk hT hmm hx (SlE.ofRow (List.mem_append_right _ (by repeat (first | exact qH _ | apply qT))) (fun _ _=>rfl)) (List.mem_append_right _ (by repeat (first | exact qH _ | apply qT))) (List.mem_append_right _ (by repeat (first | exact qH _ | apply qT))) (List.mem_append_right _ (by repeat (first | exact qH _ | apply qT))))) ?_;rintro _ _ ⟨rfl,rfl⟩)|(refine uE (uM rfl rfl) rfl rfl ?_)|(refine uE (uA rfl rfl) rfl rfl ?_)|(refine uE (uL rfl rfl (uO (te rfl) rfl (qH _) rfl)) rfl rfl ?_)|(refine uE (uL rfl rfl (uO (te rfl) rfl (qT _ (qT _ (qT _ (qH _)))) rfl)) rfl rfl ?_)|(refine uE (uL rfl rfl (uW (te rfl) rfl (qT _ (qH _)) rfl)) rfl rfl ?_)|(refine uE (uX rfl rfl rfl) rfl rfl ?_)|(refine Xg.st (StF.boxAgg rfl rfl) rfl rfl ?_;rintro _ _ ⟨bx,rfl,rfl⟩)|(refine Xg.st (StF.boxOne rfl rfl rfl) rfl rfl ?_;rintro _ _ ⟨bx,rfl,rfl⟩)|(refine Xg.st0 (StF.storeOne (i:=0) rfl rfl rfl rfl (te rfl) rfl rfl (Nat.le_of_ble_eq_true rfl)) rfl ?_;rintro _ _ ⟨rfl,rfl⟩;dsimp only [List.set])))))|(refine uD rfl ?_;refine hK _ _ ?_;clear hK K) | refine uS rfl ?_ | refine uR rfl (fun K hK=>?_) | refine X.skip rfl ?_ | refine X.ret rfl ?_ | (refine X.ite rfl rfl (fun hc=>?_);(first | (with_reducible refine Xb.f hc ?_)) <;> clear hc))
  all_goals try (exfalso;contradiction)
  ·have e0 : freL R m = []:=by unfold freL;rw [ht];rfl
   rw [e0]
   exact ret_two (by simp) Try.results34 rfl rfl (H' := H) (by (repeat (first | exact qR _ | apply qC));done) ⟨none,0,[],rfl,sleNil,rfl⟩
  ·exact ret_two (by simp) Try.results34 rfl rfl (H' := ⟨bc,0,(freL R m).flatMap cI,some 3,kc * 1⟩::H) (by repeat (first | exact qR _ | apply qK | apply qC)) ⟨some ⟨bc,0,none⟩,kc,[_],rfl,SlE.ofRow (qH _) (fun _ _=>rfl),rfl⟩
 ·have hF : freF R m = ([],e):=by unfold freF;rw [if_neg (by rw [he];exact h0),he]
  rw [hF]
  refine Fc.mk (callable Try.call34) Try.func34 rfl Try.ntmps34 rfl ?_;dsimp only [fr]
  repeat' (first | (refine uP rfl ?_;(first | ((first | refine uN rfl ?_);(first | (refine uE (uQ (b:=true) rfl rfl rfl (congrArg some (nd_t (by omega)))) rfl rfl ?_)|(refine Xg.st (StF.buildOne (v0 := .int .i64 m) rfl el55 rfl rfl rfl (by decide) (by decide)) rfl rfl ?_;rintro _ _ ⟨b1,rfl,rfl⟩)|(refine uE (EvF.build (cs:=cBt ⟨[],none,0,[m],some ⟨b1,0,none⟩,1⟩) rfl (ArgsP.cons rfl ArgsP.nil) (te rfl) (Places.cons (te rfl) (Places.cons (te rfl) Places.nil)) Try.zeroValue98 rfl) rfl rfl ?_)|(refine uC (uT rfl (Args.cons rfl (Args.cons rfl Args.nil))) rfl rfl (openN (hR.sub (fun _ h=>by repeat (first | exact h | apply qT))) (hbt _ b1 (qH _)) h2 he h0) ?_;rintro _ H9 ⟨rfl,hH9⟩;subst H9)|(refine Xg.st (StF.alloc rfl Try.zeroValue93 rfl) rfl rfl ?_;rintro _ _ ⟨b8,rfl,rfl⟩)|(refine Xg.st0 (uZ (i:=0) (vs:=zCt) rfl rfl rfl (te rfl) rfl rfl rfl rfl) rfl ?_;rintro _ _ ⟨rfl,rfl⟩;dsimp only [List.set])|(refine uE (uM rfl rfl) rfl rfl ?_)|(refine uE (uA rfl rfl) rfl rfl ?_)|(refine uE (uL rfl rfl (uO (te rfl) rfl (qH _) rfl)) rfl rfl ?_)|(refine uE (uL rfl rfl (uW (te rfl) rfl (qT _ (qH _)) rfl)) rfl rfl ?_)|(refine uE (uX rfl rfl rfl) rfl rfl ?_)|(refine Xg.st (StF.boxAgg rfl rfl) rfl rfl ?_;rintro _ _ ⟨bx,rfl,rfl⟩)|(refine Xg.st (StF.boxOne rfl rfl rfl) rfl rfl ?_;rintro _ _ ⟨bx,rfl,rfl⟩)))))|(refine uD rfl ?_;refine hK _ _ ?_;clear hK K) | refine uS rfl ?_ | refine uR rfl (fun K hK=>?_) | refine X.ret rfl ?_ | (refine X.ite rfl rfl (fun hc=>?_);(first | (with_reducible refine Xb.t hc ?_)) <;> clear hc))
  all_goals try (exfalso;contradiction)
  exact ret_two (by simp) Try.results34 rfl rfl (H' := H) (by (repeat (first | exact qR _ | apply qC));done) ⟨none,0,[],rfl,sleNil,rfl⟩
structure LtOk (L : Nat → List Int) (l : List Ent) (Z : List Row) : Prop where
 keys : keysM l
 len : l.length = Z.length
 at_ : ∀ (j : Nat) (e : Ent),l[j]? = some e → ∃ (k b q : Nat),e.1 = (k : Int)∧L k ≠ []∧e.2.1 = .slice (some ⟨b,0,none⟩) (L k).length q∧Z[j]? = some ⟨b,0,(L k).flatMap cI,some 3,q * 1⟩
 all : ∀ k : Nat,L k ≠ [] → ∃ e ∈ l,e.1 = (k : Int)
theorem atM_none {l : List Ent} {k : Int} (h : ∀ e ∈ l,e.1 ≠ k) : atM l k = none:=by
 unfold atM
 rw [List.find?_eq_none.2 (fun e he=>by simpa using h e he)]
 rfl
theorem atM_some {l : List Ent} (hk : keysM l) {j : Nat} {e : Ent} (hj : l[j]? = some e) : atM l e.1 = some e.2.1:=by
 unfold atM
 cases hq : l.find? (fun x=>x.1 == e.1) with
 | none =>
  have:=List.find?_eq_none.1 hq e (List.mem_of_getElem? hj)
  simp at this
 | some x =>
  have h1 : x.1 = e.1:=by simpa using List.find?_some hq
  obtain ⟨i,hi⟩:=List.mem_iff_getElem?.1 (List.mem_of_find?_eq_some hq)
  have h2:=keys_inj hk hi hj h1
  subst h2
  rw [hi] at hj
  cases hj
  rfl
theorem LtOk.zero (L : Nat → List Int) (h : ∀ k,L k = []) : LtOk L [] []:=⟨List.Pairwise.nil,rfl,fun j e he=>by simp at he,fun k hk=>absurd (h k) hk⟩
theorem LtOk.look {L : Nat → List Int} {l : List Ent} {Z : List Row} (h : LtOk L l Z) (k : Nat) : (L k = []∧atM l k = none) ∨ ∃ j b q,L k ≠ []∧l.any (fun e=>e.1 == (k : Int)) = true∧j < Z.length∧(∃ e,l[j]? = some e∧e.1 = (k : Int))∧atM l k = some (.slice (some ⟨b,0,none⟩) (L k).length q)∧Z[j]? = some ⟨b,0,(L k).flatMap cI,some 3,q * 1⟩:=by
 by_cases hk : L k = []
 ·refine .inl ⟨hk,atM_none fun e he q=>?_⟩
  obtain ⟨j,hj⟩:=List.mem_iff_getElem?.1 he
  obtain ⟨k',b,q',e1,e2,_⟩:=h.at_ j e hj
  have : k' = k:=by omega
  subst this
  exact e2 hk
 ·obtain ⟨e,he,hek⟩:=h.all k hk
  obtain ⟨j,hj⟩:=List.mem_iff_getElem?.1 he
  obtain ⟨k',b,q,e1,e2,e3,e4⟩:=h.at_ j e hj
  have : k' = k:=by omega
  subst this
  refine .inr ⟨j,b,q,hk,List.any_eq_true.2 ⟨e,he,by simpa using hek⟩,(List.getElem?_eq_some_iff.1 e4).1,⟨e,hj,hek⟩,?_,e4⟩
  rw [← hek,atM_some h.keys hj,e3]
theorem LtOk.new {L L' : Nat → List Int} {l : List Ent} {Z : List Row} (h : LtOk L l Z) {k : Nat} {x : Int} (hk : L k = []) (hL : ∀ i,L' i = if i = k then [x] else L i) (clock b q : Nat) :
  LtOk L' (insM l clock k (.slice (some ⟨b,0,none⟩) 1 q)) (Z++[⟨b,0,cI x,some 3,q * 1⟩]):=by
 have hno : ∀ e ∈ l,e.1 ≠ (k : Int):=fun e he e' => by
  obtain ⟨j,hj⟩:=List.mem_iff_getElem?.1 he
  obtain ⟨k',b,q,e1,e2,_⟩:=h.at_ j e hj
  have : k' = k:=by omega
  subst this
  exact e2 hk
 have hany : l.any (fun e=>e.1 == (k : Int)) = false:=Bool.eq_false_iff.2 (fun q=>by
  obtain ⟨e,he,h2⟩:=List.any_eq_true.1 q
  exact hno e he (by simpa using h2))
 have hi : insM l clock k (.slice (some ⟨b,0,none⟩) 1 q)=l++[((k : Int),.slice (some ⟨b,0,none⟩) 1 q,clock)]:=by
  unfold insM;rw [hany];rfl
 rw [hi]
 refine ⟨?_,by rw [List.length_append,List.length_append,h.len];rfl,fun j e he=>?_,fun i hi=>?_⟩
 ·unfold keysM
  rw [List.map_append,List.nodup_append]
  refine ⟨h.keys,List.nodup_cons.2 ⟨List.not_mem_nil,List.Pairwise.nil⟩,fun a ha c hc=>?_⟩
  obtain ⟨e,he,rfl⟩:=List.mem_map.1 ha
  have : c = (k : Int):=by simpa using hc
  rw [this]
  exact hno e he
 ·by_cases hj : j < l.length
  ·rw [List.getElem?_append_left hj] at he
   obtain ⟨k',b',q',e1,e2,e3,e4⟩:=h.at_ j e he
   have hne : k' ≠ k:=fun e' => e2 (by rw [e'];exact hk)
   refine ⟨k',b',q',e1,by rw [hL,if_neg hne];exact e2,by rw [hL,if_neg hne];exact e3,?_⟩
   rw [List.getElem?_append_left (by rw [← h.len];exact hj),hL,if_neg hne]
   exact e4
  ·rw [List.getElem?_append_right (by omega)] at he
   have hj0 : j - l.length = 0:=by
    have:=(List.getElem?_eq_some_iff.1 he).1
    simp at this;omega
   rw [hj0] at he
   simp at he
   subst he
   refine ⟨k,b,q,rfl,by rw [hL,if_pos rfl];simp,by rw [hL,if_pos rfl];rfl,?_⟩
   rw [List.getElem?_append_right (by rw [← h.len];omega), ← h.len,hj0,hL,if_pos rfl]
   rfl
 ·by_cases e : i = k
  ·exact ⟨_,List.mem_append_right _ (List.mem_singleton.2 rfl),by rw [e]⟩
  ·rw [hL,if_neg e] at hi
   obtain ⟨x,hx,he⟩:=h.all i hi
   exact ⟨x,List.mem_append_left _ hx,he⟩
theorem LtOk.set {L L' : Nat → List Int} {l : List Ent} {Z : List Row} (h : LtOk L l Z) {k j : Nat} {x : Int} {e : Ent} (hj : l[j]? = some e) (hek : e.1 = (k : Int)) (hany : l.any (fun e=>e.1 == (k : Int)) = true) (hL : ∀ i,L' i = if i = k then L k++[x] else L i) (clock b q : Nat) :
  LtOk L' (insM l clock k (.slice (some ⟨b,0,none⟩) ((L k).length + 1) q)) (Z.set j ⟨b,0,(L k++[x]).flatMap cI,some 3,q * 1⟩):=by
 have hi : insM l clock k (.slice (some ⟨b,0,none⟩) ((L k).length + 1) q)=l.map (fun e=>if e.1 = (k : Int) then (e.1,.slice (some ⟨b,0,none⟩) ((L k).length + 1) q,e.2.2) else e):=by
  unfold insM;rw [hany];rfl
 rw [hi]
 have hjl : j < Z.length:=by rw [← h.len];exact (List.getElem?_eq_some_iff.1 hj).1
 refine ⟨?_,by rw [List.length_map,List.length_set,h.len],fun i e' he=>?_,fun i hi=>?_⟩
 ·unfold keysM
  rw [List.map_map]
  have : (fun e : Ent=>e.1) ∘ (fun e : Ent=>if e.1 = (k : Int) then (e.1,Value.slice (some ⟨b,0,none⟩) ((L k).length + 1) q,e.2.2) else e)=(fun e=>e.1):=by
   funext e
   simp only [Function.comp]
   split <;> rfl
  rw [this]
  exact h.keys
 ·rw [List.getElem?_map] at he
  obtain ⟨e0,h0,rfl⟩:=Option.map_eq_some_iff.1 he
  obtain ⟨k',b',q',e1,e2,e3,e4⟩:=h.at_ i e0 h0
  by_cases hk : e0.1 = (k : Int)
  ·have hij:=keys_inj h.keys h0 hj (hk.trans hek.symm)
   subst hij
   rw [if_pos hk]
   refine ⟨k,b,q,hk,by rw [hL,if_pos rfl];simp,by rw [hL,if_pos rfl,List.length_append];rfl,?_⟩
   rw [List.getElem?_set_self hjl,hL,if_pos rfl]
  ·rw [if_neg hk]
   have hne : k' ≠ k:=fun e' => hk (by rw [e1,e'])
   have hij : j ≠ i:=fun e' => hk (by rw [e'] at hj;rw [hj] at h0;cases h0;exact hek)
   refine ⟨k',b',q',e1,by rw [hL,if_neg hne];exact e2,by rw [hL,if_neg hne];exact e3,?_⟩
   rw [List.getElem?_set_ne hij,hL,if_neg hne]
   exact e4
 ·by_cases e9 : i = k
  ·refine ⟨_,List.mem_map.2 ⟨e,List.mem_of_getElem? hj,rfl⟩,?_⟩
   rw [if_pos hek,e9]
   exact hek
  ·rw [hL,if_neg e9] at hi
   obtain ⟨x,hx,he⟩:=h.all i hi
   refine ⟨_,List.mem_map.2 ⟨x,hx,rfl⟩,?_⟩
   split <;> exact he
theorem lateL_snoc {R : Rm} {n : Int} {l : List Bx} {i : Nat} {e : Bx} (he : l[i]? = some e) (k : Nat) : lateL R n (l.take (i + 1)) k = lateL R n (l.take i) k++(if fstM (sinP R e.id (dueP n)) 0 R.months.toNat = some k then [e.id] else []):=by
 unfold lateL
 rw [take_snoc he,List.filter_append,List.map_append]
 by_cases h : fstM (sinP R e.id (dueP n)) 0 R.months.toNat = some k
 ·rw [if_pos h,List.filter_cons_of_pos (by simpa using h)];rfl
 ·rw [if_neg h,List.filter_cons_of_neg (by simpa using h)];rfl
theorem lateL_len (R : Rm) (n : Int) (l : List Bx) (k : Nat) : (lateL R n l k).length ≤ l.length:=by
 unfold lateL
 rw [List.length_map]
 exact List.length_filter_le _ _
theorem set_perm {α : Type} : ∀ (l : List α) (j : Nat) (a : α),j < l.length → (l.set j a).Perm (a::l.eraseIdx j)
 | [],j,a,h=>absurd h (Nat.not_lt_zero _)
 | b::l,0,a,_=>List.Perm.refl _
 | b::l,j + 1,a,h=>((set_perm l j a (by simpa using h)).cons b).trans (List.Perm.swap _ _ _)
theorem get_perm {α : Type} : ∀ (l : List α) (j : Nat) (a : α),l[j]? = some a → l.Perm (a::l.eraseIdx j)
 | [],j,a,h=>by simp at h
 | b::l,0,a,h=>by simp at h;subst h;exact List.Perm.refl _
 | b::l,j + 1,a,h=>by
  simp at h
  exact ((get_perm l j a h).cons b).trans (List.Perm.swap _ _ _)
theorem EvF.castV {P : Program} {n : Nat} {H : List Row} {F : FS} {o : Oper} {v v' : Value} (h : v = v') (e : EvF P n H F o v) : EvF P n H F o v' := h ▸ e
theorem XO.permQ {P : Program} {n : Nat} {ops : Array Oper} {i : Nat} {F : FS} {H H' : List Row} {N : FS → List Row → Prop} (hp : H'.Perm H) (k : XO P n ops i F H' N) : XO P n ops i F H N:=by
 unfold XO WO at *
 intro t ha ρ ds B w0 w hS
 exact k t ha ρ ds B w0 w (hS.perm hp)
theorem due1_spec (s : Sp) (n : Int) (b : Nat) (ow : Option Kd) (cap : Nat) (H : List Row) (hm : ⟨b,0,[.int .i64 n],ow,cap⟩ ∈ H) : Fc Try.prog 71 ([.agg (cSp s).toArray]++[.pointer (some ⟨b,0,none⟩)]) H (fun v H' => v = .bool (dueP n s)∧H' = H):=by
 show Fc Try.prog 71 [.agg (cSp s).toArray,.pointer (some ⟨b,0,none⟩)] H _
 refine Fc.mk (callable Try.call71) Try.func71 rfl Try.ntmps71 rfl ?_;dsimp only [fr]
 repeat' (first | (refine uP rfl ?_;(first | ((first | refine uN rfl ?_);(first | (refine uE (uL rfl rfl (uO (te rfl) rfl (qT _ hm) rfl)) rfl rfl ?_)|(refine uE (uA rfl rfl) rfl rfl ?_)|(refine uE (uQ rfl rfl rfl rfl) rfl rfl ?_)|(refine uE (uF rfl rfl (te rfl) rfl (te rfl) (by decide)) rfl rfl ?_)|(refine uE (uL rfl rfl (uO (te rfl) rfl (qH _) rfl)) rfl rfl ?_)|(refine Xg.st (StF.boxAgg rfl rfl) rfl rfl ?_;rintro _ _ ⟨bx,rfl,rfl⟩)))))|(refine uD rfl ?_;refine hK _ _ ?_;clear hK K) | refine uS rfl ?_ | refine uR rfl (fun K hK=>?_) | refine X.ret rfl ?_)
 exact ret_one (v := .bool (dueP n s)) (by simp) Try.results71 rfl (H' := H) (by repeat (first | exact qR _ | apply qK | apply qC)) ⟨rfl,rfl⟩
/-- a month, a list and an error -/
def DueR (x : Int × List Int × Int) (H : List Row) (v : Value) (H' : List Row) : Prop := ∃ a c Z,v = .tuple #[.int .i64 x.1,.slice a x.2.1.length c,.int .i64 x.2.2]∧SlE (Z++H) a cI 1 x.2.1∧H' = Z++H
set_option maxHeartbeats 16000000 in
theorem kDue_spec (R : Rm) (p : Pl) (n : Int) (H : List Row) (hR : RmOk H R p) (h2 : R.boxes.length ≤ 1000000) : Fc Try.prog 32 [.agg (cRm R p).toArray,.int .i64 n] H (DueR (dueF R n) H):=by
 obtain ⟨e0,he0⟩ : ∃ e,openE R [] [] = e:=⟨_,rfl⟩
 have hbt : ∀ (H' : List Row),BtOk H' ⟨[],none,0,[],none,0⟩:=fun H' => ⟨sleNil,sleNil,Nat.le_of_ble_eq_true rfl,Nat.le_of_ble_eq_true rfl⟩
 by_cases h0 : e0 = 0
 ·subst h0
  obtain ⟨hok,_,_,hT⟩:=openE_ok he0
  have hr:=hok.ok
  have hb4:=hr.b4
  have hm12:=hr.m12
  have hm1:=hr.m1
  have hF : dueF R n = dueS (lateL R n R.boxes) 0 R.months.toNat:=by unfold dueF;rw [if_pos he0];exact (late_due hr n _ 0 (by omega) (fun i hi=>absurd hi (Nat.not_lt_zero _))).symm
  rw [hF]
  refine Fc.mk (callable Try.call32) Try.func32 rfl Try.ntmps32 rfl ?_;dsimp only [fr]
  repeat' (first | (refine uP rfl ?_;(first | ((first | refine uN rfl ?_);(first | (refine uE (uQ (b:=false) rfl rfl rfl (congrArg some (nd_f (by omega)))) rfl rfl ?_)|(refine uE (EvF.build (cs:=cBt ⟨[],none,0,[],none,0⟩) rfl ArgsP.nil (te rfl) (Places.cons (te rfl) (Places.cons (te rfl) Places.nil)) Try.zeroValue98 rfl) rfl rfl ?_)|(refine uC (uT rfl (by (repeat (first | exact Args.nil | refine Args.cons rfl ?_));done)) rfl rfl (openY (hR.sub (fun _ h=>by repeat (first | exact h | apply qT))) (hbt _) h2 he0) ?_;rintro _ _ ⟨b,k,hbk,rfl,rfl⟩)|(refine Xg.st (StF.alloc rfl Try.zeroValue93 rfl) rfl rfl ?_;rintro _ _ ⟨b7,rfl,rfl⟩)|(refine Xg.st0 (uZ (i:=0) (vs:=cCt R p (some ⟨b,0,none⟩) k) rfl rfl rfl (te rfl) rfl rfl rfl rfl) rfl ?_;rintro _ _ ⟨rfl,rfl⟩;dsimp only [List.set])|(refine Xg.st (StF.makeMap .i64 rfl) rfl rfl ?_;rintro _ _ ⟨bm,rfl,rfl⟩)|(refine uE (uM rfl rfl) rfl rfl ?_)|(refine uE (uA rfl rfl) rfl rfl ?_)|(refine uE (uF rfl rfl (te rfl) rfl (te rfl) (by decide)) rfl rfl ?_)|(refine uE (uY rfl rfl (te rfl)) rfl rfl ?_)|(refine uE (uL rfl rfl (uO (te rfl) rfl (qT _ (qH _)) rfl)) rfl rfl ?_)|(refine uE (uL rfl rfl (uW (te rfl) rfl (qT _ (qH _)) rfl)) rfl rfl ?_)|(refine uE (uX rfl rfl rfl) rfl rfl ?_)|(refine Xg.st (StF.boxAgg rfl rfl) rfl rfl ?_;rintro _ _ ⟨bx,rfl,rfl⟩)|(refine Xg.st (StF.boxOne rfl rfl rfl) rfl rfl ?_;rintro _ _ ⟨bx,rfl,rfl⟩)))))|(refine uD rfl ?_;refine hK _ _ ?_;clear hK K) | refine uS rfl ?_ | refine uR rfl (fun K hK=>?_) | refine X.block rfl ?_ | refine X.skip rfl ?_ | (refine X.ite rfl rfl (fun hc=>?_);(first | (with_reducible refine Xb.f hc ?_)) <;> clear hc))
  all_goals try (exfalso;contradiction)
  rename_i b3
  generalize bx = b3
  have hfi:=fun (e : Bx) (he : e ∈ R.boxes) S hC (hs : (⟨b3,0,[.int .i64 n],some 3,1⟩ : Row) ∈ S)=>kfirst_spec R p (some ⟨b,0,none⟩) k e.id 71 [.pointer (some ⟨b3,0,none⟩)] (dueP n) S hr hok.mats hC hok.lens.ages hok.lens.mats hbk hT ⟨e,he,rfl⟩ (fun s S' hs' => due1_spec s n b3 (some 3) 1 S' (hs' _ hs))
  have hlt9 : ∀ S,RmOk S R p → ∀ (bb off : Nat),p.a2 = some ⟨bb,off,none⟩ → SlE S (some ⟨bb,off,none⟩) cBx 2 R.boxes:=fun S hS bb off hq=>by rw [← hq];exact hS.boxes
  refine X.lp rfl (fun q F' H' => ∃ (i : Nat) (l : List Ent) (clk : Nat) (Z : List Row),q = R.boxes.length - i∧i ≤ R.boxes.length∧LtOk (lateL R n (R.boxes.take i)) l Z∧H' = mRow bm .i64 l clk::(Z++⟨b7,0,cCt R p (some ⟨b,0,none⟩) k,some 93,6⟩::⟨b,0,(plcs R).flatMap cPk,some 101,k * 2⟩::⟨b3,0,[.int .i64 n],some 3,1⟩::H)∧F' = [(3,.pointer (some ⟨b3,0,none⟩)),(7,.pointer (some ⟨b7,0,none⟩)),(8,.map (some bm)),(27,.slice p.a2 R.boxes.length p.c2),(28,.int .i64 R.boxes.length),(29,.int .i64 i)])
   R.boxes.length [(3,.pointer (some ⟨b3,0,none⟩)),(7,.pointer (some ⟨b7,0,none⟩)),(8,.map (some bm)),(27,.slice p.a2 R.boxes.length p.c2),(28,.int .i64 R.boxes.length),(29,.int .i64 (0 : Nat))] (mRow bm .i64 [] 0::([]++⟨b7,0,cCt R p (some ⟨b,0,none⟩) k,some 93,6⟩::⟨b,0,(plcs R).flatMap cPk,some 101,k * 2⟩::⟨b3,0,[.int .i64 n],some 3,1⟩::H)) (by repeat (first | exact uU _ | refine uV rfl ?_)) (by rw [List.nil_append];exact (by repeat (first | exact qR _ | apply qK | apply qC))) ⟨0,[],0,[],by omega,by omega,LtOk.zero _ (fun k=>rfl),rfl,rfl⟩ ?_
  ·rintro _ _ _ ⟨i,l,clk,Z,rfl,hi,hLt,rfl,rfl⟩
   by_cases hlt : i < R.boxes.length
   ·obtain ⟨bb,off,e,hq2,he⟩:=hR.boxes.elem (i:=i) hlt
    have hbs:=fun S hS=>hlt9 S hS bb off hq2
    have hfi:=fun S hC hs=>hfi e (List.mem_of_getElem? he) S hC hs
    have hsn:=lateL_snoc (R:=R) (n:=n) he
    have hll:=lateL_len R n (R.boxes.take i)
    have htk:=List.length_take (i:=i) (l:=R.boxes)
    obtain ⟨r,hr9⟩ : ∃ r,r = fstM (sinP R e.id (dueP n)) 0 R.months.toNat:=⟨_,rfl⟩
    rw [← hr9] at hfi hsn
    clear hr9
    rw [hq2]
    cases r with
    | none =>
     have hL' : lateL R n (R.boxes.take (i + 1)) = lateL R n (R.boxes.take i):=funext fun k=>by rw [hsn k,if_neg (fun q=>by cases q),List.append_nil]
     obtain ⟨G,hG⟩ : ∃ G,G = Z++⟨b7,0,cCt R p (some ⟨b,0,none⟩) k,some 93,6⟩::⟨b,0,(plcs R).flatMap cPk,some 101,k * 2⟩::⟨b3,0,[.int .i64 n],some 3,1⟩::H:=⟨_,rfl⟩
     have hg7 : (⟨b7,0,cCt R p (some ⟨b,0,none⟩) k,some 93,6⟩ : Row) ∈ G:=by rw [hG];exact List.mem_append_right _ (qH _)
     have hgb : (⟨b,0,(plcs R).flatMap cPk,some 101,k * 2⟩ : Row) ∈ G:=by rw [hG];exact List.mem_append_right _ (qT _ (qH _))
     have hg3 : (⟨b3,0,[.int .i64 n],some 3,1⟩ : Row) ∈ G:=by rw [hG];exact List.mem_append_right _ (qT _ (qT _ (qH _)))
     have hGR : RmOk G R p:=hR.sub (fun r h=>by rw [hG];exact List.mem_append_right _ (qT _ (qT _ (qT _ h))))
     rw [← hG]
     repeat' (first | (refine uP rfl ?_;(first | ((first | refine uN rfl ?_);(first | (refine uE (uQ (b:=true) rfl rfl rfl (congrArg some (decide_eq_true (by omega)))) rfl rfl ?_)|(refine uE (uL rfl rfl (uW (T:=93) (cs:=cCt R p (some ⟨b,0,none⟩) k) (te rfl) rfl (by repeat (first | exact hg7 | apply qT)) rfl)) rfl rfl ?_)|(refine uE (uL rfl rfl (LoadV.elA0 (hbs _ (hGR.sub (fun _ h=>by repeat (first | exact h | apply qT)))) he (te rfl) rfl (fun _ hm=>hm) rfl)) rfl rfl ?_)|(refine uE (EvF.makeFunc (fl:=[]) rfl Args.nil (Args.cons rfl Args.nil)) rfl rfl ?_)|(refine uC (uT rfl (Args.cons rfl (Args.cons rfl (Args.cons rfl Args.nil)))) rfl rfl (hfi _ ⟨hGR.sub (fun _ h=>by repeat (first | exact h | apply qT)),SlE.ofRow (by repeat (first | exact hgb | apply qT)) (fun _ _=>rfl)⟩ (by repeat (first | exact hg3 | apply qT))) ?_;rintro _ H9 ⟨rfl,hH9⟩;subst H9)|(refine uE (uX rfl rfl rfl) rfl rfl ?_)|(refine uE (uM rfl rfl) rfl rfl ?_)|(refine uE (uA rfl rfl) rfl rfl ?_)|(refine uE (EvF.add64 rfl rfl rfl (by omega) (by omega)) rfl rfl ?_)|(refine uE (uF rfl rfl (te rfl) rfl (te rfl) (by decide)) rfl rfl ?_)|(refine uE (uJ rfl rfl rfl (te rfl) (te rfl) (by omega) (by omega)) rfl rfl ?_)|(refine uE (uL rfl rfl (uO (te rfl) rfl (qH _) rfl)) rfl rfl ?_)|(refine Xg.st (StF.alloc rfl Try.zeroValue35 rfl) rfl rfl ?_;rintro _ _ ⟨bx,rfl,rfl⟩)|(refine Xg.st0 (uZ (i:=0) rfl rfl rfl (te rfl) rfl rfl rfl rfl) rfl ?_;rintro _ _ ⟨rfl,rfl⟩;dsimp only [List.set])))))|(refine uD rfl ?_;refine hK _ _ ?_;clear hK K) | refine uS rfl ?_ | refine uR rfl (fun K hK=>?_) | refine X.block rfl ?_ | refine X.skip rfl ?_ | (refine X.ite rfl rfl (fun hc=>?_);(first | (with_reducible refine Xb.t hc ?_)|(with_reducible refine Xb.caseB hc (fun h=>?_) (fun h=>?_))) <;> clear hc))
     all_goals try (exfalso;contradiction)
     exact ⟨_,_,mRow bm .i64 l clk::G,(by repeat (first | exact uU _ | refine uV rfl ?_)),(by repeat (first | exact qR _ | apply qK | apply qC)),⟨i + 1,l,clk,Z,rfl,by omega,by rw [hL'];exact hLt,by rw [hG],rfl⟩,by omega⟩
    | some k0 =>
     have hv0 : firV (some k0)=(k0 : Int):=rfl
     rw [hv0] at hfi
     rcases hLt.look k0 with ⟨hk0,hat⟩ | ⟨j,b0,q0,hk0,hany,hjZ,⟨en,hen,henk⟩,hat,hZj⟩
     ·have hL' : ∀ k,lateL R n (R.boxes.take (i + 1)) k = if k = k0 then [e.id] else lateL R n (R.boxes.take i) k:=fun k=>by
       rw [hsn k]
       by_cases q : k = k0
       ·rw [if_pos (congrArg some q.symm),if_pos q,q,hk0,List.nil_append]
       ·rw [if_neg (fun h=>q (Option.some.inj h).symm),if_neg q,List.append_nil]
      obtain ⟨G,hG⟩ : ∃ G,G = Z++⟨b7,0,cCt R p (some ⟨b,0,none⟩) k,some 93,6⟩::⟨b,0,(plcs R).flatMap cPk,some 101,k * 2⟩::⟨b3,0,[.int .i64 n],some 3,1⟩::H:=⟨_,rfl⟩
      have hg7 : (⟨b7,0,cCt R p (some ⟨b,0,none⟩) k,some 93,6⟩ : Row) ∈ G:=by rw [hG];exact List.mem_append_right _ (qH _)
      have hgb : (⟨b,0,(plcs R).flatMap cPk,some 101,k * 2⟩ : Row) ∈ G:=by rw [hG];exact List.mem_append_right _ (qT _ (qH _))
      have hg3 : (⟨b3,0,[.int .i64 n],some 3,1⟩ : Row) ∈ G:=by rw [hG];exact List.mem_append_right _ (qT _ (qT _ (qH _)))
      have hGR : RmOk G R p:=hR.sub (fun r h=>by rw [hG];exact List.mem_append_right _ (qT _ (qT _ (qT _ h))))
      rw [← hG]
      repeat' (first | (refine uP rfl ?_;(first | ((first | refine uN rfl ?_);(first | (refine uE (uQ (b:=true) rfl rfl rfl (congrArg some (decide_eq_true (by omega)))) rfl rfl ?_)|(refine uE (uL rfl rfl (uW (T:=93) (cs:=cCt R p (some ⟨b,0,none⟩) k) (te rfl) rfl (by repeat (first | exact hg7 | apply qT)) rfl)) rfl rfl ?_)|(refine uE (uL rfl rfl (LoadV.elA0 (hbs _ (hGR.sub (fun _ h=>by repeat (first | exact h | apply qT)))) he (te rfl) rfl (fun _ hm=>hm) rfl)) rfl rfl ?_)|(refine uE (EvF.makeFunc (fl:=[]) rfl Args.nil (Args.cons rfl Args.nil)) rfl rfl ?_)|(refine uC (uT rfl (Args.cons rfl (Args.cons rfl (Args.cons rfl Args.nil)))) rfl rfl (hfi _ ⟨hGR.sub (fun _ h=>by repeat (first | exact h | apply qT)),SlE.ofRow (by repeat (first | exact hgb | apply qT)) (fun _ _=>rfl)⟩ (by repeat (first | exact hg3 | apply qT))) ?_;rintro _ H9 ⟨rfl,hH9⟩;subst H9)|(refine uE (uX rfl rfl rfl) rfl rfl ?_)|(refine uE (EvF.castV (v' := .slice none 0 0) (by rw [hat];rfl) (EvF.lookup (kd := .i64) (l:=l) (clock:=clk) (k:=(k0 : Int)) (z := .slice none 0 0) rfl Try.underlying117 Try.underlying3 rfl rfl (by repeat (first | exact qH _ | apply qT)) Try.zeroValue55)) rfl rfl ?_)|(refine Xg.st (StF.buildOne (v0 := .int .i64 e.id) rfl el55 rfl rfl rfl (by decide) (by decide)) rfl rfl ?_;rintro _ _ ⟨bs,rfl,rfl⟩)|(refine Xg.st (StF.appendNew rfl el55 rfl rfl (by decide) rfl (Rd.own (qH _)) (by decide)) rfl rfl ?_;rintro _ _ ⟨bn,kn,rfl,rfl⟩)|(refine uE (uM rfl rfl) rfl rfl ?_)|(refine uE (uA rfl rfl) rfl rfl ?_)|(refine uE (EvF.add64 rfl rfl rfl (by omega) (by omega)) rfl rfl ?_)|(refine uE (uF rfl rfl (te rfl) rfl (te rfl) (by decide)) rfl rfl ?_)|(refine uE (uJ rfl rfl rfl (te rfl) (te rfl) (by omega) (by omega)) rfl rfl ?_)|(refine uE (uL rfl rfl (uO (te rfl) rfl (qH _) rfl)) rfl rfl ?_)|(refine Xg.st (StF.alloc rfl Try.zeroValue35 rfl) rfl rfl ?_;rintro _ _ ⟨bx,rfl,rfl⟩)|(refine Xg.st0 (uZ (i:=0) rfl rfl rfl (te rfl) rfl rfl rfl rfl) rfl ?_;rintro _ _ ⟨rfl,rfl⟩;dsimp only [List.set])))))|(refine uD rfl ?_;refine hK _ _ ?_;clear hK K) | refine uS rfl ?_ | refine uR rfl (fun K hK=>?_) | refine X.block rfl ?_ | refine X.skip rfl ?_ | (refine X.ite rfl rfl (fun hc=>?_);(first | (with_reducible refine Xb.t hc ?_)|(with_reducible refine Xb.caseB hc (fun h=>?_) (fun h=>?_))) <;> clear hc))
      all_goals try (exfalso;contradiction)
      have hLt' := hLt.new (x:=e.id) hk0 hL' clk bn kn
      refine XO.permQ (H' := ⟨bs,0,[.int .i64 e.id],some 3,1 * 1⟩::⟨bx,0,cBx e,some 81,2⟩::mRow bm .i64 l clk::((Z++[⟨bn,0,cI e.id,some 3,kn * 1⟩])++⟨b7,0,cCt R p (some ⟨b,0,none⟩) k,some 93,6⟩::⟨b,0,(plcs R).flatMap cPk,some 101,k * 2⟩::⟨b3,0,[.int .i64 n],some 3,1⟩::H)) ?_ ?_
      ·refine List.Perm.trans ?_ (List.perm_middle (l₁:=[_,_,_]))
       refine ((List.Perm.cons _ (List.Perm.cons _ (List.Perm.cons _ ?_))))
       rw [List.append_assoc,hG]
       exact List.perm_middle
      repeat' (first | (refine uP rfl ?_;(first | ((first | refine uN rfl ?_);(first | (refine Xg.st0 (StF.mapUpdate (i:=2) (l:=l) (clock:=clk) (k:=(k0 : Int)) rfl Try.underlying117 Try.underlying3 rfl rfl rfl rfl hLt.keys) rfl ?_;rintro _ _ ⟨rfl,rfl⟩;dsimp only [List.set])|(refine uE (uM rfl rfl) rfl rfl ?_)|(refine uE (EvF.add64 rfl rfl rfl (by omega) (by omega)) rfl rfl ?_)))))|(refine uD rfl ?_;refine hK _ _ ?_;clear hK K) | refine uR rfl (fun K hK=>?_))
      all_goals try (exfalso;contradiction)
      exact ⟨_,_,mRow bm .i64 (insM l clk k0 (.slice (some ⟨bn,0,none⟩) 1 kn)) (clkM l clk k0)::((Z++[⟨bn,0,cI e.id,some 3,kn * 1⟩])++⟨b7,0,cCt R p (some ⟨b,0,none⟩) k,some 93,6⟩::⟨b,0,(plcs R).flatMap cPk,some 101,k * 2⟩::⟨b3,0,[.int .i64 n],some 3,1⟩::H),(by repeat (first | exact uU _ | refine uV rfl ?_)),(by repeat (first | exact qR _ | apply qK | apply qC)),⟨i + 1,_,_,_,rfl,by omega,hLt',rfl,rfl⟩,by omega⟩
     ·have hL' : ∀ k,lateL R n (R.boxes.take (i + 1)) k = if k = k0 then lateL R n (R.boxes.take i) k0++[e.id] else lateL R n (R.boxes.take i) k:=fun k=>by
       rw [hsn k]
       by_cases q : k = k0
       ·rw [if_pos (congrArg some q.symm),if_pos q,q]
       ·rw [if_neg (fun h=>q (Option.some.inj h).symm),if_neg q,List.append_nil]
      have hll0:=hll k0
      have hlen9 : ((lateL R n (R.boxes.take i) k0).flatMap cI).length = (lateL R n (R.boxes.take i) k0).length * 1:=lenI _
      refine X.permH (H' := ⟨b0,0,(lateL R n (R.boxes.take i) k0).flatMap cI,some 3,q0 * 1⟩::mRow bm .i64 l clk::(Z.eraseIdx j++⟨b7,0,cCt R p (some ⟨b,0,none⟩) k,some 93,6⟩::⟨b,0,(plcs R).flatMap cPk,some 101,k * 2⟩::⟨b3,0,[.int .i64 n],some 3,1⟩::H)) ((List.Perm.swap _ _ _).trans (List.Perm.cons _ ((get_perm Z j _ hZj).append_right _).symm)) ?_
      obtain ⟨G,hG⟩ : ∃ G,G = Z.eraseIdx j++⟨b7,0,cCt R p (some ⟨b,0,none⟩) k,some 93,6⟩::⟨b,0,(plcs R).flatMap cPk,some 101,k * 2⟩::⟨b3,0,[.int .i64 n],some 3,1⟩::H:=⟨_,rfl⟩
      have hg7 : (⟨b7,0,cCt R p (some ⟨b,0,none⟩) k,some 93,6⟩ : Row) ∈ G:=by rw [hG];exact List.mem_append_right _ (qH _)
      have hgb : (⟨b,0,(plcs R).flatMap cPk,some 101,k * 2⟩ : Row) ∈ G:=by rw [hG];exact List.mem_append_right _ (qT _ (qH _))
      have hg3 : (⟨b3,0,[.int .i64 n],some 3,1⟩ : Row) ∈ G:=by rw [hG];exact List.mem_append_right _ (qT _ (qT _ (qH _)))
      have hGR : RmOk G R p:=hR.sub (fun r h=>by rw [hG];exact List.mem_append_right _ (qT _ (qT _ (qT _ h))))
      rw [← hG]
      repeat' (first | (refine uP rfl ?_;(first | ((first | refine uN rfl ?_);(first | (refine uE (uQ (b:=true) rfl rfl rfl (congrArg some (decide_eq_true (by omega)))) rfl rfl ?_)|(refine uE (uL rfl rfl (uW (T:=93) (cs:=cCt R p (some ⟨b,0,none⟩) k) (te rfl) rfl (by repeat (first | exact hg7 | apply qT)) rfl)) rfl rfl ?_)|(refine uE (uL rfl rfl (LoadV.elA0 (hbs _ (hGR.sub (fun _ h=>by repeat (first | exact h | apply qT)))) he (te rfl) rfl (fun _ hm=>hm) rfl)) rfl rfl ?_)|(refine uE (EvF.makeFunc (fl:=[]) rfl Args.nil (Args.cons rfl Args.nil)) rfl rfl ?_)|(refine uC (uT rfl (Args.cons rfl (Args.cons rfl (Args.cons rfl Args.nil)))) rfl rfl (hfi _ ⟨hGR.sub (fun _ h=>by repeat (first | exact h | apply qT)),SlE.ofRow (by repeat (first | exact hgb | apply qT)) (fun _ _=>rfl)⟩ (by repeat (first | exact hg3 | apply qT))) ?_;rintro _ H9 ⟨rfl,hH9⟩;subst H9)|(refine uE (uX rfl rfl rfl) rfl rfl ?_)|(refine uE (EvF.castV (v' := .slice (some ⟨b0,0,none⟩) (lateL R n (R.boxes.take i) k0).length q0) (by rw [hat];rfl) (EvF.lookup (kd := .i64) (l:=l) (clock:=clk) (k:=(k0 : Int)) (z := .slice none 0 0) rfl Try.underlying117 Try.underlying3 rfl rfl (by repeat (first | exact qH _ | apply qT)) Try.zeroValue55)) rfl rfl ?_)|(refine Xg.st (StF.buildOne (v0 := .int .i64 e.id) rfl el55 rfl rfl rfl (by decide) (by decide)) rfl rfl ?_;rintro _ _ ⟨bs,rfl,rfl⟩)|(refine Xg.st (StF.appendOwn (i:=2) rfl el55 rfl rfl rfl hlen9 rfl (Rd.own (qH _)) rfl (by omega)) rfl rfl ?_;rintro _ _ ⟨bn,kn,rfl,rfl⟩;dsimp only [List.eraseIdx])|(refine uE (uM rfl rfl) rfl rfl ?_)|(refine uE (uA rfl rfl) rfl rfl ?_)|(refine uE (EvF.add64 rfl rfl rfl (by omega) (by omega)) rfl rfl ?_)|(refine uE (uF rfl rfl (te rfl) rfl (te rfl) (by decide)) rfl rfl ?_)|(refine uE (uJ rfl rfl rfl (te rfl) (te rfl) (by omega) (by omega)) rfl rfl ?_)|(refine uE (uL rfl rfl (uO (te rfl) rfl (qH _) rfl)) rfl rfl ?_)|(refine Xg.st (StF.alloc rfl Try.zeroValue35 rfl) rfl rfl ?_;rintro _ _ ⟨bx,rfl,rfl⟩)|(refine Xg.st0 (uZ (i:=0) rfl rfl rfl (te rfl) rfl rfl rfl rfl) rfl ?_;rintro _ _ ⟨rfl,rfl⟩;dsimp only [List.set])))))|(refine uD rfl ?_;refine hK _ _ ?_;clear hK K) | refine uS rfl ?_ | refine uR rfl (fun K hK=>?_) | refine X.block rfl ?_ | refine X.skip rfl ?_ | (refine X.ite rfl rfl (fun hc=>?_);(first | (with_reducible refine Xb.t hc ?_)|(with_reducible refine Xb.caseB hc (fun h=>?_) (fun h=>?_))) <;> clear hc))
      all_goals try (exfalso;contradiction)
      have hLt' := hLt.set (x:=e.id) hen henk hany hL' clk bn kn
      refine XO.permQ (H' := ⟨bs,0,[.int .i64 e.id],some 3,1 * 1⟩::⟨bx,0,cBx e,some 81,2⟩::mRow bm .i64 l clk::((Z.set j ⟨bn,0,(lateL R n (R.boxes.take i) k0++[e.id]).flatMap cI,some 3,kn * 1⟩)++⟨b7,0,cCt R p (some ⟨b,0,none⟩) k,some 93,6⟩::⟨b,0,(plcs R).flatMap cPk,some 101,k * 2⟩::⟨b3,0,[.int .i64 n],some 3,1⟩::H)) ?_ ?_
      ·rw [List.flatMap_append]
       refine List.Perm.trans ?_ (List.perm_middle (l₁:=[_,_,_]))
       refine ((List.Perm.cons _ (List.Perm.cons _ (List.Perm.cons _ ?_))))
       rw [hG]
       exact (set_perm Z j _ hjZ).append_right _
      repeat' (first | (refine uP rfl ?_;(first | ((first | refine uN rfl ?_);(first | (refine Xg.st0 (StF.mapUpdate (i:=2) (l:=l) (clock:=clk) (k:=(k0 : Int)) rfl Try.underlying117 Try.underlying3 rfl rfl rfl rfl hLt.keys) rfl ?_;rintro _ _ ⟨rfl,rfl⟩;dsimp only [List.set])|(refine uE (uM rfl rfl) rfl rfl ?_)|(refine uE (EvF.add64 rfl rfl rfl (by omega) (by omega)) rfl rfl ?_)))))|(refine uD rfl ?_;refine hK _ _ ?_;clear hK K) | refine uR rfl (fun K hK=>?_))
      all_goals try (exfalso;contradiction)
      exact ⟨_,_,mRow bm .i64 (insM l clk k0 (.slice (some ⟨bn,0,none⟩) ((lateL R n (R.boxes.take i) k0).length + 1) kn)) (clkM l clk k0)::((Z.set j ⟨bn,0,(lateL R n (R.boxes.take i) k0++[e.id]).flatMap cI,some 3,kn * 1⟩)++⟨b7,0,cCt R p (some ⟨b,0,none⟩) k,some 93,6⟩::⟨b,0,(plcs R).flatMap cPk,some 101,k * 2⟩::⟨b3,0,[.int .i64 n],some 3,1⟩::H),(by repeat (first | exact uU _ | refine uV rfl ?_)),(by repeat (first | exact qR _ | apply qK | apply qC)),⟨i + 1,_,_,_,rfl,by omega,hLt',rfl,rfl⟩,by omega⟩
   ·obtain rfl : i = R.boxes.length:=by omega
    rw [List.take_length] at hLt
    obtain ⟨D,hD⟩ : ∃ D,D = dueS (lateL R n R.boxes) 0 R.months.toNat:=⟨_,rfl⟩
    rw [← hD]
    have hg7 : (⟨b7,0,cCt R p (some ⟨b,0,none⟩) k,some 93,6⟩ : Row) ∈ mRow bm .i64 l clk::(Z++⟨b7,0,cCt R p (some ⟨b,0,none⟩) k,some 93,6⟩::⟨b,0,(plcs R).flatMap cPk,some 101,k * 2⟩::⟨b3,0,[.int .i64 n],some 3,1⟩::H):=qT _ (List.mem_append_right _ (qH _))
    repeat' (first | (refine uP rfl ?_;(first | ((first | refine uN rfl ?_);(first | (refine uE (uQ (b:=false) rfl rfl rfl (congrArg some (decide_eq_false (by omega)))) rfl rfl ?_)|(refine uE (uL rfl rfl (uO (cs:=cCt R p (some ⟨b,0,none⟩) k) (te rfl) rfl hg7 rfl)) rfl rfl ?_)|(refine uE (uM rfl rfl) rfl rfl ?_)|(refine uE (uF rfl rfl (te rfl) rfl (te rfl) (by decide)) rfl rfl ?_)))))|(refine uD rfl ?_;refine hK _ _ ?_;clear hK K) | refine uS rfl ?_ | refine uR rfl (fun K hK=>?_) | refine X.block rfl ?_ | (refine X.brk rfl ?_;repeat (first | refine blockX_hit rfl ?_ | refine blockX_miss (by decide) ?_))|(refine X.ite rfl rfl (fun hc=>?_);(first | (with_reducible refine Xb.f hc ?_)) <;> clear hc))
    all_goals try (exfalso;contradiction)
    refine X.lp rfl (fun q F' H' => ∃ (m : Nat),q = R.months.toNat - m∧(m : Int)≤R.months∧dueS (lateL R n R.boxes) m (R.months.toNat - m)=D∧H' = mRow bm .i64 l clk::(Z++⟨b7,0,cCt R p (some ⟨b,0,none⟩) k,some 93,6⟩::⟨b,0,(plcs R).flatMap cPk,some 101,k * 2⟩::⟨b3,0,[.int .i64 n],some 3,1⟩::H)∧F' = [(8,.map (some bm)),(54,.int .i64 R.months),(55,.int .i64 m)])
     R.months.toNat [(8,.map (some bm)),(54,.int .i64 R.months),(55,.int .i64 (0 : Nat))] (mRow bm .i64 l clk::(Z++⟨b7,0,cCt R p (some ⟨b,0,none⟩) k,some 93,6⟩::⟨b,0,(plcs R).flatMap cPk,some 101,k * 2⟩::⟨b3,0,[.int .i64 n],some 3,1⟩::H)) (by repeat (first | exact uU _ | refine uV rfl ?_)) (qR _) ⟨0,rfl,by omega,hD.symm,rfl,rfl⟩ ?_
    rintro _ _ _ ⟨m,rfl,hm2,hDm,rfl,rfl⟩
    by_cases hlm : (m : Int)<R.months
    ·obtain ⟨q9,hq9⟩ : ∃ q9,R.months.toNat - m = q9 + 1:=⟨R.months.toNat - m - 1,by omega⟩
     rw [hq9] at hDm
     unfold dueS at hDm
     rcases hLt.look m with ⟨hk0,hat⟩ | ⟨j,b0,q0,hk0,hany,hjZ,_,hat,hZj⟩
     ·rw [if_pos (by rw [hk0];rfl)] at hDm
      repeat' (first | (refine uP rfl ?_;(first | ((first | refine uN rfl ?_);(first | (refine uE (uQ (b:=true) rfl rfl rfl (congrArg some (decide_eq_true (by omega)))) rfl rfl ?_)|(refine uE (uQ (b:=false) rfl rfl rfl (congrArg some (decide_eq_false (by omega)))) rfl rfl ?_)|(refine uE (EvF.castV (v' := .slice none 0 0) (by rw [hat];rfl) (EvF.lookup (kd := .i64) (l:=l) (clock:=clk) (k:=(m : Int)) (z := .slice none 0 0) rfl Try.underlying117 Try.underlying3 rfl rfl (by repeat (first | exact qH _ | apply qT)) Try.zeroValue55)) rfl rfl ?_)|(refine uE (uM rfl rfl) rfl rfl ?_)|(refine uE (uA rfl rfl) rfl rfl ?_)|(refine uE (EvF.add64 rfl rfl rfl (by omega) (by omega)) rfl rfl ?_)|(refine uE (uY rfl rfl (te rfl)) rfl rfl ?_)))))|(refine uD rfl ?_;refine hK _ _ ?_;clear hK K) | refine uS rfl ?_ | refine uR rfl (fun K hK=>?_) | refine X.block rfl ?_ | refine X.skip rfl ?_ | (refine X.ite rfl rfl (fun hc=>?_);(first | (with_reducible refine Xb.t hc ?_)|(with_reducible refine Xb.f hc ?_)) <;> clear hc))
      all_goals try (exfalso;contradiction)
      exact ⟨_,_,mRow bm .i64 l clk::(Z++⟨b7,0,cCt R p (some ⟨b,0,none⟩) k,some 93,6⟩::⟨b,0,(plcs R).flatMap cPk,some 101,k * 2⟩::⟨b3,0,[.int .i64 n],some 3,1⟩::H),(by repeat (first | exact uU _ | refine uV rfl ?_)),(by repeat (first | exact qR _ | apply qK | apply qC)),⟨m + 1,rfl,by omega,by rw [show R.months.toNat - (m + 1)=q9 by omega];exact hDm,rfl,rfl⟩,by omega⟩
     ·have hpos : 0 < (lateL R n R.boxes m).length:=List.length_pos_iff.2 hk0
      rw [if_neg (by omega)] at hDm
      repeat' (first | (refine uP rfl ?_;(first | ((first | refine uN rfl ?_);(first | (refine uE (uQ (b:=true) rfl rfl rfl (congrArg some (decide_eq_true (by omega)))) rfl rfl ?_)|(refine uE (EvF.castV (v' := .slice (some ⟨b0,0,none⟩) (lateL R n R.boxes m).length q0) (by rw [hat];rfl) (EvF.lookup (kd := .i64) (l:=l) (clock:=clk) (k:=(m : Int)) (z := .slice none 0 0) rfl Try.underlying117 Try.underlying3 rfl rfl (by repeat (first | exact qH _ | apply qT)) Try.zeroValue55)) rfl rfl ?_)|(refine uE (uM rfl rfl) rfl rfl ?_)|(refine uE (uA rfl rfl) rfl rfl ?_)|(refine uE (uY rfl rfl (te rfl)) rfl rfl ?_)))))|(refine uD rfl ?_;refine hK _ _ ?_;clear hK K) | refine uS rfl ?_ | refine uR rfl (fun K hK=>?_) | refine X.block rfl ?_ | refine X.skip rfl ?_ | refine X.ret rfl ?_ | (refine X.ite rfl rfl (fun hc=>?_);(first | (with_reducible refine Xb.t hc ?_)) <;> clear hc))
      all_goals try (exfalso;contradiction)
      refine ret_three (by simp) Try.results32 rfl rfl rfl (H' := ⟨b0,0,(lateL R n R.boxes m).flatMap cI,some 3,q0 * 1⟩::H) (qC _ (List.Sublist.append (l₁:=[_]) (List.singleton_sublist.2 (List.mem_of_getElem? hZj)) (qC _ (qC _ (qC _ (qR _)))))) ?_
      rw [← hDm]
      exact ⟨some ⟨b0,0,none⟩,q0,[_],rfl,SlE.ofRow (qH _) (fun _ _=>rfl),rfl⟩
    ·rw [show R.months.toNat - m = 0 by omega] at hDm
     repeat' (first | (refine uP rfl ?_;(first | ((first | refine uN rfl ?_);(first | (refine uE (uQ (b:=false) rfl rfl rfl (congrArg some (decide_eq_false (by omega)))) rfl rfl ?_)|(refine uE (uA rfl rfl) rfl rfl ?_)))))|(refine uD rfl ?_;refine hK _ _ ?_;clear hK K) | refine uS rfl ?_ | refine uR rfl (fun K hK=>?_)|(refine X.brk rfl ?_;repeat (first | refine blockX_hit rfl ?_ | refine blockX_miss (by decide) ?_)) | refine X.ret rfl ?_ | (refine X.ite rfl rfl (fun hc=>?_);(first | (with_reducible refine Xb.f hc ?_)) <;> clear hc))
     all_goals try (exfalso;contradiction)
     refine ret_three (by simp) Try.results32 rfl rfl rfl (H' := H) (qC _ ((qC _ (qC _ (qC _ (qR _)))).trans (List.sublist_append_right _ _))) ?_
     rw [← hDm]
     exact ⟨none,0,[],rfl,sleNil,rfl⟩
 ·have hF : dueF R n = (0,[],e0):=by unfold dueF;rw [if_neg (by rw [he0];exact h0),he0]
  rw [hF]
  refine Fc.mk (callable Try.call32) Try.func32 rfl Try.ntmps32 rfl ?_;dsimp only [fr]
  repeat' (first | (refine uP rfl ?_;(first | ((first | refine uN rfl ?_);(first | (refine uE (uQ (b:=true) rfl rfl rfl (congrArg some (nd_t (by omega)))) rfl rfl ?_)|(refine uE (EvF.build (cs:=cBt ⟨[],none,0,[],none,0⟩) rfl ArgsP.nil (te rfl) (Places.cons (te rfl) (Places.cons (te rfl) Places.nil)) Try.zeroValue98 rfl) rfl rfl ?_)|(refine uC (uT rfl (Args.cons rfl (Args.cons rfl Args.nil))) rfl rfl (openN (hR.sub (fun _ h=>by repeat (first | exact h | apply qT))) (hbt _) h2 he0 h0) ?_;rintro _ H9 ⟨rfl,hH9⟩;subst H9)|(refine Xg.st (StF.alloc rfl Try.zeroValue93 rfl) rfl rfl ?_;rintro _ _ ⟨b7,rfl,rfl⟩)|(refine Xg.st0 (uZ (i:=0) (vs:=zCt) rfl rfl rfl (te rfl) rfl rfl rfl rfl) rfl ?_;rintro _ _ ⟨rfl,rfl⟩;dsimp only [List.set])|(refine uE (uM rfl rfl) rfl rfl ?_)|(refine uE (uA rfl rfl) rfl rfl ?_)|(refine uE (uL rfl rfl (uW (te rfl) rfl (qT _ (qH _)) rfl)) rfl rfl ?_)|(refine uE (uX rfl rfl rfl) rfl rfl ?_)|(refine Xg.st (StF.boxAgg rfl rfl) rfl rfl ?_;rintro _ _ ⟨bx,rfl,rfl⟩)|(refine Xg.st (StF.boxOne rfl rfl rfl) rfl rfl ?_;rintro _ _ ⟨bx,rfl,rfl⟩)))))|(refine uD rfl ?_;refine hK _ _ ?_;clear hK K) | refine uS rfl ?_ | refine uR rfl (fun K hK=>?_) | refine X.ret rfl ?_ | (refine X.ite rfl rfl (fun hc=>?_);(first | (with_reducible refine Xb.t hc ?_)) <;> clear hc))
  all_goals try (exfalso;contradiction)
  exact ret_three (by simp) Try.results32 rfl rfl rfl (H' := H) (by (repeat (first | exact qR _ | apply qC));done) ⟨none,0,[],rfl,sleNil,rfl⟩
theorem lawSpan (lo hi : Int) (H : List Row) : Fc Try.prog 97 [.int .i64 lo,.int .i64 hi] H (fun v H' => v = .agg (cSp ⟨lo,hi⟩).toArray∧H' = H):=by
 refine Fc.mk (callable Try.call97) Try.func97 rfl Try.ntmps97 rfl ?_;dsimp only [fr]
 repeat' (first | (refine uP rfl ?_;(first | ((first | refine uN rfl ?_);(first | (refine Xg.st (StF.alloc rfl Try.zeroValue35 rfl) rfl rfl ?_;rintro _ _ ⟨b4,rfl,rfl⟩)|(refine uE (EvF.build (cs:=cSp ⟨lo,hi⟩) rfl (ArgsP.cons rfl (ArgsP.cons rfl ArgsP.nil)) (te rfl) (Places.cons (te rfl) (Places.cons (te rfl) Places.nil)) Try.zeroValue35 rfl) rfl rfl ?_)|(refine Xg.st0 (uZ (i:=0) (vs:=cSp ⟨lo,hi⟩) rfl rfl rfl (te rfl) rfl rfl rfl rfl) rfl ?_;rintro _ _ ⟨rfl,rfl⟩;dsimp only [List.set])|(refine uE (uM rfl rfl) rfl rfl ?_)))))|(refine uD rfl ?_;refine hK _ _ ?_;clear hK K) | refine uS rfl ?_ | refine uR rfl (fun K hK=>?_) | refine X.ret rfl ?_)
 exact ret_one (v := .agg (cSp ⟨lo,hi⟩).toArray) (by simp) Try.results97 ⟨_,rfl,uW (te rfl) rfl (qH _) rfl⟩ (H' := H) (by repeat (first | exact qR _ | apply qK | apply qC)) ⟨rfl,rfl⟩
theorem lawMatch (n m a b lo hi : Int) (H : List Row) : Fc Try.prog 126 [.int .i64 n,.int .i64 m,.int .i64 a,.int .i64 b,.int .i64 lo,.int .i64 hi] H (fun v H' => v = .agg (cMt ⟨n,m,a,b,lo,hi⟩).toArray∧H' = H):=by
 refine Fc.mk (callable Try.call126) Try.func126 rfl Try.ntmps126 rfl ?_;dsimp only [fr]
 repeat' (first | (refine uP rfl ?_;(first | ((first | refine uN rfl ?_);(first | (refine Xg.st (StF.alloc rfl Try.zeroValue111 rfl) rfl rfl ?_;rintro _ _ ⟨b4,rfl,rfl⟩)|(refine uC (uT rfl (Args.cons rfl (Args.cons rfl Args.nil))) rfl rfl (lawSpan lo hi _) ?_;rintro _ H9 ⟨rfl,hH9⟩;subst H9)|(refine uE (EvF.build (cs:=cMt ⟨n,m,a,b,lo,hi⟩) rfl (ArgsP.cons rfl (ArgsP.cons rfl (ArgsP.cons rfl (ArgsP.cons rfl (ArgsP.cons rfl ArgsP.nil))))) (te rfl) (Places.cons (te rfl) (Places.cons (te rfl) (Places.cons (te rfl) (Places.cons (te rfl) (Places.cons (te rfl) Places.nil))))) Try.zeroValue111 rfl) rfl rfl ?_)|(refine Xg.st0 (uZ (i:=0) (vs:=cMt ⟨n,m,a,b,lo,hi⟩) rfl rfl rfl (te rfl) rfl rfl rfl rfl) rfl ?_;rintro _ _ ⟨rfl,rfl⟩;dsimp only [List.set])|(refine uE (uM rfl rfl) rfl rfl ?_)))))|(refine uD rfl ?_;refine hK _ _ ?_;clear hK K) | refine uS rfl ?_ | refine uR rfl (fun K hK=>?_) | refine X.ret rfl ?_)
 exact ret_one (v := .agg (cMt ⟨n,m,a,b,lo,hi⟩).toArray) (by simp) Try.results126 ⟨_,rfl,uW (te rfl) rfl (qH _) rfl⟩ (H' := H) (by repeat (first | exact qR _ | apply qK | apply qC)) ⟨rfl,rfl⟩
theorem litAges : fillL (fun i=>some (i * 2,2)) ((Array.range (4 * 2)).map (fun x=>(Value.agg #[.int .i64 0,.int .i64 0]).cells[x % (Value.agg #[.int .i64 0,.int .i64 0]).cells.size]!)).toList [(0,.agg (cSp ⟨0,0⟩).toArray),(1,.agg (cSp ⟨1,4⟩).toArray),(2,.agg (cSp ⟨2,8⟩).toArray),(3,.agg (cSp ⟨3,12⟩).toArray)] = some (agesE.flatMap cSp):=by kernel_rfl
set_option maxHeartbeats 4000000 in
theorem room_specE (l : List Mt) (a : Option Addr) (c : Nat) (H : List Row) (hl : SlE H a cMt 6 l) (hb : l.length ≤ 100) : Fc Try.prog 96 [.slice a l.length c] H (fun v H' => ∃ po Z,v = .agg (cRm (roomE (mt1::l)) po).toArray∧(∀ S,RmOk (Z++S) (roomE (mt1::l)) po)∧H' = Z++H):=by
 refine Fc.mk (callable Try.call96) Try.func96 rfl Try.ntmps96 rfl ?_;dsimp only [fr]
 repeat' (first | (refine uP rfl ?_;(first | ((first | refine uN rfl ?_);(first | (refine Xg.st (StF.alloc rfl Try.zeroValue26 rfl) rfl rfl ?_;rintro _ _ ⟨b2,rfl,rfl⟩)|(refine uC (uT rfl (Args.cons rfl (Args.cons rfl Args.nil))) rfl rfl (lawSpan 0 0 _) ?_;rintro _ H9 ⟨rfl,hH9⟩;subst H9)|(refine uC (uT rfl (Args.cons rfl (Args.cons rfl Args.nil))) rfl rfl (lawSpan 1 4 _) ?_;rintro _ H9 ⟨rfl,hH9⟩;subst H9)|(refine uC (uT rfl (Args.cons rfl (Args.cons rfl Args.nil))) rfl rfl (lawSpan 2 8 _) ?_;rintro _ H9 ⟨rfl,hH9⟩;subst H9)|(refine uC (uT rfl (Args.cons rfl (Args.cons rfl Args.nil))) rfl rfl (lawSpan 3 12 _) ?_;rintro _ H9 ⟨rfl,hH9⟩;subst H9)|(refine uC (uT rfl (by (repeat (first | exact Args.nil | refine Args.cons rfl ?_));done)) rfl rfl (lawMatch 1 2 1 2 3 5 _) ?_;rintro _ H9 ⟨rfl,hH9⟩;subst H9)|(refine Xg.st (StF.buildLit (len:=4) (vs:=[(0,.agg (cSp ⟨0,0⟩).toArray),(1,.agg (cSp ⟨1,4⟩).toArray),(2,.agg (cSp ⟨2,8⟩).toArray),(3,.agg (cSp ⟨3,12⟩).toArray)]) (cs:=agesE.flatMap cSp) rfl el22 Try.zeroValue35 (ArgsP.cons rfl (ArgsP.cons rfl (ArgsP.cons rfl (ArgsP.cons rfl ArgsP.nil)))) litAges rfl rfl rfl) rfl rfl ?_;rintro _ _ ⟨ba,rfl,rfl⟩)|(refine uE (EvF.build (cs:=cBx ⟨1,0⟩) rfl (ArgsP.cons rfl ArgsP.nil) (te rfl) (Places.cons (te rfl) (Places.cons (te rfl) Places.nil)) Try.zeroValue81 rfl) rfl rfl ?_)|(refine uE (EvF.build (cs:=cBx ⟨2,1⟩) rfl (ArgsP.cons rfl (ArgsP.cons rfl ArgsP.nil)) (te rfl) (Places.cons (te rfl) (Places.cons (te rfl) Places.nil)) Try.zeroValue81 rfl) rfl rfl ?_)|(refine Xg.st (StF.buildTwo (cs:=cBx ⟨1,0⟩) (ds:=cBx ⟨2,1⟩) rfl el23 rfl rfl rfl rfl rfl rfl (by decide) (by decide)) rfl rfl ?_;rintro _ _ ⟨bb,rfl,rfl⟩)|(refine Xg.st (StF.buildOne (cs:=cMt mt1) rfl el24 rfl rfl rfl (by decide) (by decide)) rfl rfl ?_;rintro _ _ ⟨bm,rfl,rfl⟩)|(refine Xg.st (StF.appendSl (i:=0) (l:=l) rfl el24 rfl rfl rfl (hl.sub (fun _ h=>by repeat (first | exact h | apply qT))) (fun e _=>one_mt e) rfl (by decide) (by omega)) rfl rfl ?_;rintro _ _ ⟨bn,kn,rfl,rfl⟩;dsimp only [List.eraseIdx])|(refine uE (EvF.build (cs:=cRm (roomE (mt1::l)) ⟨some ⟨ba,0,none⟩,4,some ⟨bb,0,none⟩,2,some ⟨bn,0,none⟩,kn⟩) rfl (ArgsP.cons rfl (ArgsP.cons rfl (ArgsP.cons rfl (ArgsP.cons rfl (ArgsP.cons rfl ArgsP.nil))))) (te rfl) (Places.cons (te rfl) (Places.cons (te rfl) (Places.cons (te rfl) (Places.cons (te rfl) (Places.cons (te rfl) Places.nil))))) Try.zeroValue26 (by simp only [Nat.add_comm 1];rfl)) rfl rfl ?_)|(refine Xg.st0 (uZ (i:=3) (vs:=cRm (roomE (mt1::l)) ⟨some ⟨ba,0,none⟩,4,some ⟨bb,0,none⟩,2,some ⟨bn,0,none⟩,kn⟩) rfl rfl rfl (te rfl) rfl rfl rfl rfl) rfl ?_;rintro _ _ ⟨rfl,rfl⟩;dsimp only [List.set])|(refine uE (uM rfl rfl) rfl rfl ?_)))))|(refine uD rfl ?_;refine hK _ _ ?_;clear hK K) | refine uS rfl ?_ | refine uR rfl (fun K hK=>?_) | refine X.ret rfl ?_)
 exact ret_one (v := .agg (cRm (roomE (mt1::l)) ⟨some ⟨ba,0,none⟩,4,some ⟨bb,0,none⟩,2,some ⟨bn,0,none⟩,kn⟩).toArray) (by simp) Try.results96 ⟨_,rfl,uW (te rfl) rfl (by repeat (first | exact qH _ | apply qT)) rfl⟩ (H' := [⟨bn,0,(mt1::l).flatMap cMt,some 111,kn * 6⟩,⟨bb,0,cBx ⟨1,0⟩++cBx ⟨2,1⟩,some 81,2 * 2⟩,⟨ba,0,agesE.flatMap cSp,some 35,4 * 2⟩]++H) (by repeat (first | exact qR _ | apply qK | apply qC))
  ⟨_,_,rfl,fun S=>⟨SlE.ofRow (qT _ (qT _ (qH _))) (fun _ _=>rfl),SlE.ofRow (l:=([⟨1,0⟩,⟨2,1⟩] : List Bx)) (qT _ (qH _)) (fun _ _=>rfl),SlE.ofRow (qH _) (fun _ _=>rfl),Nat.le_of_ble_eq_true rfl,Nat.le_of_ble_eq_true rfl,by show l.length + 1 ≤ _;omega⟩,rfl⟩
theorem roomRE (H : List Row) : Fc Try.prog 96 [.slice none 0 0] H (fun v H' => ∃ po Z,v = .agg (cRm RE po).toArray∧(∀ S,RmOk (Z++S) RE po)∧H' = Z++H):=room_specE [] none 0 H sleNil (Nat.zero_le _)
theorem permIn (Z : List Row) (x y : Row) (H : List Row) : (Z++x::y::H).Perm (y::(Z++x::H)):=by
 have:=List.perm_middle (l₁:=Z++[x]) (a:=y) (l₂:=H)
 simpa using this
theorem oddRO (H : List Row) : Fc Try.prog 98 [] H (fun v H' => ∃ po Z,v = .agg (cRm RO po).toArray∧(∀ S,RmOk (Z++S) RO po)∧H' = Z++H):=by
 have hr:=fun b S (h : (⟨b,0,cMt mt2,some 111,1 * 6⟩ : Row) ∈ S)=>room_specE [mt2] (some ⟨b,0,none⟩) 1 S (SlE.ofRow (l:=[mt2]) h (fun _ _=>rfl)) (Nat.le_of_ble_eq_true rfl)
 refine Fc.mk (callable Try.call98) Try.func98 rfl Try.ntmps98 rfl ?_;dsimp only [fr]
 repeat' (first | (refine uP rfl ?_;(first | ((first | refine uN rfl ?_);(first | (refine Xg.st (StF.alloc rfl Try.zeroValue26 rfl) rfl rfl ?_;rintro _ _ ⟨b0,rfl,rfl⟩)|(refine uC (uT rfl (by (repeat (first | exact Args.nil | refine Args.cons rfl ?_));done)) rfl rfl (lawMatch 2 3 2 1 3 9 _) ?_;rintro _ H9 ⟨rfl,hH9⟩;subst H9)|(refine Xg.st (StF.buildOne (cs:=cMt mt2) rfl el24 rfl rfl rfl (by decide) (by decide)) rfl rfl ?_;rintro _ _ ⟨bm,rfl,rfl⟩)|(refine uC (uT rfl (by (repeat (first | exact Args.nil | refine Args.cons rfl ?_));done)) rfl rfl (hr bm _ (qH _)) ?_;rintro _ _ ⟨po,Z,rfl,hpo,rfl⟩)))))|(refine uD rfl ?_;refine hK _ _ ?_;clear hK K) | refine uS rfl ?_ | refine uR rfl (fun K hK=>?_))
 refine XO.permQ (permIn Z _ _ H).symm ?_
 repeat' (first | (refine uP rfl ?_;(first | ((first | refine uN rfl ?_);(first | (refine Xg.st0 (uZ (i:=0) (vs:=cRm RO po) rfl rfl rfl (te rfl) rfl rfl rfl rfl) rfl ?_;rintro _ _ ⟨rfl,rfl⟩;dsimp only [List.set])))))|(refine uD rfl ?_;refine hK _ _ ?_;clear hK K) | refine X.ret rfl ?_)
 exact ret_one (v := .agg (cRm RO po).toArray) (by simp) Try.results98 ⟨_,rfl,uW (te rfl) rfl (qH _) rfl⟩ (H' := Z++⟨bm,0,cMt mt2,some 111,1 * 6⟩::H) (List.sublist_cons_self _ _) ⟨po,Z++[⟨bm,0,cMt mt2,some 111,1 * 6⟩],rfl,fun S=>by rw [List.append_assoc];exact hpo _,by simp⟩
theorem ints_spec (l : List Int) (a : Option Addr) (c b1 : Nat) (w : List Int) (H : List Row) (hl : SlE H a cI 1 l) (hw : SlE H (some ⟨b1,0,none⟩) cI 1 w) (h : l = w) (hb : l.length ≤ 1000) : Fc Try.prog 99 [.slice a l.length c,.int .i64 0,.slice (some ⟨b1,0,none⟩) w.length w.length] H (fun v H' => v = .bool true∧H' = H):=by
 subst h
 have hs:=sameInts_spec l l a (some ⟨b1,0,none⟩) c l.length H hl hw (by omega)
 rw [decide_eq_true rfl] at hs
 refine Fc.mk (callable Try.call99) Try.func99 rfl Try.ntmps99 rfl ?_;dsimp only [fr]
 repeat' (first | (refine uP rfl ?_;(first | ((first | refine uN rfl ?_ | (refine Xo.g rfl rfl ?_;with_reducible refine Xw.tt ?_));(first | (refine uC (uT rfl (Args.cons rfl (Args.cons rfl Args.nil))) rfl rfl (hs) ?_;rintro _ H9 ⟨rfl,hH9⟩;subst H9)|(refine uE (uM rfl rfl) rfl rfl ?_)|(refine uE (uA rfl rfl) rfl rfl ?_)|(refine uE (EvF.pickT rfl rfl rfl) rfl rfl ?_)|(refine uE (uQ rfl rfl rfl rfl) rfl rfl ?_)))|(refine Xo.g rfl rfl ?_;(first | (with_reducible refine Xw.case (fun h=>?_) (fun h=>?_) <;> simp only [h,decide_true,decide_false,Bool.not_true,Bool.not_false,and_self,and_true,true_and,and_false,false_and])))))|(refine uD rfl ?_;refine hK _ _ ?_;clear hK K) | refine uS rfl ?_ | refine uR rfl (fun K hK=>?_) | refine X.ret rfl ?_)
 all_goals try (exfalso;contradiction)
 exact ret_one (by simp) Try.results99 rfl (H' := H) (by repeat (first | exact qR _ | apply qK | apply qC)) ⟨rfl,rfl⟩
set_option maxHeartbeats 8000000 in
theorem longer_specJ (ok : List Int → Bool) (l : List Int) (a : Option Addr) (c g : Nat) (fst cap : List Value) (bt br bl bg : Nat) (w1 w2 w3 : Option Kd) (k1 k2 k3 : Nat) (H0 : List Row) (hl : SlE H0 a cI 1 l) (hb : l.length ≤ 1000000)
  (mr : ⟨br,0,[.func (.func g) fst.toArray cap.toArray],w1,k1⟩ ∈ H0) (ml : ⟨bl,0,[.slice a l.length c],w2,k2⟩ ∈ H0) (mg : ⟨bg,0,[.func (.func 120) #[] #[.pointer (some ⟨br,0,none⟩),.pointer (some ⟨bt,0,none⟩),.pointer (some ⟨bl,0,none⟩),.pointer (some ⟨bg,0,none⟩)]],w3,k3⟩ ∈ H0)
  (hr : ∀ acc a' c' H',(∀ r ∈ H0,r ∈ H') → SlE H' a' cI 1 acc → acc.length ≤ 1000000 → Fc Try.prog g (fst++[.slice a' acc.length c']++cap) H' (fun v H'' => v = .bool (ok acc)∧H'' = H')) :
  ∀ (m f0 : Nat) (mi fi : Int) (acc : List Int) (out : Value) (Z : List Row),mi = m → fi = f0 → f0 ≤ l.length → acc.length + m ≤ 1000000 → TrvI acc out Z →
  Fc Try.prog 120 ([.int .i64 fi,.int .i64 mi]++[.pointer (some ⟨br,0,none⟩),.pointer (some ⟨bt,0,none⟩),.pointer (some ⟨bl,0,none⟩),.pointer (some ⟨bg,0,none⟩)]) (⟨bt,0,[out],some 55,1⟩::(Z++H0))
   (fun v H' => ∃ out' Z',((∃ r,lonG ok (l.drop f0) m acc = some r∧v = .bool true∧TrvI r out' Z')∨(lonG ok (l.drop f0) m acc = none∧v = .bool false∧TrvI acc out' Z'))∧H' = ⟨bt,0,[out'],some 55,1⟩::(Z'++H0)):=by
 intro m
 induction m with
 | zero =>
  intro f0 mi fi acc out Z hmi hfi hfr hacc hT
  subst hmi
  obtain ⟨a',c',rfl,hs⟩:=hT.sl (H:=H0)
  show Fc Try.prog 120 [.int .i64 fi,.int .i64 ((0 : Nat) : Int),.pointer (some ⟨br,0,none⟩),.pointer (some ⟨bt,0,none⟩),.pointer (some ⟨bl,0,none⟩),.pointer (some ⟨bg,0,none⟩)] _ _
  refine Fc.mk (callable Try.call120) Try.func120 rfl Try.ntmps120 rfl ?_;dsimp only [fr]
  repeat' (first | (refine uP rfl ?_;(first | ((first | refine uN rfl ?_);(first | (refine uE (uL rfl rfl (uO (te rfl) rfl (qT _ (List.mem_append_right _ mr)) rfl)) rfl rfl ?_)|(refine uC (EnF.dyn (first:=fst) rfl rfl (Args.cons rfl Args.nil)) rfl rfl (hr acc a' c' _ (fun _ h=>qT _ (List.mem_append_right _ h)) (hs.sub (fun _ h=>qT _ h)) (by omega)) ?_;rintro _ H9 ⟨rfl,hH9⟩;subst H9)|(refine uE (uM rfl rfl) rfl rfl ?_)|(refine uE (uA rfl rfl) rfl rfl ?_)|(refine uE (uQ rfl rfl rfl rfl) rfl rfl ?_)|(refine uE (uL rfl rfl (uO (te rfl) rfl (qH _) rfl)) rfl rfl ?_)))))|(refine uD rfl ?_;refine hK _ _ ?_;clear hK K) | refine uS rfl ?_ | refine uR rfl (fun K hK=>?_) | refine X.block rfl ?_ | refine X.skip rfl ?_ | refine X.ret rfl ?_ | (refine X.ite rfl rfl (fun hc=>?_);(first | (with_reducible refine Xb.case hc (fun h=>?_) (fun h=>?_))) <;> clear hc))
  ·refine ret_one (by simp) Try.results120 rfl (H' := _) (qR _) ⟨_,Z,?_,rfl⟩
   rw [lonG_zero]
   by_cases hk : ok acc = true
   ·exact .inl ⟨acc,by rw [if_pos hk],by rw [hk],hT⟩
   ·exact .inr ⟨by rw [if_neg hk],by rw [Bool.eq_false_iff.2 hk],hT⟩
  ·exfalso;omega
 | succ m ih =>
  intro f0 mi fi acc out Z hmi hfi hfr hacc hT
  subst hfi
  show Fc Try.prog 120 [.int .i64 (f0 : Int),.int .i64 mi,.pointer (some ⟨br,0,none⟩),.pointer (some ⟨bt,0,none⟩),.pointer (some ⟨bl,0,none⟩),.pointer (some ⟨bg,0,none⟩)] _ _
  refine Fc.mk (callable Try.call120) Try.func120 rfl Try.ntmps120 rfl ?_;dsimp only [fr]
  repeat' (first | (refine uP rfl ?_;(first | ((first | refine uN rfl ?_);(first | (refine uE (uM rfl rfl) rfl rfl ?_)|(refine uE (uA rfl rfl) rfl rfl ?_)|(refine uE (uQ rfl rfl rfl rfl) rfl rfl ?_)))))|(refine uD rfl ?_;refine hK _ _ ?_;clear hK K) | refine uS rfl ?_ | refine uR rfl (fun K hK=>?_) | refine X.block rfl ?_ | refine X.skip rfl ?_ | (refine X.ite rfl rfl (fun hc=>?_);(first | (with_reducible refine Xb.case hc (fun h=>?_) (fun h=>?_))) <;> clear hc))
  ·exfalso;omega
  refine X.lp rfl (fun q F' H' => ∃ (i : Nat) (out : Value) (Z : List Row),q = l.length + 1 - i∧i ≤ l.length∧TrvI acc out Z∧lonG ok (l.drop f0) (m + 1) acc = lonG ok (l.drop i) (m + 1) acc∧⟨bt,0,[out],some 55,1⟩::(Z++H0)=H' ∧
    F' = [(1,.int .i64 mi),(2,.pointer (some ⟨br,0,none⟩)),(3,.pointer (some ⟨bt,0,none⟩)),(4,.pointer (some ⟨bl,0,none⟩)),(5,.pointer (some ⟨bg,0,none⟩)),(9,.int .i64 i)])
   (l.length + 1 - f0) [(1,.int .i64 mi),(2,.pointer (some ⟨br,0,none⟩)),(3,.pointer (some ⟨bt,0,none⟩)),(4,.pointer (some ⟨bl,0,none⟩)),(5,.pointer (some ⟨bg,0,none⟩)),(9,.int .i64 f0)] _ (by repeat (first | exact uU _ | refine uV rfl ?_)) (qR _) ⟨f0,out,Z,rfl,hfr,hT,rfl,rfl,rfl⟩ ?_
  clear hT
  rintro _ _ H2 ⟨i,out,Z,rfl,hi,hT,hlon,hH,rfl⟩
  subst hH
  repeat' (first | (refine uP rfl ?_;(first | ((first | refine uN rfl ?_);(first | (refine uE (uL rfl rfl (uO (te rfl) rfl (qT _ (List.mem_append_right _ ml)) rfl)) rfl rfl ?_)|(refine uE (uM rfl rfl) rfl rfl ?_)|(refine uE (uA rfl rfl) rfl rfl ?_)|(refine uE (uQ rfl rfl rfl rfl) rfl rfl ?_)|(refine uE (EvF.add64 rfl rfl rfl (by omega) (by omega)) rfl rfl ?_)|(refine uE (uY rfl rfl (te rfl)) rfl rfl ?_)))))|(refine uD rfl ?_;refine hK _ _ ?_;clear hK K) | refine uS rfl ?_ | refine uR rfl (fun K hK=>?_) | refine X.block rfl ?_ | (refine X.brk rfl ?_;repeat (first | refine blockX_hit rfl ?_ | refine blockX_miss (by decide) ?_)) | refine X.skip rfl ?_ | refine X.ret rfl ?_ | (refine X.ite rfl rfl (fun hc=>?_);(first | (with_reducible refine Xb.case hc (fun h=>?_) (fun h=>?_))) <;> clear hc))
  ·obtain ⟨lb,lo,e,rfl,he⟩:=hl.elem (i:=i) (by omega)
   have hil:=(List.getElem?_eq_some_iff.1 he).1
   have hle : (acc++[e]).length = acc.length + 1:=by rw [List.length_append];rfl
   have hfm : acc.flatMap cI++cI e = (acc++[e]).flatMap cI:=by rw [List.flatMap_append,List.flatMap_singleton]
   have hal : (acc.flatMap cI).length = acc.length * 1:=lenI acc
   refine X.regionRd ts71 rd71 [3,4,9,1,2,5] [(3,.pointer (some ⟨bt,0,none⟩)),(4,.pointer (some ⟨bl,0,none⟩)),(9,.int .i64 i),(1,.int .i64 mi),(2,.pointer (some ⟨br,0,none⟩)),(5,.pointer (some ⟨bg,0,none⟩))]
    (val71I out lb lo acc.length c l.length i e) (rows71I bt out Z acc e) (fun _=>(0,0)) H0 rfl mixed (by repeat (first | exact uU _ | refine uV rfl ?_)) rfl (by kernel_rfl) (by kernel_rfl) (loc71I bt out Z acc lb lo c l.length i e) (by show List.Sublist ((⟨bt,0,[out],some 55,1⟩::(Z++[]))++H0) _;rw [List.append_nil];exact qR _) ?_ ?_
   ·repeat' (first | exact AllF.done rfl | (refine AllF.step rfl ?_ ?_;·(first | exact (Ob.ng rfl (uK (fun env R hR=>by exact ⟨_,uM rfl rfl,rfl⟩) rfl (fun _=>rfl))).toR | (refine ObR.ng rfl ?_;(first | (exact fun env S hS hrd=>(StF.ofEv (uL rfl rfl (uO (te rfl) rfl (hrd 8 (qH _) _ (qH _)) rfl))).op.mono (fun v H' ⟨hv,hH⟩=>⟨(0,0),fun _=>hv,by rw [hH];exact List.Perm.refl _⟩))|(exact fun env S hS hrd=>(StF.ofEv (uL rfl rfl (uO (te rfl) rfl (hS _ ml) rfl))).op.mono (fun v H' ⟨hv,hH⟩=>⟨(0,0),fun _=>hv,by rw [hH];exact List.Perm.refl _⟩))|((refine fun env S hS hrd=>(StF.ofEv (v := .pointer (some ⟨lb,lo + i * 1,none⟩)) ?_).op.mono (fun v H' ⟨hv,hH⟩=>⟨(0,0),fun _=>hv,by rw [hH];exact List.Perm.refl _⟩);refine uJ (T:=55) (e:=3) (i:=(i : Int)) (off:=lo) (b:=lb) (len:=l.length) (ti:=⟨.int .i64,1,8⟩) rfl rfl rfl (te rfl) (te rfl) ?_ ?_ <;> omega))|(exact fun env S hS hrd=>(StF.ofEv (v := .int .i64 e) (uL rfl rfl (LoadV.el0 (n:=i) hl he (te rfl) rfl (fun _ h=>hS _ h) rfl))).op.mono (fun v H' ⟨hv,hH⟩=>⟨(0,0),fun _=>hv,by rw [hH];exact List.Perm.refl _⟩))|(exact fun env S hS hrd=>(StF.buildOne (v0 := .int .i64 e) rfl el55 rfl rfl rfl (by decide) (by decide)).op.mono (fun v H' ⟨b,hv,hH⟩=>⟨(b,0),fun _=>hv,by rw [hH];exact List.Perm.refl _⟩))|(exact fun env S hS hrd=>(StF.storeOne (i:=0) rfl rfl rfl rfl (te rfl) rfl rfl (Nat.le_of_ble_eq_true rfl)).op.mono (fun v H' ⟨hv,hH⟩=>⟨(0,0),fun h=>absurd rfl h,by rw [hH];exact List.Perm.refl _⟩))|((rcases hT with ⟨rfl,rfl,rfl⟩ | ⟨b,q,rfl,rfl⟩ <;> first | exact fun env S hS hrd=>(StF.appendNew rfl el55 rfl rfl (by decide) rfl (Rd.own (hrd 5 (qH _) _ (qH _))) (by decide)).op.mono (fun v H' ⟨b,c,hv,hH⟩=>⟨(b,c),fun _=>hv,by rw [hH];exact List.Perm.refl _⟩) | exact fun env S hS hrd=>(StF.appendOwn (i:=0) rfl el55 rfl rfl rfl hal rfl (Rd.own (qT _ (hrd 5 (qH _) _ (qH _)))) rfl (by omega)).op.mono (fun v H' ⟨b,c,hv,hH⟩=>⟨(b,c),fun _=>hv,by rw [hH];exact List.Perm.refl _⟩))))))))
   ·intro env t ha hv
    refine ⟨_,ha,?_⟩
    show X _ _ _ _ (⟨(env 5).1,0,cI e,some 3,1 * 1⟩::⟨(env 6).1,0,acc.flatMap cI++cI e,some 3,(env 6).2 * 1⟩::⟨bt,0,[.slice (some ⟨(env 6).1,0,none⟩) (acc.length + 1) (env 6).2],some 55,1⟩::H0) _
    rw [hfm]
    refine X.weakR (List.sublist_cons_self _ _) ?_
    refine X.permH (H' := ⟨bt,0,[.slice (some ⟨(env 6).1,0,none⟩) (acc.length + 1) (env 6).2],some 55,1⟩::⟨(env 6).1,0,(acc++[e]).flatMap cI,some 3,(env 6).2 * 1⟩::H0) (List.Perm.swap _ _ _) ?_
    clear hT
    repeat' (first | (refine uP rfl ?_;(first | ((first | refine uN rfl ?_);(first | (refine uE (uL rfl rfl (uO (te rfl) rfl (qT _ (qT _ mg)) rfl)) rfl rfl ?_)|(refine uC (EnF.dyn0 rfl rfl (by (repeat (first | exact Args.nil | refine Args.cons rfl ?_));done)) rfl rfl (ih (i + 1) _ _ (acc++[e]) _ [⟨(env 6).1,0,(acc++[e]).flatMap cI,some 3,(env 6).2 * 1⟩] (by omega) (by omega) (by omega) (by omega) (.inr ⟨_,_,by rw [hle],rfl⟩)) ?_;rintro _ _ ⟨out',Z',(⟨r,hlr,rfl,hT'⟩ | ⟨hln,rfl,⟨h0,_,_⟩ | ⟨b',q',rfl,rfl⟩⟩),rfl⟩;rotate_left;·exact absurd h0 (by simp))|(refine uE (uM rfl rfl) rfl rfl ?_)|(refine uE (uA rfl rfl) rfl rfl ?_)|(refine uE (EvF.add64 rfl rfl rfl (by omega) (by omega)) rfl rfl ?_)|(refine uE (EvF.sub64 rfl rfl rfl (by omega) (by omega)) rfl rfl ?_)|(refine uE (uY rfl rfl (te rfl)) rfl rfl ?_)|(refine uE (uL rfl rfl (uO (te rfl) rfl (qH _) rfl)) rfl rfl ?_)))))|(refine uD rfl ?_;refine hK _ _ ?_;clear hK K) | refine uS rfl ?_ | refine uR rfl (fun K hK=>?_) | refine X.skip rfl ?_ | refine X.ret rfl ?_ | (refine X.ite rfl rfl (fun hc=>?_);(first | (with_reducible refine Xb.t hc ?_)|(with_reducible refine Xb.f hc ?_)) <;> clear hc))
    ·refine XO.reveal (q:=1) rfl (fun rest hrest=>?_)
     have hcap : (acc++[e]).length ≤ q' := by
      rw [List.length_append,lenI] at hrest
      omega
     refine XO.forget (q:=1) (cs:=acc.flatMap cI) (cs' := cI e++rest) (by show some (⟨b',0,(acc++[e]).flatMap cI++rest,some 3,q' * 1⟩ : Row)=_;rw [← hfm,List.append_assoc];rfl) ?_
     dsimp only [List.set,List.cons_append,List.nil_append]
     repeat' (first | (refine uP rfl ?_;(first | ((first | refine uN rfl ?_);(first | (refine uE (EvF.sliceTo (hh:=acc.length) rfl rfl (te rfl) (te rfl) (congrArg (fun z=>some (Value.int .i64 z)) (by omega : (((acc++[e]).length : Nat) : Int) - 1 = (acc.length : Int))) (by omega)) rfl rfl ?_)|(refine uE (uM rfl rfl) rfl rfl ?_)|(refine uE (uA rfl rfl) rfl rfl ?_)|(refine uE (EvF.add64 rfl rfl rfl (by omega) (by omega)) rfl rfl ?_)|(refine Xg.st0 (StF.storeOne (i:=0) rfl rfl rfl rfl (te rfl) rfl rfl (Nat.le_of_ble_eq_true rfl)) rfl ?_;rintro _ _ ⟨rfl,rfl⟩;dsimp only [List.set])))))|(refine uD rfl ?_;refine hK _ _ ?_;clear hK K) | refine uR rfl (fun K hK=>?_))
     refine ⟨_,_,_,(by repeat (first | exact uU _ | refine uV rfl ?_)),qR _,⟨i + 1,_,[⟨b',0,acc.flatMap cI,some 3,q' * 1⟩],rfl,by omega,.inr ⟨b',q',rfl,rfl⟩,?_,rfl,rfl⟩,by omega⟩
     rw [hlon,drop_cons he]
     simp only [lonG,hln]
    ·refine ret_one (by simp) Try.results120 rfl (H' := _) (qR _) ⟨out',Z',.inl ⟨r,?_,rfl,hT'⟩,rfl⟩
     rw [hlon,drop_cons he]
     simp only [lonG,hlr]
  ·refine ret_one (by simp) Try.results120 rfl (H' := _) (qR _) ⟨out,Z,.inr ⟨?_,rfl,hT⟩,rfl⟩
   rw [hlon]
   exact lonG_short ok _ _ _ (by rw [List.length_drop];omega)
set_option maxHeartbeats 8000000 in
theorem fewest_specJ (ok : List Int → Bool) (l : List Int) (a : Option Addr) (c most g : Nat) (fst cap : List Value) (H : List Row) (hl : SlE H a cI 1 l) (hb : l.length ≤ 1000000) (hm : most ≤ 1000)
  (hr : ∀ acc a' c' H',(∀ r ∈ H,r ∈ H') → SlE H' a' cI 1 acc → acc.length ≤ 1000000 → Fc Try.prog g (fst++[.slice a' acc.length c']++cap) H' (fun v H'' => v = .bool (ok acc)∧H'' = H')) :
  Fc Try.prog 82 [.slice a l.length c,.int .i64 (most : Nat),.func (.func g) fst.toArray cap.toArray] H
   (fun v H' => ∃ out Z,TrvI ((fewG ok l (min most l.length + 1) 0).getD []) out Z∧v = .tuple #[out,.bool (fewG ok l (min most l.length + 1) 0).isSome]∧H' = Z++H):=by
 refine Fc.mk (callable Try.call82) Try.func82 rfl Try.ntmps82 rfl ?_;dsimp only [fr]
 repeat' (first | (refine uP rfl ?_;(first | ((first | refine uN rfl ?_);(first | (refine uE (EvF.makeFunc (fl:=[]) rfl Args.nil (Args.cons rfl (Args.cons rfl (Args.cons rfl (Args.cons rfl Args.nil))))) rfl rfl ?_)|(refine uE (uM rfl rfl) rfl rfl ?_)|(refine uE (uA rfl rfl) rfl rfl ?_)|(refine uE (EvF.add64 rfl rfl rfl (by omega) (by omega)) rfl rfl ?_)|(refine uE (uY rfl rfl (te rfl)) rfl rfl ?_)|(refine uE (uL rfl rfl (uO (te rfl) rfl (qT _ (qT _ (qT _ (qH _)))) rfl)) rfl rfl ?_)|(refine uE (EvF.min64 rfl rfl rfl) rfl rfl ?_)|(refine Xg.st (StF.boxOne rfl rfl rfl) rfl rfl ?_;rintro _ _ ⟨bx,rfl,rfl⟩)|(refine Xg.st (StF.alloc rfl Try.zeroValue55 rfl) rfl rfl ?_;rintro _ _ ⟨bx,rfl,rfl⟩)|(refine Xg.st (StF.alloc rfl Try.zeroValue173 rfl) rfl rfl ?_;rintro _ _ ⟨bx,rfl,rfl⟩)|(refine Xg.st0 (StF.storeOne (i:=0) rfl rfl rfl rfl (te rfl) rfl rfl (Nat.le_of_ble_eq_true rfl)) rfl ?_;rintro _ _ ⟨rfl,rfl⟩;dsimp only [List.set])))))|(refine uD rfl ?_;refine hK _ _ ?_;clear hK K) | refine uS rfl ?_ | refine uR rfl (fun K hK=>?_) | refine X.block rfl ?_)
 rename_i bl br bt;rename Nat=>bg
 refine X.permH (List.Perm.swap _ _ _) ?_
 have hlg:=longer_specJ ok l a c g fst cap bt br bl bg (some 136) (some 55) (some 173) 1 1 1 (⟨bg,0,[.func (.func 120) #[] #[.pointer (some ⟨br,0,none⟩),.pointer (some ⟨bt,0,none⟩),.pointer (some ⟨bl,0,none⟩),.pointer (some ⟨bg,0,none⟩)]],some 173,1⟩::⟨br,0,[.func (.func g) fst.toArray cap.toArray],some 136,1⟩::⟨bl,0,[.slice a l.length c],some 55,1⟩::H)
  (hl.sub (fun _ h=>qT _ (qT _ (qT _ h)))) hb (qT _ (qH _)) (qT _ (qT _ (qH _))) (qH _) (fun acc a' c' H' hs=>hr acc a' c' H' (fun r h=>hs r (qT _ (qT _ (qT _ h)))))
 refine X.lp rfl (fun q F' H' => ∃ (k : Nat) (out : Value) (Z : List Row),q = min most l.length + 1 - k∧k ≤ min most l.length + 1∧TrvI [] out Z∧fewG ok l (min most l.length + 1) 0 = fewG ok l (min most l.length + 1 - k) k ∧
   ⟨bt,0,[out],some 55,1⟩::(Z++(⟨bg,0,[.func (.func 120) #[] #[.pointer (some ⟨br,0,none⟩),.pointer (some ⟨bt,0,none⟩),.pointer (some ⟨bl,0,none⟩),.pointer (some ⟨bg,0,none⟩)]],some 173,1⟩::⟨br,0,[.func (.func g) fst.toArray cap.toArray],some 136,1⟩::⟨bl,0,[.slice a l.length c],some 55,1⟩::H)) = H' ∧
   F' = [(8,.pointer (some ⟨bt,0,none⟩)),(9,.pointer (some ⟨bg,0,none⟩)),(16,.int .i64 (min (most : Int) (l.length : Int) + 1)),(17,.int .i64 k)])
  (min most l.length + 1) [(8,.pointer (some ⟨bt,0,none⟩)),(9,.pointer (some ⟨bg,0,none⟩)),(16,.int .i64 (min (most : Int) (l.length : Int) + 1)),(17,.int .i64 (0 : Nat))] _ (by repeat (first | exact uU _ | refine uV rfl ?_)) (qR _) ⟨0,_,[],rfl,by omega,.inl ⟨rfl,rfl,rfl⟩,rfl,rfl,rfl⟩ ?_
 rintro _ _ H2 ⟨k,out,Z,rfl,hk,hT,hf,hH,rfl⟩
 subst hH
 repeat' (first | (refine uP rfl ?_;(first | ((first | refine uN rfl ?_);(first | (refine uE (uL rfl rfl (uO (te rfl) rfl (qT _ (List.mem_append_right _ (qH _))) rfl)) rfl rfl ?_)|(refine uC (EnF.dyn0 rfl rfl (by (repeat (first | exact Args.nil | refine Args.cons rfl ?_));done)) rfl rfl (hlg k 0 _ _ [] out Z rfl rfl (by omega) (by simp only [List.length_nil];omega) hT) ?_;rintro _ _ ⟨out',Z',(⟨r,hlr,rfl,hT'⟩ | ⟨hln,rfl,hT'⟩),rfl⟩)|(refine uE (uM rfl rfl) rfl rfl ?_)|(refine uE (uA rfl rfl) rfl rfl ?_)|(refine uE (uQ rfl rfl rfl rfl) rfl rfl ?_)|(refine uE (EvF.add64 rfl rfl rfl (by omega) (by omega)) rfl rfl ?_)|(refine uE (uL rfl rfl (uO (te rfl) rfl (qH _) rfl)) rfl rfl ?_)))))|(refine uD rfl ?_;refine hK _ _ ?_;clear hK K) | refine uS rfl ?_ | refine uR rfl (fun K hK=>?_) | refine X.block rfl ?_ | (refine X.brk rfl ?_;repeat (first | refine blockX_hit rfl ?_ | refine blockX_miss (by decide) ?_)) | refine X.skip rfl ?_ | refine X.ret rfl ?_ | (refine X.ite rfl rfl (fun hc=>?_);(first | (with_reducible refine Xb.t hc ?_)|(with_reducible refine Xb.f hc ?_)|(with_reducible refine Xb.case hc (fun h=>?_) (fun h=>?_))) <;> clear hc))
 ·obtain ⟨j,hj⟩ : ∃ j,min most l.length + 1 - k = j + 1:=⟨min most l.length - k,by omega⟩
  rw [List.drop_zero] at hlr
  have hfr : fewG ok l (min most l.length + 1) 0 = some r:=by rw [hf,hj];simp only [fewG,hlr]
  rw [hfr]
  exact ret_two (by simp) Try.results82 rfl rfl (H' := Z'++H) (qC _ (List.Sublist.append (qR _) (qC _ (qC _ (List.sublist_cons_self _ _))))) ⟨out',Z',hT',rfl,rfl⟩
 ·obtain ⟨j,hj⟩ : ∃ j,min most l.length + 1 - k = j + 1:=⟨min most l.length - k,by omega⟩
  rw [List.drop_zero] at hln
  refine ⟨_,_,_,(by repeat (first | exact uU _ | refine uV rfl ?_)),qR _,⟨k + 1,out',Z',rfl,by omega,hT',?_,rfl,rfl⟩,by omega⟩
  rw [hf,hj,show min most l.length + 1 - (k + 1)=j by omega]
  simp only [fewG,hln]
 ·have hk' : min most l.length + 1 - k = 0:=by omega
  have hfn : fewG ok l (min most l.length + 1) 0 = none:=by rw [hf,hk'];rfl
  rw [hfn]
  exact ret_two (by simp) Try.results82 rfl rfl (H' := H) (qC _ ((qC _ (qC _ (List.sublist_cons_self _ _))).trans (List.sublist_append_right _ _))) ⟨_,[],.inl ⟨rfl,rfl,rfl⟩,rfl,rfl⟩
theorem filter_snoc_tMt {p : Mt → Bool} {l : List Mt} {j : Nat} {e : Mt} (he : l[j]? = some e) (hp : p e = true) : (l.take (j + 1)).filter (fun e => !p e)=(l.take j).filter (fun e => !p e):=by
 rw [take_snoc he,List.filter_append];simp [hp]
theorem filter_snoc_fMt {p : Mt → Bool} {l : List Mt} {j : Nat} {e : Mt} (he : l[j]? = some e) (hp : p e = false) : (l.take (j + 1)).filter (fun e => !p e)=(l.take j).filter (fun e => !p e)++[e]:=by
 rw [take_snoc he,List.filter_append];simp [hp]
theorem honeMt (z : Value) (w : World) (h : (zeroValue 111).run Try.prog w = .ok z w) : z.cells.all (·.oneCell') = true:=by
 rw [Try.zeroValue111] at h
 cases h
 first | decide | simp [Value.cells,Value.oneCell'] | kernel_rfl
set_option maxHeartbeats 4000000 in
theorem deleteFunc_specMt (l : List Mt) (b c g : Nat) (p : Mt → Bool) (cap : List Value) (H : List Row) (hb : l.length ≤ 1000000) (hf : ∀ Z,∀ e ∈ l,Fc Try.prog g ([.agg (cMt e).toArray]++cap) (Z++H) (fun v H' => v = .bool (p e)∧H' = Z++H)) :
  Fc Try.prog 123 [.slice (some ⟨b,0,none⟩) l.length c,.func (.func g) #[] cap.toArray] (⟨b,0,l.flatMap cMt,some 111,c * 6⟩::H)
   (fun v H' => v = .slice (some ⟨b,0,none⟩) (l.filter (fun e => !p e)).length c∧H' = ⟨b,0,(l.filter (fun e => !p e)).flatMap cMt,some 111,c * 6⟩::H):=by
 have hlen:=lenMt l
 refine Fc.mk (callable Try.call123) Try.func123 rfl Try.ntmps123 rfl ?_;dsimp only [fr]
 refine X.reveal (q:=0) rfl (fun rest hrest=>?_)
 refine X.forget (q:=0) (cs:=l.flatMap cMt) (cs' := rest) rfl ?_
 dsimp only [List.set]
 have hlc : l.length ≤ c:=by
  rw [List.length_append,hlen] at hrest
  omega
 clear hrest
 repeat' (first | (refine uP rfl ?_;(first | ((first | refine uN rfl ?_);(first | (refine uC (uT rfl (by (repeat (first | exact Args.nil | refine Args.cons rfl ?_));done)) rfl rfl (indexFunc_specMt l _ _ g p cap _ (SlE.ofRow (qH _) (fun _ _=>rfl)) (by omega) (fun e he=>hf [_] e he)) ?_;rintro _ H9 ⟨⟨z,rfl,hz⟩,hH9⟩;subst H9;rcases hz with ⟨rfl,hz⟩ | ⟨k,e0,rfl,he0,hp0,hz⟩;rotate_left;have hk0:=(List.getElem?_eq_some_iff.1 he0).1;rotate_right)|(refine uE (uM rfl rfl) rfl rfl ?_)|(refine uE (uA rfl rfl) rfl rfl ?_)|(refine uE (uQ rfl rfl rfl rfl) rfl rfl ?_)|(refine uE (EvF.add64 rfl rfl rfl (by omega) (by omega)) rfl rfl ?_)))))|(refine uD rfl ?_;refine hK _ _ ?_;clear hK K) | refine uS rfl ?_ | refine uR rfl (fun K hK=>?_) | refine X.block rfl ?_ | refine X.skip rfl ?_ | refine X.ret rfl ?_ | (refine X.ite rfl rfl (fun hc=>?_);(first | (with_reducible refine Xb.case hc (fun h=>?_) (fun h=>?_))) <;> clear hc))
 any_goals (exfalso;omega)
 ·have e1 : l.filter (fun e => !p e)=l:=List.filter_eq_self.2 (fun e he=>by simp [hz e he])
  refine ret_one (by simp) Try.results123 rfl (H' := ⟨b,0,l.flatMap cMt,some 111,c * 6⟩::H) (qR _) ?_
  rw [e1]
  exact ⟨rfl,rfl⟩
 have e1 : (l.take k).filter (fun e => !p e)=l.take k:=List.filter_eq_self.2 (fun e he=>by
  obtain ⟨i,hi⟩:=List.getElem?_of_mem he
  rw [List.getElem?_take] at hi
  split at hi
  ·simp [hz i e (by assumption) hi]
  ·cases hi)
 refine X.lp rfl (fun q F' H' => ∃ (i j : Nat) (M : List Value),q = l.length - j∧j ≤ l.length∧i < j∧i = ((l.take j).filter (fun e => !p e)).length∧M.length = (j - i) * 6 ∧
   ⟨b,0,((l.take j).filter (fun e => !p e)).flatMap cMt++M++(l.drop j).flatMap cMt,some 111,c * 6⟩::H = H' ∧
   F' = [(0,.slice (some ⟨b,0,none⟩) l.length c),(1,.func (.func g) #[] cap.toArray),(5,.int .i64 i),(6,.int .i64 j)])
  (l.length - (k + 1)) [(0,.slice (some ⟨b,0,none⟩) l.length c),(1,.func (.func g) #[] cap.toArray),(5,.int .i64 k),(6,.int .i64 (k + 1 : Nat))] _ (by repeat (first | exact uU _ | refine uV rfl ?_)) (qR _) ⟨k,k + 1,cMt e0,rfl,by omega,by omega,?_,?_,?_,rfl⟩ ?_
 ·rw [filter_snoc_tMt he0 hp0,e1,List.length_take];omega
 ·show 6 = _;omega
 ·rw [filter_snoc_tMt he0 hp0,e1]
  congr 2
  rw [show l.flatMap cMt = (l.take k++l.drop k).flatMap cMt by rw [List.take_append_drop],drop_cons he0,List.flatMap_append,List.flatMap_cons,List.append_assoc]
 rintro _ _ H2 ⟨i,j,M,rfl,hj,hij,hi,hM,hH,rfl⟩
 subst hH
 have hF : (((l.take j).filter (fun e => !p e)).flatMap cMt).length = i * 6:=by rw [lenMt, ← hi]
 repeat' (first | (refine uP rfl ?_;(first | ((first | refine uN rfl ?_);(first | (refine uE (uM rfl rfl) rfl rfl ?_)|(refine uE (uQ rfl rfl rfl rfl) rfl rfl ?_)|(refine uE (uY rfl rfl (te rfl)) rfl rfl ?_)|(refine uE (uJ rfl rfl rfl (te rfl) (te rfl) (by omega) (by omega)) rfl rfl ?_)))))|(refine uD rfl ?_;refine hK _ _ ?_;clear hK K) | refine uS rfl ?_ | refine uR rfl (fun K hK=>?_) | refine X.block rfl ?_ | (refine X.brk rfl ?_;repeat (first | refine blockX_hit rfl ?_ | refine blockX_miss (by decide) ?_)) | refine X.skip rfl ?_ | (refine X.ite rfl rfl (fun hc=>?_);(first | (with_reducible refine Xb.case hc (fun h=>?_) (fun h=>?_))) <;> clear hc))
 ·have hjl : j < l.length:=by omega
  obtain ⟨e,he⟩ : ∃ e,l[j]? = some e:=⟨_,List.getElem?_eq_getElem hjl⟩
  rw [drop_cons he,List.flatMap_cons]
  have hload : ((((l.take j).filter (fun e => !p e)).flatMap cMt++M++(cMt e++(l.drop (j + 1)).flatMap cMt)).drop (0 + (j : Int).toNat * 6)).take 6 = cMt e:=by
   rw [List.drop_left' (by rw [List.length_append,hF,hM];show _ = 0 + j * 6;omega)]
   exact List.take_left' rfl
  repeat' (first | (refine uP rfl ?_;(first | ((first | refine uN rfl ?_);(first | (refine uE (uL rfl rfl (LoadV.ownAgg (te rfl) rfl (qH _) hload rfl)) rfl rfl ?_)|(refine uC (EnF.dyn0 rfl rfl (by (repeat (first | exact Args.nil | refine Args.cons rfl ?_));done)) rfl rfl (hf [_,_] e (List.mem_of_getElem? he)) ?_;rintro _ H9 ⟨rfl,hH9⟩;subst H9)|(refine Xg.st0 (StF.storeAt (q:=1) rfl rfl rfl (te rfl) rfl rfl (one_mt e) (by rw [List.length_append,List.length_append,hF,hM];show 0 + i * 6 + 6 ≤ _;omega)) rfl ?_;rintro _ _ ⟨rfl,rfl⟩;dsimp only [List.set])|(refine uE (uM rfl rfl) rfl rfl ?_)|(refine uE (uA rfl rfl) rfl rfl ?_)|(refine uE (EvF.add64 rfl rfl rfl (by omega) (by omega)) rfl rfl ?_)|(refine uE (EvF.not rfl rfl) rfl rfl ?_)|(refine uE (uJ rfl rfl rfl (te rfl) (te rfl) (by omega) (by omega)) rfl rfl ?_)|(refine uE (uL rfl rfl (uW (te rfl) rfl (qH _) rfl)) rfl rfl ?_)|(refine Xg.st (StF.alloc rfl Try.zeroValue111 rfl) rfl rfl ?_;rintro _ _ ⟨bx,rfl,rfl⟩)|(refine Xg.st0 (uZ (i:=0) rfl rfl rfl (te rfl) rfl rfl rfl rfl) rfl ?_;rintro _ _ ⟨rfl,rfl⟩;dsimp only [List.set])))))|(refine uD rfl ?_;refine hK _ _ ?_;clear hK K) | refine uS rfl ?_ | refine uR rfl (fun K hK=>?_) | refine X.skip rfl ?_ | (refine X.ite rfl rfl (fun hc=>?_);(first | (with_reducible refine Xb.caseB hc (fun h=>?_) (fun h=>?_))) <;> clear hc))
  ·have hp : p e = false:=by simpa using h
   refine ⟨_,[(0,.slice (some ⟨b,0,none⟩) l.length c),(1,.func (.func g) #[] cap.toArray),(5,.int .i64 (i + 1 : Nat)),(6,.int .i64 (j + 1 : Nat))],_,(by repeat (first | exact uU _ | refine uV rfl ?_)),?_,⟨i + 1,j + 1,M.drop 6++cMt e,rfl,by omega,by omega,?_,?_,rfl,rfl⟩,by omega⟩
   ·rw [filter_snoc_fMt he hp,List.flatMap_append]
    have:=splice_at (xs:=((l.take j).filter (fun e => !p e)).flatMap cMt) (ys:=M.take 6) (zs:=M.drop 6++(cMt e++(l.drop (j + 1)).flatMap cMt)) (vs:=cMt e) (j:=0 + (i : Int).toNat * 6) (by rw [hF];show _ = 0 + i * 6;omega) (by rw [List.length_take,hM];show 6 = _;omega)
    rw [show ((l.take j).filter (fun e => !p e)).flatMap cMt++M.take 6++(M.drop 6++(cMt e++(l.drop (j + 1)).flatMap cMt)) = ((l.take j).filter (fun e => !p e)).flatMap cMt++M++(cMt e++(l.drop (j + 1)).flatMap cMt) by
     rw [List.append_assoc, ← List.append_assoc (M.take 6),List.take_append_drop,List.append_assoc]] at this
    rw [this]
    rw [show ((l.take j).filter (fun e => !p e)).flatMap cMt++cMt e++(M.drop 6++(cMt e++(l.drop (j + 1)).flatMap cMt)) = ((l.take j).filter (fun e => !p e)).flatMap cMt++[e].flatMap cMt++(M.drop 6++cMt e)++(l.drop (j + 1)).flatMap cMt by
     rw [List.flatMap_singleton];simp only [List.append_assoc]]
    exact (by repeat (first | exact qR _ | apply qK | apply qC))
   ·rw [filter_snoc_fMt he hp,List.length_append, ← hi];rfl
   ·rw [List.length_append,List.length_drop,hM];show _ + 6 = _;omega
  ·have hp : p e = true:=by simpa using h
   refine ⟨_,[(0,.slice (some ⟨b,0,none⟩) l.length c),(1,.func (.func g) #[] cap.toArray),(5,.int .i64 i),(6,.int .i64 (j + 1 : Nat))],_,(by repeat (first | exact uU _ | refine uV rfl ?_)),?_,⟨i,j + 1,M++cMt e,rfl,by omega,by omega,?_,?_,rfl,rfl⟩,by omega⟩
   ·rw [filter_snoc_tMt he hp,List.append_assoc,List.append_assoc,List.append_assoc]
    exact (by repeat (first | exact qR _ | apply qK | apply qC))
   ·rw [filter_snoc_tMt he hp];exact hi
   ·rw [List.length_append,hM];show _ + 6 = _;omega
 ·obtain rfl : j = l.length:=by omega
  rw [List.take_length] at hi hF ⊢
  rw [List.drop_length,List.flatMap_nil,List.append_nil]
  repeat' (first | (refine uP rfl ?_;(first | ((first | refine uN rfl ?_);(first | (refine uE (EvF.sliceFromL (lo:=i) rfl rfl (te rfl) (te rfl) rfl (by omega) (by omega) (by omega)) rfl rfl ?_)|(refine Xg.st0 (StF.clear (q:=0) rfl el24 rfl rfl (by rw [List.length_append,hF,hM];show 0 + i * 6 + _ ≤ _;omega) honeMt) rfl ?_;rintro _ _ ⟨zs,hzs,rfl⟩;dsimp only [List.set])|(refine uE (uM rfl rfl) rfl rfl ?_)))))|(refine uD rfl ?_;refine hK _ _ ?_;clear hK K) | refine uS rfl ?_ | refine uR rfl (fun K hK=>?_))
  have e2 : splice ((l.filter (fun e => !p e)).flatMap cMt++M) (0 + i * 6) zs = (l.filter (fun e => !p e)).flatMap cMt++zs:=by
   have:=splice_at (xs:=(l.filter (fun e => !p e)).flatMap cMt) (ys:=M) (zs:=[]) (vs:=zs) (j:=0 + i * 6) (by rw [hF];omega) (by rw [hzs,hM])
   rwa [List.append_nil,List.append_nil] at this
  rw [e2]
  refine XO.forget (q:=0) rfl ?_
  dsimp only [List.set]
  repeat' (first | (refine uP rfl ?_;(first | ((first | refine uN rfl ?_);(first | (refine uE (EvF.sliceTo (hh:=i) rfl rfl (te rfl) (te rfl) rfl (by omega)) rfl rfl ?_)|(refine uE (uA rfl rfl) rfl rfl ?_)))))|(refine uD rfl ?_;refine hK _ _ ?_;clear hK K) | refine X.ret rfl ?_)
  refine ret_one (by simp) Try.results123 rfl (H' := ⟨b,0,(l.filter (fun e => !p e)).flatMap cMt,some 111,c * 6⟩::H) (qR _) ⟨?_,rfl⟩
  rw [hi]
def wM (R : Rm) (M : List Mt) : Rm:={ R with mats:=M }
theorem wM_ok {R : Rm} (M : List Mt) (h : okRm R) : okRm (wM R M):=⟨h.bx,h.ages,h.len,h.m1,h.m12,h.s0,h.s60,h.b4⟩
theorem wM_tru {R : Rm} {M M' : List Mt} {z : Pk → Int} : Tru (wM R M) M' z ↔ Tru R M' z:=⟨fun h=>⟨h.zero,h.age,h.step,h.mat⟩,fun h=>⟨h.zero,h.age,h.step,h.mat⟩⟩
theorem wM_has {R : Rm} {M M' : List Mt} : hasT (wM R M) M' ↔ hasT R M' := ⟨fun ⟨z,h⟩=>⟨z,wM_tru.1 h⟩,fun ⟨z,h⟩=>⟨z,wM_tru.2 h⟩⟩
theorem wM_ex {R : Rm} {M M' : List Mt} {a b : Pk} {s : Sp} : ExR (wM R M) M' a b s ↔ ExR R M' a b s :=
 ⟨fun h=>⟨fun z hz=>h.all z (wM_tru.2 hz),by obtain ⟨z,h1,h2⟩:=h.lo;exact ⟨z,wM_tru.1 h1,h2⟩,by obtain ⟨z,h1,h2⟩:=h.hi;exact ⟨z,wM_tru.1 h1,h2⟩⟩,
  fun h=>⟨fun z hz=>h.all z (wM_tru.1 hz),by obtain ⟨z,h1,h2⟩:=h.lo;exact ⟨z,wM_tru.2 h1,h2⟩,by obtain ⟨z,h1,h2⟩:=h.hi;exact ⟨z,wM_tru.2 h1,h2⟩⟩⟩
theorem wM_rng (R : Rm) (M M' : List Mt) (a b : Pk) : rng (wM R M) M' a b = rng R M' a b:=by
 by_cases h : ∃ s,ExR R M' a b s
 ·obtain ⟨s,hs⟩:=h
  rw [rng_eq hs,rng_eq (wM_ex.2 hs)]
 ·unfold rng
  rw [dif_neg h,dif_neg (fun ⟨s,hs⟩=>h ⟨s,wM_ex.1 hs⟩)]
theorem mats_sub {R : Rm} {M M' : List Mt} (h : matsThere R M) (hs : ∀ x ∈ M',x ∈ M) : matsThere R M' := fun x hx=>h x (hs x hx)
theorem cloneNilMt (c : Nat) (H : List Row) : Fc Try.prog 124 [.slice none 0 c] H (fun v H' => v = .slice none 0 0∧H' = H):=by
 refine Fc.mk (callable Try.call124) Try.func124 rfl Try.ntmps124 rfl ?_;dsimp only [fr]
 repeat' (first | (refine uP rfl ?_;(first | ((first | refine uN rfl ?_);(first | (refine uE (EvF.eqNilT rfl rfl (te rfl)) rfl rfl ?_)|(refine uE (uM rfl rfl) rfl rfl ?_)|(refine uE (uA rfl rfl) rfl rfl ?_)))))|(refine uD rfl ?_;refine hK _ _ ?_;clear hK K) | refine uS rfl ?_ | refine uR rfl (fun K hK=>?_) | refine X.ret rfl ?_ | (refine X.ite rfl rfl (fun hc=>?_);(first | (with_reducible refine Xb.t hc ?_)) <;> clear hc))
 all_goals try (exfalso;contradiction)
 exact ret_one (by simp) Try.results124 rfl (H' := H) (by repeat (first | exact qR _ | apply qK | apply qC)) ⟨rfl,rfl⟩
theorem deleteNilMt (g : Nat) (cap : List Value) (H : List Row) : Fc Try.prog 123 [.slice none 0 0,.func (.func g) #[] cap.toArray] H (fun v H' => v = .slice none 0 0∧H' = H):=by
 have hi:=indexFunc_specMt [] none 0 g (fun _=>false) cap H sleNil (Nat.zero_le _) (fun e he=>absurd he List.not_mem_nil)
 have hi' : Fc Try.prog 135 [.slice none 0 0,.func (.func g) #[] cap.toArray] H (fun v H' => v = .int .i64 (-1)∧H' = H):=hi.mono fun v H' ⟨⟨z,hv,hz⟩,hH⟩=>⟨by
  rcases hz with ⟨rfl,_⟩ | ⟨k,e,_,he,_⟩
  ·exact hv
  ·simp at he,hH⟩
 refine Fc.mk (callable Try.call123) Try.func123 rfl Try.ntmps123 rfl ?_;dsimp only [fr]
 repeat' (first | (refine uP rfl ?_;(first | ((first | refine uN rfl ?_);(first | (refine uE (uQ (b:=true) rfl rfl rfl (congrArg some (decide_eq_true (by omega)))) rfl rfl ?_)|(refine uC (uT rfl (Args.cons rfl (Args.cons rfl Args.nil))) rfl rfl (hi') ?_;rintro _ H9 ⟨rfl,hH9⟩;subst H9)|(refine uE (uM rfl rfl) rfl rfl ?_)|(refine uE (uA rfl rfl) rfl rfl ?_)))))|(refine uD rfl ?_;refine hK _ _ ?_;clear hK K) | refine uS rfl ?_ | refine uR rfl (fun K hK=>?_) | refine X.ret rfl ?_ | (refine X.ite rfl rfl (fun hc=>?_);(first | (with_reducible refine Xb.t hc ?_)) <;> clear hc))
 all_goals try (exfalso;contradiction)
 exact ret_one (by simp) Try.results123 rfl (H' := H) (by repeat (first | exact qR _ | apply qK | apply qC)) ⟨rfl,rfl⟩
set_option maxHeartbeats 4000000 in
theorem kwithout_spec (R : Rm) (p : Pl) (a : Option Addr) (c g : Nat) (cap : List Value) (q : Mt → Bool) (H : List Row) (hlm : R.mats.length ≤ 1000) (hC : CtOk H R p a)
  (hf : ∀ x H',(∀ r ∈ H,r ∈ H') → Fc Try.prog g ([.agg (cMt x).toArray]++cap) H' (fun v H'' => v = .bool (q x)∧H'' = H')) :
  Fc Try.prog 92 [.agg (cCt R p a c).toArray,.func (.func g) #[] cap.toArray] H (fun v H' => ∃ p' Z,v = .agg (cCt (wM R (R.mats.filter (fun x => !q x))) p' a c).toArray∧CtOk (Z++H) (wM R (R.mats.filter (fun x => !q x))) p' a∧H' = Z++H):=by
 obtain ⟨a1,c1,a2,c2,a3,c3⟩:=p
 have hfl:=List.length_filter_le (fun x => !q x) R.mats
 rcases a3 with _ | ad
 ·have h0 : R.mats = []:=by
   cases hq : R.mats with
   | nil=>rfl
   | cons x l =>
    obtain ⟨bb,off,_,h,_⟩:=hC.rm.mats.elem (i:=0) (by show 0 < R.mats.length;rw [hq];simp)
    cases h
  have hR0 : R = wM R []:=by unfold wM;rw [← h0]
  have hrm : RmOk H (wM R []) ⟨a1,c1,a2,c2,none,0⟩:=⟨hC.rm.ages,hC.rm.boxes,sleNil,hC.rm.l1,hC.rm.l2,Nat.zero_le _⟩
  have hc0 : cCt R ⟨a1,c1,a2,c2,none,c3⟩ a c = [.int .i64 R.months,.int .i64 R.step,.slice a1 R.ages.length c1,.slice a2 R.boxes.length c2,.slice none 0 c3,.slice a (plcs R).length c]:=by
   unfold cCt cRm;rw [h0];rfl
  rw [hc0]
  refine Fc.mk (callable Try.call92) Try.func92 rfl Try.ntmps92 rfl ?_;dsimp only [fr]
  repeat' (first | (refine uP rfl ?_;(first | ((first | refine uN rfl ?_);(first | (refine uC (uT rfl (Args.cons rfl Args.nil)) rfl rfl (cloneNilMt c3 _) ?_;rintro _ H9 ⟨rfl,hH9⟩;subst H9)|(refine uC (uT rfl (Args.cons rfl (Args.cons rfl Args.nil))) rfl rfl (deleteNilMt g cap _) ?_;rintro _ H9 ⟨rfl,hH9⟩;subst H9)|(refine uE (uM rfl rfl) rfl rfl ?_)|(refine uE (uF rfl rfl (te rfl) rfl (te rfl) (by decide)) rfl rfl ?_)|(refine uE (uL rfl rfl (uO (te rfl) rfl (qT _ (qH _)) rfl)) rfl rfl ?_)|(refine uE (uL rfl rfl (uW (te rfl) rfl (qT _ (qH _)) rfl)) rfl rfl ?_)|(refine Xg.st (StF.boxAgg rfl rfl) rfl rfl ?_;rintro _ _ ⟨bx,rfl,rfl⟩)|(refine Xg.st (StF.alloc rfl Try.zeroValue93 rfl) rfl rfl ?_;rintro _ _ ⟨bx,rfl,rfl⟩)|(refine Xg.st0 (uZ (i:=0) rfl rfl rfl (te rfl) rfl rfl rfl rfl) rfl ?_;rintro _ _ ⟨rfl,rfl⟩;dsimp only [List.set])|(refine Xg.st0 (StF.storeOne (i:=1) rfl rfl rfl rfl (te rfl) rfl rfl (Nat.le_of_ble_eq_true rfl)) rfl ?_;rintro _ _ ⟨rfl,rfl⟩;dsimp only [List.set])))))|(refine uD rfl ?_;refine hK _ _ ?_;clear hK K) | refine uS rfl ?_ | refine uR rfl (fun K hK=>?_) | refine X.ret rfl ?_)
  rw [h0]
  exact ret_one (v := .agg (cCt (wM R []) ⟨a1,c1,a2,c2,none,0⟩ a c).toArray) (by simp) Try.results92 ⟨_,rfl,uW (te rfl) rfl (qH _) rfl⟩ (H' := H) (by repeat (first | exact qR _ | apply qK | apply qC)) ⟨⟨a1,c1,a2,c2,none,0⟩,[],rfl,⟨hrm,hC.pl⟩,rfl⟩
 ·refine Fc.mk (callable Try.call92) Try.func92 rfl Try.ntmps92 rfl ?_;dsimp only [fr]
  repeat' (first | (refine uP rfl ?_;(first | ((first | refine uN rfl ?_);(first | (refine uC (uT rfl (by (repeat (first | exact Args.nil | refine Args.cons rfl ?_));done)) rfl rfl (clone_specMt R.mats ad c3 _ (hC.rm.mats.sub (fun _ h=>by repeat (first | exact h | apply qT))) (by omega)) ?_;rintro _ _ ⟨bc,kc,rfl,rfl⟩)|(refine uC (uT rfl (Args.cons rfl (Args.cons rfl Args.nil))) rfl rfl (deleteFunc_specMt R.mats bc kc g q cap _ (by omega) (fun Z x _=>hf x (Z++_) (fun r h=>List.mem_append_right _ (by repeat (first | exact h | apply qT))))) ?_;rintro _ _ ⟨rfl,rfl⟩)|(refine uE (uM rfl rfl) rfl rfl ?_)|(refine uE (uF rfl rfl (te rfl) rfl (te rfl) (by decide)) rfl rfl ?_)|(refine uE (uL rfl rfl (uO (te rfl) rfl (qT _ (qH _)) rfl)) rfl rfl ?_)|(refine uE (uL rfl rfl (uW (te rfl) rfl (qT _ (qT _ (qH _))) rfl)) rfl rfl ?_)|(refine Xg.st (StF.boxAgg rfl rfl) rfl rfl ?_;rintro _ _ ⟨bx,rfl,rfl⟩)|(refine Xg.st (StF.alloc rfl Try.zeroValue93 rfl) rfl rfl ?_;rintro _ _ ⟨bx,rfl,rfl⟩)|(refine Xg.st0 (uZ (i:=1) rfl rfl rfl (te rfl) rfl rfl rfl rfl) rfl ?_;rintro _ _ ⟨rfl,rfl⟩;dsimp only [List.set])|(refine Xg.st0 (StF.storeOne (i:=2) rfl rfl rfl rfl (te rfl) rfl rfl (Nat.le_of_ble_eq_true rfl)) rfl ?_;rintro _ _ ⟨rfl,rfl⟩;dsimp only [List.set])))))|(refine uD rfl ?_;refine hK _ _ ?_;clear hK K) | refine uS rfl ?_ | refine uR rfl (fun K hK=>?_) | refine X.ret rfl ?_)
  exact ret_one (v := .agg (cCt (wM R (R.mats.filter (fun x => !q x))) ⟨a1,c1,a2,c2,some ⟨bc,0,none⟩,kc⟩ a c).toArray) (by simp) Try.results92 ⟨_,rfl,uW (te rfl) rfl (qT _ (qH _)) rfl⟩ (H' := ⟨bc,0,(R.mats.filter (fun x => !q x)).flatMap cMt,some 111,kc * 6⟩::H) (by repeat (first | exact qR _ | apply qK | apply qC))
   ⟨⟨a1,c1,a2,c2,some ⟨bc,0,none⟩,kc⟩,[_],rfl,⟨⟨hC.rm.ages.sub (fun _ h=>by repeat (first | exact h | apply qT)),hC.rm.boxes.sub (fun _ h=>by repeat (first | exact h | apply qT)),SlE.ofRow (qH _) (fun _ _=>rfl),hC.rm.l1,hC.rm.l2,by show (R.mats.filter (fun x => !q x)).length ≤ _;omega⟩,hC.pl.sub (fun _ h=>by repeat (first | exact h | apply qT))⟩,rfl⟩
/-- a claim: a chart, a place, a span -/
def cCm (R : Rm) (p : Pl) (a : Option Addr) (c : Nat) (q : Pk) (s : Sp) : List Value:=cCt R p a c++cPk q++cSp s
theorem proves1_spec (x : Mt) (l : List Int) (al : Option Addr) (cl b : Nat) (ow : Option Kd) (cap : Nat) (H : List Row) (hm : ⟨b,0,[.slice al l.length cl],ow,cap⟩ ∈ H) (hl : SlE H al cI 1 l) (hb : l.length ≤ 1000000) :
  Fc Try.prog 121 ([.agg (cMt x).toArray]++[.pointer (some ⟨b,0,none⟩)]) H (fun v H' => v = .bool (!decide (x.number ∈ l))∧H' = H):=by
 show Fc Try.prog 121 [.agg (cMt x).toArray,.pointer (some ⟨b,0,none⟩)] H _
 refine Fc.mk (callable Try.call121) Try.func121 rfl Try.ntmps121 rfl ?_;dsimp only [fr]
 repeat' (first | (refine uP rfl ?_;(first | ((first | refine uN rfl ?_);(first | (refine uE (uL rfl rfl (uO (te rfl) rfl (qT _ hm) rfl)) rfl rfl ?_)|(refine uC (uT rfl (Args.cons rfl (Args.cons rfl Args.nil))) rfl rfl (contains_spec l al cl x.number _ (hl.sub (fun _ h=>by repeat (first | exact h | apply qT))) (by omega)) ?_;rintro _ H9 ⟨rfl,hH9⟩;subst H9)|(refine uE (uA rfl rfl) rfl rfl ?_)|(refine uE (EvF.not rfl rfl) rfl rfl ?_)|(refine uE (uF rfl rfl (te rfl) rfl (te rfl) (by decide)) rfl rfl ?_)|(refine uE (uL rfl rfl (uO (te rfl) rfl (qH _) rfl)) rfl rfl ?_)|(refine Xg.st (StF.boxAgg rfl rfl) rfl rfl ?_;rintro _ _ ⟨bx,rfl,rfl⟩)))))|(refine uD rfl ?_;refine hK _ _ ?_;clear hK K) | refine uS rfl ?_ | refine uR rfl (fun K hK=>?_) | refine X.ret rfl ?_)
 exact ret_one (by simp) Try.results121 rfl (H' := H) (by repeat (first | exact qR _ | apply qK | apply qC)) ⟨rfl,rfl⟩
def tsPv : List TOp:=[⟨some 10,[],[],[]⟩,⟨some 11,[],[],[]⟩,⟨some 12,[1],[1],[]⟩,⟨some 13,[0,1,2],[0,2],[]⟩,⟨some 14,[],[],[]⟩,⟨some 15,[4],[4],[]⟩,⟨some 16,[0,1,2,3,4,5],[3,5],[]⟩,⟨some 4,[0,1,2,3,4,5,6],[6],[]⟩]
def valPv (b2 b5 : Nat) (R : Rm) (p : Pl) (a : Option Addr) (c : Nat) (q : Pk) (s t : Sp) (w : Bool) (k : Nat) (env : Env) : Value :=
 match k with
 | 0 => .agg (cCt R p a c).toArray
 | 1 => .pointer (some ⟨b2,6,none⟩)
 | 2 => .agg (cPk q).toArray
 | 3 => .agg (cSp t).toArray
 | 4 => .pointer (some ⟨b2,8,none⟩)
 | 5 => .agg (cSp s).toArray
 | 6 => .bool w
 | 7 => .bool w
 | _=>undef
def rowsPv (b2 b5 : Nat) (R : Rm) (p : Pl) (a : Option Addr) (c : Nat) (q : Pk) (s t : Sp) (w : Bool) (k : Nat) (env : Env) : List Row :=
 match k with
 | _=>[]
theorem locPv (b2 b5 : Nat) (R : Rm) (p : Pl) (a : Option Addr) (c : Nat) (q : Pk) (s t : Sp) (w : Bool) : ∀ k env i q9,i ≠ k → (tAt tsPv k).sup.contains i = false → valPv b2 b5 R p a c q s t w k (upd env i q9)=valPv b2 b5 R p a c q s t w k env∧rowsPv b2 b5 R p a c q s t w k (upd env i q9)=rowsPv b2 b5 R p a c q s t w k env:=by
 intro k env i q hk hs
 have hu : ∀ j,j ≠ i → upd env i q j = env j:=fun j hj=>by unfold upd;rw [if_neg hj]
 match k,hk,hs with
 | 0,_,_=>exact ⟨rfl,rfl⟩
 | 1,_,_=>exact ⟨rfl,rfl⟩
 | 2,_,_=>exact ⟨rfl,rfl⟩
 | 3,_,_=>exact ⟨rfl,rfl⟩
 | 4,_,_=>exact ⟨rfl,rfl⟩
 | 5,_,_=>exact ⟨rfl,rfl⟩
 | 6,_,_=>exact ⟨rfl,rfl⟩
 | 7,_,_=>exact ⟨rfl,rfl⟩
 | _ + 8,_,_=>exact ⟨rfl,rfl⟩
set_option maxHeartbeats 4000000 in
theorem kproves_spec (R : Rm) (p : Pl) (a : Option Addr) (c : Nat) (q : Pk) (s : Sp) (l : List Int) (al : Option Addr) (cl : Nat) (H : List Row) (hr : okRm R) (hm : matsThere R R.mats) (hC : CtOk H R p a) (hla : R.ages.length ≤ 1000) (hlm : R.mats.length ≤ 1000) (hpc : (plcs R).length ≤ c) (hT : hasT R R.mats) (hq : q ∈ plcs R) (hl : SlE H al cI 1 l) (hb : l.length ≤ 1000000) :
  Fc Try.prog 85 ([.agg (cCm R p a c q s).toArray]++[.slice al l.length cl]++[]) H (fun v H' => v = .bool (prvN R q s l)∧H' = H):=by
 show Fc Try.prog 85 [.agg (cCm R p a c q s).toArray,.slice al l.length cl] H _
 obtain ⟨M,hM⟩ : ∃ M,M = R.mats.filter (fun x => !(!decide (x.number ∈ l))):=⟨_,rfl⟩
 have hM2 : M = inM R.mats l:=by rw [hM];unfold inM;refine List.filter_congr fun x _=>by rw [Bool.not_not]
 have hMs : ∀ x ∈ M,x ∈ R.mats:=fun x hx=>by rw [hM] at hx;exact (List.mem_filter.1 hx).1
 have hMl : M.length ≤ 1000:=by rw [hM];exact Nat.le_trans (List.length_filter_le _ _) hlm
 have hres : prvN R q s l = decide (rng R M q zp = s):=by
  unfold prvN prvM
  rw [hM2]
  try exact decide_eq_decide.2 Iff.rfl
 rw [hres]
 have hwo:=fun b3 S hC (hl' : SlE S al cI 1 l) (m3 : (⟨b3,0,[.slice al l.length cl],some 55,1⟩ : Row) ∈ S)=>kwithout_spec R p a c 121 [.pointer (some ⟨b3,0,none⟩)] (fun x => !decide (x.number ∈ l)) S hlm hC (fun x H' hs=>proves1_spec x l al cl b3 (some 55) 1 H' (hs _ m3) (hl'.sub hs) hb)
 rw [← hM] at hwo
 clear hres hM
 have hye:=fun p' S hC' => yellow_spec (wM R M) p' a c q S (wM_ok M hr) (mats_sub hm hMs) hC' hla hMl hpc hq (wM_has.2 (hT.mono hMs))
 rw [show rng (wM R M) (wM R M).mats q zp = rng R M q zp from wM_rng R M M q zp] at hye
 obtain ⟨u9,ht⟩ : ∃ u9,u9 = rng R M q zp:=⟨_,rfl⟩
 rw [← ht] at hye ⊢
 refine Fc.mk (callable Try.call85) Try.func85 rfl Try.ntmps85 rfl ?_;dsimp only [fr]
 repeat' (first | (refine uP rfl ?_;(first | ((first | refine uN rfl ?_);(first | (refine uE (uL rfl rfl (LoadV.ownAgg (vs:=cCt R p a c) (te rfl) rfl (qT _ (qH _)) rfl rfl)) rfl rfl ?_)|(refine uE (EvF.makeFunc (fl:=[]) rfl Args.nil (Args.cons rfl Args.nil)) rfl rfl ?_)|(refine uC (uT rfl (by (repeat (first | exact Args.nil | refine Args.cons rfl ?_));done)) rfl rfl (hwo _ _ (hC.sub (fun _ h=>by repeat (first | exact h | apply qT))) (hl.sub (fun _ h=>by repeat (first | exact h | apply qT))) (qH _)) ?_;rintro _ _ ⟨p',Z,rfl,hC',rfl⟩)|(refine Xg.st (StF.alloc rfl Try.zeroValue93 rfl) rfl rfl ?_;rintro _ _ ⟨b5,rfl,rfl⟩)|(refine Xg.st0 (uZ (i:=0) (vs:=cCt (wM R M) p' a c) rfl rfl rfl (te rfl) rfl rfl rfl rfl) rfl ?_;rintro _ _ ⟨rfl,rfl⟩;dsimp only [List.set])|(refine uE (uA rfl rfl) rfl rfl ?_)|(refine uE (uF rfl rfl (te rfl) rfl (te rfl) (by decide)) rfl rfl ?_)|(refine Xg.st (StF.boxAgg rfl rfl) rfl rfl ?_;rintro _ _ ⟨bx,rfl,rfl⟩)|(refine Xg.st (StF.boxOne rfl rfl rfl) rfl rfl ?_;rintro _ _ ⟨bx,rfl,rfl⟩)))))|(refine uD rfl ?_;refine hK _ _ ?_;clear hK K) | refine uS rfl ?_ | refine uR rfl (fun K hK=>?_))
 rename_i b2
 generalize bx = b3 at hC' ⊢
 obtain ⟨G,hG⟩ : ∃ G : List Row,G = Z++⟨b3,0,[.slice al l.length cl],some 55,1⟩::⟨b2,0,cCm R p a c q s,some 129,10⟩::H:=⟨_,rfl⟩
 have hg2 : (⟨b2,0,cCm R p a c q s,some 129,10⟩ : Row) ∈ G:=by rw [hG];exact List.mem_append_right _ (qT _ (qH _))
 have hCG : CtOk G (wM R M) p' a:=by rw [hG];exact hC'
 have hHG : H.Sublist G:=by rw [hG];exact (qC _ (qC _ (qR _))).trans (List.sublist_append_right _ _)
 refine X.weak (F' := [(2,.pointer (some ⟨b2,0,none⟩)),(5,.pointer (some ⟨b5,0,none⟩))]) (H' := ⟨b5,0,cCt (wM R M) p' a c,some 93,6⟩::G) (by repeat (first | exact uU _ | refine uV rfl ?_)) (by rw [hG];exact (by repeat (first | exact qR _ | apply qK | apply qC))) ?_
 clear hG hC' hwo
 refine X.regionOb tsPv [2,5] [(2,.pointer (some ⟨b2,0,none⟩)),(5,.pointer (some ⟨b5,0,none⟩))] (valPv b2 b5 (wM R M) p' a c q s u9 (decide (u9 = s))) (rowsPv b2 b5 (wM R M) p' a c q s u9 (decide (u9 = s))) (fun _=>(0,0)) (⟨b5,0,cCt (wM R M) p' a c,some 93,6⟩::G) rfl mixed (by repeat (first | exact uU _ | refine uV rfl ?_)) rfl (by kernel_rfl) (locPv b2 b5 (wM R M) p' a c q s u9 (decide (u9 = s))) (qR _) ?_ ?_
 ·repeat' (first | exact AllF.done rfl | (refine AllF.step rfl ?_ ?_;·(first | fail | ((first | refine Ob.ng rfl ?_);(first | exact uK (fun env R hR=>by exact ⟨_,uA rfl rfl,rfl⟩) rfl (fun _=>rfl) | exact uK (fun env R hR=>by exact ⟨_,uF rfl rfl (te rfl) rfl (te rfl) (by decide),rfl⟩) rfl (fun _=>rfl) | exact uK (fun env R hR=>by exact ⟨_,uL rfl rfl (uW (te rfl) rfl (hR _ (qH _)) rfl),rfl⟩) rfl (fun _=>rfl)|(exact uK (fun env S hS=>⟨.agg (cPk q).toArray,uL rfl rfl (LoadV.ownAgg (cs:=cCm R p a c q s) (vs:=cPk q) (te rfl) rfl (hS _ (qT _ hg2)) rfl rfl),rfl⟩) rfl (fun _=>rfl))|(exact uK (fun env S hS=>⟨.agg (cSp s).toArray,uL rfl rfl (LoadV.ownAgg (cs:=cCm R p a c q s) (vs:=cSp s) (te rfl) rfl (hS _ (qT _ hg2)) rfl rfl),rfl⟩) rfl (fun _=>rfl))|(exact fun env S hS=>OpF.callV (Z:=[]) (uT rfl (Args.cons rfl (Args.cons rfl Args.nil))) (hye p' S (hCG.sub (fun r h=>hS r (qT _ h)))) rfl rfl)|(exact uK (fun env S hS=>⟨.bool (decide (u9 = s)),EvF.eqSt rfl rfl rfl (by kernel_rfl) (fun w=>eqSp 9998 u9 s w) rfl,rfl⟩) rfl (fun _=>rfl)))))))
 intro env t ha2 hv;refine ⟨_,ha2.cons (hv 7 4 (Nat.le_of_ble_eq_true rfl) rfl),?_⟩;clear hv ha2
 repeat' (first | refine X.ret rfl ?_)
 exact ret_one (v := .bool (decide (u9 = s))) (by simp) Try.results85 rfl (H' := H) (qC _ hHG) ⟨rfl,rfl⟩
def zCm : List Value:=zCt++[.int .i64 0,.int .i64 0]++[.int .i64 0,.int .i64 0]
def tsKcl : List TOp:=[⟨some 28,[],[],[]⟩,⟨some 29,[],[],[]⟩,⟨some 30,[],[],[]⟩,⟨some 31,[],[],[]⟩,⟨some 32,[2,3],[2,3],[]⟩,⟨some 33,[0,1,2,3,4],[0,1,4],[]⟩,⟨none,[0,1,2,3,4,5],[5],[8]⟩,⟨some 7,[0,1,2,3,4,5,6],[],[]⟩,⟨none,[],[],[]⟩]
def valKcl (b6 b8 b10 : Nat) (R : Rm) (p : Pl) (a : Option Addr) (c : Nat) (q : Pk) (s : Sp) (k : Nat) (env : Env) : Value :=
 match k with
 | 0 => .agg (cCt R p a c).toArray
 | 1 => .agg (cPk q).toArray
 | 2 => .agg (cCt R p a c).toArray
 | 3 => .agg (cPk q).toArray
 | 4 => .agg (cSp s).toArray
 | 5 => .agg (cCm R p a c q s).toArray
 | 6=>undef
 | 7 => .int .i64 0
 | _=>undef
def rowsKcl (b6 b8 b10 : Nat) (R : Rm) (p : Pl) (a : Option Addr) (c : Nat) (q : Pk) (s : Sp) (k : Nat) (env : Env) : List Row :=
 match k with
 | 6=>[⟨b6,0,cCm R p a c q s,some 129,10⟩]
 | 8=>[⟨b6,0,zCm,some 129,10⟩]
 | _=>[]
theorem locKcl (b6 b8 b10 : Nat) (R : Rm) (p : Pl) (a : Option Addr) (c : Nat) (q : Pk) (s : Sp) : ∀ k env i q9,i ≠ k → (tAt tsKcl k).sup.contains i = false → valKcl b6 b8 b10 R p a c q s k (upd env i q9)=valKcl b6 b8 b10 R p a c q s k env∧rowsKcl b6 b8 b10 R p a c q s k (upd env i q9)=rowsKcl b6 b8 b10 R p a c q s k env:=by
 intro k env i q hk hs
 have hu : ∀ j,j ≠ i → upd env i q j = env j:=fun j hj=>by unfold upd;rw [if_neg hj]
 match k,hk,hs with
 | 0,_,_=>exact ⟨rfl,rfl⟩
 | 1,_,_=>exact ⟨rfl,rfl⟩
 | 2,_,_=>exact ⟨rfl,rfl⟩
 | 3,_,_=>exact ⟨rfl,rfl⟩
 | 4,_,_=>exact ⟨rfl,rfl⟩
 | 5,_,_=>exact ⟨rfl,rfl⟩
 | 6,_,_=>exact ⟨rfl,rfl⟩
 | 7,_,_=>exact ⟨rfl,rfl⟩
 | 8,_,_=>exact ⟨rfl,rfl⟩
 | _ + 9,_,_=>exact ⟨rfl,rfl⟩
set_option maxHeartbeats 8000000 in
theorem claimedY (R : Rm) (p : Pl) (x m : Int) (H : List Row) (hR : RmOk H R p) (h2 : R.boxes.length ≤ 1000000) (he : openE R [x] [m] = 0) :
  Fc Try.prog 81 [.agg (cRm R p).toArray,.int .i64 x,.int .i64 m] H (fun v H' => ∃ b k,(plcs R).length ≤ k∧v = .tuple #[.agg (cCm R p (some ⟨b,0,none⟩) k ⟨x,m⟩ (rng R R.mats ⟨x,m⟩ zp)).toArray,.int .i64 0]∧H' = ⟨b,0,(plcs R).flatMap cPk,some 101,k * 2⟩::H):=by
 have hbt : ∀ (H' : List Row) (b1 b2 : Nat),⟨b1,0,[.int .i64 x],some 3,1 * 1⟩ ∈ H' → ⟨b2,0,[.int .i64 m],some 3,1 * 1⟩ ∈ H' → BtOk H' ⟨[x],some ⟨b1,0,none⟩,1,[m],some ⟨b2,0,none⟩,1⟩:=fun H' b1 b2 q1 q2=>⟨SlE.ofRow (l:=[x]) q1 (fun _ _=>rfl),SlE.ofRow (l:=[m]) q2 (fun _ _=>rfl),Nat.le_of_ble_eq_true rfl,Nat.le_of_ble_eq_true rfl⟩
 obtain ⟨hok,_,_,hT⟩:=openE_ok he
 have hp:=plcs_of he (List.mem_singleton.2 rfl) (List.mem_singleton.2 rfl)
 have hye:=fun H' b k hC hk=>yellow_spec R p (some ⟨b,0,none⟩) k ⟨x,m⟩ H' hok.ok hok.mats hC hok.lens.ages hok.lens.mats hk hp hT
 obtain ⟨s,hs⟩ : ∃ s,s = rng R R.mats ⟨x,m⟩ zp:=⟨_,rfl⟩
 rw [← hs] at hye ⊢
 refine Fc.mk (callable Try.call81) Try.func81 rfl Try.ntmps81 rfl ?_;dsimp only [fr]
 repeat' (first | (refine uP rfl ?_;(first | ((first | refine uN rfl ?_);(first | (refine uE (uQ (b:=false) rfl rfl rfl (congrArg some (nd_f (by omega)))) rfl rfl ?_)|(refine Xg.st (StF.buildOne (v0 := .int .i64 x) rfl el55 rfl rfl rfl (by decide) (by decide)) rfl rfl ?_;rintro _ _ ⟨b1,rfl,rfl⟩)|(refine Xg.st (StF.buildOne (v0 := .int .i64 m) rfl el55 rfl rfl rfl (by decide) (by decide)) rfl rfl ?_;rintro _ _ ⟨b2,rfl,rfl⟩)|(refine uE (EvF.build (cs:=cBt ⟨[x],some ⟨b1,0,none⟩,1,[m],some ⟨b2,0,none⟩,1⟩) rfl (ArgsP.cons rfl (ArgsP.cons rfl ArgsP.nil)) (te rfl) (Places.cons (te rfl) (Places.cons (te rfl) Places.nil)) Try.zeroValue98 rfl) rfl rfl ?_)|(refine uC (uT rfl (by (repeat (first | exact Args.nil | refine Args.cons rfl ?_));done)) rfl rfl (openY (hR.sub (fun _ h=>by repeat (first | exact h | apply qT))) (hbt _ b1 b2 (qT _ (qH _)) (qH _)) h2 he) ?_;rintro _ _ ⟨b,k,hbk,rfl,rfl⟩)|(refine Xg.st (StF.alloc rfl Try.zeroValue93 rfl) rfl rfl ?_;rintro _ _ ⟨b8,rfl,rfl⟩)|(refine Xg.st0 (uZ (i:=0) (vs:=cCt R p (some ⟨b,0,none⟩) k) rfl rfl rfl (te rfl) rfl rfl rfl rfl) rfl ?_;rintro _ _ ⟨rfl,rfl⟩;dsimp only [List.set])|(refine uE (EvF.build (cs:=cPk ⟨x,m⟩) rfl (ArgsP.cons rfl (ArgsP.cons rfl ArgsP.nil)) (te rfl) (Places.cons (te rfl) (Places.cons (te rfl) Places.nil)) Try.zeroValue101 rfl) rfl rfl ?_)|(refine Xg.st (StF.alloc rfl Try.zeroValue101 rfl) rfl rfl ?_;rintro _ _ ⟨b10,rfl,rfl⟩)|(refine uE (uM rfl rfl) rfl rfl ?_)|(refine uE (uA rfl rfl) rfl rfl ?_)|(refine uE (uL rfl rfl (uW (te rfl) rfl (qT _ (qH _)) rfl)) rfl rfl ?_)|(refine uE (uX rfl rfl rfl) rfl rfl ?_)|(refine Xg.st (StF.boxAgg rfl rfl) rfl rfl ?_;rintro _ _ ⟨bx,rfl,rfl⟩)|(refine Xg.st (StF.alloc rfl Try.zeroValue129 rfl) rfl rfl ?_;rintro _ _ ⟨bx,rfl,rfl⟩)|(refine Xg.st0 (uZ (i:=0) rfl rfl rfl (te rfl) rfl rfl rfl rfl) rfl ?_;rintro _ _ ⟨rfl,rfl⟩;dsimp only [List.set])))))|(refine uD rfl ?_;refine hK _ _ ?_;clear hK K) | refine uS rfl ?_ | refine uR rfl (fun K hK=>?_) | refine X.skip rfl ?_ | (refine X.ite rfl rfl (fun hc=>?_);(first | (with_reducible refine Xb.f hc ?_)) <;> clear hc))
 all_goals try (exfalso;contradiction)
 generalize bx = b6
 refine X.weak (F' := [(6,.pointer (some ⟨b6,0,none⟩)),(8,.pointer (some ⟨b8,0,none⟩)),(10,.pointer (some ⟨b10,0,none⟩))]) (H' := ⟨b10,0,cPk ⟨x,m⟩,some 101,2⟩::⟨b8,0,cCt R p (some ⟨b,0,none⟩) k,some 93,6⟩::⟨b,0,(plcs R).flatMap cPk,some 101,k * 2⟩::⟨b6,0,zCm,some 129,10⟩::H) (by repeat (first | exact uU _ | refine uV rfl ?_)) (by repeat (first | exact qR _ | apply qK | apply qC)) ?_
 refine X.permH (H' := ⟨b6,0,zCm,some 129,10⟩::⟨b10,0,cPk ⟨x,m⟩,some 101,2⟩::⟨b8,0,cCt R p (some ⟨b,0,none⟩) k,some 93,6⟩::⟨b,0,(plcs R).flatMap cPk,some 101,k * 2⟩::H) (List.perm_middle (l₁:=[_,_,_])).symm ?_
 refine X.regionOb tsKcl [6,8,10] [(6,.pointer (some ⟨b6,0,none⟩)),(8,.pointer (some ⟨b8,0,none⟩)),(10,.pointer (some ⟨b10,0,none⟩))] (valKcl b6 b8 b10 R p (some ⟨b,0,none⟩) k ⟨x,m⟩ s) (rowsKcl b6 b8 b10 R p (some ⟨b,0,none⟩) k ⟨x,m⟩ s) (fun _=>(0,0)) (⟨b10,0,cPk ⟨x,m⟩,some 101,2⟩::⟨b8,0,cCt R p (some ⟨b,0,none⟩) k,some 93,6⟩::⟨b,0,(plcs R).flatMap cPk,some 101,k * 2⟩::H) rfl mixed (by repeat (first | exact uU _ | refine uV rfl ?_)) rfl (by kernel_rfl) (locKcl b6 b8 b10 R p (some ⟨b,0,none⟩) k ⟨x,m⟩ s) (qR _) ?_ ?_
 ·repeat' (first | exact AllF.done rfl | (refine AllF.step rfl ?_ ?_;·(first | fail | ((first | refine Ob.ng rfl ?_);(first | exact uK (fun env R hR=>by exact ⟨_,uA rfl rfl,rfl⟩) rfl (fun _=>rfl) | exact uK (fun env R hR=>by exact ⟨_,uL rfl rfl (uW (te rfl) rfl (hR _ (qH _)) rfl),rfl⟩) rfl (fun _=>rfl) | exact uK (fun env R hR=>by exact ⟨_,uL rfl rfl (uW (te rfl) rfl (hR _ (qT _ (qH _))) rfl),rfl⟩) rfl (fun _=>rfl)|(exact fun env S hS=>OpF.callV (Z:=[]) (uT rfl (Args.cons rfl (Args.cons rfl Args.nil))) (hye S b k ⟨hR.sub (fun r h=>hS r (qT _ (qT _ (qT _ h)))),SlE.ofRow (hS _ (qT _ (qT _ (qH _)))) (fun _ _=>rfl)⟩ hbk) rfl rfl)|(exact uK (fun env S hS=>⟨_,EvF.build (cs:=cCm R p (some ⟨b,0,none⟩) k ⟨x,m⟩ s) rfl (ArgsP.cons rfl (ArgsP.cons rfl (ArgsP.cons rfl ArgsP.nil))) (te rfl) (Places.cons (te rfl) (Places.cons (te rfl) (Places.cons (te rfl) Places.nil))) Try.zeroValue129 rfl,rfl⟩) rfl (fun _=>rfl))|(exact fun env S hS=>(uZ (i:=0) (cs:=zCm) (vs:=cCm R p (some ⟨b,0,none⟩) k ⟨x,m⟩ s) rfl rfl rfl (te rfl) rfl rfl rfl rfl).op.mono (fun v H' ⟨hv,hH⟩=>⟨(0,0),fun h=>absurd rfl h,by rw [hH];exact List.Perm.refl _⟩)))))))
 intro env t ha2 hv;refine ⟨_,ha2.cons (hv 7 7 (Nat.le_of_ble_eq_true rfl) rfl),?_⟩;clear hv ha2
 show X _ _ _ [(7,.int .i64 0),(6,.pointer (some ⟨b6,0,none⟩)),(8,.pointer (some ⟨b8,0,none⟩)),(10,.pointer (some ⟨b10,0,none⟩))] (⟨b6,0,cCm R p (some ⟨b,0,none⟩) k ⟨x,m⟩ s,some 129,10⟩::⟨b10,0,cPk ⟨x,m⟩,some 101,2⟩::⟨b8,0,cCt R p (some ⟨b,0,none⟩) k,some 93,6⟩::⟨b,0,(plcs R).flatMap cPk,some 101,k * 2⟩::H) _
 clear env
 repeat' (first | refine X.ret rfl ?_)
 exact ret_two (v := .agg (cCm R p (some ⟨b,0,none⟩) k ⟨x,m⟩ s).toArray) (by simp) Try.results81 ⟨_,rfl,uW (te rfl) rfl (qH _) rfl⟩ rfl (H' := ⟨b,0,(plcs R).flatMap cPk,some 101,k * 2⟩::H) (by repeat (first | exact qR _ | apply qK | apply qC)) ⟨b,k,hbk,rfl,rfl⟩
set_option maxHeartbeats 4000000 in
theorem claimedN (R : Rm) (p : Pl) (x m e : Int) (H : List Row) (hR : RmOk H R p) (h2 : R.boxes.length ≤ 1000000) (he : openE R [x] [m] = e) (h0 : e ≠ 0) :
  Fc Try.prog 81 [.agg (cRm R p).toArray,.int .i64 x,.int .i64 m] H (fun v H' => v = .tuple #[.agg zCm.toArray,.int .i64 e]∧H' = H):=by
 have hbt : ∀ (H' : List Row) (b1 b2 : Nat),⟨b1,0,[.int .i64 x],some 3,1 * 1⟩ ∈ H' → ⟨b2,0,[.int .i64 m],some 3,1 * 1⟩ ∈ H' → BtOk H' ⟨[x],some ⟨b1,0,none⟩,1,[m],some ⟨b2,0,none⟩,1⟩:=fun H' b1 b2 q1 q2=>⟨SlE.ofRow (l:=[x]) q1 (fun _ _=>rfl),SlE.ofRow (l:=[m]) q2 (fun _ _=>rfl),Nat.le_of_ble_eq_true rfl,Nat.le_of_ble_eq_true rfl⟩
 refine Fc.mk (callable Try.call81) Try.func81 rfl Try.ntmps81 rfl ?_;dsimp only [fr]
 repeat' (first | (refine uP rfl ?_;(first | ((first | refine uN rfl ?_);(first | (refine uE (uQ (b:=true) rfl rfl rfl (congrArg some (nd_t (by omega)))) rfl rfl ?_)|(refine Xg.st (StF.buildOne (v0 := .int .i64 x) rfl el55 rfl rfl rfl (by decide) (by decide)) rfl rfl ?_;rintro _ _ ⟨b1,rfl,rfl⟩)|(refine Xg.st (StF.buildOne (v0 := .int .i64 m) rfl el55 rfl rfl rfl (by decide) (by decide)) rfl rfl ?_;rintro _ _ ⟨b2,rfl,rfl⟩)|(refine uE (EvF.build (cs:=cBt ⟨[x],some ⟨b1,0,none⟩,1,[m],some ⟨b2,0,none⟩,1⟩) rfl (ArgsP.cons rfl (ArgsP.cons rfl ArgsP.nil)) (te rfl) (Places.cons (te rfl) (Places.cons (te rfl) Places.nil)) Try.zeroValue98 rfl) rfl rfl ?_)|(refine uC (uT rfl (Args.cons rfl (Args.cons rfl Args.nil))) rfl rfl (openN (hR.sub (fun _ h=>by repeat (first | exact h | apply qT))) (hbt _ b1 b2 (qT _ (qH _)) (qH _)) h2 he h0) ?_;rintro _ H9 ⟨rfl,hH9⟩;subst H9)|(refine Xg.st (StF.alloc rfl Try.zeroValue93 rfl) rfl rfl ?_;rintro _ _ ⟨b8,rfl,rfl⟩)|(refine Xg.st0 (uZ (i:=0) (vs:=zCt) rfl rfl rfl (te rfl) rfl rfl rfl rfl) rfl ?_;rintro _ _ ⟨rfl,rfl⟩;dsimp only [List.set])|(refine uE (EvF.build (cs:=zCm) rfl ArgsP.nil (te rfl) (Places.cons (te rfl) (Places.cons (te rfl) (Places.cons (te rfl) Places.nil))) Try.zeroValue129 rfl) rfl rfl ?_)|(refine Xg.st0 (uZ (i:=3) (vs:=zCm) rfl rfl rfl (te rfl) rfl rfl rfl rfl) rfl ?_;rintro _ _ ⟨rfl,rfl⟩;dsimp only [List.set])|(refine uE (uM rfl rfl) rfl rfl ?_)|(refine uE (uA rfl rfl) rfl rfl ?_)|(refine uE (uL rfl rfl (uW (te rfl) rfl (qT _ (qH _)) rfl)) rfl rfl ?_)|(refine uE (uX rfl rfl rfl) rfl rfl ?_)|(refine Xg.st (StF.boxAgg rfl rfl) rfl rfl ?_;rintro _ _ ⟨bx,rfl,rfl⟩)|(refine Xg.st (StF.alloc rfl Try.zeroValue129 rfl) rfl rfl ?_;rintro _ _ ⟨bx,rfl,rfl⟩)))))|(refine uD rfl ?_;refine hK _ _ ?_;clear hK K) | refine uS rfl ?_ | refine uR rfl (fun K hK=>?_) | refine X.ret rfl ?_ | (refine X.ite rfl rfl (fun hc=>?_);(first | (with_reducible refine Xb.t hc ?_)) <;> clear hc))
 all_goals try (exfalso;contradiction)
 exact ret_two (v := .agg zCm.toArray) (by simp) Try.results81 ⟨_,rfl,uW (te rfl) rfl (by repeat (first | exact qH _ | apply qT)) rfl⟩ rfl (H' := H) (by (repeat (first | exact qR _ | apply qC));done) ⟨rfl,rfl⟩
theorem wrong11_spec (x : Mt) (l : List Int) (al : Option Addr) (cl b : Nat) (ow : Option Kd) (cap : Nat) (H : List Row) (hm : ⟨b,0,[.slice al l.length cl],ow,cap⟩ ∈ H) (hl : SlE H al cI 1 l) (hb : l.length ≤ 1000000) :
  Fc Try.prog 93 ([.agg (cMt x).toArray]++[.pointer (some ⟨b,0,none⟩)]) H (fun v H' => v = .bool (decide (x.number ∈ l))∧H' = H):=by
 show Fc Try.prog 93 [.agg (cMt x).toArray,.pointer (some ⟨b,0,none⟩)] H _
 refine Fc.mk (callable Try.call93) Try.func93 rfl Try.ntmps93 rfl ?_;dsimp only [fr]
 repeat' (first | (refine uP rfl ?_;(first | ((first | refine uN rfl ?_);(first | (refine uE (uL rfl rfl (uO (te rfl) rfl (qT _ hm) rfl)) rfl rfl ?_)|(refine uC (uT rfl (Args.cons rfl (Args.cons rfl Args.nil))) rfl rfl (contains_spec l al cl x.number _ (hl.sub (fun _ h=>by repeat (first | exact h | apply qT))) (by omega)) ?_;rintro _ H9 ⟨rfl,hH9⟩;subst H9)|(refine uE (uA rfl rfl) rfl rfl ?_)|(refine uE (uF rfl rfl (te rfl) rfl (te rfl) (by decide)) rfl rfl ?_)|(refine uE (uL rfl rfl (uO (te rfl) rfl (qH _) rfl)) rfl rfl ?_)|(refine Xg.st (StF.boxAgg rfl rfl) rfl rfl ?_;rintro _ _ ⟨bx,rfl,rfl⟩)))))|(refine uD rfl ?_;refine hK _ _ ?_;clear hK K) | refine uS rfl ?_ | refine uR rfl (fun K hK=>?_) | refine X.ret rfl ?_)
 exact ret_one (by simp) Try.results93 rfl (H' := H) (by repeat (first | exact qR _ | apply qK | apply qC)) ⟨rfl,rfl⟩
set_option maxHeartbeats 4000000 in
theorem wrong1_spec (R : Rm) (p : Pl) (a : Option Addr) (c : Nat) (l : List Int) (al : Option Addr) (cl b5 : Nat) (ow : Option Kd) (cap : Nat) (H : List Row) (hr : okRm R) (hm : matsThere R R.mats) (hC : CtOk H R p a) (hla : R.ages.length ≤ 1000) (hlm : R.mats.length ≤ 1000) (hpc : (plcs R).length ≤ c) (m5 : ⟨b5,0,cCt R p a c,ow,cap⟩ ∈ H) (hl : SlE H al cI 1 l) (hb : l.length ≤ 1000000) :
  Fc Try.prog 91 ([.slice al l.length cl]++[.pointer (some ⟨b5,0,none⟩)]) H (fun v H' => v = .bool (okW R l)∧H' = H):=by
 show Fc Try.prog 91 [.slice al l.length cl,.pointer (some ⟨b5,0,none⟩)] H _
 have hMs : ∀ x ∈ outM R.mats l,x ∈ R.mats:=fun x hx=>(List.mem_filter.1 hx).1
 have hMl : (outM R.mats l).length ≤ 1000:=Nat.le_trans (List.length_filter_le _ _) hlm
 have hwo:=fun b3 S hC (hl' : SlE S al cI 1 l) (m3 : (⟨b3,0,[.slice al l.length cl],some 55,1⟩ : Row) ∈ S)=>kwithout_spec R p a c 93 [.pointer (some ⟨b3,0,none⟩)] (fun x=>decide (x.number ∈ l)) S hlm hC (fun x H' hs=>wrong11_spec x l al cl b3 (some 55) 1 H' (hs _ m3) (hl'.sub hs) hb)
 have hca:=fun p' S hC' => can_spec (wM R (outM R.mats l)) p' a c S (wM_ok _ hr) (mats_sub hm hMs) hC' hla hMl hpc
 have hok : decide (hasT (wM R (outM R.mats l)) (wM R (outM R.mats l)).mats)=okW R l:=by unfold okW;exact decide_eq_decide.2 wM_has
 rw [hok] at hca
 refine Fc.mk (callable Try.call91) Try.func91 rfl Try.ntmps91 rfl ?_;dsimp only [fr]
 repeat' (first | (refine uP rfl ?_;(first | ((first | refine uN rfl ?_);(first | (refine uE (uL rfl rfl (uW (T:=93) (cs:=cCt R p a c) (te rfl) rfl (qT _ m5) rfl)) rfl rfl ?_)|(refine uE (EvF.makeFunc (fl:=[]) rfl Args.nil (Args.cons rfl Args.nil)) rfl rfl ?_)|(refine uC (uT rfl (by (repeat (first | exact Args.nil | refine Args.cons rfl ?_));done)) rfl rfl (hwo _ _ (hC.sub (fun _ h=>by repeat (first | exact h | apply qT))) (hl.sub (fun _ h=>by repeat (first | exact h | apply qT))) (qH _)) ?_;rintro _ _ ⟨p',Z,rfl,hC',rfl⟩)|(refine uC (uT rfl (Args.cons rfl Args.nil)) rfl rfl (hca p' _ hC') ?_;rintro _ H9 ⟨rfl,hH9⟩;subst H9)|(refine uE (uA rfl rfl) rfl rfl ?_)|(refine Xg.st (StF.boxOne rfl rfl rfl) rfl rfl ?_;rintro _ _ ⟨bx,rfl,rfl⟩)))))|(refine uD rfl ?_;refine hK _ _ ?_;clear hK K) | refine uS rfl ?_ | refine uR rfl (fun K hK=>?_) | refine X.ret rfl ?_)
 exact ret_one (by simp) Try.results91 rfl (H' := H) ((qC _ (qR _)).trans (List.sublist_append_right _ _)) ⟨rfl,rfl⟩
end Go.Proofs.Ytmfppdpkalelhaa
namespace Go.Fw
open Go
theorem EvF.eqSf {P : Program} {n : Nat} {H : List Row} {F : FS} {o : Oper} {T T' : TypeId} {x y : Operand} {k : IntKind} {p : Int} (h : o.op = .binOp .eql T x y T') (hx : evF F x = some (.int k p)) (hy : evF F y = some (.int k p)) : EvF P n H F o (.bool true):=by
 have:=uQ (P:=P) (n:=n) (H:=H) h hx hy rfl
 rwa [decide_eq_true rfl] at this
theorem EvF.eqSfB {P : Program} {n : Nat} {H : List Row} {F : FS} {o : Oper} {T T' : TypeId} {x y : Operand} {p : Bool} (h : o.op = .binOp .eql T x y T') (hx : evF F x = some (.bool p)) (hy : evF F y = some (.bool p)) (hu : P.underlying T = some .bool) : EvF P n H F o (.bool true):=by
 have:=EvF.cmpB (P:=P) (n:=n) (H:=H) h hx hy hu rfl
 rwa [beq_self_eq_true] at this
end Go.Fw
namespace Go.Proofs.Ytmfppdpkalelhaa
open Go Go.Fw
set_option maxRecDepth 10000
theorem sameR_self (R : Rm) (p q : Pl) (H : List Row) (hR : RmOk H R p) (hS : RmOk H R q) : Fc Try.prog 23 [.agg (cRm R p).toArray,.agg (cRm R q).toArray] H (fun v H' => v = .bool true∧H' = H) :=
 (same_spec R R p q H hR hS).mono (fun v H' ⟨h1,h2⟩=>⟨by rw [h1,decide_eq_true rfl],h2⟩)
theorem eqSp_sf (e : Sp) (w : World) : (Op.equalIn 10000 35 (.agg (cSp e).toArray) (.agg (cSp e).toArray)).run Try.prog w = .ok true w:=by
 rw [eqSp 9998,decide_eq_true rfl]
noncomputable def chkF (R : Rm) : Int:=if roomOk R then 0 else 10
theorem kCheck2_spec (R : Rm) (p : Pl) (H : List Row) (hR : RmOk H R p) : Fc Try.prog 21 [.agg (cRm R p).toArray] H (fun v H' => v = .int .i64 (chkF R)∧H' = H):=by
 refine (check_spec R p H hR).mono fun v H' ⟨h,h2⟩=>⟨?_,h2⟩
 unfold chkF
 rcases h with ⟨h,e⟩ | ⟨h,e⟩
 ·rw [if_pos h];exact e
 ·rw [if_neg h];exact e
theorem rCheck_spec (R : Rm) (p : Pl) (H : List Row) (hR : RmOk H R p) : Fc Try.prog 22 [.agg (cRm R p).toArray] H (fun v H' => v = .int .i64 (chkF R)∧H' = H):=by
 have hR2 : ∀ r1,RmOk (r1::H) R p:=fun r1=>hR.sub (fun _ h=>qT _ h)
 unfold chkF
 by_cases hok : roomOk R
 ·rw [if_pos hok]
  have hrs : ∀ r1,Fc Try.prog 46 [.agg (cRm R p).toArray] (r1::H) (fun v H' => v = .bool true∧H' = r1::H):=fun r1=>by
   have:=room_spec R p (r1::H) (hR2 r1)
   rwa [decide_eq_true hok] at this
  refine Fc.mk (callable Try.call22) Try.func22 rfl Try.ntmps22 rfl ?_;dsimp only [fr]
  repeat' (first | (refine uP rfl ?_;(first | ((first | refine uN rfl ?_);(first | (refine uE (uL rfl rfl (uW (te rfl) rfl (qH _) rfl)) rfl rfl ?_)|(refine uC (uT rfl (Args.cons rfl Args.nil)) rfl rfl (hrs _) ?_;rintro _ H9 ⟨rfl,hH9⟩;subst H9)|(refine uE (uA rfl rfl) rfl rfl ?_)|(refine uE (EvF.not rfl rfl) rfl rfl ?_)|(refine Xg.st (StF.boxAgg rfl rfl) rfl rfl ?_;rintro _ _ ⟨bx,rfl,rfl⟩)))))|(refine uD rfl ?_;refine hK _ _ ?_;clear hK K) | refine uS rfl ?_ | refine uR rfl (fun K hK=>?_) | refine X.skip rfl ?_ | refine X.ret rfl ?_ | (refine X.ite rfl rfl (fun hc=>?_);(first | (with_reducible refine Xb.caseB hc (fun h=>?_) (fun h=>?_))) <;> clear hc))
  all_goals try (exfalso;contradiction)
  exact ret_one (v := .int .i64 0) (by simp) Try.results22 rfl (H' := H) (by repeat (first | exact qR _ | apply qK | apply qC)) ⟨rfl,rfl⟩
 ·rw [if_neg hok]
  have hrs : ∀ r1,Fc Try.prog 46 [.agg (cRm R p).toArray] (r1::H) (fun v H' => v = .bool false∧H' = r1::H):=fun r1=>by
   have:=room_spec R p (r1::H) (hR2 r1)
   rwa [decide_eq_false hok] at this
  refine Fc.mk (callable Try.call22) Try.func22 rfl Try.ntmps22 rfl ?_;dsimp only [fr]
  repeat' (first | (refine uP rfl ?_;(first | ((first | refine uN rfl ?_);(first | (refine uE (uL rfl rfl (uW (te rfl) rfl (qH _) rfl)) rfl rfl ?_)|(refine uC (uT rfl (Args.cons rfl Args.nil)) rfl rfl (hrs _) ?_;rintro _ H9 ⟨rfl,hH9⟩;subst H9)|(refine uE (uA rfl rfl) rfl rfl ?_)|(refine uE (EvF.not rfl rfl) rfl rfl ?_)|(refine Xg.st (StF.boxAgg rfl rfl) rfl rfl ?_;rintro _ _ ⟨bx,rfl,rfl⟩)))))|(refine uD rfl ?_;refine hK _ _ ?_;clear hK K) | refine uS rfl ?_ | refine uR rfl (fun K hK=>?_) | refine X.skip rfl ?_ | refine X.ret rfl ?_ | (refine X.ite rfl rfl (fun hc=>?_);(first | (with_reducible refine Xb.caseB hc (fun h=>?_) (fun h=>?_))) <;> clear hc))
  all_goals try (exfalso;contradiction)
  exact ret_one (v := .int .i64 10) (by simp) Try.results22 rfl (H' := H) (by repeat (first | exact qR _ | apply qK | apply qC)) ⟨rfl,rfl⟩
theorem canF_tup (R : Rm) : ∃ (b : Bool) (e : Int),canF R = .tuple #[.bool b,.int .i64 e]:=by
 unfold canF
 split
 ·exact ⟨_,_,rfl⟩
 ·exact ⟨_,_,rfl⟩
set_option maxHeartbeats 8000000 in
theorem boxTells_spec (R : Rm) (p : Pl) (a b m : Int) (H : List Row) (hR : RmOk H R p) :
  Fc Try.prog 3 [.agg (cRm R p).toArray,.int .i64 a,.int .i64 b,.int .i64 m] H (fun v _=>v = .bool true):=by
 by_cases hg : great R
 ·have hgr:=great_spec R p
  simp only [decide_eq_true hg] at hgr
  refine Fc.mk (callable Try.call3) Try.func3 rfl Try.ntmps3 rfl ?_;dsimp only [fr]
  repeat' (first | (refine uP rfl ?_;(first | ((first | refine uN rfl ?_);(first | (refine uC (uT rfl (Args.cons rfl Args.nil)) rfl rfl (hgr _) ?_;rintro _ H9 ⟨rfl,hH9⟩;subst H9)|(refine uE (uA rfl rfl) rfl rfl ?_)|(refine uE (uL rfl rfl (uW (te rfl) rfl (qH _) rfl)) rfl rfl ?_)|(refine Xg.st (StF.boxAgg rfl rfl) rfl rfl ?_;rintro _ _ ⟨bx,rfl,rfl⟩)))))|(refine uD rfl ?_;refine hK _ _ ?_;clear hK K) | refine uS rfl ?_ | refine uR rfl (fun K hK=>?_) | refine X.ret rfl ?_ | (refine X.ite rfl rfl (fun hc=>?_);(first | (with_reducible refine Xb.t hc ?_)) <;> clear hc))
  all_goals try (exfalso;contradiction)
  exact ret_one (by simp) Try.results3 rfl (H' := _) (qR _) rfl
 ·have hgr:=great_spec R p
  simp only [decide_eq_false hg] at hgr
  have h1 : R.ages.length ≤ 1000000:=by unfold great at hg;omega
  have h2 : R.boxes.length ≤ 1000000:=by unfold great at hg;omega
  have h3 : R.mats.length ≤ 1000000:=by unfold great at hg;omega
  obtain ⟨cb,ce,hcan⟩:=canF_tup R
  obtain ⟨⟨ys,ye⟩,hy⟩ : ∃ y,y = yelF R a m:=⟨_,rfl⟩
  obtain ⟨⟨ds,de⟩,hd⟩ : ∃ y,y = difF R a b m:=⟨_,rfl⟩
  have kcan:=fun p' H' (h : RmOk H' R p')=>kCan_spec R p' H' h
  have rcan:=fun p' H' (h : RmOk H' R p')=>rCan_spec R p' H' h
  have kyel:=fun p' H' (h : RmOk H' R p')=>kYellow_spec R p' a m H' h h2
  have ryel:=fun p' H' (h : RmOk H' R p')=>rYellow_spec R p' a m H' h
  have kdif:=fun p' H' (h : RmOk H' R p')=>kDiffer_spec R p' a b m H' h h2
  have rdif:=fun p' H' (h : RmOk H' R p')=>rDiffer_spec R p' a b m H' h
  rw [hcan] at kcan rcan
  rw [← hy] at kyel ryel
  rw [← hd] at kdif rdif
  clear hcan hy hd
  refine Fc.mk (callable Try.call3) Try.func3 rfl Try.ntmps3 rfl ?_;dsimp only [fr]
  repeat' (first | (refine uP rfl ?_;(first | ((first | refine uN rfl ?_);(first | (refine uC (uT rfl (Args.cons rfl Args.nil)) rfl rfl (hgr _) ?_;rintro _ H9 ⟨rfl,hH9⟩;subst H9)|(refine uC (uT rfl (by (repeat (first | exact Args.nil | refine Args.cons rfl ?_));done)) rfl rfl (twin_spec R p _ (hR.sub (fun _ h=>by repeat (first | exact h | apply qT))) h1 h2 h3) ?_;rintro _ _ ⟨t1,k1,t2,k2,t3,k3,rfl,rfl⟩)|(refine uE (uA rfl rfl) rfl rfl ?_)|(refine uE (uL rfl rfl (uW (te rfl) rfl (qH _) rfl)) rfl rfl ?_)|(refine Xg.st (StF.boxAgg rfl rfl) rfl rfl ?_;rintro _ _ ⟨bx,rfl,rfl⟩)|(refine Xg.st (StF.alloc rfl Try.zeroValue26 rfl) rfl rfl ?_;rintro _ _ ⟨bx,rfl,rfl⟩)|(refine Xg.st0 (uZ (i:=0) rfl rfl rfl (te rfl) rfl rfl rfl rfl) rfl ?_;rintro _ _ ⟨rfl,rfl⟩;dsimp only [List.set])))))|(refine uD rfl ?_;refine hK _ _ ?_;clear hK K) | refine uS rfl ?_ | refine uR rfl (fun K hK=>?_) | refine X.skip rfl ?_ | (refine X.ite rfl rfl (fun hc=>?_);(first | (with_reducible refine Xb.f hc ?_)) <;> clear hc))
  all_goals try (exfalso;contradiction)
  have hT : ∀ H',(⟨t1,0,R.ages.flatMap cSp,some 35,k1 * 2⟩ : Row) ∈ H' → (⟨t2,0,R.boxes.flatMap cBx,some 81,k2 * 2⟩ : Row) ∈ H' → (⟨t3,0,R.mats.flatMap cMt,some 111,k3 * 6⟩ : Row) ∈ H' → RmOk H' R ⟨some ⟨t1,0,none⟩,k1,some ⟨t2,0,none⟩,k2,some ⟨t3,0,none⟩,k3⟩ :=
   fun H' m1 m2 m3=>⟨SlE.ofRow m1 (fun _ _=>rfl),SlE.ofRow m2 (fun _ _=>rfl),SlE.ofRow m3 (fun _ _=>rfl),by omega,by omega,by omega⟩
  obtain ⟨po,hpo⟩ : ∃ po,po = (⟨some ⟨t1,0,none⟩,k1,some ⟨t2,0,none⟩,k2,some ⟨t3,0,none⟩,k3⟩ : Pl):=⟨_,rfl⟩
  rw [← hpo] at hT ⊢
  clear hpo
  repeat' (first | (refine uP rfl ?_;(first | ((first | refine uN rfl ?_);(first | (refine uE (uX rfl rfl rfl) rfl rfl ?_)|(refine uE (uL rfl rfl (uW (T:=26) (cs:=cRm R po) (te rfl) rfl (by repeat (first | exact qH _ | apply qT)) rfl)) rfl rfl ?_)|(refine uE (uL rfl rfl (uW (T:=26) (cs:=cRm R p) (te rfl) rfl (by repeat (first | exact qH _ | apply qT)) rfl)) rfl rfl ?_)|(refine uC (uT rfl (by (repeat (first | exact Args.nil | refine Args.cons rfl ?_));done)) rfl rfl (kcan _ _ (hT _ (by repeat (first | exact qH _ | apply qT)) (by repeat (first | exact qH _ | apply qT)) (by repeat (first | exact qH _ | apply qT)))) ?_;rintro _ H9 ⟨rfl,hH9⟩;subst H9)|(refine uC (uT rfl (by (repeat (first | exact Args.nil | refine Args.cons rfl ?_));done)) rfl rfl (rcan p _ (hR.sub (fun _ h=>by repeat (first | exact h | apply qT)))) ?_;rintro _ H9 ⟨rfl,hH9⟩;subst H9)|(refine uC (uT rfl (by (repeat (first | exact Args.nil | refine Args.cons rfl ?_));done)) rfl rfl (kyel _ _ (hT _ (by repeat (first | exact qH _ | apply qT)) (by repeat (first | exact qH _ | apply qT)) (by repeat (first | exact qH _ | apply qT)))) ?_;rintro _ H9 ⟨rfl,hH9⟩;subst H9)|(refine uC (uT rfl (by (repeat (first | exact Args.nil | refine Args.cons rfl ?_));done)) rfl rfl (ryel p _ (hR.sub (fun _ h=>by repeat (first | exact h | apply qT)))) ?_;rintro _ H9 ⟨rfl,hH9⟩;subst H9)|(refine uC (uT rfl (by (repeat (first | exact Args.nil | refine Args.cons rfl ?_));done)) rfl rfl (kdif _ _ (hT _ (by repeat (first | exact qH _ | apply qT)) (by repeat (first | exact qH _ | apply qT)) (by repeat (first | exact qH _ | apply qT)))) ?_;rintro _ H9 ⟨rfl,hH9⟩;subst H9)|(refine uC (uT rfl (by (repeat (first | exact Args.nil | refine Args.cons rfl ?_));done)) rfl rfl (rdif p _ (hR.sub (fun _ h=>by repeat (first | exact h | apply qT)))) ?_;rintro _ H9 ⟨rfl,hH9⟩;subst H9)|(refine uE (uM rfl rfl) rfl rfl ?_)|(refine uE (uA rfl rfl) rfl rfl ?_)|(refine Xg.st (StF.alloc rfl Try.zeroValue35 rfl) rfl rfl ?_;rintro _ _ ⟨bx,rfl,rfl⟩)|(refine Xg.st0 (uZ (i:=0) rfl rfl rfl (te rfl) rfl rfl rfl rfl) rfl ?_;rintro _ _ ⟨rfl,rfl⟩;dsimp only [List.set])))))|(refine uD rfl ?_;refine hK _ _ ?_;clear hK K)|(refine XQ.op rfl ?_;(first | ((first | refine Yo.ng rfl ?_ | (refine Yo.g rfl rfl ?_;with_reducible refine Yw.tt ?_));(first | (refine Yg.ev (EvF.eqSf rfl rfl rfl) rfl rfl ?_)|(refine Yg.ev (EvF.eqSfB rfl rfl rfl (by kernel_rfl)) rfl rfl ?_)|(refine Yg.ev (EvF.eqSt (r:=true) (b:=true) rfl rfl rfl (by kernel_rfl) (fun w=>eqSp_sf _ w) rfl) rfl rfl ?_)|(refine Yg.ev (uL rfl rfl (uW (T:=26) (cs:=cRm R po) (te rfl) rfl (by repeat (first | exact qH _ | apply qT)) rfl)) rfl rfl ?_)|(refine Yg.ev (uL rfl rfl (uW (T:=26) (cs:=cRm R p) (te rfl) rfl (by repeat (first | exact qH _ | apply qT)) rfl)) rfl rfl ?_)|(refine Yg.ev (uL rfl rfl (uW (T:=35) (cs:=cSp ys) (te rfl) rfl (by repeat (first | exact qH _ | apply qT)) rfl)) rfl rfl ?_)|(refine Yg.ev (uL rfl rfl (uW (T:=35) (cs:=cSp ds) (te rfl) rfl (by repeat (first | exact qH _ | apply qT)) rfl)) rfl rfl ?_)|(refine Yg.call (uT rfl (by (repeat (first | exact Args.nil | refine Args.cons rfl ?_));done)) rfl rfl (kCheck2_spec R po _ (hT _ (by repeat (first | exact qH _ | apply qT)) (by repeat (first | exact qH _ | apply qT)) (by repeat (first | exact qH _ | apply qT)))) ?_)|(refine Yg.call (uT rfl (by (repeat (first | exact Args.nil | refine Args.cons rfl ?_));done)) rfl rfl (rCheck_spec R p _ (hR.sub (fun _ h=>by repeat (first | exact h | apply qT)))) ?_)|(refine Yg.call (uT rfl (by (repeat (first | exact Args.nil | refine Args.cons rfl ?_));done)) rfl rfl (sameR_self R po p _ (hT _ (by repeat (first | exact qH _ | apply qT)) (by repeat (first | exact qH _ | apply qT)) (by repeat (first | exact qH _ | apply qT))) (hR.sub (fun _ h=>by repeat (first | exact h | apply qT)))) ?_)|(refine Yg.ev (uM rfl rfl) rfl rfl ?_)|(refine Yg.ev (uA rfl rfl) rfl rfl ?_)|(refine Yg.ev (EvF.pickT rfl rfl rfl) rfl rfl ?_)))))|(refine XQ.done rfl ?_;refine hK _ ?_;clear hK K) | refine uS rfl ?_ | refine uR rfl (fun K hK=>?_) | refine X.regionD rfl mixed (by kernel_rfl) (fun K hK=>?_) | refine X.ret rfl ?_)
  exact ret_one (by simp) Try.results3 rfl (H' := _) (qR _) rfl
theorem numsMt (R : Rm) (p : Pl) (H : List Row) (hM : SlE H p.a3 cMt 6 R.mats) (hl : R.mats.length ≤ 1000000) : Fc Try.prog 83 [.slice p.a3 R.mats.length p.c3,.func (.func 84) #[] #[]] H (fun v H' => (R.mats = []∧v = .slice none 0 0∧H' = H) ∨ ∃ b q,R.mats ≠ []∧v = .slice (some ⟨b,0,none⟩) (R.mats.map (·.number)).length q∧H' = ⟨b,0,(R.mats.map (·.number)).flatMap cI,some 3,q * 1⟩::H) :=
 numbersO_specMt 84 (·.number) number_spec R.mats p.a3 p.c3 H hM hl
def wrgO : Option (List Int) → List Int × Int
 | some r=>(r,0)
 | none=>([],4)
set_option maxHeartbeats 8000000 in
theorem kWrong_spec (R : Rm) (p : Pl) (H : List Row) (hR : RmOk H R p) (h2 : R.boxes.length ≤ 1000000) : Fc Try.prog 43 [.agg (cRm R p).toArray] H (LstR (wrgF R).1 (wrgF R).2 H):=by
 by_cases hok : roomOk R
 ·have hml : R.mats.length ≤ 8:=hok.1.2.2.2.2.2.2
  have hck:=fun p' H' (h : RmOk H' R p')=>kCheck2_spec R p' H' h
  rw [show chkF R = 0 by unfold chkF;rw [if_pos hok]] at hck
  obtain ⟨L,hL⟩ : ∃ L,L = R.mats.map (·.number):=⟨_,rfl⟩
  have hLl : L.length ≤ 8:=by rw [hL,List.length_map];exact hml
  obtain ⟨f,hf⟩ : ∃ f,f = fewG (okW R) L 4 0:=⟨_,rfl⟩
  have hF : wrgF R = wrgO f:=by
   unfold wrgF
   rw [if_pos hok, ← hL, ← hf]
   cases f <;> rfl
  have hfm : fewG (okW R) L (min 3 L.length + 1) 0 = f:=by rw [fewG_min,hf]
  have hfw:=fun a c b5 b k S (hs : SlE S a cI 1 L) hC hk (m5 : (⟨b5,0,cCt R p (some ⟨b,0,none⟩) k,some 93,6⟩ : Row) ∈ S)=>fewest_specI (okW R) L a c 3 91 [.pointer (some ⟨b5,0,none⟩)] S hs (by omega) (by omega) (fun acc a' c' H' hs' hacc hal=>wrong1_spec R p (some ⟨b,0,none⟩) k acc a' c' b5 (some 93) 6 H' hok.ok hok.mats (CtOk.sub hC hs') hok.lens.ages hok.lens.mats hk (hs' _ m5) hacc hal)
  simp only [hfm] at hfw
  have hnu:=fun S hS=>numsMt R p S hS (by omega)
  rw [← hL] at hnu
  rw [hF]
  clear hF hfm hf
  refine Fc.mk (callable Try.call43) Try.func43 rfl Try.ntmps43 rfl ?_;dsimp only [fr]
  repeat' (first | (refine uP rfl ?_;(first | ((first | refine uN rfl ?_);(first | (refine uE (uQ (b:=false) rfl rfl rfl (congrArg some (nd_f (by omega)))) rfl rfl ?_)|(refine uE (uL rfl rfl (uW (T:=26) (cs:=cRm R p) (te rfl) rfl (by repeat (first | exact qH _ | apply qT)) rfl)) rfl rfl ?_)|(refine uC (uT rfl (Args.cons rfl Args.nil)) rfl rfl (hck p _ (hR.sub (fun _ h=>by repeat (first | exact h | apply qT)))) ?_;rintro _ H9 ⟨rfl,hH9⟩;subst H9)|(refine uC (uT rfl (by (repeat (first | exact Args.nil | refine Args.cons rfl ?_));done)) rfl rfl (draw_spec R p _ hok.ok (hR.sub (fun _ h=>by repeat (first | exact h | apply qT)))) ?_;rintro _ _ ⟨b,k,hbk,rfl,rfl⟩)|(refine Xg.st (StF.alloc rfl Try.zeroValue93 rfl) rfl rfl ?_;rintro _ _ ⟨b5,rfl,rfl⟩)|(refine Xg.st0 (uZ (i:=0) (vs:=cCt R p (some ⟨b,0,none⟩) k) rfl rfl rfl (te rfl) rfl rfl rfl rfl) rfl ?_;rintro _ _ ⟨rfl,rfl⟩;dsimp only [List.set])|(refine uE (uL rfl rfl (uO (cs:=cRm R p) (te rfl) rfl (by repeat (first | exact qH _ | apply qT)) rfl)) rfl rfl ?_)|(refine uC (uT rfl (by (repeat (first | exact Args.nil | refine Args.cons rfl ?_));done)) rfl rfl (hnu _ (hR.mats.sub (fun _ h=>by repeat (first | exact h | apply qT)))) ?_;rintro _ _ (⟨h0,rfl,rfl⟩ | ⟨bn,kn,h0,rfl,rfl⟩))|(refine uE (EvF.makeFunc (fl:=[]) rfl Args.nil (Args.cons rfl Args.nil)) rfl rfl ?_)|(refine uE (uM rfl rfl) rfl rfl ?_)|(refine uE (uA rfl rfl) rfl rfl ?_)|(refine uE (uF rfl rfl (te rfl) rfl (te rfl) (by decide)) rfl rfl ?_)|(refine Xg.st (StF.boxAgg rfl rfl) rfl rfl ?_;rintro _ _ ⟨bx,rfl,rfl⟩)))))|(refine uD rfl ?_;refine hK _ _ ?_;clear hK K) | refine uS rfl ?_ | refine uR rfl (fun K hK=>?_) | refine X.skip rfl ?_ | (refine X.ite rfl rfl (fun hc=>?_);(first | (with_reducible refine Xb.f hc ?_)) <;> clear hc))
  all_goals try (exfalso;contradiction)
  ·have hL0 : L = []:=by rw [hL,h0];rfl
   subst hL0
   repeat' (first | (refine uP rfl ?_;(first | ((first | refine uN rfl ?_);(first | (refine uC (uT rfl (by (repeat (first | exact Args.nil | refine Args.cons rfl ?_));done)) rfl rfl (hfw none 0 b5 b k _ sleNil ⟨hR.sub (fun _ h=>by repeat (first | exact h | apply qT)),SlE.ofRow (by repeat (first | exact qH _ | apply qT)) (fun _ _=>rfl)⟩ hbk (by repeat (first | exact qH _ | apply qT))) ?_;rintro _ _ ⟨out,Z,hT,rfl,rfl⟩)|(refine uE (uX rfl rfl rfl) rfl rfl ?_)|(refine uE (uM rfl rfl) rfl rfl ?_)|(refine uE (uA rfl rfl) rfl rfl ?_)|(refine uE (EvF.not rfl rfl) rfl rfl ?_)))))|(refine uD rfl ?_;refine hK _ _ ?_;clear hK K) | refine uS rfl ?_ | refine uR rfl (fun K hK=>?_) | refine X.skip rfl ?_ | refine X.ret rfl ?_ | (refine X.ite rfl rfl (fun hc=>?_);(first | (with_reducible refine Xb.caseB hc (fun h=>?_) (fun h=>?_))) <;> clear hc))
   ·have hn : f.isSome = false:=by simpa using (by assumption : (!f.isSome)=true)
    cases f with
    | some r=>cases hn
    | none=>exact ret_two (by simp) Try.results43 rfl rfl (H' := H) (List.Sublist.trans (by (repeat (first | exact qR _ | apply qC));done) (List.sublist_append_right _ _)) ⟨none,0,[],rfl,sleNil,rfl⟩
   ·have hn : f.isSome = true:=by simpa using (by assumption : (!f.isSome)=false)
    cases f with
    | none=>cases hn
    | some r =>
     obtain ⟨a',c',rfl,hs⟩:=TrvI.sl (H:=H) hT
     exact ret_two (by simp) Try.results43 rfl rfl (H' := Z++H) (List.Sublist.append (qR _) (by (repeat (first | exact qR _ | apply qC));done)) ⟨a',c',Z,rfl,hs,rfl⟩
  ·repeat' (first | (refine uP rfl ?_;(first | ((first | refine uN rfl ?_);(first | (refine uC (uT rfl (by (repeat (first | exact Args.nil | refine Args.cons rfl ?_));done)) rfl rfl (hfw (some ⟨bn,0,none⟩) kn b5 b k _ (SlE.ofRow (by repeat (first | exact qH _ | apply qT)) (fun _ _=>rfl)) ⟨hR.sub (fun _ h=>by repeat (first | exact h | apply qT)),SlE.ofRow (by repeat (first | exact qH _ | apply qT)) (fun _ _=>rfl)⟩ hbk (by repeat (first | exact qH _ | apply qT))) ?_;rintro _ _ ⟨out,Z,hT,rfl,rfl⟩)|(refine uE (uX rfl rfl rfl) rfl rfl ?_)|(refine uE (uM rfl rfl) rfl rfl ?_)|(refine uE (uA rfl rfl) rfl rfl ?_)|(refine uE (EvF.not rfl rfl) rfl rfl ?_)))))|(refine uD rfl ?_;refine hK _ _ ?_;clear hK K) | refine uS rfl ?_ | refine uR rfl (fun K hK=>?_) | refine X.skip rfl ?_ | refine X.ret rfl ?_ | (refine X.ite rfl rfl (fun hc=>?_);(first | (with_reducible refine Xb.caseB hc (fun h=>?_) (fun h=>?_))) <;> clear hc))
   ·have hn : f.isSome = false:=by simpa using (by assumption : (!f.isSome)=true)
    cases f with
    | some r=>cases hn
    | none=>exact ret_two (by simp) Try.results43 rfl rfl (H' := H) (List.Sublist.trans (by (repeat (first | exact qR _ | apply qC));done) (List.sublist_append_right _ _)) ⟨none,0,[],rfl,sleNil,rfl⟩
   ·have hn : f.isSome = true:=by simpa using (by assumption : (!f.isSome)=false)
    cases f with
    | none=>cases hn
    | some r =>
     obtain ⟨a',c',rfl,hs⟩:=TrvI.sl (H:=H) hT
     exact ret_two (by simp) Try.results43 rfl rfl (H' := Z++H) (List.Sublist.append (qR _) (by (repeat (first | exact qR _ | apply qC));done)) ⟨a',c',Z,rfl,hs,rfl⟩
 ·have hck:=fun p' H' (h : RmOk H' R p')=>kCheck2_spec R p' H' h
  rw [show chkF R = 10 by unfold chkF;rw [if_neg hok]] at hck
  have hF : wrgF R = ([],10):=by unfold wrgF;rw [if_neg hok]
  rw [hF]
  refine Fc.mk (callable Try.call43) Try.func43 rfl Try.ntmps43 rfl ?_;dsimp only [fr]
  repeat' (first | (refine uP rfl ?_;(first | ((first | refine uN rfl ?_);(first | (refine uE (uQ (b:=true) rfl rfl rfl (congrArg some (nd_t (by omega)))) rfl rfl ?_)|(refine uE (uL rfl rfl (uW (T:=26) (cs:=cRm R p) (te rfl) rfl (by repeat (first | exact qH _ | apply qT)) rfl)) rfl rfl ?_)|(refine uC (uT rfl (Args.cons rfl Args.nil)) rfl rfl (hck p _ (hR.sub (fun _ h=>by repeat (first | exact h | apply qT)))) ?_;rintro _ H9 ⟨rfl,hH9⟩;subst H9)|(refine uE (uM rfl rfl) rfl rfl ?_)|(refine uE (uA rfl rfl) rfl rfl ?_)|(refine Xg.st (StF.boxAgg rfl rfl) rfl rfl ?_;rintro _ _ ⟨bx,rfl,rfl⟩)))))|(refine uD rfl ?_;refine hK _ _ ?_;clear hK K) | refine uS rfl ?_ | refine uR rfl (fun K hK=>?_) | refine X.ret rfl ?_ | (refine X.ite rfl rfl (fun hc=>?_);(first | (with_reducible refine Xb.t hc ?_)) <;> clear hc))
  all_goals try (exfalso;contradiction)
  exact ret_two (by simp) Try.results43 rfl rfl (H' := H) (by repeat (first | exact qR _ | apply qK | apply qC)) ⟨none,0,[],rfl,sleNil,rfl⟩
/-- the first list of numbers, m more, that is right -/
def stk9 (ok : List Int → Bool) : List Mt → Nat → List Int → Option (List Int)
 | [],0,ns=>if ok ns = true then some ns else none
 | [],_ + 1,_=>none
 | _::_,0,ns=>if ok ns = true then some ns else none
 | x::t,m + 1,ns=>match stk9 ok t m (ns++[x.number]) with
  | some r=>some r
  | none=>stk9 ok t (m + 1) ns
theorem stk9_zero (ok : List Int → Bool) (t : List Mt) (ns : List Int) : stk9 ok t 0 ns = if ok ns = true then some ns else none:=by cases t <;> rfl
def Stk9R (ok : List Int → Bool) (t : List Mt) (m : Nat) (ns : List Int) (a : Option Addr) (c : Nat) (H : List Row) (v : Value) (H' : List Row) : Prop :=
 (m = 0∧v = .tuple #[.slice a ns.length c,.bool (ok ns)]∧H' = H)∨(0 < m∧((∃ r b k,stk9 ok t m ns = some r∧v = .tuple #[.slice (some ⟨b,0,none⟩) r.length k,.bool true]∧H' = ⟨b,0,r.flatMap cI,some 3,k * 1⟩::H)∨(stk9 ok t m ns = none∧v = .tuple #[.slice none 0 0,.bool false]∧H' = H)))
theorem Stk9R.top {ok : List Int → Bool} {t : List Mt} {m : Nat} {H : List Row} {v : Value} {H' : List Row} (h : Stk9R ok t m [] none 0 H v H') :
  (∃ r a c Z,stk9 ok t m [] = some r∧v = .tuple #[.slice a r.length c,.bool true]∧(∀ H0,SlE (Z++H0) a cI 1 r)∧H' = Z++H)∨(stk9 ok t m [] = none∧v = .tuple #[.slice none 0 0,.bool false]∧H' = H):=by
 rcases h with ⟨rfl,rfl,rfl⟩ | ⟨_,⟨r,b,k,hr,rfl,rfl⟩ | h⟩
 ·rw [stk9_zero]
  by_cases hk : ok [] = true
  ·exact .inl ⟨[],none,0,[],by rw [if_pos hk],by rw [hk];(try rfl),fun _=>sleNil,rfl⟩
  ·exact .inr ⟨by rw [if_neg hk],by rw [Bool.eq_false_iff.2 hk];(try rfl),rfl⟩
 ·exact .inl ⟨r,_,_,[⟨b,0,r.flatMap cI,some 3,k * 1⟩],hr,rfl,fun _=>SlE.ofRow (qH _) (fun _ _=>rfl),rfl⟩
 ·exact .inr h
def ChR (ok : List Mt → Bool) (t : List Mt) (m : Nat) (ns : List Mt) (a : Option Addr) (c : Nat) (H : List Row) (v : Value) (H' : List Row) : Prop :=
 (m = 0∧v = .tuple #[.slice a ns.length c,.bool (ok ns)]∧H' = H)∨(0 < m∧((∃ r b k,lonG ok t m ns = some r∧v = .tuple #[.slice (some ⟨b,0,none⟩) r.length k,.bool true]∧H' = ⟨b,0,r.flatMap cMt,some 111,k * 6⟩::H)∨(lonG ok t m ns = none∧v = .tuple #[.slice none 0 0,.bool false]∧H' = H)))
theorem okMats_lo (R : Rm) : ∀ (l : List Mt) (p : Int),okMats R p l → ∀ x ∈ l,p < x.number
 | [],_,_,_,hx=>absurd hx List.not_mem_nil
 | c::l,p,h,x,hx=>by
  have h1 : p + 1 ≤ c.number:=h.1
  rcases List.mem_cons.1 hx with rfl | hx
  ·omega
  ·have:=okMats_lo R l c.number h.2.2.2 x hx
   omega
theorem okMats_pw (R : Rm) : ∀ (l : List Mt) (p : Int),okMats R p l → l.Pairwise (fun a b=>a.number < b.number)
 | [],_,_=>List.Pairwise.nil
 | c::l,p,h=>List.Pairwise.cons (fun b hb=>okMats_lo R l c.number h.2.2.2 b hb) (okMats_pw R l c.number h.2.2.2)
theorem roomOk.nums {R : Rm} (h : roomOk R) : (R.mats.map (·.number)).Nodup :=
 List.pairwise_map.2 ((okMats_pw R R.mats 0 h.2.2.2).imp (fun q e=>by
  have e : _ = _:=e
  omega))
theorem ChR.top {ok : List Mt → Bool} {t : List Mt} {m : Nat} {H : List Row} {v : Value} {H' : List Row} (h : ChR ok t m [] none 0 H v H') :
  (∃ r a c Z,lonG ok t m [] = some r∧v = .tuple #[.slice a r.length c,.bool true]∧(∀ H0,SlE (Z++H0) a cMt 6 r)∧H' = Z++H)∨(lonG ok t m [] = none∧v = .tuple #[.slice none 0 0,.bool false]∧H' = H):=by
 rcases h with ⟨rfl,rfl,rfl⟩ | ⟨_,⟨r,b,k,hr,rfl,rfl⟩ | h⟩
 ·rw [lonG_zero]
  by_cases hk : ok [] = true
  ·exact .inl ⟨[],none,0,[],by rw [if_pos hk],by rw [hk];(try rfl),fun _=>sleNil,rfl⟩
  ·exact .inr ⟨by rw [if_neg hk],by rw [Bool.eq_false_iff.2 hk];(try rfl),rfl⟩
 ·exact .inl ⟨r,_,_,[⟨b,0,r.flatMap cMt,some 111,k * 6⟩],hr,rfl,fun _=>SlE.ofRow (qH _) (fun _ _=>rfl),rfl⟩
 ·exact .inr h
def rsG (ok : List Mt → Bool) (R : Rm) (M : List Mt) : List Int:=(M.filter (fun x => !ok (outM R.mats [x.number]))).map (·.number)
theorem rsG_snoc (ok : List Mt → Bool) (R : Rm) {l : List Mt} {k : Nat} {x : Mt} (he : l[k]? = some x) : rsG ok R (l.take (k + 1)) = rsG ok R (l.take k)++(if ok (outM R.mats [x.number]) = true then [] else [x.number]):=by
 unfold rsG
 rw [take_snoc he,List.filter_append,List.map_append]
 by_cases h : ok (outM R.mats [x.number]) = true
 ·rw [if_pos h];simp [List.filter,h]
 ·rw [if_neg h];simp [List.filter,h]
theorem rsG_len (ok : List Mt → Bool) (R : Rm) (M : List Mt) : (rsG ok R M).length ≤ M.length:=by
 unfold rsG;rw [List.length_map];exact List.length_filter_le _ _
/-- a list of numbers, told in one of its ways, drawn -/
theorem slDraw (L : List Int) : ∃ (nv : Nat × Nat → Value) (rn : Nat × Nat → List Row),
  (∀ v Z,TrvI L v Z → ∃ q,v = nv q∧Z = rn q)∧(∀ q S,(∀ r ∈ rn q,r ∈ S) → ∃ a c,nv q = .slice a L.length c∧SlE S a cI 1 L):=by
 by_cases h0 : L = []
 ·subst h0
  refine ⟨fun q=>match q.1 with
   | 0 => .slice none 0 0
   | n + 1 => .slice (some ⟨n,0,none⟩) 0 q.2,fun q=>match q.1 with
   | 0=>[]
   | n + 1=>[⟨n,0,[],some 3,q.2 * 1⟩],?_,?_⟩
  ·rintro v Z (⟨_,rfl,rfl⟩ | ⟨b,q,rfl,rfl⟩)
   ·exact ⟨(0,0),rfl,rfl⟩
   ·exact ⟨(b + 1,q),rfl,rfl⟩
  ·rintro ⟨n,c⟩ S hS
   cases n with
   | zero=>exact ⟨none,0,rfl,sleNil⟩
   | succ n=>exact ⟨some ⟨n,0,none⟩,c,rfl,SlE.ofRow (l:=[]) (hS _ (qH _)) (fun _ _=>rfl)⟩
 ·refine ⟨fun q => .slice (some ⟨q.1,0,none⟩) L.length q.2,fun q=>[⟨q.1,0,L.flatMap cI,some 3,q.2 * 1⟩],?_,?_⟩
  ·rintro v Z (⟨h,_,_⟩ | ⟨b,q,rfl,rfl⟩)
   ·exact absurd h h0
   ·exact ⟨(b,q),rfl,rfl⟩
  ·rintro ⟨n,c⟩ S hS
   exact ⟨some ⟨n,0,none⟩,c,rfl,SlE.ofRow (hS _ (qH _)) (fun _ _=>rfl)⟩
theorem numsTr (R : Rm) (p : Pl) (H : List Row) (hM : SlE H p.a3 cMt 6 R.mats) (hl : R.mats.length ≤ 1000000) : Fc Try.prog 83 [.slice p.a3 R.mats.length p.c3,.func (.func 84) #[] #[]] H (fun v H' => ∃ Z,TrvI (R.mats.map (·.number)) v Z∧H' = Z++H) :=
 (numsMt R p H hM hl).mono fun v H' h=>by
  rcases h with ⟨h0,hv,hH⟩ | ⟨b,q,_,hv,hH⟩
  ·exact ⟨[],.inl ⟨by rw [h0];rfl,hv,rfl⟩,hH⟩
  ·exact ⟨[_],.inr ⟨b,q,hv,rfl⟩,hH⟩
def tsKwy : List TOp:=[⟨some 23,[],[],[]⟩,⟨some 24,[0],[0],[]⟩,⟨some 25,[0,1],[1],[]⟩,⟨some 26,[],[],[]⟩,⟨some 27,[3],[3],[]⟩,⟨some 28,[3,4],[4],[]⟩,⟨some 29,[],[],[]⟩,⟨some 30,[6],[6],[]⟩,⟨some 31,[0,1,2,3,4,5,6,7],[2,5,7],[]⟩,⟨some 22,[0,1,2,3,4,5,6,7,8],[8],[]⟩,⟨some 32,[0,1,2,3,4,5,6,7,8,9],[9],[]⟩,⟨some 33,[0,1,2,3,4,5,6,7,8,9],[9],[]⟩,⟨some 10,[0,1,2,3,4,5,6,7,8,9,10],[10],[]⟩,⟨some 11,[0,1,2,3,4,5,6,7,8,9,10,11,12],[11],[]⟩]
def valKwy (b3 b8 : Nat) (R : Rm) (p : Pl) (a : Option Addr) (c : Nat) (q : Pk) (s : Sp) (nv fv : Nat × Nat → Value) (rn rf : Nat × Nat → List Row) (bb : Bool) (k : Nat) (env : Env) : Value :=
 match k with
 | 0 => .pointer (some ⟨b3,4,none⟩)
 | 1 => .slice p.a3 R.mats.length p.c3
 | 2=>nv (env 2)
 | 3 => .pointer (some ⟨b3,4,none⟩)
 | 4 => .slice p.a3 R.mats.length p.c3
 | 5 => .int .i64 R.mats.length
 | 6 => .agg (cCm R p a c q s).toArray
 | 7 => .func (.func 85) #[.agg (cCm R p a c q s).toArray] #[]
 | 8 => .tuple #[fv (env 8),.bool bb]
 | 9 => .tuple #[fv (env 8),.bool bb]
 | 10=>fv (env 8)
 | 11 => .bool bb
 | 12=>fv (env 8)
 | 13 => .bool bb
 | _=>undef
def rowsKwy (b3 b8 : Nat) (R : Rm) (p : Pl) (a : Option Addr) (c : Nat) (q : Pk) (s : Sp) (nv fv : Nat × Nat → Value) (rn rf : Nat × Nat → List Row) (bb : Bool) (k : Nat) (env : Env) : List Row :=
 match k with
 | 2=>rn (env 2)
 | 8=>rf (env 8)
 | _=>[]
theorem locKwy (b3 b8 : Nat) (R : Rm) (p : Pl) (a : Option Addr) (c : Nat) (q : Pk) (s : Sp) (nv fv : Nat × Nat → Value) (rn rf : Nat × Nat → List Row) (bb : Bool) : ∀ k env i q9,i ≠ k → (tAt tsKwy k).sup.contains i = false → valKwy b3 b8 R p a c q s nv fv rn rf bb k (upd env i q9)=valKwy b3 b8 R p a c q s nv fv rn rf bb k env∧rowsKwy b3 b8 R p a c q s nv fv rn rf bb k (upd env i q9)=rowsKwy b3 b8 R p a c q s nv fv rn rf bb k env:=by
 intro k env i q hk hs
 have hu : ∀ j,j ≠ i → upd env i q j = env j:=fun j hj=>by unfold upd;rw [if_neg hj]
 match k,hk,hs with
 | 0,_,_=>exact ⟨rfl,rfl⟩
 | 1,_,_=>exact ⟨rfl,rfl⟩
 | 2,hk,hs=>exact ⟨by simp only [valKwy,hu 2 (fun e=>hk e.symm)],by simp only [rowsKwy,hu 2 (fun e=>hk e.symm)]⟩
 | 3,_,_=>exact ⟨rfl,rfl⟩
 | 4,_,_=>exact ⟨rfl,rfl⟩
 | 5,_,_=>exact ⟨rfl,rfl⟩
 | 6,_,_=>exact ⟨rfl,rfl⟩
 | 7,_,_=>exact ⟨rfl,rfl⟩
 | 8,hk,hs=>exact ⟨by simp only [valKwy,hu 8 (fun e=>hk e.symm)],by simp only [rowsKwy,hu 8 (fun e=>hk e.symm)]⟩
 | 9,hk,hs=>exact ⟨by simp only [valKwy,hu 8 (by rintro rfl;cases hs)],by simp only [rowsKwy,hu 8 (by rintro rfl;cases hs)]⟩
 | 10,hk,hs=>exact ⟨by simp only [valKwy,hu 8 (by rintro rfl;cases hs)],by simp only [rowsKwy,hu 8 (by rintro rfl;cases hs)]⟩
 | 11,_,_=>exact ⟨rfl,rfl⟩
 | 12,hk,hs=>exact ⟨by simp only [valKwy,hu 8 (by rintro rfl;cases hs)],by simp only [rowsKwy,hu 8 (by rintro rfl;cases hs)]⟩
 | 13,_,_=>exact ⟨rfl,rfl⟩
 | _ + 14,_,_=>exact ⟨rfl,rfl⟩
def rdKwy (k : Nat) : List Nat:=match k with
 | 8=>[2]
 | _=>[]
set_option maxHeartbeats 8000000 in
theorem kWhy_spec (R : Rm) (p : Pl) (x m : Int) (H : List Row) (hR : RmOk H R p) (h2 : R.boxes.length ≤ 1000000) : Fc Try.prog 39 [.agg (cRm R p).toArray,.int .i64 x,.int .i64 m] H (LstR (whyF R x m).1 (whyF R x m).2 H):=by
 obtain ⟨e,he⟩ : ∃ e,openE R [x] [m] = e:=⟨_,rfl⟩
 by_cases h0 : e = 0
 ·subst h0
  obtain ⟨hok,_,_,hT⟩:=openE_ok he
  have hml : R.mats.length ≤ 8:=hok.1.2.2.2.2.2.2
  have hpq:=plcs_of he (List.mem_singleton.2 rfl) (List.mem_singleton.2 rfl)
  have hcm:=fun S hS=>claimedY R p x m S hS h2 he
  obtain ⟨s,hs⟩ : ∃ s,s = rng R R.mats ⟨x,m⟩ zp:=⟨_,rfl⟩
  obtain ⟨L,hL⟩ : ∃ L,L = R.mats.map (·.number):=⟨_,rfl⟩
  have hLl : L.length = R.mats.length:=by rw [hL,List.length_map]
  obtain ⟨fo,hfo⟩ : ∃ fo,fo = fewG (prvN R ⟨x,m⟩ s) L (R.mats.length + 1) 0:=⟨_,rfl⟩
  obtain ⟨W,hW⟩ : ∃ W,W = fo.getD []:=⟨_,rfl⟩
  have hy : whyF R x m = (W,0):=by
   unfold whyF whyL
   rw [if_pos he, ← hs, ← hL, ← hfo, ← hW]
  rw [← hs] at hcm
  rw [hy]
  clear hy hs
  have hnt:=fun S hS=>numsTr R p S hS (by omega)
  rw [← hL] at hnt
  have hft:=fun al cl b k S (hl : SlE S al cI 1 L) (hC : CtOk S R p (some ⟨b,0,none⟩)) (hk : (plcs R).length ≤ k)=>fewest_specJ (prvN R ⟨x,m⟩ s) L al cl R.mats.length 85 [.agg (cCm R p (some ⟨b,0,none⟩) k ⟨x,m⟩ s).toArray] [] S hl (by omega) (by omega) (fun acc a' c' H' hs' hacc hal=>kproves_spec R p (some ⟨b,0,none⟩) k ⟨x,m⟩ s acc a' c' H' hok.ok hok.mats (CtOk.sub hC hs') hok.lens.ages hok.lens.mats hk hT hpq hacc hal)
  rw [show min R.mats.length L.length + 1 = R.mats.length + 1 by omega, ← hfo, ← hW] at hft
  obtain ⟨nv,rn,hn1,hn2⟩:=slDraw L
  obtain ⟨fv,rf,hf1,hf2⟩:=slDraw W
  refine Fc.mk (callable Try.call39) Try.func39 rfl Try.ntmps39 rfl ?_;dsimp only [fr]
  repeat' (first | (refine uP rfl ?_;(first | ((first | refine uN rfl ?_);(first | (refine uE (uQ (b:=false) rfl rfl rfl (congrArg some (nd_f (by omega)))) rfl rfl ?_)|(refine uE (uL rfl rfl (uW (T:=26) (cs:=cRm R p) (te rfl) rfl (by repeat (first | exact qH _ | apply qT)) rfl)) rfl rfl ?_)|(refine uC (uT rfl (by (repeat (first | exact Args.nil | refine Args.cons rfl ?_));done)) rfl rfl (hcm _ (hR.sub (fun _ h=>by repeat (first | exact h | apply qT)))) ?_;rintro _ _ ⟨b,k,hbk,rfl,rfl⟩)|(refine uE (uX rfl rfl rfl) rfl rfl ?_)|(refine Xg.st (StF.alloc rfl Try.zeroValue129 rfl) rfl rfl ?_;rintro _ _ ⟨b8,rfl,rfl⟩)|(refine Xg.st0 (uZ (i:=0) (vs:=cCm R p (some ⟨b,0,none⟩) k ⟨x,m⟩ s) rfl rfl rfl (te rfl) rfl rfl rfl rfl) rfl ?_;rintro _ _ ⟨rfl,rfl⟩;dsimp only [List.set])|(refine uE (uM rfl rfl) rfl rfl ?_)|(refine uE (uA rfl rfl) rfl rfl ?_)|(refine Xg.st (StF.boxAgg rfl rfl) rfl rfl ?_;rintro _ _ ⟨bx,rfl,rfl⟩)))))|(refine uD rfl ?_;refine hK _ _ ?_;clear hK K) | refine uS rfl ?_ | refine uR rfl (fun K hK=>?_) | refine X.skip rfl ?_ | (refine X.ite rfl rfl (fun hc=>?_);(first | (with_reducible refine Xb.f hc ?_)) <;> clear hc))
  all_goals try (exfalso;contradiction)
  generalize bx = b3
  refine X.regionRd tsKwy rdKwy [3,8] [(3,.pointer (some ⟨b3,0,none⟩)),(8,.pointer (some ⟨b8,0,none⟩))] (valKwy b3 b8 R p (some ⟨b,0,none⟩) k ⟨x,m⟩ s nv fv rn rf fo.isSome) (rowsKwy b3 b8 R p (some ⟨b,0,none⟩) k ⟨x,m⟩ s nv fv rn rf fo.isSome) (fun _=>(0,0)) (⟨b8,0,cCm R p (some ⟨b,0,none⟩) k ⟨x,m⟩ s,some 129,10⟩::⟨b,0,(plcs R).flatMap cPk,some 101,k * 2⟩::⟨b3,0,cRm R p,some 26,5⟩::H) rfl mixed (by repeat (first | exact uU _ | refine uV rfl ?_)) rfl (by kernel_rfl) (by kernel_rfl) (locKwy b3 b8 R p (some ⟨b,0,none⟩) k ⟨x,m⟩ s nv fv rn rf fo.isSome) (qR _) ?_ ?_
  ·repeat' (first | exact AllF.done rfl | (refine AllF.step rfl ?_ ?_;·(first | exact (Ob.ng rfl (uK (fun env R hR=>by exact ⟨_,uM rfl rfl,rfl⟩) rfl (fun _=>rfl))).toR | exact (Ob.ng rfl (uK (fun env R hR=>by exact ⟨_,uA rfl rfl,rfl⟩) rfl (fun _=>rfl))).toR | exact (Ob.ng rfl (uK (fun env R hR=>by exact ⟨_,uF rfl rfl (te rfl) rfl (te rfl) (by decide),rfl⟩) rfl (fun _=>rfl))).toR | exact (Ob.ng rfl (uK (fun env R hR=>by exact ⟨_,uY rfl rfl (te rfl),rfl⟩) rfl (fun _=>rfl))).toR | exact (Ob.ng rfl (uK (fun env R hR=>by exact ⟨_,uL rfl rfl (uO (te rfl) rfl (hR _ (qT _ (qT _ (qH _)))) rfl),rfl⟩) rfl (fun _=>rfl))).toR | exact (Ob.ng rfl (uK (fun env R hR=>by exact ⟨_,uL rfl rfl (uW (te rfl) rfl (hR _ (qH _)) rfl),rfl⟩) rfl (fun _=>rfl))).toR | (refine ObR.ng rfl ?_;(first | (exact fun env S hS hrd=>(StF.ofEv (EvF.makeFunc (fl:=[.tmp 29]) rfl (Args.cons rfl Args.nil) Args.nil)).op.mono (fun v H' ⟨hv,hH⟩=>⟨(0,0),fun _=>hv,by rw [hH];exact List.Perm.refl _⟩))|(exact fun env S hS hrd=>(StF.ofEv (v := .bool fo.isSome) (uX rfl rfl rfl)).op.mono (fun v H' ⟨hv,hH⟩=>⟨(0,0),fun _=>hv,by rw [hH];exact List.Perm.refl _⟩))|(exact fun env S hS hrd=>(StF.ofEv (v:=fv (env 8)) (uX rfl rfl rfl)).op.mono (fun v H' ⟨hv,hH⟩=>⟨(0,0),fun _=>hv,by rw [hH];exact List.Perm.refl _⟩))|(exact fun env S hS hrd=>(OpF.call (uT rfl (Args.cons rfl (Args.cons rfl Args.nil))) (hnt S (hR.mats.sub (fun r h=>hS r (qT _ (qT _ (qT _ h))))))).mono (fun v H' ⟨Z,hZ,hH⟩=>by obtain ⟨q,h1,h3⟩:=hn1 _ _ hZ;exact ⟨q,fun _=>h1,by rw [hH,h3];exact List.Perm.refl _⟩))|((refine fun env S hS hrd=>?_;obtain ⟨al,cl,hal,hsl⟩:=hn2 (env 2) S (hrd 2 (qH _));have hca:=hft al cl b k S hsl ⟨hR.sub (fun r h=>hS r (qT _ (qT _ (qT _ h)))),SlE.ofRow (hS _ (qT _ (qH _))) (fun _ _=>rfl)⟩ hbk;rw [← hal] at hca;exact (OpF.call (uT rfl (Args.cons rfl (Args.cons rfl (Args.cons rfl Args.nil)))) hca).mono (fun v H' ⟨out,Z,hZ,hv,hH⟩=>by obtain ⟨q,h1,h3⟩:=hf1 _ _ hZ;exact ⟨q,fun _=>by rw [hv,h1];rfl,by rw [hH,h3];exact List.Perm.refl _⟩))))))))
  ·intro env t ha2 hv;refine ⟨_,(ha2.cons (hv 12 10 (Nat.le_of_ble_eq_true rfl) rfl)).cons (hv 13 11 (Nat.le_of_ble_eq_true rfl) rfl),?_⟩;clear hv ha2
   show X _ _ _ _ ((rn (env 2)++(rf (env 8)++[]))++⟨b8,0,cCm R p (some ⟨b,0,none⟩) k ⟨x,m⟩ s,some 129,10⟩::⟨b,0,(plcs R).flatMap cPk,some 101,k * 2⟩::⟨b3,0,cRm R p,some 26,5⟩::H) _
   obtain ⟨aw,cw,hvw,hsw⟩:=hf2 (env 8) (rf (env 8)++H) (fun r h=>List.mem_append_left _ h)
   rw [List.append_nil,List.append_assoc]
   refine X.weak (F' := [(10,.slice aw W.length cw)]) (H' := rf (env 8)++H) (by rw [← hvw];exact (by repeat (first | exact uU _ | refine uV rfl ?_))) ((List.Sublist.append (qR _) (by (repeat (first | exact qR _ | apply qC));done)).trans (List.sublist_append_right _ _)) ?_
   generalize rf (env 8)=Zw at hsw
   clear hvw env
   repeat' (first | (refine uP rfl ?_;(first | ((first | refine uN rfl ?_);(first | (refine uE (uM rfl rfl) rfl rfl ?_)|(refine uE (uA rfl rfl) rfl rfl ?_)))))|(refine uD rfl ?_;refine hK _ _ ?_;clear hK K) | refine uS rfl ?_ | refine uR rfl (fun K hK=>?_) | refine X.ret rfl ?_)
   exact ret_two (by simp) Try.results39 rfl rfl (H' := Zw++H) (qR _) ⟨aw,cw,Zw,rfl,hsw,rfl⟩
 ·have hy : whyF R x m = ([],e):=by unfold whyF;rw [if_neg (by rw [he];exact h0),he]
  rw [hy]
  refine Fc.mk (callable Try.call39) Try.func39 rfl Try.ntmps39 rfl ?_;dsimp only [fr]
  repeat' (first | (refine uP rfl ?_;(first | ((first | refine uN rfl ?_);(first | (refine uE (uL rfl rfl (uW (T:=26) (cs:=cRm R p) (te rfl) rfl (by repeat (first | exact qH _ | apply qT)) rfl)) rfl rfl ?_)|(refine uC (uT rfl (Args.cons rfl (Args.cons rfl (Args.cons rfl Args.nil)))) rfl rfl (claimedN R p x m e _ (hR.sub (fun _ h=>by repeat (first | exact h | apply qT))) h2 he h0) ?_;rintro _ H9 ⟨rfl,hH9⟩;subst H9)|(refine uE (uX rfl rfl rfl) rfl rfl ?_)|(refine Xg.st (StF.alloc rfl Try.zeroValue129 rfl) rfl rfl ?_;rintro _ _ ⟨b8,rfl,rfl⟩)|(refine Xg.st0 (uZ (i:=0) (vs:=zCm) rfl rfl rfl (te rfl) rfl rfl rfl rfl) rfl ?_;rintro _ _ ⟨rfl,rfl⟩;dsimp only [List.set])|(refine uE (uM rfl rfl) rfl rfl ?_)|(refine uE (uA rfl rfl) rfl rfl ?_)|(refine uE (uQ rfl rfl rfl rfl) rfl rfl ?_)|(refine Xg.st (StF.boxAgg rfl rfl) rfl rfl ?_;rintro _ _ ⟨bx,rfl,rfl⟩)))))|(refine uD rfl ?_;refine hK _ _ ?_;clear hK K) | refine uS rfl ?_ | refine uR rfl (fun K hK=>?_) | refine X.skip rfl ?_ | refine X.ret rfl ?_ | (refine X.ite rfl rfl (fun hc=>?_);(first | (with_reducible refine Xb.caseN hc (fun h=>?_) (fun h=>?_))) <;> clear hc))
  all_goals try (exfalso;simp_all;done)
  exact ret_two (by simp) Try.results39 rfl rfl (H' := H) (by (repeat (first | exact qR _ | apply qC));done) ⟨none,0,[],rfl,sleNil,rfl⟩
end Go.Proofs.Ytmfppdpkalelhaa
