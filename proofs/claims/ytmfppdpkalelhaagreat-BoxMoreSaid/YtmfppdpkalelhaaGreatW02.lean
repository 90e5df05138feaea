/- Own work: Own work: regions that draw their order, with guards and calls. No condition.; Own work: copy, clear, append of a make, literals of two, slices held against nil. No condition.; The program: number, id, Within, anyMonth, IndexFunc.; The program: Index, Contains, ContainsFunc, closures, Clone.; Own work: slices of slices, rows in another order. No condition.; The program: copied.; The program: Insert.; The program: Put of a list.; The program: DeleteFunc.; contracts of functions, from rows of what is known of the memory; The program: Numbers.; The program: hasAges.; The program: hasValidBoxes. -/
import Derived.Test.YtmfppdpkalelhaaGreatW01
import Derived.Lib.Overlaps
import Derived.Lib.AppendZerosOnto
section
set_option linter.unusedVariables false
namespace Go.Fw
open Go Go.RowKit
def bv : Value → Option Bool
 | .bool b=>some b
 | _=>none
theorem yielded_bv {ops : Array Oper} {t : List Value} {j d : Nat} {o : Oper} {v : Value} (ho : ops[j]? = some o) (hd : o.dst = some d) (hv : t[d]? = some v) : yielded ops t.toArray j = bv v:=by
 unfold yielded
 simp only [ho,Option.bind_some,hd,List.getElem?_toArray,hv]
 cases v <;> rfl
def okOp2 (ts : List TOp) (dom : List Nat) (n m : Nat) (i : Nat) (o : Oper) : Bool :=
 let T:=tAt ts i
 (match o.guard with | some (j,_)=>T.sup.contains j | none=>true) && (o.dst == T.dst) &&
 (match T.dst with | some d=>decide (d < n) && !dom.contains d && (List.range i).all (fun j=>(tAt ts j).dst != some d) | none=>true) &&
 o.after.toList.all (fun e => !Region.binds .any e || decide (e.on < i)) &&
 T.sup.all (fun j=>decide (j < i) && o.after.toList.any (fun e=>Region.binds .any e && (e.on == j || (tAt ts e.on).sup.contains j))) &&
 T.deps.all (fun j=>T.sup.contains j) && T.kills.all (fun k=>T.sup.contains k || decide (m ≤ k∧k < ts.length))
def okReg2 (ops : Array Oper) (ts : List TOp) (dom : List Nat) (n : Nat) : Bool :=
 decide (ops.size ≤ ts.length) && ops.toList.zipIdx.all (fun p=>okOp2 ts dom n ops.size p.2 p.1) && decide ((ts.flatMap (·.kills)).Nodup) && (ts.drop ops.size).all (fun T=>T.kills.isEmpty && T.sup.isEmpty)
/-- An operation, whatever it does: a value, a turn of the rows, or a call. -/
def OpF (P : Program) (n : Nat) (H : List Row) (F : FS) (o : Oper) (K : Value → List Row → Prop) : Prop := ∀ t,Ag n F t → ∀ ρ ds B w0 w,St B w0 H w → ∀ (k : Act → World → Prop) (Q : Exit → Act → World → Prop),
 (∀ v w' H',St B w0 H' w' → K v H' → k ⟨(put t o.dst v).toArray,ds⟩ w') → o.wpIn (wf ρ) 0 P ⟨t.toArray,ds⟩ w k Q
theorem StF.op {P : Program} {n : Nat} {H : List Row} {F : FS} {o : Oper} {K : Value → List Row → Prop} (h : StF P n H F o K) : OpF P n H F o K:=by
 intro t ha ρ ds B w0 w hS k Q hk
 unfold StF StepOp at h
 obtain ⟨v,w',H',hrun,hS',hK⟩:=h t ha B w0 w hS
 unfold Oper.wpIn
 refine ⟨fun _ _=>trivial,?_⟩
 rw [eval_ev]
 rcases hrun with hrun | ⟨hrun,rfl⟩
 ·rw [sem_value hrun,Oper.uponIn_value,put_act];exact hk v w' H' hS' hK
 ·rw [sem_skip hrun,Oper.uponIn_skip,put_act];exact hk undef w' H' hS' hK
theorem OpF.call {P : Program} {n : Nat} {H : List Row} {F : FS} {o : Oper} {f : FuncId} {args : List Value} {R : Value → List Row → Prop} (he : Callable P f → EnF P n H F o f args) (hf : Fc P f args H R) : OpF P n H F o R:=by
 intro t ha ρ ds B w0 w hS k Q hk
 unfold Fc at hf
 have h1:=he hf.1
 unfold EnF EnOp at h1
 unfold Oper.wpIn
 refine ⟨fun _ _=>trivial,?_⟩
 rw [eval_ev,sem_enter (h1 t ha B w0 w hS),Oper.uponIn_enter]
 refine ⟨(fun h=>by cases h),wf_calls.2 ((hf.2 B w0 w hS).mono ?_)⟩
 rintro e w' ⟨v,H',rfl,hR,hS'⟩
 simp only [put_act]
 exact hk v w' H' hS' hR
theorem OpF.mono {P : Program} {n : Nat} {H : List Row} {F : FS} {o : Oper} {K K' : Value → List Row → Prop} (h : OpF P n H F o K) (hk : ∀ v H',K v H' → K' v H') : OpF P n H F o K' :=
 fun t ha ρ ds B w0 w hS k Q hQ=>h t ha ρ ds B w0 w hS k Q (fun v w' H' hS' hK=>hQ v w' H' hS' (hk v H' hK))
theorem OpF.drop {P : Program} {n : Nat} {H : List Row} {F : FS} {o : Oper} {K K' : Value → List Row → Prop} (h : OpF P n H F o K) (hk : ∀ v H',K v H' → ∃ H'',H''.Sublist H'∧K' v H'') : OpF P n H F o K' :=
 fun t ha ρ ds B w0 w hS k Q hQ=>h t ha ρ ds B w0 w hS k Q (fun v w' H' hS' hK=>let ⟨H'',hs,hK'⟩:=hk v H' hK;hQ v w' H'' (hS'.sub hs) hK')
/-- a call whose result alone is kept -/
theorem OpF.callV {P : Program} {n : Nat} {Z R : List Row} {F : FS} {o : Oper} {f : FuncId} {args : List Value} {v0 : Value} {g : Nat × Nat → Value} {q : Prop} {rw' : Nat × Nat → List Row} (he : Callable P f → EnF P n (Z++R) F o f args) (hf : Fc P f args (Z++R) (fun v H' => v = v0∧H' = Z++R)) (hv : v0 = g (0,0)) (hr : rw' (0,0) = []) :
  OpF P n (Z++R) F o (fun u H' => ∃ p,(q → u = g p)∧H'.Perm (rw' p++R)) :=
 (OpF.call he hf).drop fun v H' ⟨h1,h2⟩=>⟨R,by rw [h2];exact List.sublist_append_right _ _,(0,0),fun _=>h1.trans hv,by rw [hr];exact List.Perm.refl _⟩
def gt (g : Bool) (v : Value) : Value:=match g with | true=>undef | false=>v
def gr (g : Bool) (l : List Row) : List Row:=match g with | true=>[] | false=>l
def Ob (P : Program) (n : Nat) (ts : List TOp) (val : Nat → Env → Value) (rows : Nat → Env → List Row) (F0 : FS) (R0 : List Row) (i : Nat) (o : Oper) : Prop :=
 ((o.guard = none ∨ ∃ j w,o.guard = some (j,w)∧(tAt ts j).dst ≠ none ∧ ∀ env,bv (val j env)=some w) ∧
  ∀ env R,(∀ r ∈ R0,r ∈ R) → OpF P n ((tAt ts i).kills.flatMap (fun k=>rows k env)++R) (fdeps ts val env F0 (tAt ts i).deps) o
   (fun v H' => ∃ p,((tAt ts i).dst ≠ none → v = val i (upd env i p))∧H'.Perm (rows i (upd env i p)++R))) ∨
 (∃ j w,o.guard = some (j,w)∧(tAt ts j).dst ≠ none∧(∀ env,bv (val j env) ≠ some w)∧(∀ env,(tAt ts i).kills.flatMap (fun k=>rows k env) = [])∧(∀ env,val i env = undef) ∧ ∀ env,rows i env = [])
def ObR (P : Program) (n : Nat) (ts : List TOp) (rd : Nat → List Nat) (val : Nat → Env → Value) (rows : Nat → Env → List Row) (F0 : FS) (R0 : List Row) (i : Nat) (o : Oper) : Prop :=
 ((o.guard = none ∨ ∃ j w,o.guard = some (j,w)∧(tAt ts j).dst ≠ none ∧ ∀ env,bv (val j env)=some w) ∧
  ∀ env R,(∀ r ∈ R0,r ∈ R) → (∀ k ∈ rd i,∀ r ∈ rows k env,r ∈ R) → OpF P n ((tAt ts i).kills.flatMap (fun k=>rows k env)++R) (fdeps ts val env F0 (tAt ts i).deps) o
   (fun v H' => ∃ p,((tAt ts i).dst ≠ none → v = val i (upd env i p))∧H'.Perm (rows i (upd env i p)++R))) ∨
 (∃ j w,o.guard = some (j,w)∧(tAt ts j).dst ≠ none∧(∀ env,bv (val j env) ≠ some w)∧(∀ env,(tAt ts i).kills.flatMap (fun k=>rows k env) = [])∧(∀ env,val i env = undef) ∧ ∀ env,rows i env = [])
theorem Ob.toR {P : Program} {n : Nat} {ts : List TOp} {rd : Nat → List Nat} {val : Nat → Env → Value} {rows : Nat → Env → List Row} {F0 : FS} {R0 : List Row} {i : Nat} {o : Oper} (h : Ob P n ts val rows F0 R0 i o) : ObR P n ts rd val rows F0 R0 i o:=by
 rcases h with ⟨h1,h2⟩ | h
 ·exact .inl ⟨h1,fun env R hR _=>h2 env R hR⟩
 ·exact .inr h
/-- what operations read, though others take it away: these come after -/
def okRd (ts : List TOp) (rd : Nat → List Nat) (m : Nat) : Bool :=
 (List.range m).all fun i=>(rd i).all fun k=>((tAt ts i).sup.contains k || decide (m ≤ k∧k < ts.length)) && !(tAt ts i).kills.contains k && (List.range m).all fun j => !(tAt ts j).kills.contains k || (tAt ts j).sup.contains i
theorem wpAny_ob {P : Program} {n : Nat} {ops : Array Oper} {ts : List TOp} {dom : List Nat} {F0 : FS} (hd : F0.map (·.1)=dom) (hok : okReg2 ops ts dom n = true) (rd : Nat → List Nat) (hrd : okRd ts rd ops.size = true) (val : Nat → Env → Value) (rows : Nat → Env → List Row)
  (hloc : ∀ k env i p,i ≠ k → (tAt ts k).sup.contains i = false → val k (upd env i p)=val k env∧rows k (upd env i p)=rows k env)
  (R0 : List Row) (hob : ∀ i o,opAt ops.toList i = some o → ObR P n ts rd val rows F0 R0 i o)
  {Q : QT} (hQ : ∀ env t,Ag n F0 t → (∀ i d,i < ops.size → (tAt ts i).dst = some d → t[d]? = some (val i env)) → Q .normal t ((alive ts).flatMap (fun k=>rows k env)++R0))
  {ρ : Option Nat} {ds : List Deferred} {B : Nat} {w0 : World} :
  ∀ (fuel : Nat) (listed : Array Bool) (U A : List Nat) (t : List Value) (H : List Row) (w : World) (env : Env),listed.size = ops.size → U.length = fuel → U.Nodup → (∀ k,k ∈ U ↔ k < ops.size∧listed.getD k true = false) →
   (∀ k,k < ops.size → listed.getD k true = true → ∀ j,(tAt ts k).sup.contains j = true → listed.getD j true = true) →
   A.Nodup → (∀ k,k ∈ A ↔ k < ts.length∧listed.getD k true = true ∧ ∀ j,j < ops.size → listed.getD j true = true → k ∉ (tAt ts j).kills) →
   Ag n F0 t → (∀ k d,k < ops.size → listed.getD k true = true → (tAt ts k).dst = some d → t[d]? = some (val k env)) →
   St B w0 H w → H.Perm (R0++A.flatMap (fun k=>rows k env)) → wpAnyIn (wf ρ) 0 P .any ops (lift ds B w0 Q) fuel listed ⟨t.toArray,ds⟩ w:=by
 unfold okReg2 at hok
 simp only [Bool.and_eq_true,decide_eq_true_eq] at hok
 obtain ⟨⟨⟨hlen,hops⟩,hkn⟩,hps⟩:=hok
 have hopAt : ∀ i o,ops[i]? = some o → okOp2 ts dom n ops.size i o = true:=by
  intro i o hi
  have:=List.all_eq_true.1 hops (o,i) (by
   rw [List.mem_zipIdx_iff_getElem?];simpa using hi)
  exact this
 intro fuel
 induction fuel with
 | zero =>
  intro listed U A t H w env hls hUl hUn hU hcl hAn hA hag hv hS hH
  have hU0 : U = []:=List.eq_nil_of_length_eq_zero hUl
  subst hU0
  have hall : ∀ k,listed.getD k true = true:=by
   intro k
   cases hk : listed.getD k true with
   | true=>rfl
   | false =>
    by_cases h1 : k < ops.size
    ·exact absurd ((hU k).2 ⟨h1,hk⟩) (by simp)
    ·rw [Array.getD_eq_getD_getElem?,Array.getElem?_eq_none (by omega)] at hk;cases hk
  refine ⟨?_,rfl,_,?_,hS.perm (H' := (alive ts).flatMap (fun k=>rows k env)++R0) ?_⟩
  ·unfold Region.ready
   rw [List.filter_eq_nil_iff]
   intro k _
   rw [hall];simp
  ·have:=hQ env t hag (fun i d hi hd=>hv i d hi (hall i) hd)
   simpa using this
  ·refine List.perm_append_comm.trans ((List.Perm.append_left R0 (List.Perm.flatMap_right _ ?_)).trans hH.symm)
   refine perm_of_mem ((List.nodup_range).sublist List.filter_sublist) hAn fun k=>?_
   rw [hA,alive,List.mem_filter,List.mem_range]
   simp only [hall,true_and,Bool.not_eq_true',List.contains_eq_mem,decide_eq_false_iff_not,true_implies]
   refine and_congr_right fun _=>⟨fun h j _ hj=>h (tAt_mem hj),fun h hm=>?_⟩
   obtain ⟨T,hT,hk⟩:=List.mem_flatMap.1 hm
   obtain ⟨j,hj,rfl⟩:=List.mem_iff_getElem.1 hT
   by_cases hj' : j < ops.size
   ·exact h j hj' (by unfold tAt;simp [List.getD,hj,hk])
   ·have:=List.all_eq_true.1 hps ts[j] (by
     rw [List.mem_iff_getElem?]
     exact ⟨j - ops.size,by rw [List.getElem?_drop,show ops.size + (j - ops.size)=j by omega,List.getElem?_eq_getElem hj]⟩)
    simp only [Bool.and_eq_true,List.isEmpty_iff] at this
    rw [this.1] at hk;cases hk
 | succ fuel ih =>
  intro listed U A t H w env hls hUl hUn hU hcl hAn hA hag hv hS hH
  have hge : ∀ k,ops.size ≤ k → listed.getD k true = true:=fun k hk=>by rw [Array.getD_eq_getD_getElem?,Array.getElem?_eq_none (by omega)];rfl
  have hgd : ∀ k,k < ops.size → listed.getD k false = listed.getD k true:=fun k hk=>by
   rw [Array.getD_eq_getD_getElem?,Array.getD_eq_getD_getElem?,Array.getElem?_eq_getElem (by omega)];rfl
  refine ⟨fun h0=>?_,fun i hi=>?_⟩
  ·exfalso
   have key : ∀ m,m ∈ U → False:=by
    intro m
    induction m using Nat.strongRecOn with
    | _ m ihm =>
     intro hm
     obtain ⟨hms,hml⟩:=(hU m).1 hm
     obtain ⟨o,ho⟩ : ∃ o,ops[m]? = some o:=⟨ops[m],Array.getElem?_eq_getElem hms⟩
     have hc:=hopAt m o ho
     unfold okOp2 at hc
     simp only [Bool.and_eq_true] at hc
     obtain ⟨⟨⟨⟨_,haf⟩,_⟩,_⟩,_⟩:=hc
     by_cases hal : o.after.all (fun e => !Region.binds .any e || listed.getD e.on false)=true
     ·have : m ∈ Region.ready .any ops listed:=by
       unfold Region.ready
       rw [List.mem_filter]
       refine ⟨List.mem_range.2 hms,?_⟩
       rw [hml,ho]
       simp only [Option.map_some,Option.getD_some,Bool.not_false,Bool.true_and]
       exact hal
      rw [h0] at this;cases this
     ·have : ∃ e ∈ o.after, ¬ ((!Region.binds .any e || listed.getD e.on false)=true):=by
       rw [Array.all_eq_true_iff_forall_mem] at hal
       simpa using hal
      obtain ⟨e,he,hne⟩:=this
      have h1:=List.all_eq_true.1 haf e (Array.mem_toList_iff.2 he)
      simp only [Bool.or_eq_true,Bool.not_eq_true',not_or,Bool.not_eq_false,Bool.not_eq_true] at hne h1
      have h2 : e.on < m:=by
       rcases h1 with h1 | h1
       ·rw [hne.1] at h1;cases h1
       ·simpa using h1
      refine ihm e.on h2 ((hU e.on).2 ⟨by omega,?_⟩)
      rw [← hgd e.on (by omega)];exact hne.2
   cases U with
   | nil=>simp at hUl
   | cons u U=>exact key u (List.mem_cons_self ..)
  ·unfold Region.ready at hi
   rw [List.mem_filter,List.mem_range] at hi
   obtain ⟨his,hi2⟩:=hi
   obtain ⟨o,ho⟩ : ∃ o,ops[i]? = some o:=⟨ops[i],Array.getElem?_eq_getElem his⟩
   simp only [ho,Option.map_some,Option.getD_some,Bool.and_eq_true,Bool.not_eq_true'] at hi2
   obtain ⟨hil,hia⟩:=hi2
   have hc:=hopAt i o ho
   unfold okOp2 at hc
   simp only [Bool.and_eq_true] at hc
   obtain ⟨⟨⟨⟨⟨⟨hgu,hdst⟩,hds⟩,haf⟩,hsup⟩,hdeps⟩,hkil⟩:=hc
   have hdst' : o.dst = (tAt ts i).dst:=by simpa using hdst
   rw [Array.all_eq_true_iff_forall_mem] at hia
   have hson : ∀ j,(tAt ts i).sup.contains j = true → j < i∧listed.getD j true = true:=by
    intro j hj
    have h1:=List.all_eq_true.1 hsup j (by simpa using hj)
    simp only [Bool.and_eq_true,decide_eq_true_eq,List.any_eq_true] at h1
    obtain ⟨hji,e,he',hb,h2⟩:=h1
    have he:=Array.mem_toList_iff.1 he'
    refine ⟨hji,?_⟩
    have h3:=hia e he
    rw [hb] at h3
    have h4:=List.all_eq_true.1 haf e he'
    rw [hb] at h4
    simp only [Bool.not_true,Bool.false_or,decide_eq_true_eq] at h3 h4
    rw [hgd e.on (by omega)] at h3
    simp only [Bool.or_eq_true,beq_iff_eq] at h2
    rcases h2 with h2 | h2
    ·rw [← h2];exact h3
    ·exact hcl e.on (by omega) h3 j h2
   have hks : ∀ k ∈ (tAt ts i).kills,k ∈ A:=by
    intro k hk
    rw [hA]
    have h1:=List.all_eq_true.1 hkil k hk
    simp only [Bool.or_eq_true,decide_eq_true_eq] at h1
    refine ⟨?_,?_,fun j hj hjl hkj=>?_⟩
    ·rcases h1 with h1 | h1
     ·have:=(hson k h1).1;omega
     ·omega
    ·rcases h1 with h1 | h1
     ·exact (hson k h1).2
     ·exact hge k h1.1
    ·have:=kills_once hkn hk hkj
     subst this
     rw [hil] at hjl;cases hjl
   have hkin : (tAt ts i).kills.Nodup:=by
    unfold tAt List.getD
    cases hti : ts[i]? with
    | none=>simp
    | some T =>
     simp only [Option.getD_some]
     exact kills_nodup hkn (List.mem_of_getElem? hti)
   obtain ⟨A',hp,hA'n,hA'm⟩:=take_out _ A hkin hAn hks
   have hH1 : ((tAt ts i).kills.flatMap (fun k=>rows k env)++(R0++A'.flatMap (fun k=>rows k env))).Perm H:=by
    refine List.Perm.trans ?_ hH.symm
    refine List.Perm.trans ?_ (List.Perm.append_left R0 (List.Perm.flatMap_right _ hp.symm))
    rw [List.flatMap_append, ← List.append_assoc, ← List.append_assoc]
    exact List.Perm.append_right _ List.perm_append_comm
   have hdp : ∀ k ∈ (tAt ts i).deps,∀ d,(tAt ts k).dst = some d → t[d]? = some (val k env):=by
    intro k hk d hd
    have h1:=List.all_eq_true.1 hdeps k hk
    obtain ⟨h2,h3⟩:=hson k h1
    exact hv k d (by omega) h3 hd
   have hst:=hob i o (by rw [opAt_eq];simpa using ho)
   have hreads : ∀ k ∈ rd i,∀ r ∈ rows k env,r ∈ R0++A'.flatMap (fun k=>rows k env):=by
    intro k hk r hr
    refine List.mem_append_right _ (List.mem_flatMap.2 ⟨k,?_,hr⟩)
    have h1:=List.all_eq_true.1 (List.all_eq_true.1 hrd i (List.mem_range.2 his)) k hk
    simp only [Bool.and_eq_true,Bool.or_eq_true,decide_eq_true_eq,Bool.not_eq_true'] at h1
    obtain ⟨⟨h1,h2⟩,h3⟩:=h1
    rw [hA'm,hA]
    refine ⟨⟨?_,?_,fun j hj hjl hkj=>?_⟩,by simpa using h2⟩
    ·rcases h1 with h1 | h1
     ·have:=(hson k h1).1;omega
     ·omega
    ·rcases h1 with h1 | h1
     ·exact (hson k h1).2
     ·exact hge k h1.1
    ·have h4:=List.all_eq_true.1 h3 j (List.mem_range.2 hj)
     simp only [Bool.or_eq_true,Bool.not_eq_true'] at h4
     rcases h4 with h4 | h4
     ·rw [List.contains_iff_mem.2 hkj] at h4;cases h4
     ·have:=hcl j hj hjl i h4
      rw [hil] at this;cases this
   have hyv : ∀ j ww,o.guard = some (j,ww) → (tAt ts j).dst ≠ none → yielded ops t.toArray j = bv (val j env):=by
    intro j ww hg hj
    rw [hg] at hgu
    obtain ⟨h1,h2⟩:=hson j hgu
    obtain ⟨d,hd'⟩:=Option.ne_none_iff_exists'.1 hj
    have hoj : ops[j]? = some ops[j]:=Array.getElem?_eq_getElem (by omega)
    have hcj:=hopAt j _ hoj
    unfold okOp2 at hcj
    simp only [Bool.and_eq_true] at hcj
    have hdj : (ops[j]).dst = (tAt ts j).dst:=by simpa using hcj.1.1.1.1.1.2
    exact yielded_bv hoj (by rw [hdj,hd']) (hv j d (by omega) h2 hd')
   have hnext : ∀ (v : Value) (w' : World) (H' : List Row),St B w0 H' w' → (∃ p,((tAt ts i).dst ≠ none → v = val i (upd env i p))∧H'.Perm (rows i (upd env i p)++(R0++A'.flatMap (fun k=>rows k env)))) → wpAnyIn (wf ρ) 0 P .any ops (lift ds B w0 Q) fuel (listed.setIfInBounds i true) ⟨(put t o.dst v).toArray,ds⟩ w' := by
    rintro v w' H' hS' ⟨p,hval,hH'⟩
    have hl' : ∀ k,(listed.setIfInBounds i true).getD k true = if k = i then true else listed.getD k true:=by
     intro k
     rw [Array.getD_eq_getD_getElem?,Array.getD_eq_getD_getElem?,Array.getElem?_setIfInBounds]
     by_cases hki : k = i
     ·subst hki;simp;split <;> rfl
     ·rw [if_neg (fun e=>hki e.symm),if_neg hki]
    have hnot : ∀ k,listed.getD k true = true → (tAt ts k).sup.contains i = false:=by
     intro k hk
     by_cases hks' : k < ops.size
     ·cases hcs : (tAt ts k).sup.contains i with
      | false=>rfl
      | true=>have:=hcl k hks' hk i hcs;rw [hil] at this;cases this
     ·by_cases hkt : k < ts.length
      ·have:=List.all_eq_true.1 hps ts[k] (by
        rw [List.mem_iff_getElem?]
        exact ⟨k - ops.size,by rw [List.getElem?_drop,show ops.size + (k - ops.size)=k by omega,List.getElem?_eq_getElem hkt]⟩)
       simp only [Bool.and_eq_true,List.isEmpty_iff] at this
       have e : tAt ts k = ts[k]:=by unfold tAt;simp [List.getD,hkt]
       rw [e,this.2];rfl
      ·have e : tAt ts k = ⟨none,[],[],[]⟩:=by unfold tAt;simp [List.getD,List.getElem?_eq_none (by omega : ts.length ≤ k)]
       rw [e];rfl
    have hiA : i ∉ A:=fun h=>by have:=((hA i).1 h).2.1;rw [hil] at this;cases this
    refine ih (listed.setIfInBounds i true) (U.erase i) (i::A') (put t o.dst v) H' w' (upd env i p) (by simpa using hls) ?_ (hUn.sublist List.erase_sublist) ?_ ?_ ?_ ?_ ?_ ?_ hS' ?_
    ·rw [List.length_erase_of_mem ((hU i).2 ⟨his,hil⟩)];omega
    ·intro k
     rw [hUn.mem_erase_iff,hU,hl']
     by_cases hki : k = i
     ·simp [hki]
     ·simp [hki]
    ·intro k hk hkl j hj
     rw [hl'] at hkl ⊢
     split
     ·rfl
     ·by_cases hki : k = i
      ·subst hki;exact (hson j hj).2
      ·rw [if_neg hki] at hkl;exact hcl k hk hkl j hj
    ·exact List.nodup_cons.2 ⟨fun h=>hiA ((hA'm i).1 h).1,hA'n⟩
    ·intro k
     rw [List.mem_cons,hA'm,hA,hl']
     by_cases hki : k = i
     ·subst hki
      simp only [true_or,if_true,true_and,true_iff]
      refine ⟨by omega,fun j hj hjl hkj=>?_⟩
      have h1 : ops[j]? = some ops[j]:=Array.getElem?_eq_getElem hj
      have hcj:=hopAt j _ h1
      unfold okOp2 at hcj
      simp only [Bool.and_eq_true] at hcj
      have h2:=List.all_eq_true.1 hcj.2 k hkj
      simp only [Bool.or_eq_true,decide_eq_true_eq] at h2
      rw [hl'] at hjl
      rcases h2 with h2 | h2
      ·by_cases hjk : j = k
       ·subst hjk;have:=(hson j h2).1;omega
       ·rw [if_neg hjk] at hjl
        have:=hcl j hj hjl k h2
        rw [hil] at this;cases this
      ·omega
     ·simp only [hki,false_or,if_false]
      constructor
      ·rintro ⟨⟨h1,h2,h3⟩,h4⟩
       refine ⟨h1,h2,fun j hj hjl=>?_⟩
       rw [hl'] at hjl
       by_cases hji : j = i
       ·subst hji;exact h4
       ·rw [if_neg hji] at hjl;exact h3 j hj hjl
      ·rintro ⟨h1,h2,h3⟩
       exact ⟨⟨h1,h2,fun j hj hjl=>h3 j hj (by rw [hl'];split;rfl;exact hjl)⟩,h3 i his (by rw [hl',if_pos rfl])⟩
    ·cases hdd : o.dst with
     | none=>exact hag
     | some d =>
      rw [hdst'] at hdd
      rw [hdd] at hds
      simp only [Bool.and_eq_true,decide_eq_true_eq,Bool.not_eq_true'] at hds
      refine ⟨by simpa [put] using hag.1,fun s u hs=>?_⟩
      have h1:=hag.2 s u hs
      simp only [put,List.getElem?_set]
      rw [if_neg]
      ·exact h1
      ·rintro rfl
       have : d ∈ dom:=by
        rw [← hd]
        exact lk_mem hs
       have h2:=hds.1.2
       simp [this] at h2
    ·intro k d hk hkl hkd
     rw [hl'] at hkl
     by_cases hki : k = i
     ·subst hki
      rw [hdst',hkd]
      rw [hkd] at hds
      simp only [Bool.and_eq_true,decide_eq_true_eq] at hds
      simp only [put,List.getElem?_set,if_true]
      rw [if_pos (by rw [hag.1];exact hds.1.1),hval (by rw [hkd];simp)]
     ·rw [if_neg hki] at hkl
      rw [(hloc k env i p (fun e=>hki e.symm) (hnot k hkl)).1]
      have h1:=hv k d hk hkl hkd
      cases hdd : o.dst with
      | none=>exact h1
      | some d' =>
       simp only [put,List.getElem?_set]
       rw [if_neg]
       ·exact h1
       ·rintro rfl
        rw [hdst'] at hdd
        rcases Nat.lt_or_gt_of_ne hki with hlt | hlt
        ·rw [hdd] at hds
         simp only [Bool.and_eq_true] at hds
         have:=List.all_eq_true.1 hds.2 k (List.mem_range.2 hlt)
         simp [hkd] at this
        ·have hck:=hopAt k _ (Array.getElem?_eq_getElem hk)
         unfold okOp2 at hck
         simp only [Bool.and_eq_true] at hck
         have hdk:=hck.1.1.1.1.2
         rw [hkd] at hdk
         simp only [Bool.and_eq_true] at hdk
         have:=List.all_eq_true.1 hdk.2 i (List.mem_range.2 hlt)
         simp [hdd] at this
    ·refine hH'.trans ?_
     have e : A'.flatMap (fun k=>rows k (upd env i p)) = A'.flatMap (fun k=>rows k env):=by
      have : ∀ k ∈ A',rows k (upd env i p)=rows k env:=fun k hk=>by
       have h1:=(hA'm k).1 hk
       have h2:=((hA k).1 h1.1).2.1
       exact (hloc k env i p (fun e=>hiA (e ▸ h1.1)) (hnot k h2)).2
      exact flatMap_congr' this
     rw [List.flatMap_cons,e, ← List.append_assoc, ← List.append_assoc]
     exact List.Perm.append_right _ List.perm_append_comm
   unfold wpOpIn
   simp only [ho]
   rcases hst with ⟨hgr,hst⟩ | ⟨j,ww,hg,hj,hbv,hki,hvi,hri⟩
   ·have hwant : Region.wanted o (yielded ops t.toArray)=true:=by
     unfold Region.wanted
     rcases hgr with hgr | ⟨j,ww,hg,hj,hb⟩
     ·rw [hgr]
     ·rw [hg];simp only [hyv j ww hg hj,hb];simp
    simp only [hwant,if_true]
    exact hst env (R0++A'.flatMap (fun k=>rows k env)) (fun r hr=>List.mem_append_left _ hr) hreads t (ag_fdeps hag _ hdp) ρ ds B w0 w (hS.perm hH1) _ _ hnext
   ·have hwant : Region.wanted o (yielded ops t.toArray)=false:=by
     unfold Region.wanted
     rw [hg];simp only [hyv j ww hg hj]
     simpa using hbv env
    simp only [hwant,Bool.false_eq_true,if_false]
    rw [put_act]
    refine ⟨fun _ _=>trivial,hnext undef w _ hS ⟨(0,0),fun _=>(hvi _).symm,?_⟩⟩
    --,fun _=>(hvi _).symm,?_⟩
    rw [hri,List.nil_append]
    rw [hki] at hH1
    simpa using hH1.symm
theorem X.regionRd {P : Program} {n : Nat} {c : Code} {F : FS} {H : List Row} {Q : QX} (ts : List TOp) (rd : Nat → List Nat) (dom : List Nat) (F0 : FS) (val : Nat → Env → Value) (rows : Nat → Env → List Row) (env0 : Env) (R0 : List Row)
  (h : c = .region (cid c) (cops c) true) (hm : P.follows .mixedOrders = true) (hsub : Sub F0 F) (hd : F0.map (·.1)=dom) (hok : okReg2 (cops c) ts dom n = true) (hrd : okRd ts rd (cops c).size = true)
  (hloc : ∀ k env i p,i ≠ k → (tAt ts k).sup.contains i = false → val k (upd env i p)=val k env∧rows k (upd env i p)=rows k env)
  (hH : (((List.range ts.length).drop (cops c).size).flatMap (fun k=>rows k env0)++R0).Sublist H)
  (hob' : AllF (cops c).toList 0 fun i o=>ObR P n ts rd val rows F0 R0 i o)
  (hQ : ∀ env t,Ag n F0 t → (∀ i d,i < (cops c).size → (tAt ts i).dst = some d → t[d]? = some (val i env)) → exQ n Q .normal t ((alive ts).flatMap (fun k=>rows k env)++R0)) : X P n c F H Q:=by
 have hob:=fun i o ho=>hob' i o (Nat.zero_le i) ho
 unfold X W
 intro t ha ρ ds B w0 w hS
 rw [h]
 refine wpIn_region_any hm ?_
 have hlen : (cops c).size ≤ ts.length:=by
  have:=hok
  unfold okReg2 at this
  simp only [Bool.and_eq_true,decide_eq_true_eq] at this
  exact this.1.1.1
 have hl : ∀ k d,(Array.replicate (cops c).size false).getD k d = if k < (cops c).size then false else d:=by
  intro k d
  rw [Array.getD_eq_getD_getElem?,Array.getElem?_replicate]
  split <;> rfl
 have hdm : ∀ k,k ∈ (List.range ts.length).drop (cops c).size ↔ (cops c).size ≤ k∧k < ts.length:=by
  intro k
  rw [List.mem_iff_getElem?]
  constructor
  ·rintro ⟨j,hj⟩
   rw [List.getElem?_drop] at hj
   have:=List.getElem?_eq_some_iff.1 hj
   obtain ⟨h1,h2⟩:=this
   simp at h1 h2
   omega
  ·rintro ⟨h1,h2⟩
   exact ⟨k - (cops c).size,by rw [List.getElem?_drop,show (cops c).size + (k - (cops c).size)=k by omega,List.getElem?_range h2]⟩
 refine wpAny_ob hd hok rd hrd val rows hloc R0 hob hQ (cops c).size _ (List.range (cops c).size) ((List.range ts.length).drop (cops c).size) t _ _ env0 (by simp) (by simp) List.nodup_range ?_ ?_ ((List.nodup_range).sublist (List.drop_sublist _ _)) ?_ (ha.sub hsub) ?_ ((hS.drewN 1).sub hH) List.perm_append_comm
 ·intro k
  rw [List.mem_range,hl]
  by_cases hk : k < (cops c).size <;> simp [hk]
 ·intro k hk hkl
  rw [hl,if_pos hk] at hkl
  cases hkl
 ·intro k
  rw [hdm,hl]
  constructor
  ·rintro ⟨h1,h2⟩
   refine ⟨h2,by rw [if_neg (by omega)],fun j hj hjl=>?_⟩
   rw [hl,if_pos hj] at hjl
   cases hjl
  ·rintro ⟨h1,h2,_⟩
   refine ⟨?_,h1⟩
   by_cases hk : k < (cops c).size
   ·rw [if_pos hk] at h2;cases h2
   ·omega
 ·intro k d hk hkl
  rw [hl,if_pos hk] at hkl
  cases hkl
theorem X.regionOb {P : Program} {n : Nat} {c : Code} {F : FS} {H : List Row} {Q : QX} (ts : List TOp) (dom : List Nat) (F0 : FS) (val : Nat → Env → Value) (rows : Nat → Env → List Row) (env0 : Env) (R0 : List Row)
  (h : c = .region (cid c) (cops c) true) (hm : P.follows .mixedOrders = true) (hsub : Sub F0 F) (hd : F0.map (·.1)=dom) (hok : okReg2 (cops c) ts dom n = true)
  (hloc : ∀ k env i p,i ≠ k → (tAt ts k).sup.contains i = false → val k (upd env i p)=val k env∧rows k (upd env i p)=rows k env)
  (hH : (((List.range ts.length).drop (cops c).size).flatMap (fun k=>rows k env0)++R0).Sublist H)
  (hob' : AllF (cops c).toList 0 fun i o=>Ob P n ts val rows F0 R0 i o)
  (hQ : ∀ env t,Ag n F0 t → (∀ i d,i < (cops c).size → (tAt ts i).dst = some d → t[d]? = some (val i env)) → exQ n Q .normal t ((alive ts).flatMap (fun k=>rows k env)++R0)) : X P n c F H Q:=by
 refine X.regionRd ts (fun _=>[]) dom F0 val rows env0 R0 h hm hsub hd hok (by unfold okRd;simp) hloc hH (fun j o hj ho=>(hob' j o hj ho).toR) hQ
section
variable {P : Program} {n : Nat} {ts : List TOp} {val : Nat → Env → Value} {rows : Nat → Env → List Row} {F0 : FS} {R0 : List Row} {i : Nat} {o : Oper}
abbrev ObK (P : Program) (n : Nat) (ts : List TOp) (val : Nat → Env → Value) (rows : Nat → Env → List Row) (F0 : FS) (R0 : List Row) (i : Nat) (o : Oper) : Prop := ∀ env R,(∀ r ∈ R0,r ∈ R) → OpF P n ((tAt ts i).kills.flatMap (fun k=>rows k env)++R) (fdeps ts val env F0 (tAt ts i).deps) o
   (fun v H' => ∃ p,((tAt ts i).dst ≠ none → v = val i (upd env i p))∧H'.Perm (rows i (upd env i p)++R))
abbrev ObKR (P : Program) (n : Nat) (ts : List TOp) (rd : Nat → List Nat) (val : Nat → Env → Value) (rows : Nat → Env → List Row) (F0 : FS) (R0 : List Row) (i : Nat) (o : Oper) : Prop := ∀ env R,(∀ r ∈ R0,r ∈ R) → (∀ k ∈ rd i,∀ r ∈ rows k env,r ∈ R) → OpF P n ((tAt ts i).kills.flatMap (fun k=>rows k env)++R) (fdeps ts val env F0 (tAt ts i).deps) o
   (fun v H' => ∃ p,((tAt ts i).dst ≠ none → v = val i (upd env i p))∧H'.Perm (rows i (upd env i p)++R))
theorem ObR.ng {rd : Nat → List Nat} (hg : o.guard = none) (h : ObKR P n ts rd val rows F0 R0 i o) : ObR P n ts rd val rows F0 R0 i o := .inl ⟨.inl hg,h⟩
theorem Ob.ng (hg : o.guard = none) (h : ObK P n ts val rows F0 R0 i o) : Ob P n ts val rows F0 R0 i o := .inl ⟨.inl hg,h⟩
theorem Ob.g {j : Nat} {w : Bool} (hg : o.guard = some (j,w)) (hj : (tAt ts j).dst.isSome = true) (hb : ∀ env,bv (val j env)=some w) (h : ObK P n ts val rows F0 R0 i o) : Ob P n ts val rows F0 R0 i o :=
 .inl ⟨.inr ⟨j,w,hg,(fun e=>by rw [e] at hj;cases hj),hb⟩,h⟩
theorem Ob.sk {j : Nat} {w : Bool} (hg : o.guard = some (j,w)) (hj : (tAt ts j).dst.isSome = true) (hb : ∀ env,(bv (val j env) == some w)=false) (hk : ∀ env,(tAt ts i).kills.flatMap (fun k=>rows k env) = []) (hv : ∀ env,val i env = undef) (hr : ∀ env,rows i env = []) : Ob P n ts val rows F0 R0 i o :=
 .inr ⟨j,w,hg,(fun e=>by rw [e] at hj;cases hj),(fun env e=>by have:=hb env;rw [e] at this;simp at this),hk,hv,hr⟩
/-- what only reads -/
theorem ObK.pure (he : ∀ env R,(∀ r ∈ R0,r ∈ R) → ∃ v,EvF P n ((tAt ts i).kills.flatMap (fun k=>rows k env)++R) (fdeps ts val env F0 (tAt ts i).deps) o v∧v = val i (upd env i (0,0))) (hk : (tAt ts i).kills = []) (hr : ∀ env,rows i (upd env i (0,0)) = []) : ObK P n ts val rows F0 R0 i o:=by
 intro env R hR
 obtain ⟨v,hv,he'⟩:=he env R hR
 refine (StF.ofEv hv).op.mono ?_
 rintro u H' ⟨rfl,rfl⟩
 exact ⟨(0,0),fun _=>he',by rw [hr,hk];exact List.Perm.refl _⟩
end
end Go.Fw
end
section
set_option linter.unusedVariables false
namespace Go.Fw
open Go Go.RowKit
section
variable {P : Program} {n : Nat} {ops : Array Oper} {i : Nat} {o : Oper} {F : FS} {H : List Row}
/-- a slice that has an address, held against nil -/
theorem EvF.eqNil {T T' e : TypeId} {x : Operand} {ad : Addr} {len cap s y : Nat} (h : o.op = .binOp .eql T x (.const (.slice none 0 0)) T') (hx : evF F x = some (.slice (some ad) len cap)) (hT : tiOf P T = some ⟨.sl e,s,y⟩) : EvF P n H F o (.bool false):=by
 unfold EvF EvOp
 intro t ha B w0 w hS
 have hu:=ti_slice hT
 have h1 : (binOp .eql T (.slice (some ad) len cap) (.slice none 0 0)).run P w = .ok (.bool false) w:=by
  show Sem.run P (do pure (Value.bool (← Op.equalIn 10000 T (.slice (some ad) len cap) (.slice none 0 0)))) w = _
  rw [show (10000 : Nat)=9999 + 1 from rfl]
  unfold Op.equalIn
  simp [underlying,hu]
 have hxv:=ha.ev hx
 simp [execOp,h,hxv,show Fw.ev t (.const (.slice none 0 0)) = .slice none 0 0 from rfl,eqGuard,h1]
theorem EvF.capSlice {T e : TypeId} {x : Operand} {a : Option Addr} {len cap s y : Nat} (h : o.op = .call { callee := .builtin .cap,args := #[x],argTypes := #[T] }) (hx : evF F x = some (.slice a len cap))
  (hT : tiOf P T = some ⟨.sl e,s,y⟩) : EvF P n H F o (.int .i64 cap):=by
 unfold EvF EvOp
 intro t ha B w0 w hS
 simp [execOp,h,ha.ev hx,resolve,invoke,builtin,Builtin.cap_,underlying,ti_slice hT,goInt]
theorem loadCells_rd {B : Nat} {w0 w : World} {a : Addr} {vs : List Value} (h : Rd H a vs) (hS : St B w0 H w) : (loadCells a vs.length).run P w = .ok vs.toArray w:=run_loadCells_list (P:=P) (w:=w) a vs (h.cell hS)
/-- copy into a row of one's own -/
theorem StF.copyOwn {T e : TypeId} {x y : Operand} {sz by' q b j dLen dCap sLen sCap m cap : Nat} {a : Addr} {cs vs : List Value} (h : o.op = .call { callee := .builtin .copy,args := #[x,y],argTypes := #[T,T] }) (hT : ElT P T e sz by')
  (hx : evF F x = some (.slice (some ⟨b,j,none⟩) dLen dCap)) (hy : evF F y = some (.slice (some a) sLen sCap)) (hi : H[q]? = some ⟨b,0,cs,some e,cap⟩) (hm : Nat.min sLen dLen = m) (hn : vs.length = m * sz) (hr : Rd H a vs) (h1 : vs.all (·.oneCell') = true) (hl : j + vs.length ≤ cs.length) :
  StF P n H F o (fun v H' => v = .int .i64 m∧H' = H.set q ⟨b,0,splice cs j vs,some e,cap⟩):=by
 unfold StF StepOp
 intro t ha B w0 w hS
 obtain ⟨w',hst,hS'⟩:=store_cells (P:=P) vs cs H w j 0 hS hi (fun v hv=>List.all_eq_true.1 h1 v hv) (by omega)
 refine ⟨.int .i64 m,w',_,.inl ?_,hS',rfl,rfl⟩
 have hld:=loadCells_rd (P:=P) hr hS
 rw [hn] at hld
 simp [execOp,h,ha.ev hx,ha.ev hy,resolve,invoke,builtin,Builtin.copy_,hT.un,hT.sz,Builtin.lenOf,Builtin.firstCells,hm,hld,hst,goInt]
/-- what is known of a row may be forgotten from some cell on -/
theorem St.forget {B : Nat} {w0 w : World} (hS : St B w0 H w) {q b cap : Nat} {el : TypeId} {cs cs' : List Value} (hi : H[q]? = some ⟨b,0,cs++cs',some el,cap⟩) : St B w0 (H.set q ⟨b,0,cs,some el,cap⟩) w:=by
 refine ⟨hS.below,hS.size,fun r hr=>?_,pairwise_set H q _ _ hi (fun s k ho=>k ho) (fun s k ho=>k ho) hS.sep⟩
 rcases List.mem_or_eq_of_mem_set hr with hr | rfl
 ·exact hS.ok r hr
 ·obtain ⟨h1,h2,rest,h3,h4⟩:=hS.ok _ (List.mem_of_getElem? hi)
  exact ⟨h1,h2,cs'++rest,by rw [← List.append_assoc];exact h3,by rw [← List.append_assoc];exact h4⟩
theorem X.forget {c : Code} {Q : QX} {q b cap : Nat} {el : TypeId} {cs cs' : List Value} (hi : H[q]? = some ⟨b,0,cs++cs',some el,cap⟩) (k : X P n c F (H.set q ⟨b,0,cs,some el,cap⟩) Q) : X P n c F H Q:=by
 unfold X W at *
 intro t ha ρ ds B w0 w hS
 exact k t ha ρ ds B w0 w (hS.forget hi)
/-- all cells of a row -/
theorem St.reveal {B : Nat} {w0 w : World} (hS : St B w0 H w) {q b cap : Nat} {el : TypeId} {cs : List Value} (hi : H[q]? = some ⟨b,0,cs,some el,cap⟩) : ∃ rest,(cs++rest).length = cap∧St B w0 (H.set q ⟨b,0,cs++rest,some el,cap⟩) w:=by
 obtain ⟨h1,h2,rest,h3,h4⟩:=hS.ok _ (List.mem_of_getElem? hi)
 refine ⟨rest,h4,hS.below,hS.size,fun r hr=>?_,pairwise_set H q _ _ hi (fun s k ho=>k ho) (fun s k ho=>k ho) hS.sep⟩
 rcases List.mem_or_eq_of_mem_set hr with hr | rfl
 ·exact hS.ok r hr
 ·exact ⟨h1,h2,[],by simpa using h3,by simpa using h4⟩
theorem X.reveal {c : Code} {Q : QX} {q b cap : Nat} {el : TypeId} {cs : List Value} (hi : H[q]? = some ⟨b,0,cs,some el,cap⟩) (k : ∀ rest,(cs++rest).length = cap → X P n c F (H.set q ⟨b,0,cs++rest,some el,cap⟩) Q) : X P n c F H Q:=by
 unfold X W at *
 intro t ha ρ ds B w0 w hS
 obtain ⟨rest,hl,hS'⟩:=hS.reveal hi
 exact k rest hl t ha ρ ds B w0 w hS'
/-- append of a make, where there is no room -/
theorem StF.appendMake {T TI e : TypeId} {x y : Operand} {kn : IntKind} {sz by' b k cap q s y' : Nat} {xs : List Value} (h : o.op = .call { callee := .builtin .append,args := #[x,y],argTypes := #[T,TI] }) (hT : ElT P T e sz by') (hI : tiOf P TI = some ⟨.int kn,s,y'⟩)
  (hx : evF F x = some (.slice (some ⟨b,0,none⟩) k cap)) (hy : evF F y = some (.int .i64 (q : Int))) (hr : Rd H ⟨b,0,none⟩ xs) (hxs : xs.length = k * sz) (hz : 0 < sz) (hq : 0 < q) (hg : cap < k + q) (hbig : (k + q) * (by' + 1)≤140737488355328) :
  StF P n H F o (fun v H' => ∃ b' cap' zs,v = .slice (some ⟨b',0,none⟩) (k + q) cap'∧zs.length = q * sz∧k + q ≤ cap'∧H' = ⟨b',0,xs++zs,some e,cap' * sz⟩::H):=by
 unfold StF StepOp
 intro t ha B w0 w hS
 obtain ⟨ht,inf,z,hinf,hzz,rfl,rfl,hzs⟩:=hT
 have htn : ∃ kn,P.underlying TI = some (.int kn):=by
  obtain ⟨i,d,hi,hd,hk,_⟩:=ti_spec hI
  cases d <;> simp only [tkOf,reduceCtorEq,TK.int.injEq] at hk
  exact ⟨_,hd⟩
 obtain ⟨kn',htn⟩:=htn
 have hb0 : k + q ≤ 140737488355328:=Nat.le_trans (Nat.le_mul_of_pos_right _ (Nat.succ_pos _)) hbig
 have hb1 : (k + q) * inf.bytes ≤ 140737488355328:=Nat.le_trans (Nat.mul_le_mul_left _ (Nat.le_succ _)) hbig
 have hb2 : q * inf.bytes ≤ 281474976710656:=Nat.le_trans (Nat.mul_le_mul_right _ (by omega : q ≤ k + q)) (by omega)
 have hold : (Builtin.firstCells inf.size k (.slice (some ⟨b,0,none⟩) k cap)).run P w.drew = .ok xs.toArray w.drew:=by
  have:=loadCells_rd (P:=P) hr (hS.drewN 1)
  rw [hxs] at this
  exact this
 have hrun:=Lib.run_append_grow_zeros (P:=P) w T TI o.type e inf z .i64 kn' ht htn hinf hzz (some ⟨b,0,none⟩) k cap xs hold q hq hz hg (by omega) hb2 (growslice_fits (by omega) hb1)
 have hge:=grownCap_ge w (k + q) cap e
 have hS2:=(hS.drewN 1).allocPre (xs++(Builtin.zeroCells z.cells q).toList) (Builtin.zeroCells z.cells (grownCap w (k + q) cap e - (k + q))).toList e
 refine ⟨_,w.drew.alloc (.cells (xs.toArray++Builtin.zeroCells z.cells q++Builtin.zeroCells z.cells (grownCap w (k + q) cap e - (k + q))) e),_,.inl ?_,?_,w.heap.size,grownCap w (k + q) cap e,(Builtin.zeroCells z.cells q).toList,rfl,?_,hge,rfl⟩
 ·simp [execOp,h,ha.ev hx,ha.ev hy,resolve,invoke,builtin,hrun]
 ·have e3 : (xs++(Builtin.zeroCells z.cells q).toList++(Builtin.zeroCells z.cells (grownCap w (k + q) cap e - (k + q))).toList).length = grownCap w (k + q) cap e * inf.size:=by
   simp only [List.length_append,Array.length_toList,size_zeroCells,hzs,hxs, ← Nat.add_mul]
   congr 1;omega
  rw [e3] at hS2
  have e4 : (xs++(Builtin.zeroCells z.cells q).toList++(Builtin.zeroCells z.cells (grownCap w (k + q) cap e - (k + q))).toList).toArray = xs.toArray++Builtin.zeroCells z.cells q++Builtin.zeroCells z.cells (grownCap w (k + q) cap e - (k + q)):=by
   apply Array.ext';simp
  rw [e4] at hS2
  exact hS2
 ·rw [Array.length_toList,size_zeroCells,hzs]
/-- slices of two blocks of one's own do not overlap -/
theorem StF.apart {T TR e : TypeId} {f : FuncId} {fn : Func} {x y : Operand} {tys : Array TypeId} {sz by' p q a b j la ca lb cb capA capB : Nat} {csA csB : List Value} {elA elB : TypeId} (h : o.op = .call { callee := .value (.func f),args := #[x,y],argTypes:=tys })
  (hf : P.funcs[f]? = some fn) (hname : (fn.name == "runtime.NumGoroutine") = false) (hb : fn.body.isNone = true) (hn : Extern.findNext fn = none) (hE : Extern.find fn = some (Extern.SlicesOverlaps.overlaps #[T,T] #[TR])) (hT : ElT P T e sz by')
  (hx : evF F x = some (.slice (some ⟨a,0,none⟩) la ca)) (hy : evF F y = some (.slice (some ⟨b,j,none⟩) lb cb)) (hp : H[p]? = some ⟨a,0,csA,some elA,capA⟩) (hq : H[q]? = some ⟨b,0,csB,some elB,capB⟩) (hpq : p ≠ q) (hc : capB ≠ 0) :
  StF P n H F o (fun v H' => v = .bool false∧H' = H):=by
 unfold StF StepOp
 intro t ha B w0 w hS
 refine ⟨.bool false,w,H,.inl ?_,hS,rfl,rfl⟩
 obtain ⟨_,_,rA,hA,hAl⟩:=hS.ok _ (List.mem_of_getElem? hp)
 obtain ⟨_,_,rB,hB,hBl⟩:=hS.ok _ (List.mem_of_getElem? hq)
 have hne : a ≠ b:=fun e=>(sep_other hS.sep hp hq hpq rfl) e.symm
 dsimp only at hA hAl hB hBl
 have hov:=Lib.run_overlaps_apart (P:=P) w T TR e hT.t sz hT.sz ⟨a,0,none⟩ ⟨b,j,none⟩ la ca lb cb hne elA elB capA capB (by unfold World.shape?;rw [hA];simp [← hAl]) (by unfold World.shape?;rw [hB];simp [← hBl]) hc
  (by unfold World.frozen?;simp [hA]) (by unfold World.frozen?;simp [hA])
 have hcall:=run_callFunc_extern (P:=P) hf hname hb hn hE #[.slice (some ⟨a,0,none⟩) la ca,.slice (some ⟨b,j,none⟩) lb cb] w
 rw [hov] at hcall
 have hcall' : (callFunc f #[.slice (some ⟨a,0,none⟩) la ca,.slice (some ⟨b,j,none⟩) lb cb]).run P w = .ok (.value (.bool false)) w:=hcall
 have hxv:=ha.ev hx
 have hyv:=ha.ev hy
 simp [execOp,h,hxv,hyv,show Fw.ev t (.func f) = .func (.func f) #[] #[] from rfl,resolve,Deferred.ofValue,invoke,hcall']
/-- a literal of two -/
theorem StF.buildTwo {T e : TypeId} {x y : Operand} {sz y' : Nat} {v0 v1 : Value} {cs ds : List Value} (h : o.op = .buildSlice T 2 #[(0,x),(1,y)]) (hT : ElT P T e sz y') (hx : evF F x = some v0) (hy : evF F y = some v1) (hc : v0.cells.toList = cs) (hd : v1.cells.toList = ds) (hl : cs.length = sz) (hl' : ds.length = sz) (hz : 0 < sz) (hz' : 2 * sz ≤ 16777216) :
  StF P n H F o (fun v H' => ∃ b,v = .slice (some ⟨b,0,none⟩) 2 2∧H' = ⟨b,0,cs++ds,some e,2 * sz⟩::H):=by
 unfold StF StepOp
 intro t ha B w0 w hS
 obtain ⟨z,hzs,hzr⟩:=hT.zero
 have hS' := hS.alloc (cs++ds) e
 refine ⟨.slice (some ⟨w.heap.size,0,none⟩) 2 2,_,_,.inl ?_,hS',_,rfl,by rw [List.length_append,hl,hl'];congr 2;omega⟩
 have hf:=fill_eq (fun i=>some (i * sz,sz)) [(0,v0),(1,v1)] ((Array.range (2 * sz)).map (z.cells[·% z.cells.size]!)) (cs++ds) (by
  simp only [fillL,Nat.zero_mul,Nat.zero_add,Nat.one_mul,hc,hd,hl,hl',Nat.beq_refl,Array.length_toList,Array.size_map,Array.size_range]
  rw [show Nat.ble sz (2 * sz)=true by rw [Nat.ble_eq];omega]
  simp only [splice,List.take_zero,List.nil_append,Nat.zero_add,hl]
  rw [show Nat.ble (sz + sz) (cs++List.drop sz (Array.map (fun x=>z.cells[x % z.cells.size]!) (Array.range (2 * sz))).toList).length = true by
   rw [Nat.ble_eq];simp [hl];omega]
  simp only [Option.some.injEq]
  rw [show List.take sz (cs++List.drop sz (Array.map (fun x=>z.cells[x % z.cells.size]!) (Array.range (2 * sz))).toList)=cs by rw [← hl,List.take_left]]
  rw [List.drop_eq_nil_of_le (by simp [hl,hl'];omega),List.append_nil])
 have h0 : ¬ (sz = 0):=by omega
 have h1 : ¬ (16777216 < 2 * sz):=by omega
 simp [execOp,h,Instr.buildSlice,hT.un,hT.sz,hzr,ha.ev hx,ha.ev hy,h1,hf,newRow,newObj,Sem.run,World.alloc_eq]
 intro h2;omega
theorem zero_one {z : Value} (h : z.cells.all (·.oneCell') = true) (m : Nat) : ∀ v ∈ (Builtin.zeroCells z.cells m).toList,v.oneCell' = true:=by
 intro v hv
 unfold Builtin.zeroCells at hv
 simp only [Array.toList_map,List.mem_map,Array.toList_range,List.mem_range] at hv
 obtain ⟨k,hk,rfl⟩:=hv
 have h0 : 0 < z.cells.size:=by
  rcases Nat.eq_zero_or_pos z.cells.size with h0 | h0
  ·rw [h0,Nat.mul_zero] at hk;omega
  ·exact h0
 have hlt : k % z.cells.size < z.cells.size:=Nat.mod_lt _ h0
 rw [getElem!_pos z.cells _ hlt]
 exact Array.all_eq_true_iff_forall_mem.1 h _ (Array.getElem_mem hlt)
/-- clear of a part of a row of one's own -/
theorem StF.clear {T e : TypeId} {x : Operand} {sz by' q b j m c cap : Nat} {cs : List Value} (h : o.op = .call { callee := .builtin .clear,args := #[x],argTypes := #[T] }) (hT : ElT P T e sz by')
  (hx : evF F x = some (.slice (some ⟨b,j,none⟩) m c)) (hi : H[q]? = some ⟨b,0,cs,some e,cap⟩) (hl : j + m * sz ≤ cs.length) (hone : ∀ (z : Value) (w : World),(zeroValue e).run P w = .ok z w → z.cells.all (·.oneCell') = true) :
  StF P n H F o (fun _ H' => ∃ zs,zs.length = m * sz∧H' = H.set q ⟨b,0,splice cs j zs,some e,cap⟩):=by
 unfold StF StepOp
 intro t ha B w0 w hS
 obtain ⟨z,hzs,hzr⟩:=hT.zero
 have hz1:=zero_one (hone z w (hzr w)) m
 have hzl : (Builtin.zeroCells z.cells m).toList.length = m * sz:=by rw [Array.length_toList,size_zeroCells,hzs]
 obtain ⟨w',hst,hS'⟩:=store_cells (P:=P) (Builtin.zeroCells z.cells m).toList cs H w j 0 hS hi hz1 (by rw [hzl];omega)
 have hxv:=ha.ev hx
 refine ⟨.tuple #[],w',_,.inl ?_,hS',_,hzl,rfl⟩
 cases m with
 | zero =>
  have h0 : (Builtin.zeroCells z.cells 0).toList = []:=List.eq_nil_of_length_eq_zero (by rw [hzl,Nat.zero_mul])
  rw [h0] at hst
  simp [storeCells] at hst
  subst hst
  simp [execOp,h,hxv,resolve,invoke,builtin,Builtin.clear_,hT.un]
 | succ m =>
  simp [execOp,h,hxv,resolve,invoke,builtin,Builtin.clear_,hT.un,hzr,hst]
/-- a struct is stored in a row of one's own -/
theorem StF.storeAt {T : TypeId} {a x : Operand} {q b j cap : Nat} {el : TypeId} {cs vs : List Value} {ti : TI} (h : o.op = .store T a x) (hx : evF F a = some (.pointer (some ⟨b,j,none⟩))) (hv : evF F x = some (.agg vs.toArray)) (hT : tiOf P T = some ti) (hi : H[q]? = some ⟨b,0,cs,some el,cap⟩)
  (hn : vs.length = ti.size) (h1 : vs.all (·.oneCell') = true) (hl : j + vs.length ≤ cs.length) : StF P n H F o (fun u H' => u = undef∧H' = H.set q ⟨b,0,splice cs j vs,some el,cap⟩):=by
 unfold StF
 intro t ha
 exact StepOp.store h (ha.ev hx) hT (by rw [ha.ev hv];rfl) hi hn h1 hl
end
end Go.Fw
end
section
set_option linter.unusedVariables false
set_option linter.unusedSimpArgs false
namespace Go.Fw
theorem EnF.dyn0 {P : Program} {n : Nat} {H : List Row} {F : FS} {o : Oper} {g : Operand} {f : FuncId} {l : List Operand} {tys : Array TypeId} {vs cap : List Value} (h : o.op = .call { callee := .value g,args:=l.toArray,argTypes:=tys }) (hg : evF F g = some (.func (.func f) #[] cap.toArray)) (hv : Args F l vs) (hc : Callable P f) : EnF P n H F o f (vs++cap) :=
 EnF.dyn (first:=[]) h hg hv hc
end Go.Fw
namespace Go.Proofs.YtmfppdpkalelhaaGreat
open Go Go.Fw
set_option maxRecDepth 10000
theorem number_spec (m : Mt) (H : List Row) : Fc Tryz.prog 55 ([.agg (cMt m).toArray]++[]) H (fun v H' => v = .int .i64 m.number∧H' = H):=by
 show Fc Tryz.prog 55 [.agg (cMt m).toArray] H _
 refine Fc.mk (callable Tryz.call55) Tryz.func55 rfl Tryz.ntmps55 rfl ?_;dsimp only [fr]
 repeat' (first | (refine uP rfl ?_;(first | ((first | refine uN rfl ?_);(first | (refine uE (uM rfl rfl) rfl rfl ?_)|(refine uE (uA rfl rfl) rfl rfl ?_)|(refine uE (uQ rfl rfl rfl rfl) rfl rfl ?_)|(refine uE (uF rfl rfl (te rfl) rfl (te rfl) (by decide)) rfl rfl ?_)|(refine uE (EvF.lenSlice rfl rfl (te rfl)) rfl rfl ?_)|(refine uE (uL rfl rfl (uO (te rfl) rfl (qH _) rfl)) rfl rfl ?_)|(refine Xg.st (StF.boxAgg rfl rfl) rfl rfl ?_;rintro _ _ ⟨bx,rfl,rfl⟩)))))|(refine uD rfl ?_;refine hK _ _ ?_;clear hK K) | refine uS rfl ?_ | refine uR rfl (fun K hK=>?_) | refine X.block rfl ?_ | (refine X.brk rfl ?_;repeat (first | refine blockX_hit rfl ?_ | refine blockX_miss (by decide) ?_)) | refine X.skip rfl ?_ | refine X.ret rfl ?_ | (refine X.ite rfl rfl (fun hc=>?_);(first | (with_reducible refine Xb.case hc (fun h=>?_) (fun h=>?_))) <;> clear hc))
 refine ret_one (by simp) Tryz.results55 rfl (H' := H) (by (repeat (first | exact qR _ | apply qC));done) ?_;simp only [and_true,true_and]
theorem id_spec (m : Bx) (H : List Row) : Fc Tryz.prog 67 ([.agg (cBx m).toArray]++[]) H (fun v H' => v = .int .i64 m.id∧H' = H):=by
 show Fc Tryz.prog 67 [.agg (cBx m).toArray] H _
 refine Fc.mk (callable Tryz.call67) Tryz.func67 rfl Tryz.ntmps67 rfl ?_;dsimp only [fr]
 repeat' (first | (refine uP rfl ?_;(first | ((first | refine uN rfl ?_);(first | (refine uE (uM rfl rfl) rfl rfl ?_)|(refine uE (uA rfl rfl) rfl rfl ?_)|(refine uE (uQ rfl rfl rfl rfl) rfl rfl ?_)|(refine uE (uF rfl rfl (te rfl) rfl (te rfl) (by decide)) rfl rfl ?_)|(refine uE (EvF.lenSlice rfl rfl (te rfl)) rfl rfl ?_)|(refine uE (uL rfl rfl (uO (te rfl) rfl (qH _) rfl)) rfl rfl ?_)|(refine Xg.st (StF.boxAgg rfl rfl) rfl rfl ?_;rintro _ _ ⟨bx,rfl,rfl⟩)))))|(refine uD rfl ?_;refine hK _ _ ?_;clear hK K) | refine uS rfl ?_ | refine uR rfl (fun K hK=>?_) | refine X.block rfl ?_ | (refine X.brk rfl ?_;repeat (first | refine blockX_hit rfl ?_ | refine blockX_miss (by decide) ?_)) | refine X.skip rfl ?_ | refine X.ret rfl ?_ | (refine X.ite rfl rfl (fun hc=>?_);(first | (with_reducible refine Xb.case hc (fun h=>?_) (fun h=>?_))) <;> clear hc))
 refine ret_one (by simp) Tryz.results67 rfl (H' := H) (by (repeat (first | exact qR _ | apply qC));done) ?_;simp only [and_true,true_and]
theorem withinL_spec (s : Sp) (l : List Int) (a : Option Addr) (c : Nat) (H : List Row) (hl : SlE H a cI 1 l) (hb : l.length ≤ 9223372036854775807) : Fc Tryz.prog 102 [.agg (cSp s).toArray,.slice a l.length c] H (fun v H' => v = .bool (decide (∀ n ∈ l,s.lo ≤ n∧n ≤ s.hi))∧H' = H):=by
 refine Fc.mk (callable Tryz.call102) Tryz.func102 rfl Tryz.ntmps102 rfl ?_;dsimp only [fr]
 repeat' (first | (refine uP rfl ?_;(first | ((first | refine uN rfl ?_);(first | (refine uE (uM rfl rfl) rfl rfl ?_)|(refine uE (uA rfl rfl) rfl rfl ?_)|(refine uE (uQ rfl rfl rfl rfl) rfl rfl ?_)|(refine uE (uF rfl rfl (te rfl) rfl (te rfl) (by decide)) rfl rfl ?_)|(refine uE (EvF.lenSlice rfl rfl (te rfl)) rfl rfl ?_)|(refine uE (uL rfl rfl (uO (te rfl) rfl (qH _) rfl)) rfl rfl ?_)|(refine Xg.st (StF.boxAgg rfl rfl) rfl rfl ?_;rintro _ _ ⟨bx,rfl,rfl⟩)))))|(refine uD rfl ?_;refine hK _ _ ?_;clear hK K) | refine uS rfl ?_ | refine uR rfl (fun K hK=>?_) | refine X.block rfl ?_ | (refine X.brk rfl ?_;repeat (first | refine blockX_hit rfl ?_ | refine blockX_miss (by decide) ?_)) | refine X.skip rfl ?_ | refine X.ret rfl ?_ | (refine X.ite rfl rfl (fun hc=>?_);(first | (with_reducible refine Xb.case hc (fun h=>?_) (fun h=>?_))) <;> clear hc))
 refine X.lp rfl (fun q F' H' => ∃ k : Nat,q = l.length - k∧k ≤ l.length∧((∀ n ∈ l,s.lo ≤ n∧n ≤ s.hi) ↔ ∀ n ∈ l.drop k,s.lo ≤ n∧n ≤ s.hi)∧⟨bx,0,cSp s,some 24,2⟩::H = H' ∧
   F' = [(2,.pointer (some ⟨bx,0,none⟩)),(7,.slice a l.length c),(8,.int .i64 l.length),(9,.int .i64 k)])
  l.length [(2,.pointer (some ⟨bx,0,none⟩)),(7,.slice a l.length c),(8,.int .i64 l.length),(9,.int .i64 (0 : Nat))] _ (by repeat (first | exact uU _ | refine uV rfl ?_)) (by repeat (first | exact qR _ | apply qK | apply qC)) ⟨0,by omega,by omega,by simp,rfl,rfl⟩ ?_
 rintro _ _ _ ⟨k,rfl,hk,hn,rfl,rfl⟩
 repeat' (first | (refine uP rfl ?_;(first | ((first | refine uN rfl ?_);(first | (refine uE (uM rfl rfl) rfl rfl ?_)|(refine uE (uA rfl rfl) rfl rfl ?_)|(refine uE (uQ rfl rfl rfl rfl) rfl rfl ?_)|(refine uE (uF rfl rfl (te rfl) rfl (te rfl) (by decide)) rfl rfl ?_)|(refine uE (EvF.lenSlice rfl rfl (te rfl)) rfl rfl ?_)|(refine uE (uL rfl rfl (uO (te rfl) rfl (qH _) rfl)) rfl rfl ?_)|(refine Xg.st (StF.boxAgg rfl rfl) rfl rfl ?_;rintro _ _ ⟨bx,rfl,rfl⟩)))))|(refine uD rfl ?_;refine hK _ _ ?_;clear hK K) | refine uS rfl ?_ | refine uR rfl (fun K hK=>?_) | refine X.block rfl ?_ | (refine X.brk rfl ?_;repeat (first | refine blockX_hit rfl ?_ | refine blockX_miss (by decide) ?_)) | refine X.skip rfl ?_ | refine X.ret rfl ?_ | (refine X.ite rfl rfl (fun hc=>?_);(first | (with_reducible refine Xb.case hc (fun h=>?_) (fun h=>?_))) <;> clear hc))
 ·obtain ⟨b,off,e,rfl,he⟩:=hl.elem (i:=k) (by omega)
  have hl1 : ∀ r,SlE (r::H) (some ⟨b,off,none⟩) cI 1 l:=fun r=>hl.sub (fun _ h=>List.mem_cons_of_mem _ h)
  rw [drop_cons he] at hn
  repeat' (first | (refine uP rfl ?_;(first | ((first | refine uN rfl ?_ | (refine Xo.g rfl rfl ?_;with_reducible refine Xw.ff ?_));(first | (refine uE (uL rfl rfl (LoadV.el0 (hl1 _) he (te rfl) rfl (fun _ hm=>hm) rfl)) rfl rfl ?_)|(refine uE (uM rfl rfl) rfl rfl ?_)|(refine uE (uA rfl rfl) rfl rfl ?_)|(refine uE (EvF.pickT rfl rfl rfl) rfl rfl ?_)|(refine uE (EvF.pickF rfl rfl rfl) rfl rfl ?_)|(refine uE (uQ rfl rfl rfl rfl) rfl rfl ?_)|(refine uE (EvF.add64 rfl rfl rfl (by omega) (by omega)) rfl rfl ?_)|(refine uE (uF rfl rfl (te rfl) rfl (te rfl) (by decide)) rfl rfl ?_)|(refine uE (EvF.indexSlice rfl rfl rfl (te rfl) (te rfl) (by omega) (by omega)) rfl rfl ?_)|(refine uE (uL rfl rfl (uO (te rfl) rfl (qH _) rfl)) rfl rfl ?_)))|(refine Xo.g rfl rfl ?_;(first | (with_reducible refine Xw.tf rfl rfl ?_)|(with_reducible refine Xw.case (fun h=>?_) (fun h=>?_) <;> simp only [h,decide_true,decide_false,Bool.not_true,Bool.not_false,and_self,and_true,true_and,and_false,false_and])))))|(refine uD rfl ?_;refine hK _ _ ?_;clear hK K) | refine uS rfl ?_ | refine uR rfl (fun K hK=>?_) | refine X.skip rfl ?_ | refine X.ret rfl ?_ | (refine X.ite rfl rfl (fun hc=>?_);(first | (with_reducible refine Xb.t hc ?_)|(with_reducible refine Xb.case hc (fun h=>?_) (fun h=>?_))) <;> clear hc))
  any_goals (refine ret_one (by simp) Tryz.results102 rfl (H' := H) (by (repeat (first | exact qR _ | apply qC));done) ?_;simp only [and_true,true_and];congr 1;symm;exact decide_eq_false (fun q=>by have:=hn.1 q e List.mem_cons_self;omega))
  refine ⟨_,_,_,(by repeat (first | exact uU _ | refine uV rfl ?_)),(by repeat (first | exact qR _ | apply qK | apply qC)),⟨k + 1,rfl,by omega,hn.trans ⟨fun q n hm=>q n (List.mem_cons_of_mem _ hm),fun q n hm=>?_⟩,rfl,rfl⟩,by omega⟩
  rcases List.mem_cons.1 hm with rfl | hm
  ·omega
  ·exact q n hm
 ·rw [List.drop_eq_nil_of_le (by omega)] at hn
  refine ret_one (by simp) Tryz.results102 rfl (H' := H) (by (repeat (first | exact qR _ | apply qC));done) ?_;simp only [and_true,true_and]
  congr 1;symm
  exact decide_eq_true (hn.2 (fun _ h=>absurd h List.not_mem_nil))
theorem anyMonth_spec (R : Rm) (p : Pl) (H : List Row) (h0 : -1000000 ≤ R.months) (h1 : R.months ≤ 1000000) : Fc Tryz.prog 106 [.agg (cRm R p).toArray] H (fun v H' => v = .agg (cSp ⟨0,R.months - 1⟩).toArray∧H' = H):=by
 refine Fc.mk (callable Tryz.call106) Tryz.func106 rfl Tryz.ntmps106 rfl ?_;dsimp only [fr]
 repeat' (first | (refine uP rfl ?_;(first | ((first | refine uN rfl ?_);(first | (refine uE (EvF.build (cs:=cSp ⟨0,R.months - 1⟩) rfl (ArgsP.cons rfl (ArgsP.cons rfl ArgsP.nil)) (te rfl) (Places.cons (te rfl) (Places.cons (te rfl) Places.nil)) Tryz.zeroValue24 rfl) rfl rfl ?_)|(refine uE (EvF.sub64 rfl rfl rfl (by omega) (by omega)) rfl rfl ?_)|(refine uE (uF rfl rfl (te rfl) rfl (te rfl) (by decide)) rfl rfl ?_)|(refine uE (uL rfl rfl (uO (te rfl) rfl (qT _ (qH _)) rfl)) rfl rfl ?_)|(refine Xg.st (StF.boxAgg rfl rfl) rfl rfl ?_;rintro _ _ ⟨bx,rfl,rfl⟩)|(refine Xg.st (StF.alloc rfl Tryz.zeroValue24 rfl) rfl rfl ?_;rintro _ _ ⟨bx,rfl,rfl⟩)|(refine Xg.st0 (StF.storeAll (i:=0) rfl rfl rfl (te rfl) rfl rfl rfl rfl) rfl ?_;rintro _ _ ⟨rfl,rfl⟩;dsimp only [List.set])))))|(refine uD rfl ?_;refine hK _ _ ?_;clear hK K) | refine uS rfl ?_ | refine uR rfl (fun K hK=>?_) | refine X.ret rfl ?_)
 exact ret_one (by simp) Tryz.results106 ⟨_,rfl,uW (te rfl) rfl (qH _) rfl⟩ (H' := H) (by repeat (first | exact qR _ | apply qK | apply qC)) ⟨rfl,rfl⟩
/-- the first place of which something is so -/
def IdxR {α : Type} (p : α → Bool) (l : List α) (z : Int) : Prop:=(z = -1 ∧ ∀ e ∈ l,p e = false) ∨ ∃ k e,z = ((k : Nat) : Int)∧l[k]? = some e∧p e = true ∧ ∀ i e,i < k → l[i]? = some e → p e = false
theorem indexFunc_specMt (l : List Mt) (a : Option Addr) (c g : Nat) (p : Mt → Bool) (cap : List Value) (H : List Row) (hl : SlE H a cMt 6 l) (hb : l.length ≤ 9223372036854775807) (hf : ∀ e ∈ l,Fc Tryz.prog g ([.agg (cMt e).toArray]++cap) H (fun v H' => v = .bool (p e)∧H' = H)) :
  Fc Tryz.prog 93 [.slice a l.length c,.func (.func g) #[] cap.toArray] H (fun v H' => (∃ z,v = .int .i64 z∧IdxR p l z)∧H' = H):=by
 refine Fc.mk (callable Tryz.call93) Tryz.func93 rfl Tryz.ntmps93 rfl ?_;dsimp only [fr]
 repeat' (first | (refine uP rfl ?_;(first | ((first | refine uN rfl ?_);(first | (refine uE (uM rfl rfl) rfl rfl ?_)|(refine uE (uA rfl rfl) rfl rfl ?_)|(refine uE (uQ rfl rfl rfl rfl) rfl rfl ?_)|(refine uE (uF rfl rfl (te rfl) rfl (te rfl) (by decide)) rfl rfl ?_)|(refine uE (EvF.lenSlice rfl rfl (te rfl)) rfl rfl ?_)|(refine uE (uL rfl rfl (uO (te rfl) rfl (qH _) rfl)) rfl rfl ?_)|(refine Xg.st (StF.boxAgg rfl rfl) rfl rfl ?_;rintro _ _ ⟨bx,rfl,rfl⟩)))))|(refine uD rfl ?_;refine hK _ _ ?_;clear hK K) | refine uS rfl ?_ | refine uR rfl (fun K hK=>?_) | refine X.block rfl ?_ | (refine X.brk rfl ?_;repeat (first | refine blockX_hit rfl ?_ | refine blockX_miss (by decide) ?_)) | refine X.skip rfl ?_ | refine X.ret rfl ?_ | (refine X.ite rfl rfl (fun hc=>?_);(first | (with_reducible refine Xb.case hc (fun h=>?_) (fun h=>?_))) <;> clear hc))
 refine X.lp rfl (fun q F' H' => ∃ k : Nat,q = l.length - k∧k ≤ l.length∧(∀ i e,i < k → l[i]? = some e → p e = false)∧H = H' ∧
   F' = [(0,.slice a l.length c),(1,.func (.func g) #[] cap.toArray),(7,.int .i64 l.length),(8,.int .i64 k)])
  l.length [(0,.slice a l.length c),(1,.func (.func g) #[] cap.toArray),(7,.int .i64 l.length),(8,.int .i64 (0 : Nat))] _ (by repeat (first | exact uU _ | refine uV rfl ?_)) (by repeat (first | exact qR _ | apply qK | apply qC)) ⟨0,by omega,by omega,(fun i e hi=>absurd hi (by omega)),rfl,rfl⟩ ?_
 rintro _ _ H2 ⟨k,rfl,hk,hn,hH,rfl⟩
 subst hH
 repeat' (first | (refine uP rfl ?_;(first | ((first | refine uN rfl ?_);(first | (refine uE (uM rfl rfl) rfl rfl ?_)|(refine uE (uA rfl rfl) rfl rfl ?_)|(refine uE (uQ rfl rfl rfl rfl) rfl rfl ?_)|(refine uE (uF rfl rfl (te rfl) rfl (te rfl) (by decide)) rfl rfl ?_)|(refine uE (EvF.lenSlice rfl rfl (te rfl)) rfl rfl ?_)|(refine uE (uL rfl rfl (uO (te rfl) rfl (qH _) rfl)) rfl rfl ?_)|(refine Xg.st (StF.boxAgg rfl rfl) rfl rfl ?_;rintro _ _ ⟨bx,rfl,rfl⟩)))))|(refine uD rfl ?_;refine hK _ _ ?_;clear hK K) | refine uS rfl ?_ | refine uR rfl (fun K hK=>?_) | refine X.block rfl ?_ | (refine X.brk rfl ?_;repeat (first | refine blockX_hit rfl ?_ | refine blockX_miss (by decide) ?_)) | refine X.skip rfl ?_ | refine X.ret rfl ?_ | (refine X.ite rfl rfl (fun hc=>?_);(first | (with_reducible refine Xb.case hc (fun h=>?_) (fun h=>?_))) <;> clear hc))
 ·obtain ⟨b,off,e,rfl,he⟩:=hl.elem (i:=k) (by omega)
  repeat' (first | (refine uP rfl ?_;(first | ((first | refine uN rfl ?_);(first | (refine uE (uL rfl rfl (LoadV.elA0 hl he (te rfl) rfl (fun _ hm=>hm) rfl)) rfl rfl ?_)|(refine uC (EnF.dyn0 rfl rfl (by (repeat (first | exact Args.nil | refine Args.cons rfl ?_));done)) rfl rfl (hf e (List.mem_of_getElem? he)) ?_;rintro _ H9 ⟨rfl,hH9⟩;subst H9)|(refine uE (uM rfl rfl) rfl rfl ?_)|(refine uE (uA rfl rfl) rfl rfl ?_)|(refine uE (EvF.add64 rfl rfl rfl (by omega) (by omega)) rfl rfl ?_)|(refine uE (EvF.indexSlice rfl rfl rfl (te rfl) (te rfl) (by omega) (by omega)) rfl rfl ?_)))))|(refine uD rfl ?_;refine hK _ _ ?_;clear hK K) | refine uS rfl ?_ | refine uR rfl (fun K hK=>?_) | refine X.skip rfl ?_ | refine X.ret rfl ?_ | (refine X.ite rfl rfl (fun hc=>?_);(first | (with_reducible refine Xb.caseB hc (fun h=>?_) (fun h=>?_))) <;> clear hc))
  ·refine ret_one (by simp) Tryz.results93 rfl (H' := H) (by (repeat (first | exact qR _ | apply qC));done) ?_;simp only [and_true,true_and]
   exact ⟨_,rfl,.inr ⟨k,e,rfl,he,by assumption,hn⟩⟩
  ·refine ⟨_,_,_,(by repeat (first | exact uU _ | refine uV rfl ?_)),(by repeat (first | exact qR _ | apply qK | apply qC)),⟨k + 1,rfl,by omega,(fun i e' hi he' => ?_),rfl,rfl⟩,by omega⟩
   rcases Nat.lt_or_ge i k with h1 | h1
   ·exact hn i e' h1 he'
   ·obtain rfl : i = k:=by omega
    rw [he] at he';cases he';assumption
 ·refine ret_one (by simp) Tryz.results93 rfl (H' := H) (by (repeat (first | exact qR _ | apply qC));done) ?_;simp only [and_true,true_and]
  refine ⟨_,rfl,.inl ⟨rfl,fun e he=>?_⟩⟩
  obtain ⟨i,hi,rfl⟩:=List.mem_iff_getElem.1 he
  exact hn i _ (by omega) (List.getElem?_eq_getElem hi)
theorem indexFunc_specBx (l : List Bx) (a : Option Addr) (c g : Nat) (p : Bx → Bool) (cap : List Value) (H : List Row) (hl : SlE H a cBx 2 l) (hb : l.length ≤ 9223372036854775807) (hf : ∀ e ∈ l,Fc Tryz.prog g ([.agg (cBx e).toArray]++cap) H (fun v H' => v = .bool (p e)∧H' = H)) :
  Fc Tryz.prog 99 [.slice a l.length c,.func (.func g) #[] cap.toArray] H (fun v H' => (∃ z,v = .int .i64 z∧IdxR p l z)∧H' = H):=by
 refine Fc.mk (callable Tryz.call99) Tryz.func99 rfl Tryz.ntmps99 rfl ?_;dsimp only [fr]
 repeat' (first | (refine uP rfl ?_;(first | ((first | refine uN rfl ?_);(first | (refine uE (uM rfl rfl) rfl rfl ?_)|(refine uE (uA rfl rfl) rfl rfl ?_)|(refine uE (uQ rfl rfl rfl rfl) rfl rfl ?_)|(refine uE (uF rfl rfl (te rfl) rfl (te rfl) (by decide)) rfl rfl ?_)|(refine uE (EvF.lenSlice rfl rfl (te rfl)) rfl rfl ?_)|(refine uE (uL rfl rfl (uO (te rfl) rfl (qH _) rfl)) rfl rfl ?_)|(refine Xg.st (StF.boxAgg rfl rfl) rfl rfl ?_;rintro _ _ ⟨bx,rfl,rfl⟩)))))|(refine uD rfl ?_;refine hK _ _ ?_;clear hK K) | refine uS rfl ?_ | refine uR rfl (fun K hK=>?_) | refine X.block rfl ?_ | (refine X.brk rfl ?_;repeat (first | refine blockX_hit rfl ?_ | refine blockX_miss (by decide) ?_)) | refine X.skip rfl ?_ | refine X.ret rfl ?_ | (refine X.ite rfl rfl (fun hc=>?_);(first | (with_reducible refine Xb.case hc (fun h=>?_) (fun h=>?_))) <;> clear hc))
 refine X.lp rfl (fun q F' H' => ∃ k : Nat,q = l.length - k∧k ≤ l.length∧(∀ i e,i < k → l[i]? = some e → p e = false)∧H = H' ∧
   F' = [(0,.slice a l.length c),(1,.func (.func g) #[] cap.toArray),(7,.int .i64 l.length),(8,.int .i64 k)])
  l.length [(0,.slice a l.length c),(1,.func (.func g) #[] cap.toArray),(7,.int .i64 l.length),(8,.int .i64 (0 : Nat))] _ (by repeat (first | exact uU _ | refine uV rfl ?_)) (by repeat (first | exact qR _ | apply qK | apply qC)) ⟨0,by omega,by omega,(fun i e hi=>absurd hi (by omega)),rfl,rfl⟩ ?_
 rintro _ _ H2 ⟨k,rfl,hk,hn,hH,rfl⟩
 subst hH
 repeat' (first | (refine uP rfl ?_;(first | ((first | refine uN rfl ?_);(first | (refine uE (uM rfl rfl) rfl rfl ?_)|(refine uE (uA rfl rfl) rfl rfl ?_)|(refine uE (uQ rfl rfl rfl rfl) rfl rfl ?_)|(refine uE (uF rfl rfl (te rfl) rfl (te rfl) (by decide)) rfl rfl ?_)|(refine uE (EvF.lenSlice rfl rfl (te rfl)) rfl rfl ?_)|(refine uE (uL rfl rfl (uO (te rfl) rfl (qH _) rfl)) rfl rfl ?_)|(refine Xg.st (StF.boxAgg rfl rfl) rfl rfl ?_;rintro _ _ ⟨bx,rfl,rfl⟩)))))|(refine uD rfl ?_;refine hK _ _ ?_;clear hK K) | refine uS rfl ?_ | refine uR rfl (fun K hK=>?_) | refine X.block rfl ?_ | (refine X.brk rfl ?_;repeat (first | refine blockX_hit rfl ?_ | refine blockX_miss (by decide) ?_)) | refine X.skip rfl ?_ | refine X.ret rfl ?_ | (refine X.ite rfl rfl (fun hc=>?_);(first | (with_reducible refine Xb.case hc (fun h=>?_) (fun h=>?_))) <;> clear hc))
 ·obtain ⟨b,off,e,rfl,he⟩:=hl.elem (i:=k) (by omega)
  repeat' (first | (refine uP rfl ?_;(first | ((first | refine uN rfl ?_);(first | (refine uE (uL rfl rfl (LoadV.elA0 hl he (te rfl) rfl (fun _ hm=>hm) rfl)) rfl rfl ?_)|(refine uC (EnF.dyn0 rfl rfl (by (repeat (first | exact Args.nil | refine Args.cons rfl ?_));done)) rfl rfl (hf e (List.mem_of_getElem? he)) ?_;rintro _ H9 ⟨rfl,hH9⟩;subst H9)|(refine uE (uM rfl rfl) rfl rfl ?_)|(refine uE (uA rfl rfl) rfl rfl ?_)|(refine uE (EvF.add64 rfl rfl rfl (by omega) (by omega)) rfl rfl ?_)|(refine uE (EvF.indexSlice rfl rfl rfl (te rfl) (te rfl) (by omega) (by omega)) rfl rfl ?_)))))|(refine uD rfl ?_;refine hK _ _ ?_;clear hK K) | refine uS rfl ?_ | refine uR rfl (fun K hK=>?_) | refine X.skip rfl ?_ | refine X.ret rfl ?_ | (refine X.ite rfl rfl (fun hc=>?_);(first | (with_reducible refine Xb.caseB hc (fun h=>?_) (fun h=>?_))) <;> clear hc))
  ·refine ret_one (by simp) Tryz.results99 rfl (H' := H) (by (repeat (first | exact qR _ | apply qC));done) ?_;simp only [and_true,true_and]
   exact ⟨_,rfl,.inr ⟨k,e,rfl,he,by assumption,hn⟩⟩
  ·refine ⟨_,_,_,(by repeat (first | exact uU _ | refine uV rfl ?_)),(by repeat (first | exact qR _ | apply qK | apply qC)),⟨k + 1,rfl,by omega,(fun i e' hi he' => ?_),rfl,rfl⟩,by omega⟩
   rcases Nat.lt_or_ge i k with h1 | h1
   ·exact hn i e' h1 he'
   ·obtain rfl : i = k:=by omega
    rw [he] at he';cases he';assumption
 ·refine ret_one (by simp) Tryz.results99 rfl (H' := H) (by (repeat (first | exact qR _ | apply qC));done) ?_;simp only [and_true,true_and]
  refine ⟨_,rfl,.inl ⟨rfl,fun e he=>?_⟩⟩
  obtain ⟨i,hi,rfl⟩:=List.mem_iff_getElem.1 he
  exact hn i _ (by omega) (List.getElem?_eq_getElem hi)
end Go.Proofs.YtmfppdpkalelhaaGreat
end
section
set_option linter.unusedVariables false
set_option linter.unusedSimpArgs false
namespace Go.Proofs.YtmfppdpkalelhaaGreat
open Go Go.Fw
set_option maxRecDepth 10000
theorem IdxR.ge {α : Type} {p : α → Bool} {l : List α} {z : Int} (h : IdxR p l z) : z ≥ 0 ↔ ∃ e ∈ l,p e = true:=by
 rcases h with ⟨rfl,h⟩ | ⟨k,e,rfl,he,hp,_⟩
 ·exact ⟨fun q=>absurd q (by decide),fun ⟨e,he,hp⟩=>by rw [h e he] at hp;cases hp⟩
 ·exact ⟨fun _=>⟨e,List.mem_of_getElem? he,hp⟩,fun _=>by omega⟩
theorem indexI_spec (l : List Int) (a : Option Addr) (c : Nat) (x : Int) (H : List Row) (hl : SlE H a cI 1 l) (hb : l.length ≤ 9223372036854775807) :
  Fc Tryz.prog 111 [.slice a l.length c,.int .i64 x] H (fun v H' => (∃ z,v = .int .i64 z∧IdxR (fun n=>decide (x = n)) l z)∧H' = H):=by
 refine Fc.mk (callable Tryz.call111) Tryz.func111 rfl Tryz.ntmps111 rfl ?_;dsimp only [fr]
 repeat' (first | (refine uP rfl ?_;(first | ((first | refine uN rfl ?_);(first | (refine uE (uM rfl rfl) rfl rfl ?_)|(refine uE (uA rfl rfl) rfl rfl ?_)|(refine uE (uQ rfl rfl rfl rfl) rfl rfl ?_)|(refine uE (EvF.lenSlice rfl rfl (te rfl)) rfl rfl ?_)))))|(refine uD rfl ?_;refine hK _ _ ?_;clear hK K) | refine uS rfl ?_ | refine uR rfl (fun K hK=>?_) | refine X.block rfl ?_ | (refine X.brk rfl ?_;repeat (first | refine blockX_hit rfl ?_ | refine blockX_miss (by decide) ?_)) | refine X.skip rfl ?_ | refine X.ret rfl ?_ | (refine X.ite rfl rfl (fun hc=>?_);(first | (with_reducible refine Xb.case hc (fun h=>?_) (fun h=>?_))) <;> clear hc))
 refine X.lp rfl (fun q F' H' => ∃ k : Nat,q = l.length - k∧k ≤ l.length∧(∀ i e,i < k → l[i]? = some e → x ≠ e)∧H = H' ∧
   F' = [(0,.slice a l.length c),(1,.int .i64 x),(7,.int .i64 l.length),(8,.int .i64 k)])
  l.length [(0,.slice a l.length c),(1,.int .i64 x),(7,.int .i64 l.length),(8,.int .i64 (0 : Nat))] _ (by repeat (first | exact uU _ | refine uV rfl ?_)) (by repeat (first | exact qR _ | apply qK | apply qC)) ⟨0,by omega,by omega,(fun i e hi=>absurd hi (by omega)),rfl,rfl⟩ ?_
 rintro _ _ H2 ⟨k,rfl,hk,hn,hH,rfl⟩
 subst hH
 repeat' (first | (refine uP rfl ?_;(first | ((first | refine uN rfl ?_);(first | (refine uE (uM rfl rfl) rfl rfl ?_)|(refine uE (uA rfl rfl) rfl rfl ?_)|(refine uE (uQ rfl rfl rfl rfl) rfl rfl ?_)|(refine uE (EvF.lenSlice rfl rfl (te rfl)) rfl rfl ?_)))))|(refine uD rfl ?_;refine hK _ _ ?_;clear hK K) | refine uS rfl ?_ | refine uR rfl (fun K hK=>?_) | refine X.block rfl ?_ | (refine X.brk rfl ?_;repeat (first | refine blockX_hit rfl ?_ | refine blockX_miss (by decide) ?_)) | refine X.skip rfl ?_ | refine X.ret rfl ?_ | (refine X.ite rfl rfl (fun hc=>?_);(first | (with_reducible refine Xb.case hc (fun h=>?_) (fun h=>?_))) <;> clear hc))
 ·obtain ⟨b,off,e,rfl,he⟩:=hl.elem (i:=k) (by omega)
  repeat' (first | (refine uP rfl ?_;(first | ((first | refine uN rfl ?_);(first | (refine uE (uL rfl rfl (LoadV.el0 hl he (te rfl) rfl (fun _ hm=>hm) rfl)) rfl rfl ?_)|(refine uE (uM rfl rfl) rfl rfl ?_)|(refine uE (uA rfl rfl) rfl rfl ?_)|(refine uE (uQ rfl rfl rfl rfl) rfl rfl ?_)|(refine uE (EvF.add64 rfl rfl rfl (by omega) (by omega)) rfl rfl ?_)|(refine uE (EvF.indexSlice rfl rfl rfl (te rfl) (te rfl) (by omega) (by omega)) rfl rfl ?_)))))|(refine uD rfl ?_;refine hK _ _ ?_;clear hK K) | refine uS rfl ?_ | refine uR rfl (fun K hK=>?_) | refine X.skip rfl ?_ | refine X.ret rfl ?_ | (refine X.ite rfl rfl (fun hc=>?_);(first | (with_reducible refine Xb.case hc (fun h=>?_) (fun h=>?_))) <;> clear hc))
  ·refine ret_one (by simp) Tryz.results111 rfl (H' := H) (by (repeat (first | exact qR _ | apply qC));done) ?_;simp only [and_true,true_and]
   refine ⟨_,rfl,.inr ⟨k,e,rfl,he,decide_eq_true (by assumption),fun i e hi he=>decide_eq_false (hn i e hi he)⟩⟩
  ·refine ⟨_,_,_,(by repeat (first | exact uU _ | refine uV rfl ?_)),(by repeat (first | exact qR _ | apply qK | apply qC)),⟨k + 1,rfl,by omega,(fun i e' hi he' => ?_),rfl,rfl⟩,by omega⟩
   rcases Nat.lt_or_ge i k with h1 | h1
   ·exact hn i e' h1 he'
   ·obtain rfl : i = k:=by omega
    rw [he] at he';cases he';assumption
 ·refine ret_one (by simp) Tryz.results111 rfl (H' := H) (by (repeat (first | exact qR _ | apply qC));done) ?_;simp only [and_true,true_and]
  refine ⟨_,rfl,.inl ⟨rfl,fun e he=>?_⟩⟩
  obtain ⟨i,hi,rfl⟩:=List.mem_iff_getElem.1 he
  exact decide_eq_false (hn i _ (by omega) (List.getElem?_eq_getElem hi))
theorem contains_spec (l : List Int) (a : Option Addr) (c : Nat) (x : Int) (H : List Row) (hl : SlE H a cI 1 l) (hb : l.length ≤ 9223372036854775807) :
  Fc Tryz.prog 80 [.slice a l.length c,.int .i64 x] H (fun v H' => v = .bool (decide (x ∈ l))∧H' = H):=by
 refine Fc.mk (callable Tryz.call80) Tryz.func80 rfl Tryz.ntmps80 rfl ?_;dsimp only [fr]
 repeat' (first | (refine uP rfl ?_;(first | ((first | refine uN rfl ?_);(first | (refine uC (uT rfl (by (repeat (first | exact Args.nil | refine Args.cons rfl ?_));done)) rfl rfl (indexI_spec l a c x H hl hb) ?_;rintro _ H9 ⟨⟨z,rfl,hz⟩,hH9⟩;subst H9)|(refine uE (uM rfl rfl) rfl rfl ?_)|(refine uE (uA rfl rfl) rfl rfl ?_)|(refine uE (uQ rfl rfl rfl rfl) rfl rfl ?_)))))|(refine uD rfl ?_;refine hK _ _ ?_;clear hK K) | refine uS rfl ?_ | refine uR rfl (fun K hK=>?_) | refine X.ret rfl ?_)
 refine ret_one (by simp) Tryz.results80 rfl (H' := H) (by (repeat (first | exact qR _ | apply qC));done) ?_;simp only [and_true,true_and]
 congr 1
 refine decide_eq_decide.2 (hz.ge.trans ⟨fun ⟨e,he,hp⟩=>?_,fun h=>⟨x,h,by simp⟩⟩)
 have:=of_decide_eq_true hp
 subst this;exact he
theorem containsFunc_spec (l : List Bx) (a : Option Addr) (c g : Nat) (p : Bx → Bool) (cap : List Value) (H : List Row) (hl : SlE H a cBx 2 l) (hb : l.length ≤ 9223372036854775807) (hf : ∀ e ∈ l,Fc Tryz.prog g ([.agg (cBx e).toArray]++cap) H (fun v H' => v = .bool (p e)∧H' = H)) :
  Fc Tryz.prog 123 [.slice a l.length c,.func (.func g) #[] cap.toArray] H (fun v H' => v = .bool (decide (∃ e ∈ l,p e = true))∧H' = H):=by
 refine Fc.mk (callable Tryz.call123) Tryz.func123 rfl Tryz.ntmps123 rfl ?_;dsimp only [fr]
 repeat' (first | (refine uP rfl ?_;(first | ((first | refine uN rfl ?_);(first | (refine uC (uT rfl (by (repeat (first | exact Args.nil | refine Args.cons rfl ?_));done)) rfl rfl (indexFunc_specBx l a c g p cap H hl hb hf) ?_;rintro _ H9 ⟨⟨z,rfl,hz⟩,hH9⟩;subst H9)|(refine uE (uM rfl rfl) rfl rfl ?_)|(refine uE (uA rfl rfl) rfl rfl ?_)|(refine uE (uQ rfl rfl rfl rfl) rfl rfl ?_)))))|(refine uD rfl ?_;refine hK _ _ ?_;clear hK K) | refine uS rfl ?_ | refine uR rfl (fun K hK=>?_) | refine X.ret rfl ?_)
 refine ret_one (by simp) Tryz.results123 rfl (H' := H) (by (repeat (first | exact qR _ | apply qC));done) ?_;simp only [and_true,true_and]
 congr 1
 exact decide_eq_decide.2 hz.ge
theorem areThere1_spec (b : Bx) (m : Int) (bm bq : Nat) (l : List Int) (a a' : Option Addr) (n' c c' : Nat) (ow ow' : Option Kd) (cap cap' : Nat) (H : List Row) (hm : ⟨bm,0,[.int .i64 m],ow,cap⟩ ∈ H) (hq : ⟨bq,0,[.slice a l.length c,.slice a' n' c'],ow',cap'⟩ ∈ H) (hl : SlE H a cI 1 l) (hb : l.length ≤ 9223372036854775807) :
  Fc Tryz.prog 122 ([.agg (cBx b).toArray]++[.pointer (some ⟨bm,0,none⟩),.pointer (some ⟨bq,0,none⟩)]) H (fun v H' => v = .bool (decide (b.made > m∧b.id ∈ l))∧H' = H):=by
 show Fc Tryz.prog 122 [.agg (cBx b).toArray,.pointer (some ⟨bm,0,none⟩),.pointer (some ⟨bq,0,none⟩)] H _
 refine Fc.mk (callable Tryz.call122) Tryz.func122 rfl Tryz.ntmps122 rfl ?_;dsimp only [fr]
 repeat' (first | (refine uP rfl ?_;(first | ((first | refine uN rfl ?_ | (refine Xo.g rfl rfl ?_;with_reducible refine Xw.tt ?_));(first | (refine uE (uL rfl rfl (uO (te rfl) rfl (List.mem_cons_of_mem _ hm) rfl)) rfl rfl ?_)|(refine uE (uL rfl rfl (uO (te rfl) rfl (List.mem_cons_of_mem _ hq) rfl)) rfl rfl ?_)|(refine uC (uT rfl (by (repeat (first | exact Args.nil | refine Args.cons rfl ?_));done)) rfl rfl (contains_spec l a c _ _ (hl.sub (fun _ h=>List.mem_cons_of_mem _ h)) hb) ?_;rintro _ H9 ⟨rfl,hH9⟩;subst H9)|(refine uE (uM rfl rfl) rfl rfl ?_)|(refine uE (uA rfl rfl) rfl rfl ?_)|(refine uE (EvF.pickT rfl rfl rfl) rfl rfl ?_)|(refine uE (EvF.pickF rfl rfl rfl) rfl rfl ?_)|(refine uE (uQ rfl rfl rfl rfl) rfl rfl ?_)|(refine uE (uF rfl rfl (te rfl) rfl (te rfl) (by decide)) rfl rfl ?_)|(refine uE (uL rfl rfl (uO (te rfl) rfl (qH _) rfl)) rfl rfl ?_)|(refine Xg.st (StF.boxAgg rfl rfl) rfl rfl ?_;rintro _ _ ⟨bx,rfl,rfl⟩)))|(refine Xo.g rfl rfl ?_;(first | (with_reducible refine Xw.ft rfl rfl ?_)|(with_reducible refine Xw.case (fun h=>?_) (fun h=>?_) <;> simp only [h,decide_true,decide_false,Bool.not_true,Bool.not_false,and_self,and_true,true_and,and_false,false_and])))))|(refine uD rfl ?_;refine hK _ _ ?_;clear hK K) | refine uS rfl ?_ | refine uR rfl (fun K hK=>?_) | refine X.ret rfl ?_)
 all_goals (refine ret_one (by simp) Tryz.results122 rfl (H' := H) (by (repeat (first | exact qR _ | apply qC));done) ?_;simp only [and_true,true_and])
 all_goals (congr 1;simp [*])
theorem put1_specMt (y x : Mt) (bn bx : Nat) (ow ow' : Option Kd) (cap cap' : Nat) (H : List Row) (hn : ⟨bn,0,[.func (.func 55) #[] #[]],ow,cap⟩ ∈ H) (hx : ⟨bx,0,cMt x,ow',cap'⟩ ∈ H) :
  Fc Tryz.prog 94 ([.agg (cMt y).toArray]++[.pointer (some ⟨bn,0,none⟩),.pointer (some ⟨bx,0,none⟩)]) H (fun v H' => v = .bool (decide (y.number ≥ x.number))∧H' = H):=by
 show Fc Tryz.prog 94 [.agg (cMt y).toArray,.pointer (some ⟨bn,0,none⟩),.pointer (some ⟨bx,0,none⟩)] H _
 refine Fc.mk (callable Tryz.call94) Tryz.func94 rfl Tryz.ntmps94 rfl ?_;dsimp only [fr]
 repeat' (first | (refine uP rfl ?_;(first | ((first | refine uN rfl ?_);(first | (refine uE (uA rfl rfl) rfl rfl ?_)|(refine Xg.st (StF.boxAgg rfl rfl) rfl rfl ?_;rintro _ _ ⟨bx,rfl,rfl⟩)))))|(refine uD rfl ?_;refine hK _ _ ?_;clear hK K)|(refine XQ.op rfl ?_;(first | ((first | refine Yo.ng rfl ?_);(first | (refine Yg.ev (uL rfl rfl (uO (te rfl) rfl (List.mem_cons_of_mem _ hn) rfl)) rfl rfl ?_)|(refine Yg.ev (uL rfl rfl (uW (te rfl) rfl (List.mem_cons_of_mem _ hx) rfl)) rfl rfl ?_)|(refine Yg.call (EnF.dyn0 rfl rfl (by (repeat (first | exact Args.nil | refine Args.cons rfl ?_));done)) rfl rfl (number_spec _ _) ?_)|(refine Yg.ev (uA rfl rfl) rfl rfl ?_)|(refine Yg.ev (uQ rfl rfl rfl rfl) rfl rfl ?_)|(refine Yg.ev (uL rfl rfl (uW (te rfl) rfl (qH _) rfl)) rfl rfl ?_)))))|(refine XQ.done rfl ?_;refine hK _ ?_;clear hK K) | refine uS rfl ?_ | refine uR rfl (fun K hK=>?_) | refine X.regionD rfl mixed (by kernel_rfl) (fun K hK=>?_) | refine X.ret rfl ?_)
 refine ret_one (by simp) Tryz.results94 rfl (H' := H) (by (repeat (first | exact qR _ | apply qC));done) ?_;simp only [and_true,true_and]
theorem clone_specSp (l : List Sp) (ad : Addr) (c : Nat) (H : List Row) (hl : SlE H (some ad) cSp 2 l) (hb : l.length ≤ 1000000) :
  Fc Tryz.prog 90 [.slice (some ad) l.length c] H (fun v H' => ∃ b k,v = .slice (some ⟨b,0,none⟩) l.length k∧H' = ⟨b,0,l.flatMap cSp,some 24,k * 2⟩::H):=by
 refine Fc.mk (callable Tryz.call90) Tryz.func90 rfl Tryz.ntmps90 rfl ?_;dsimp only [fr]
 repeat' (first | (refine uP rfl ?_;(first | ((first | refine uN rfl ?_);(first | (refine uE (EvF.eqNil rfl rfl (te rfl)) rfl rfl ?_)|(refine Xg.st (StF.buildNil rfl el22) rfl rfl ?_;rintro _ _ ⟨bn,rfl,rfl⟩)|(refine Xg.st (StF.appendSl (i:=0) rfl el22 rfl rfl rfl (hl.sub (fun _ h=>List.mem_cons_of_mem _ h)) (fun e _=>one_sp e) rfl (by decide) (by omega)) rfl rfl ?_;rintro _ _ ⟨b,k,rfl,rfl⟩;dsimp only [List.eraseIdx])|(refine uE (uM rfl rfl) rfl rfl ?_)|(refine uE (uA rfl rfl) rfl rfl ?_)))))|(refine uD rfl ?_;refine hK _ _ ?_;clear hK K) | refine uS rfl ?_ | refine uR rfl (fun K hK=>?_) | refine X.skip rfl ?_ | refine X.ret rfl ?_ | (refine X.ite rfl rfl (fun hc=>?_);(first | (with_reducible refine Xb.f hc ?_)) <;> clear hc))
 exact ret_one (by simp) Tryz.results90 rfl (H' := _) (qR _) ⟨_,_,by rw [Nat.zero_add],rfl⟩
theorem clone_specBx (l : List Bx) (ad : Addr) (c : Nat) (H : List Row) (hl : SlE H (some ad) cBx 2 l) (hb : l.length ≤ 1000000) :
  Fc Tryz.prog 91 [.slice (some ad) l.length c] H (fun v H' => ∃ b k,v = .slice (some ⟨b,0,none⟩) l.length k∧H' = ⟨b,0,l.flatMap cBx,some 47,k * 2⟩::H):=by
 refine Fc.mk (callable Tryz.call91) Tryz.func91 rfl Tryz.ntmps91 rfl ?_;dsimp only [fr]
 repeat' (first | (refine uP rfl ?_;(first | ((first | refine uN rfl ?_);(first | (refine uE (EvF.eqNil rfl rfl (te rfl)) rfl rfl ?_)|(refine Xg.st (StF.buildNil rfl el23) rfl rfl ?_;rintro _ _ ⟨bn,rfl,rfl⟩)|(refine Xg.st (StF.appendSl (i:=0) rfl el23 rfl rfl rfl (hl.sub (fun _ h=>List.mem_cons_of_mem _ h)) (fun e _=>one_bx e) rfl (by decide) (by omega)) rfl rfl ?_;rintro _ _ ⟨b,k,rfl,rfl⟩;dsimp only [List.eraseIdx])|(refine uE (uM rfl rfl) rfl rfl ?_)|(refine uE (uA rfl rfl) rfl rfl ?_)))))|(refine uD rfl ?_;refine hK _ _ ?_;clear hK K) | refine uS rfl ?_ | refine uR rfl (fun K hK=>?_) | refine X.skip rfl ?_ | refine X.ret rfl ?_ | (refine X.ite rfl rfl (fun hc=>?_);(first | (with_reducible refine Xb.f hc ?_)) <;> clear hc))
 exact ret_one (by simp) Tryz.results91 rfl (H' := _) (qR _) ⟨_,_,by rw [Nat.zero_add],rfl⟩
theorem clone_specMt (l : List Mt) (ad : Addr) (c : Nat) (H : List Row) (hl : SlE H (some ad) cMt 6 l) (hb : l.length ≤ 1000000) :
  Fc Tryz.prog 92 [.slice (some ad) l.length c] H (fun v H' => ∃ b k,v = .slice (some ⟨b,0,none⟩) l.length k∧H' = ⟨b,0,l.flatMap cMt,some 44,k * 6⟩::H):=by
 refine Fc.mk (callable Tryz.call92) Tryz.func92 rfl Tryz.ntmps92 rfl ?_;dsimp only [fr]
 repeat' (first | (refine uP rfl ?_;(first | ((first | refine uN rfl ?_);(first | (refine uE (EvF.eqNil rfl rfl (te rfl)) rfl rfl ?_)|(refine Xg.st (StF.buildNil rfl el24) rfl rfl ?_;rintro _ _ ⟨bn,rfl,rfl⟩)|(refine Xg.st (StF.appendSl (i:=0) rfl el24 rfl rfl rfl (hl.sub (fun _ h=>List.mem_cons_of_mem _ h)) (fun e _=>one_mt e) rfl (by decide) (by omega)) rfl rfl ?_;rintro _ _ ⟨b,k,rfl,rfl⟩;dsimp only [List.eraseIdx])|(refine uE (uM rfl rfl) rfl rfl ?_)|(refine uE (uA rfl rfl) rfl rfl ?_)))))|(refine uD rfl ?_;refine hK _ _ ?_;clear hK K) | refine uS rfl ?_ | refine uR rfl (fun K hK=>?_) | refine X.skip rfl ?_ | refine X.ret rfl ?_ | (refine X.ite rfl rfl (fun hc=>?_);(first | (with_reducible refine Xb.f hc ?_)) <;> clear hc))
 exact ret_one (by simp) Tryz.results92 rfl (H' := _) (qR _) ⟨_,_,by rw [Nat.zero_add],rfl⟩
theorem clone_specInt (l : List Int) (ad : Addr) (c : Nat) (H : List Row) (hl : SlE H (some ad) cI 1 l) (hb : l.length ≤ 1000000) :
  Fc Tryz.prog 51 [.slice (some ad) l.length c] H (fun v H' => ∃ b k,v = .slice (some ⟨b,0,none⟩) l.length k∧H' = ⟨b,0,l.flatMap cI,some 3,k * 1⟩::H):=by
 refine Fc.mk (callable Tryz.call51) Tryz.func51 rfl Tryz.ntmps51 rfl ?_;dsimp only [fr]
 repeat' (first | (refine uP rfl ?_;(first | ((first | refine uN rfl ?_);(first | (refine uE (EvF.eqNil rfl rfl (te rfl)) rfl rfl ?_)|(refine Xg.st (StF.buildNil rfl el55) rfl rfl ?_;rintro _ _ ⟨bn,rfl,rfl⟩)|(refine Xg.st (StF.appendSl (i:=0) rfl el55 rfl rfl rfl (hl.sub (fun _ h=>List.mem_cons_of_mem _ h)) (fun e _=>one_i e) rfl (by decide) (by omega)) rfl rfl ?_;rintro _ _ ⟨b,k,rfl,rfl⟩;dsimp only [List.eraseIdx])|(refine uE (uM rfl rfl) rfl rfl ?_)|(refine uE (uA rfl rfl) rfl rfl ?_)))))|(refine uD rfl ?_;refine hK _ _ ?_;clear hK K) | refine uS rfl ?_ | refine uR rfl (fun K hK=>?_) | refine X.skip rfl ?_ | refine X.ret rfl ?_ | (refine X.ite rfl rfl (fun hc=>?_);(first | (with_reducible refine Xb.f hc ?_)) <;> clear hc))
 exact ret_one (by simp) Tryz.results51 rfl (H' := _) (qR _) ⟨_,_,by rw [Nat.zero_add],rfl⟩
end Go.Proofs.YtmfppdpkalelhaaGreat
end
section
set_option linter.unusedVariables false
namespace Go.Fw
open Go Go.RowKit
section
variable {P : Program} {n : Nat} {ops : Array Oper} {i : Nat} {o : Oper} {F : FS} {H : List Row}
theorem add_zero' (a : Addr) : a.add 0 = a:=by unfold Addr.add;simp
/-- where the rest of a slice from some element on lies -/
def sfrom (a : Option Addr) (cap lo sz : Nat) : Option Addr:=if cap = lo then a else a.map (·.add (lo * sz))
theorem EvF.sliceTo {T e : TypeId} {x q : Operand} {a : Option Addr} {len cap hh s y : Nat} {kk : IntKind} {ti : TI} (h : o.op = .slice T x none (some q) none) (hx : evF F x = some (.slice a len cap)) (hT : tiOf P T = some ⟨.sl e,s,y⟩) (he : tiOf P e = some ti) (hq : evF F q = some (.int kk (hh : Int))) (h1 : hh ≤ cap) :
  EvF P n H F o (.slice a hh cap):=by
 unfold EvF EvOp
 intro t ha B w0 w hS
 have hu:=ti_slice hT
 have hsz:=ti_size he w
 have hxv:=ha.ev hx
 have hqv:=ha.ev hq
 have hbd : (Instr.sliceBounds true len cap none (some (.int kk (hh : Int))) none).run P w = .ok (0,hh,cap) w:=by
  simp [Instr.sliceBounds,Instr.sliceBound,asIntOf,h1]
 have e1 : (if cap = 0 then a else Option.map (fun x=>x.add (0 * ti.size)) a)=a:=by
  split
  ·rfl
  ·cases a <;> simp [add_zero']
 simp only [Nat.zero_mul] at e1
 simp [execOp,h,hxv,hqv,Instr.sliceAt,Instr.slice,underlying,hu,hbd,hsz,e1]
theorem EvF.sliceFrom {T e : TypeId} {x q : Operand} {a : Option Addr} {len cap lo s y : Nat} {kk : IntKind} {ti : TI} (h : o.op = .slice T x (some q) none none) (hx : evF F x = some (.slice a len cap)) (hT : tiOf P T = some ⟨.sl e,s,y⟩) (he : tiOf P e = some ti) (hq : evF F q = some (.int kk (lo : Int))) (h1 : lo ≤ len) (_h2 : len ≤ cap) :
  EvF P n H F o (.slice (sfrom a cap lo ti.size) (len - lo) (cap - lo)):=by
 unfold EvF EvOp
 intro t ha B w0 w hS
 have hu:=ti_slice hT
 have hsz:=ti_size he w
 have hxv:=ha.ev hx
 have hqv:=ha.ev hq
 have hbd : (Instr.sliceBounds true len cap (some (.int kk (lo : Int))) none none).run P w = .ok (lo,len,cap) w:=by
  simp [Instr.sliceBounds,Instr.sliceBound,asIntOf,h1]
 simp [execOp,h,hxv,hqv,Instr.sliceAt,Instr.slice,underlying,hu,hbd,hsz,sfrom]
theorem sfrom_lt {b off cap lo sz : Nat} (h : lo < cap) : sfrom (some ⟨b,off,none⟩) cap lo sz = some ⟨b,off + lo * sz,none⟩:=by
 unfold sfrom
 rw [if_neg (by omega)]
 simp [add_none]
theorem EvF.sliceFromL {T e : TypeId} {x q : Operand} {b off len cap lo s y : Nat} {kk : IntKind} {ti : TI} (h : o.op = .slice T x (some q) none none) (hx : evF F x = some (.slice (some ⟨b,off,none⟩) len cap)) (hT : tiOf P T = some ⟨.sl e,s,y⟩) (he : tiOf P e = some ti) (hq : evF F q = some (.int kk (lo : Int))) (h1 : lo ≤ len) (h2 : len ≤ cap) (h3 : lo < cap) :
  EvF P n H F o (.slice (some ⟨b,off + lo * ti.size,none⟩) (len - lo) (cap - lo)):=by
 have:=EvF.sliceFrom (P:=P) (n:=n) (H:=H) h hx hT he hq h1 h2
 rwa [sfrom_lt h3] at this
theorem sleFrom {α : Type} {a : Option Addr} {enc : α → List Value} {sz cap : Nat} {l : List α} (h : SlE H a enc sz l) (hc : l.length ≤ cap) (k : Nat) : SlE H (sfrom a cap k sz) enc sz (l.drop k):=by
 unfold SlE at h ⊢
 refine ⟨fun e he=>h.1 e (List.mem_of_mem_drop he),fun hk=>?_⟩
 rw [List.length_drop] at hk
 obtain ⟨b,off,rfl,r,j0,hr,hb,ho,hcl⟩:=h.2 (by omega)
 refine ⟨b,off + k * sz,sfrom_lt (by omega),r,j0 + k * sz,hr,hb,by omega,fun i e j v hi hj=>?_⟩
 rw [List.getElem?_drop] at hi
 have:=hcl (k + i) e j v hi hj
 rw [← this]
 congr 1
 rw [Nat.add_mul];omega
theorem XO.forget {N : FS → List Row → Prop} {q b cap : Nat} {el : TypeId} {cs cs' : List Value} (hi : H[q]? = some ⟨b,0,cs++cs',some el,cap⟩) (k : XO P n ops i F (H.set q ⟨b,0,cs,some el,cap⟩) N) : XO P n ops i F H N:=by
 unfold XO WO at *
 intro t ha ρ ds B w0 w hS
 exact k t ha ρ ds B w0 w (hS.forget hi)
/-- rows in another order -/
theorem X.permH {c : Code} {Q : QX} {H' : List Row} (hp : H'.Perm H) (k : X P n c F H' Q) : X P n c F H Q:=by
 unfold X W at *
 intro t ha ρ ds B w0 w hS
 exact k t ha ρ ds B w0 w (hS.perm hp)
/-- a piece of a row can be read -/
theorem Rd.piece {b j cap : Nat} {xs ys zs : List Value} {ow : Option Kd} (hr : ⟨b,0,xs++ys++zs,ow,cap⟩ ∈ H) (hj : xs.length = j) : Rd H ⟨b,0 + j,none⟩ ys:=by
 intro k v hk
 refine ⟨_,hr,j + k,rfl,rfl,by show 0 + (j + k)=0 + j + k;omega,?_⟩
 subst hj
 have hk' := (List.getElem?_eq_some_iff.1 hk).1
 rw [List.append_assoc,List.getElem?_append_right (by omega),Nat.add_sub_cancel_left,List.getElem?_append_left hk']
 exact hk
theorem splice_at {xs ys zs vs : List Value} {j : Nat} (hj : xs.length = j) (hv : vs.length = ys.length) : splice (xs++ys++zs) j vs = xs++vs++zs:=by
 subst hj
 unfold splice
 rw [hv]
 rw [show List.take xs.length (xs++ys++zs)=xs by rw [List.append_assoc];exact List.take_left]
 rw [show List.drop (xs.length + ys.length) (xs++ys++zs)=zs by rw [← List.length_append];exact List.drop_left]
/-- a table of a region whose last operation alone does something: nothing is drawn -/
def valL (vs : List Value) (k : Nat) (_ : Env) : Value:=vs.getD k undef
def rowsL (m : Nat) (new old : Row) (k : Nat) (_ : Env) : List Row:=match Nat.beq k m with
 | true=>[new]
 | false=>match Nat.beq k (m + 1) with
  | true=>[old]
  | false=>[]
end
end Go.Fw
end
section
set_option linter.unusedVariables false
set_option linter.unusedSimpArgs false
namespace Go.Proofs.YtmfppdpkalelhaaGreat
open Go Go.Fw
set_option maxRecDepth 10000
def ts101 : List TOp:=[⟨some 3,[],[],[]⟩,⟨some 4,[0],[0],[]⟩,⟨some 5,[0,1],[1],[]⟩,⟨some 6,[],[],[]⟩,⟨some 7,[3],[3],[]⟩,⟨some 8,[0,1,2,3,4],[4],[]⟩,⟨some 9,[],[],[]⟩,⟨some 10,[6],[6],[]⟩,⟨some 11,[0,1,2,3,4,5,6,7],[7],[]⟩,⟨some 12,[0,1,2,3,4,6,7],[],[]⟩,⟨none,[0,1,2,3,4,5,6,7,8,9],[9,2],[16]⟩,⟨some 13,[0,1,2,3,4,5,6,7,8,9,10],[],[]⟩,⟨none,[0,1,2,3,4,5,6,7,8,9,10,11],[11,5],[10]⟩,⟨some 14,[0,1,2,3,4,5,6,7,8,9,10,11,12],[],[]⟩,⟨none,[0,1,2,3,4,5,6,7,8,9,10,11,12,13],[13,8],[12]⟩,⟨none,[],[],[]⟩,⟨none,[],[],[]⟩]
def rd101 (k : Nat) : List Nat:=match k with
 | 1=>[16]
 | 4=>[16]
 | 7=>[16]
 | _=>[]
def val101 (b1 : Nat) (R : Rm) (d1 : Addr) (c1 : Nat) (d2 : Addr) (c2 : Nat) (d3 : Addr) (c3 : Nat) (k : Nat) (env : Env) : Value :=
 match k with
 | 0 => .pointer (some ⟨b1,2,none⟩)
 | 1 => .slice (some d1) R.ages.length c1
 | 2 => .slice (some ⟨(env 2).1,0,none⟩) R.ages.length (env 2).2
 | 3 => .pointer (some ⟨b1,3,none⟩)
 | 4 => .slice (some d2) R.boxes.length c2
 | 5 => .slice (some ⟨(env 5).1,0,none⟩) R.boxes.length (env 5).2
 | 6 => .pointer (some ⟨b1,4,none⟩)
 | 7 => .slice (some d3) R.mats.length c3
 | 8 => .slice (some ⟨(env 8).1,0,none⟩) R.mats.length (env 8).2
 | 9 => .pointer (some ⟨b1,2,none⟩)
 | 11 => .pointer (some ⟨b1,3,none⟩)
 | 13 => .pointer (some ⟨b1,4,none⟩)
 | _=>undef
def rows101 (b1 b2 : Nat) (R : Rm) (d1 : Addr) (c1 : Nat) (d2 : Addr) (c2 : Nat) (d3 : Addr) (c3 : Nat) (k : Nat) (env : Env) : List Row :=
 match k with
 | 2=>[⟨(env 2).1,0,R.ages.flatMap cSp,some 24,(env 2).2 * 2⟩]
 | 5=>[⟨(env 5).1,0,R.boxes.flatMap cBx,some 47,(env 5).2 * 2⟩]
 | 8=>[⟨(env 8).1,0,R.mats.flatMap cMt,some 44,(env 8).2 * 6⟩]
 | 10=>[⟨b1,0,cRm R ⟨some ⟨(env 2).1,0,none⟩,(env 2).2,some d2,c2,some d3,c3⟩,some 32,5⟩]
 | 12=>[⟨b1,0,cRm R ⟨some ⟨(env 2).1,0,none⟩,(env 2).2,some ⟨(env 5).1,0,none⟩,(env 5).2,some d3,c3⟩,some 32,5⟩]
 | 14=>[⟨b1,0,cRm R ⟨some ⟨(env 2).1,0,none⟩,(env 2).2,some ⟨(env 5).1,0,none⟩,(env 5).2,some ⟨(env 8).1,0,none⟩,(env 8).2⟩,some 32,5⟩]
 | 15=>[⟨b2,0,[.int .i64 0,.int .i64 0,.slice none 0 0,.slice none 0 0,.slice none 0 0],some 32,5⟩]
 | 16=>[⟨b1,0,cRm R ⟨some d1,c1,some d2,c2,some d3,c3⟩,some 32,5⟩]
 | _=>[]
theorem loc101 (b1 b2 : Nat) (R : Rm) (d1 : Addr) (c1 : Nat) (d2 : Addr) (c2 : Nat) (d3 : Addr) (c3 : Nat) : ∀ k env i q9,i ≠ k → (tAt ts101 k).sup.contains i = false → val101 b1 R d1 c1 d2 c2 d3 c3 k (upd env i q9)=val101 b1 R d1 c1 d2 c2 d3 c3 k env∧rows101 b1 b2 R d1 c1 d2 c2 d3 c3 k (upd env i q9)=rows101 b1 b2 R d1 c1 d2 c2 d3 c3 k env:=by
 intro k env i q hk hs
 have hu : ∀ j,j ≠ i → upd env i q j = env j:=fun j hj=>by unfold upd;rw [if_neg hj]
 match k,hk,hs with
 | 0,_,_=>exact ⟨rfl,rfl⟩
 | 1,_,_=>exact ⟨rfl,rfl⟩
 | 2,hk,hs=>exact ⟨by simp only [val101,hu 2 (fun e=>hk e.symm)],by simp only [rows101,hu 2 (fun e=>hk e.symm)]⟩
 | 3,_,_=>exact ⟨rfl,rfl⟩
 | 4,_,_=>exact ⟨rfl,rfl⟩
 | 5,hk,hs=>exact ⟨by simp only [val101,hu 5 (fun e=>hk e.symm)],by simp only [rows101,hu 5 (fun e=>hk e.symm)]⟩
 | 6,_,_=>exact ⟨rfl,rfl⟩
 | 7,_,_=>exact ⟨rfl,rfl⟩
 | 8,hk,hs=>exact ⟨by simp only [val101,hu 8 (fun e=>hk e.symm)],by simp only [rows101,hu 8 (fun e=>hk e.symm)]⟩
 | 9,_,_=>exact ⟨rfl,rfl⟩
 | 10,hk,hs=>exact ⟨by simp only [val101,hu 2 (by rintro rfl;cases hs)],by simp only [rows101,hu 2 (by rintro rfl;cases hs)]⟩
 | 11,_,_=>exact ⟨rfl,rfl⟩
 | 12,hk,hs=>exact ⟨by simp only [val101,hu 2 (by rintro rfl;cases hs),hu 5 (by rintro rfl;cases hs)],by simp only [rows101,hu 2 (by rintro rfl;cases hs),hu 5 (by rintro rfl;cases hs)]⟩
 | 13,_,_=>exact ⟨rfl,rfl⟩
 | 14,hk,hs=>exact ⟨by simp only [val101,hu 2 (by rintro rfl;cases hs),hu 5 (by rintro rfl;cases hs),hu 8 (by rintro rfl;cases hs)],by simp only [rows101,hu 2 (by rintro rfl;cases hs),hu 5 (by rintro rfl;cases hs),hu 8 (by rintro rfl;cases hs)]⟩
 | 15,_,_=>exact ⟨rfl,rfl⟩
 | 16,_,_=>exact ⟨rfl,rfl⟩
 | _ + 17,_,_=>exact ⟨rfl,rfl⟩
set_option maxHeartbeats 2000000 in
theorem copied_spec (R : Rm) (d1 : Addr) (c1 : Nat) (d2 : Addr) (c2 : Nat) (d3 : Addr) (c3 : Nat) (H : List Row) (hR : RmOk H R ⟨some d1,c1,some d2,c2,some d3,c3⟩) (h1 : R.ages.length ≤ 1000000) (h2 : R.boxes.length ≤ 1000000) (h3 : R.mats.length ≤ 1000000) :
  Fc Tryz.prog 63 [.agg (cRm R ⟨some d1,c1,some d2,c2,some d3,c3⟩).toArray] H (fun v H' => ∃ b1 k1 b2 k2 b3 k3,v = .agg (cRm R ⟨some ⟨b1,0,none⟩,k1,some ⟨b2,0,none⟩,k2,some ⟨b3,0,none⟩,k3⟩).toArray ∧
  H' = ⟨b1,0,R.ages.flatMap cSp,some 24,k1 * 2⟩::⟨b2,0,R.boxes.flatMap cBx,some 47,k2 * 2⟩::⟨b3,0,R.mats.flatMap cMt,some 44,k3 * 6⟩::H):=by
 refine Fc.mk (callable Tryz.call63) Tryz.func63 rfl Tryz.ntmps63 rfl ?_;dsimp only [fr]
 refine uS rfl ?_;refine uR rfl (fun K hK=>?_);repeat' (first | (refine uP rfl ?_;(first | ((first | refine uN rfl ?_);(first | (refine Xg.st (StF.boxAgg rfl rfl) rfl rfl ?_;rintro _ _ ⟨bx,rfl,rfl⟩)|(refine Xg.st (StF.alloc rfl Tryz.zeroValue32 rfl) rfl rfl ?_;rintro _ _ ⟨bx,rfl,rfl⟩)))))|(refine uD rfl ?_;refine hK _ _ ?_;clear hK K))
 rename_i b1
 rename Nat=>b2
 refine uS rfl ?_
 refine X.regionRd ts101 rd101 [1,2] [(1,.pointer (some ⟨b1,0,none⟩)),(2,.pointer (some ⟨b2,0,none⟩))] (val101 b1 R d1 c1 d2 c2 d3 c3) (rows101 b1 b2 R d1 c1 d2 c2 d3 c3) (fun _=>(0,0)) H rfl mixed (by repeat (first | exact uU _ | refine uV rfl ?_)) rfl (by kernel_rfl) (by kernel_rfl) (loc101 b1 b2 R d1 c1 d2 c2 d3 c3) (qR _) ?_ ?_
 ·repeat' (first | exact AllF.done rfl | (refine AllF.step rfl ?_ ?_;·(first | exact (Ob.ng rfl (ObK.pure (fun env R hR=>by exact ⟨_,uF rfl rfl (te rfl) rfl (te rfl) (by decide),rfl⟩) rfl (fun _=>rfl))).toR | (refine ObR.ng rfl ?_;(first | (exact fun env S hS hrd=>(StF.ofEv (uL rfl rfl (uO (te rfl) rfl (hrd 16 (qH _) _ (qH _)) rfl))).op.mono (fun v H' ⟨hv,hH⟩=>⟨(0,0),fun _=>hv,by rw [hH];exact List.Perm.refl _⟩))|(exact fun env S hS hrd=>(OpF.call (uT rfl (by (repeat (first | exact Args.nil | refine Args.cons rfl ?_));done)) (clone_specSp R.ages d1 c1 _ (hR.ages.sub (fun r hr=>hS r hr)) h1)).mono (fun v H' ⟨b,k,hv,hH⟩=>⟨(b,k),fun _=>hv,by rw [hH];exact List.Perm.refl _⟩))|(exact fun env S hS hrd=>(OpF.call (uT rfl (by (repeat (first | exact Args.nil | refine Args.cons rfl ?_));done)) (clone_specBx R.boxes d2 c2 _ (hR.boxes.sub (fun r hr=>hS r hr)) h2)).mono (fun v H' ⟨b,k,hv,hH⟩=>⟨(b,k),fun _=>hv,by rw [hH];exact List.Perm.refl _⟩))|(exact fun env S hS hrd=>(OpF.call (uT rfl (by (repeat (first | exact Args.nil | refine Args.cons rfl ?_));done)) (clone_specMt R.mats d3 c3 _ (hR.mats.sub (fun r hr=>hS r hr)) h3)).mono (fun v H' ⟨b,k,hv,hH⟩=>⟨(b,k),fun _=>hv,by rw [hH];exact List.Perm.refl _⟩))|(exact fun env S hS hrd=>(StF.storeOne (i:=0) rfl rfl rfl rfl (te rfl) rfl rfl (Nat.le_of_ble_eq_true rfl)).op.mono (fun v H' ⟨hv,hH⟩=>⟨(0,0),fun h=>absurd rfl h,by rw [hH];exact List.Perm.refl _⟩)))))))
 ·intro env t ha hv
  refine ⟨[(1,.pointer (some ⟨b1,0,none⟩)),(2,.pointer (some ⟨b2,0,none⟩))],ha,?_⟩
  show X _ _ _ _ (⟨(env 2).1,0,R.ages.flatMap cSp,some 24,(env 2).2 * 2⟩::⟨(env 5).1,0,R.boxes.flatMap cBx,some 47,(env 5).2 * 2⟩::⟨(env 8).1,0,R.mats.flatMap cMt,some 44,(env 8).2 * 6⟩ ::
   ⟨b1,0,cRm R ⟨some ⟨(env 2).1,0,none⟩,(env 2).2,some ⟨(env 5).1,0,none⟩,(env 5).2,some ⟨(env 8).1,0,none⟩,(env 8).2⟩,some 32,5⟩::⟨b2,0,[.int .i64 0,.int .i64 0,.slice none 0 0,.slice none 0 0,.slice none 0 0],some 32,5⟩::H) _
  repeat' (first | (refine uP rfl ?_;(first | ((first | refine uN rfl ?_);(first | (refine uE (uL rfl rfl (uW (te rfl) rfl (qT _ (qT _ (qT _ (qH _)))) rfl)) rfl rfl ?_)|(refine Xg.st0 (StF.storeAll (i:=4) rfl rfl rfl (te rfl) rfl rfl rfl rfl) rfl ?_;rintro _ _ ⟨rfl,rfl⟩;dsimp only [List.set])))))|(refine uD rfl ?_;refine hK _ _ ?_;clear hK K) | refine uS rfl ?_ | refine uR rfl (fun K hK=>?_) | refine X.ret rfl ?_)
  exact ret_one (.inr rfl) Tryz.results63 ⟨_,rfl,uW (te rfl) rfl (qT _ (qT _ (qT _ (qT _ (qH _))))) rfl⟩ (H' := ⟨(env 2).1,0,R.ages.flatMap cSp,some 24,(env 2).2 * 2⟩::⟨(env 5).1,0,R.boxes.flatMap cBx,some 47,(env 5).2 * 2⟩::⟨(env 8).1,0,R.mats.flatMap cMt,some 44,(env 8).2 * 6⟩::H)
   (qK _ (qK _ (qK _ (qC _ (qC _ (qR _)))))) ⟨_,_,_,_,_,_,rfl,rfl⟩
end Go.Proofs.YtmfppdpkalelhaaGreat
end
section
set_option linter.unusedVariables false
set_option linter.unusedSimpArgs false
namespace Go.Proofs.YtmfppdpkalelhaaGreat
open Go Go.Fw
set_option maxRecDepth 10000
def ts135b : List TOp:=[⟨some 46,[],[],[]⟩,⟨some 47,[],[],[]⟩,⟨some 48,[],[],[]⟩,⟨some 49,[1,2],[1,2],[]⟩,⟨some 50,[0,1,2,3],[0,3],[]⟩,⟨some 51,[],[],[]⟩,⟨some 52,[],[],[]⟩,⟨some 53,[5,6],[5,6],[]⟩,⟨some 54,[0,1,2,3,4,5,6,7],[4,7],[9]⟩,⟨none,[],[],[]⟩]
def ts135c : List TOp:=[⟨some 69,[],[],[]⟩,⟨some 70,[],[],[]⟩,⟨some 71,[],[],[]⟩,⟨some 72,[1,2],[1,2],[]⟩,⟨some 73,[0,1,2,3],[0,3],[]⟩,⟨some 74,[],[],[]⟩,⟨some 75,[],[],[]⟩,⟨some 76,[5,6],[5,6],[]⟩,⟨some 77,[0,1,2,3,4,5,6,7],[4,7],[9]⟩,⟨none,[],[],[]⟩]
theorem locL (ts : List TOp) (vs : List Value) (m : Nat) (a b : Row) : ∀ k env i p,i ≠ k → (tAt ts k).sup.contains i = false → valL vs k (upd env i p)=valL vs k env∧rowsL m a b k (upd env i p)=rowsL m a b k env:=fun _ _ _ _ _ _=>⟨rfl,rfl⟩
set_option maxHeartbeats 4000000 in
theorem insert_specMt (l : List Mt) (x : Mt) (k b c bv : Nat) (H : List Row) (hk : k ≤ l.length) (hb : l.length ≤ 1000000) :
  Fc Tryz.prog 95 [.slice (some ⟨b,0,none⟩) l.length c,.int .i64 (k : Nat),.slice (some ⟨bv,0,none⟩) 1 1] (⟨bv,0,cMt x,some 44,1 * 6⟩::⟨b,0,l.flatMap cMt,some 44,c * 6⟩::H)
   (fun v H' => ∃ b' c',v = .slice (some ⟨b',0,none⟩) (l.length + 1) c'∧H' = ⟨b',0,(l.take k++[x]++l.drop k).flatMap cMt,some 44,c' * 6⟩::H):=by
 have hlen:=lenMt l
 have hT : ((l.take k).flatMap cMt).length = k * 6:=by rw [lenMt,List.length_take];omega
 have hD : ((l.drop k).flatMap cMt).length = (l.length - k) * 6:=by rw [lenMt,List.length_drop]
 have hTD : l.flatMap cMt = (l.take k).flatMap cMt++(l.drop k).flatMap cMt:=by rw [← List.flatMap_append,List.take_append_drop]
 have hall : ((l.drop k).flatMap cMt).all (·.oneCell') = true:=by
  rw [List.all_flatMap]
  exact List.all_eq_true.2 (fun e _=>one_mt e)
 refine Fc.mk (callable Tryz.call95) Tryz.func95 rfl Tryz.ntmps95 rfl ?_;dsimp only [fr]
 refine X.reveal (q:=1) rfl (fun rest hrest=>?_)
 refine X.forget (q:=1) (cs:=l.flatMap cMt) (cs' := rest) rfl ?_
 dsimp only [List.set]
 have hlc : l.length ≤ c:=by
  rw [List.length_append,hlen] at hrest
  omega
 clear hrest
 repeat' (first | (refine uP rfl ?_;(first | ((first | refine uN rfl ?_);(first | (refine uE (EvF.capSlice rfl rfl (te rfl)) rfl rfl ?_)|(refine uE (EvF.sliceTo (hh:=k) rfl rfl (te rfl) (te rfl) rfl (by omega)) rfl rfl ?_)|(refine uE (EvF.sliceTo (hh:=l.length + 1) rfl rfl (te rfl) (te rfl) rfl (by omega)) rfl rfl ?_)|(refine uE (EvF.sliceFromL (lo:=k + 1) rfl rfl (te rfl) (te rfl) rfl (by omega) (by omega) (by omega)) rfl rfl ?_)|(refine uE (EvF.sliceFrom rfl rfl (te rfl) (te rfl) rfl hk hlc) rfl rfl ?_)|(refine Xg.st (StF.appendOwn (i:=1) rfl el24 rfl rfl rfl hlen rfl (Rd.own (qH _)) rfl (by omega)) rfl rfl ?_;rintro _ _ ⟨bn,kn,rfl,rfl⟩;dsimp only [List.eraseIdx])|(refine Xg.st (StF.apart (TR:=4) (p:=0) (q:=1) rfl Tryz.func117 (by kernel_rfl) (by kernel_rfl) (by kernel_rfl) (by kernel_rfl) el24 rfl rfl rfl rfl (by decide) (by omega)) rfl rfl ?_;rintro _ _ ⟨rfl,rfl⟩)|(refine uE (uM rfl rfl) rfl rfl ?_)|(refine uE (uA rfl rfl) rfl rfl ?_)|(refine uE (uQ rfl rfl rfl rfl) rfl rfl ?_)|(refine uE (EvF.add64 rfl rfl rfl (by omega) (by omega)) rfl rfl ?_)|(refine uE (EvF.sub64 rfl rfl rfl (by omega) (by omega)) rfl rfl ?_)|(refine uE (EvF.not rfl rfl) rfl rfl ?_)|(refine uE (EvF.lenSlice rfl rfl (te rfl)) rfl rfl ?_)))))|(refine uD rfl ?_;refine hK _ _ ?_;clear hK K) | refine uS rfl ?_ | refine uR rfl (fun K hK=>?_) | refine X.skip rfl ?_ | refine X.ret rfl ?_ | (refine X.ite rfl rfl (fun hc=>?_);(first | (with_reducible refine Xb.case hc (fun h=>?_) (fun h=>?_))|(with_reducible refine Xb.caseB hc (fun h=>?_) (fun h=>?_))) <;> clear hc))
 ·exfalso;omega
 ·refine ret_one (by simp) Tryz.results95 rfl (H' := ⟨bn,0,l.flatMap cMt++cMt x,some 44,kn * 6⟩::H) (by repeat (first | exact qR _ | apply qK | apply qC)) ⟨bn,kn,rfl,?_⟩
  obtain rfl : k = l.length:=by omega
  simp [List.flatMap_append]
 ·refine uP rfl ?_
  refine uN rfl ?_
  refine Xg.st (StF.appendMake (xs:=(l.take k).flatMap cMt) (k:=k) (q:=l.length + 1 - k) rfl el24 (te rfl) rfl (congrArg (fun z=>some (Value.int .i64 z)) (by omega : ((l.length : Int) + ((1 : Nat) : Int) - (k : Int)) = ((l.length + 1 - k : Nat) : Int))) (Rd.piece (xs:=[]) (zs:=(l.drop k).flatMap cMt) (by rw [List.nil_append, ← hTD];exact qT _ (qH _)) rfl) hT (by decide) (by omega) (by omega) (by omega)) rfl rfl ?_
  rintro _ _ ⟨bn,kn,zs,rfl,hz,hkn,rfl⟩
  rw [show k + (l.length + 1 - k)=l.length + 1 by omega] at hkn ⊢
  repeat' (first | (refine uP rfl ?_;(first | ((first | refine uN rfl ?_);(first | (refine uE (EvF.sliceFromL (lo:=k) rfl rfl (te rfl) (te rfl) rfl (by omega) (by omega) (by omega)) rfl rfl ?_)|(refine Xg.st (StF.copyOwn (q:=0) (j:=0 + k * 6) (m:=1) rfl el24 rfl rfl rfl (Nat.min_eq_left (by omega)) rfl (Rd.own (qT _ (qH _))) rfl (by rw [List.length_append,hT,hz];show 0 + k * 6 + 6 ≤ _;omega)) rfl rfl ?_;rintro _ _ ⟨rfl,rfl⟩;dsimp only [List.set])|(refine uE (uM rfl rfl) rfl rfl ?_)|(refine uE (uA rfl rfl) rfl rfl ?_)))))|(refine uD rfl ?_;refine hK _ _ ?_;clear hK K) | refine uS rfl ?_ | refine uR rfl (fun K hK=>?_))
  obtain ⟨z2,hz2,e1⟩ : ∃ z2 : List Value,z2.length = (l.length - k) * 6∧splice ((l.take k).flatMap cMt++zs) (0 + k * 6) (cMt x)=(l.take k).flatMap cMt++cMt x++z2:=by
   refine ⟨zs.drop 6,by rw [List.length_drop,hz];omega,?_⟩
   have:=splice_at (xs:=(l.take k).flatMap cMt) (ys:=zs.take 6) (zs:=zs.drop 6) (vs:=cMt x) (j:=0 + k * 6) (by omega) (by rw [List.length_take,hz];show 6 = _;omega)
   rwa [List.append_assoc,List.take_append_drop] at this
  rw [e1]
  have e2 : splice ((l.take k).flatMap cMt++cMt x++z2) (0 + (k + 1) * 6) ((l.drop k).flatMap cMt)=(l.take k++[x]++l.drop k).flatMap cMt:=by
   have:=splice_at (xs:=(l.take k).flatMap cMt++cMt x) (ys:=z2) (zs:=[]) (vs:=(l.drop k).flatMap cMt) (j:=0 + (k + 1) * 6) (by rw [List.length_append,hT];show k * 6 + 6 = _;omega) (by rw [hD,hz2])
   rw [List.append_nil,List.append_nil] at this
   rw [this,List.flatMap_append,List.flatMap_append]
   simp
  refine X.regionOb ts135b [9,1,7,0] [(9,.slice (some ⟨bn,0,none⟩) (l.length + 1) kn),(1,.int .i64 k),(7,.int .i64 (1 : Nat)),(0,.slice (some ⟨b,0,none⟩) l.length c)]
   (valL [.slice (some ⟨bn,0,none⟩) (l.length + 1) kn,.int .i64 k,.int .i64 (1 : Nat),.int .i64 (k + 1 : Nat),.slice (some ⟨bn,0 + (k + 1) * 6,none⟩) (l.length + 1 - (k + 1)) (kn - (k + 1)),.slice (some ⟨b,0,none⟩) l.length c,.int .i64 k,.slice (some ⟨b,0 + k * 6,none⟩) (l.length - k) (c - k),.int .i64 (l.length - k : Nat)])
   (rowsL 8 ⟨bn,0,splice ((l.take k).flatMap cMt++cMt x++z2) (0 + (k + 1) * 6) ((l.drop k).flatMap cMt),some 44,kn * 6⟩ ⟨bn,0,(l.take k).flatMap cMt++cMt x++z2,some 44,kn * 6⟩) (fun _=>(0,0)) (⟨bv,0,cMt x,some 44,1 * 6⟩::⟨b,0,l.flatMap cMt,some 44,c * 6⟩::H) rfl mixed (by repeat (first | exact uU _ | refine uV rfl ?_)) rfl (by kernel_rfl) (locL _ _ _ _ _) (qR _) ?_ ?_
  ·repeat' (first | exact AllF.done rfl | (refine AllF.step rfl ?_ ?_;·(first | fail | ((first | refine Ob.ng rfl ?_);(first | exact ObK.pure (fun env R hR=>by exact ⟨_,uM rfl rfl,rfl⟩) rfl (fun _=>rfl)|(exact ObK.pure (fun env S hS=>⟨_,EvF.add64 rfl rfl rfl (by omega) (by omega),rfl⟩) rfl (fun _=>rfl))|(exact ObK.pure (fun env S hS=>⟨_,EvF.sliceFromL (lo:=k + 1) rfl rfl (te rfl) (te rfl) rfl (by omega) (by omega) (by omega),rfl⟩) rfl (fun _=>rfl))|(exact ObK.pure (fun env S hS=>⟨_,EvF.sliceFromL (lo:=k) rfl rfl (te rfl) (te rfl) rfl (by omega) (by omega) (by omega),rfl⟩) rfl (fun _=>rfl))|(exact fun env S hS=>(StF.copyOwn (q:=0) (j:=0 + (k + 1) * 6) (m:=l.length - k) (vs:=(l.drop k).flatMap cMt) rfl el24 rfl rfl rfl ((Nat.min_eq_left (by omega)).trans (by omega)) hD (Rd.piece (xs:=(l.take k).flatMap cMt) (zs:=[]) (by rw [List.append_nil, ← hTD];exact qT _ (hS _ (qT _ (qH _)))) hT) hall (by rw [List.length_append,List.length_append,hT,hz2,hD];show _ ≤ k * 6 + 6 + _;omega)).op.mono (fun v H' ⟨hv,hH⟩=>⟨(0,0),fun _=>hv,by rw [hH];exact List.Perm.refl _⟩)))))))
  ·intro env t ha hv
   refine ⟨_,ha,?_⟩
   show X _ _ _ _ (⟨bn,0,splice ((l.take k).flatMap cMt++cMt x++z2) (0 + (k + 1) * 6) ((l.drop k).flatMap cMt),some 44,kn * 6⟩::⟨bv,0,cMt x,some 44,1 * 6⟩::⟨b,0,l.flatMap cMt,some 44,c * 6⟩::H) _
   rw [e2]
   repeat' (first | (refine uP rfl ?_;(first | ((first | refine uN rfl ?_);(first | (refine uE (uM rfl rfl) rfl rfl ?_)|(refine uE (uA rfl rfl) rfl rfl ?_)))))|(refine uD rfl ?_;refine hK _ _ ?_;clear hK K) | refine uS rfl ?_ | refine uR rfl (fun K hK=>?_) | refine X.ret rfl ?_)
   exact ret_one (by simp) Tryz.results95 rfl (H' := ⟨bn,0,(l.take k++[x]++l.drop k).flatMap cMt,some 44,kn * 6⟩::H) (by repeat (first | exact qR _ | apply qK | apply qC)) ⟨bn,kn,rfl,rfl⟩
 ·refine X.reveal (q:=1) rfl (fun rst hrst=>?_)
  dsimp only [List.set]
  have hkl : k < l.length:=by omega
  have hroom : l.length + 1 ≤ c:=by omega
  have hrl : rst.length = (c - l.length) * 6:=by
   rw [List.length_append,hlen] at hrst
   omega
  rw [hTD]
  obtain ⟨d1,d2,r2,hd1,hd2,hdr⟩ : ∃ d1 d2 r2 : List Value,d1.length = 6∧d2.length = (l.length - k) * 6∧(l.drop k).flatMap cMt++rst = d1++d2++r2:=by
   refine ⟨((l.drop k).flatMap cMt++rst).take 6,(((l.drop k).flatMap cMt++rst).drop 6).take ((l.length - k) * 6),(((l.drop k).flatMap cMt++rst).drop 6).drop ((l.length - k) * 6),?_,?_,?_⟩
   ·rw [List.length_take,List.length_append,hD,hrl];omega
   ·rw [List.length_take,List.length_drop,List.length_append,hD,hrl];omega
   ·rw [List.append_assoc,List.take_append_drop,List.take_append_drop]
  have e1 : splice ((l.take k).flatMap cMt++(l.drop k).flatMap cMt++rst) (0 + (k + 1) * 6) ((l.drop k).flatMap cMt)=(l.take k).flatMap cMt++d1++((l.drop k).flatMap cMt++r2):=by
   have:=splice_at (xs:=(l.take k).flatMap cMt++d1) (ys:=d2) (zs:=r2) (vs:=(l.drop k).flatMap cMt) (j:=0 + (k + 1) * 6) (by rw [List.length_append,hT,hd1];omega) (by rw [hD,hd2])
   rw [List.append_assoc ((l.take k).flatMap cMt),hdr]
   rw [← List.append_assoc, ← List.append_assoc,this,List.append_assoc]
  have e2 : splice ((l.take k).flatMap cMt++d1++((l.drop k).flatMap cMt++r2)) (0 + k * 6) (cMt x)=(l.take k++[x]++l.drop k).flatMap cMt++r2:=by
   rw [splice_at (by rw [hT];omega) (by rw [hd1];rfl),List.flatMap_append,List.flatMap_append]
   simp
  refine X.permH (List.Perm.swap _ _ _) ?_
  refine X.regionOb ts135c [0,1,7,2] [(0,.slice (some ⟨b,0,none⟩) (l.length + 1) c),(1,.int .i64 k),(7,.int .i64 (1 : Nat)),(2,.slice (some ⟨bv,0,none⟩) 1 1)]
   (valL [.slice (some ⟨b,0,none⟩) (l.length + 1) c,.int .i64 k,.int .i64 (1 : Nat),.int .i64 (k + 1 : Nat),.slice (some ⟨b,0 + (k + 1) * 6,none⟩) (l.length + 1 - (k + 1)) (c - (k + 1)),.slice (some ⟨b,0,none⟩) (l.length + 1) c,.int .i64 k,.slice (some ⟨b,0 + k * 6,none⟩) (l.length + 1 - k) (c - k),.int .i64 (l.length - k : Nat)])
   (rowsL 8 ⟨b,0,splice ((l.take k).flatMap cMt++(l.drop k).flatMap cMt++rst) (0 + (k + 1) * 6) ((l.drop k).flatMap cMt),some 44,c * 6⟩ ⟨b,0,(l.take k).flatMap cMt++(l.drop k).flatMap cMt++rst,some 44,c * 6⟩) (fun _=>(0,0)) (⟨bv,0,cMt x,some 44,1 * 6⟩::H) rfl mixed (by repeat (first | exact uU _ | refine uV rfl ?_)) rfl (by kernel_rfl) (locL _ _ _ _ _) (qR _) ?_ ?_
  ·repeat' (first | exact AllF.done rfl | (refine AllF.step rfl ?_ ?_;·(first | fail | ((first | refine Ob.ng rfl ?_);(first | exact ObK.pure (fun env R hR=>by exact ⟨_,uM rfl rfl,rfl⟩) rfl (fun _=>rfl)|(exact ObK.pure (fun env S hS=>⟨_,EvF.add64 rfl rfl rfl (by omega) (by omega),rfl⟩) rfl (fun _=>rfl))|(exact ObK.pure (fun env S hS=>⟨_,EvF.sliceFromL (lo:=k + 1) rfl rfl (te rfl) (te rfl) rfl (by omega) (by omega) (by omega),rfl⟩) rfl (fun _=>rfl))|(exact ObK.pure (fun env S hS=>⟨_,EvF.sliceFromL (lo:=k) rfl rfl (te rfl) (te rfl) rfl (by omega) (by omega) (by omega),rfl⟩) rfl (fun _=>rfl))|(exact fun env S hS=>(StF.copyOwn (q:=0) (j:=0 + (k + 1) * 6) (m:=l.length - k) (vs:=(l.drop k).flatMap cMt) rfl el24 rfl rfl rfl ((Nat.min_eq_right (by omega)).trans (by omega)) hD (Rd.piece (xs:=(l.take k).flatMap cMt) (zs:=rst) (qH _) hT) hall (by rw [List.length_append,List.length_append,hT,hrl,hD];omega)).op.mono (fun v H' ⟨hv,hH⟩=>⟨(0,0),fun _=>hv,by rw [hH];exact List.Perm.refl _⟩)))))))
  ·intro env t ha hv
   refine ⟨_,ha,?_⟩
   show X _ _ _ _ (⟨b,0,splice ((l.take k).flatMap cMt++(l.drop k).flatMap cMt++rst) (0 + (k + 1) * 6) ((l.drop k).flatMap cMt),some 44,c * 6⟩::⟨bv,0,cMt x,some 44,1 * 6⟩::H) _
   rw [e1]
   refine uS rfl ?_;refine uR rfl (fun K hK=>?_);repeat' (first | (refine uP rfl ?_;(first | ((first | refine uN rfl ?_);(first | (refine uE (EvF.sliceFromL (lo:=k) rfl rfl (te rfl) (te rfl) rfl (by omega) (by omega) (by omega)) rfl rfl ?_)|(refine Xg.st (StF.copyOwn (q:=0) (j:=0 + k * 6) (m:=1) rfl el24 rfl rfl rfl (Nat.min_eq_left (by omega)) rfl (Rd.own (qT _ (qH _))) rfl (by rw [List.length_append,List.length_append,hT,hd1];show 0 + k * 6 + 6 ≤ _;omega)) rfl rfl ?_;rintro _ _ ⟨rfl,rfl⟩;dsimp only [List.set])|(refine uE (uM rfl rfl) rfl rfl ?_)))))|(refine uD rfl ?_;refine hK _ _ ?_;clear hK K))
   rw [e2]
   refine X.forget (q:=0) rfl ?_
   dsimp only [List.set]
   repeat' (first | (refine uP rfl ?_;(first | ((first | refine uN rfl ?_);(first | (refine uE (uM rfl rfl) rfl rfl ?_)|(refine uE (uA rfl rfl) rfl rfl ?_)))))|(refine uD rfl ?_;refine hK _ _ ?_;clear hK K) | refine uS rfl ?_ | refine uR rfl (fun K hK=>?_) | refine X.ret rfl ?_)
   exact ret_one (by simp) Tryz.results95 rfl (H' := ⟨b,0,(l.take k++[x]++l.drop k).flatMap cMt,some 44,c * 6⟩::H) (by repeat (first | exact qR _ | apply qK | apply qC)) ⟨b,c,rfl,rfl⟩
 ·rename_i h _
  cases h
end Go.Proofs.YtmfppdpkalelhaaGreat
end
section
set_option linter.unusedVariables false
set_option linter.unusedSimpArgs false
namespace Go.Proofs.YtmfppdpkalelhaaGreat
open Go Go.Fw
set_option maxRecDepth 10000
def ts102 : List TOp:=[⟨some 15,[],[],[]⟩,⟨some 16,[0],[0],[]⟩,⟨some 17,[],[],[]⟩,⟨some 18,[],[],[]⟩,⟨some 19,[3],[3],[]⟩,⟨some 20,[0,1,2,3,4],[1,2,4],[4,1]⟩,⟨some 6,[0,1,2,3,4,5],[5],[]⟩]
def insMt (x : Mt) : List Mt → List Mt
 | []=>[x]
 | m::t=>if m.number < x.number then m::insMt x t else x::m::t
theorem insMt_at (x : Mt) : ∀ (l : List Mt) (k : Nat),k ≤ l.length → (∀ i e,i < k → l[i]? = some e → e.number < x.number) → (∀ e,l[k]? = some e → ¬ e.number < x.number) → insMt x l = l.take k++[x]++l.drop k
 | [],k,hk,_,_=>by simp [insMt]
 | m::t,0,_,_,h=>by
  have:=h m rfl
  simp [insMt,this]
 | m::t,k + 1,hk,h1,h2=>by
  have h3:=h1 0 m (by omega) rfl
  have:=insMt_at x t k (by simpa using hk) (fun i e hi he=>h1 (i + 1) e (by omega) (by simpa using he)) (fun e he=>h2 e (by simpa using he))
  simp [insMt,h3,this]
theorem insMt_len (x : Mt) : ∀ l,(insMt x l).length = l.length + 1
 | []=>rfl
 | m::t=>by
  have:=insMt_len x t
  simp only [insMt]
  split <;> simp [this]
def val102Mt (l : List Mt) (x : Mt) (k0 : Nat) (ad : Addr) (c : Nat) (k : Nat) (env : Env) : Value :=
 match k with
 | 0 => .slice (some ad) l.length c
 | 1 => .slice (some ⟨(env 1).1,0,none⟩) l.length (env 1).2
 | 2 => .int .i64 k0
 | 3 => .agg (cMt x).toArray
 | 4 => .slice (some ⟨(env 4).1,0,none⟩) 1 1
 | 5 => .slice (some ⟨(env 5).1,0,none⟩) (l.length + 1) (env 5).2
 | 6 => .slice (some ⟨(env 5).1,0,none⟩) (l.length + 1) (env 5).2
 | _=>undef
def rows102Mt (l : List Mt) (x : Mt) (k0 : Nat) (k : Nat) (env : Env) : List Row :=
 match k with
 | 1=>[⟨(env 1).1,0,l.flatMap cMt,some 44,(env 1).2 * 6⟩]
 | 4=>[⟨(env 4).1,0,cMt x,some 44,1 * 6⟩]
 | 5=>[⟨(env 5).1,0,(l.take k0++[x]++l.drop k0).flatMap cMt,some 44,(env 5).2 * 6⟩]
 | _=>[]
theorem loc102Mt (l : List Mt) (x : Mt) (k0 : Nat) (ad : Addr) (c : Nat) : ∀ k env i q9,i ≠ k → (tAt ts102 k).sup.contains i = false → val102Mt l x k0 ad c k (upd env i q9)=val102Mt l x k0 ad c k env∧rows102Mt l x k0 k (upd env i q9)=rows102Mt l x k0 k env:=by
 intro k env i q hk hs
 have hu : ∀ j,j ≠ i → upd env i q j = env j:=fun j hj=>by unfold upd;rw [if_neg hj]
 match k,hk,hs with
 | 0,_,_=>exact ⟨rfl,rfl⟩
 | 1,hk,hs=>exact ⟨by simp only [val102Mt,hu 1 (fun e=>hk e.symm)],by simp only [rows102Mt,hu 1 (fun e=>hk e.symm)]⟩
 | 2,_,_=>exact ⟨rfl,rfl⟩
 | 3,_,_=>exact ⟨rfl,rfl⟩
 | 4,hk,hs=>exact ⟨by simp only [val102Mt,hu 4 (fun e=>hk e.symm)],by simp only [rows102Mt,hu 4 (fun e=>hk e.symm)]⟩
 | 5,hk,hs=>exact ⟨by simp only [val102Mt,hu 5 (fun e=>hk e.symm)],by simp only [rows102Mt,hu 5 (fun e=>hk e.symm)]⟩
 | 6,hk,hs=>exact ⟨by simp only [val102Mt,hu 5 (by rintro rfl;cases hs)],by simp only [rows102Mt,hu 5 (by rintro rfl;cases hs)]⟩
 | _ + 7,_,_=>exact ⟨rfl,rfl⟩
set_option maxHeartbeats 4000000 in
theorem put_specMt (l : List Mt) (x : Mt) (ad : Addr) (c : Nat) (H : List Row) (hl : SlE H (some ad) cMt 6 l) (hb : l.length ≤ 1000000) :
  Fc Tryz.prog 64 [.slice (some ad) l.length c,.agg (cMt x).toArray,.func (.func 55) #[] #[]] H (fun v H' => ∃ b k,v = .slice (some ⟨b,0,none⟩) (insMt x l).length k∧H' = ⟨b,0,(insMt x l).flatMap cMt,some 44,k * 6⟩::H):=by
 have hl2 : ∀ r1 r2,SlE (r1::r2::H) (some ad) cMt 6 l:=fun r1 r2=>hl.sub (fun _ h=>qT _ (qT _ h))
 refine Fc.mk (callable Tryz.call64) Tryz.func64 rfl Tryz.ntmps64 rfl ?_;dsimp only [fr]
 refine uS rfl ?_;refine uR rfl (fun K hK=>?_);repeat' (first | (refine uP rfl ?_;(first | ((first | refine uN rfl ?_);(first | (refine uE (uA rfl rfl) rfl rfl ?_)|(refine Xg.st (StF.boxAgg rfl rfl) rfl rfl ?_;rintro _ _ ⟨bx,rfl,rfl⟩)|(refine Xg.st (StF.boxOne rfl rfl rfl) rfl rfl ?_;rintro _ _ ⟨bx,rfl,rfl⟩)))))|(refine uD rfl ?_;refine hK _ _ ?_;clear hK K))
 rename_i b4
 rename Nat=>b5
 repeat' (first | (refine uP rfl ?_;(first | ((first | refine uN rfl ?_);(first | (refine uE (EvF.makeFunc (fl:=[]) rfl Args.nil (Args.cons rfl (Args.cons rfl Args.nil))) rfl rfl ?_)|(refine uC (uT rfl (by (repeat (first | exact Args.nil | refine Args.cons rfl ?_));done)) rfl rfl (indexFunc_specMt l _ _ 94 (fun y=>decide (y.number ≥ x.number)) _ _ (hl2 _ _) (by omega) (fun y _=>put1_specMt y x _ _ _ _ _ _ _ (qH _) (qT _ (qH _)))) ?_;rintro _ H9 ⟨⟨z,rfl,hz⟩,hH9⟩;subst H9;rcases hz with ⟨rfl,hz⟩ | ⟨k,e,rfl,he,hp,hz⟩)|(refine uE (uM rfl rfl) rfl rfl ?_)|(refine uE (uA rfl rfl) rfl rfl ?_)|(refine uE (uQ rfl rfl rfl rfl) rfl rfl ?_)|(refine uE (EvF.lenSlice rfl rfl (te rfl)) rfl rfl ?_)))))|(refine uD rfl ?_;refine hK _ _ ?_;clear hK K) | refine uS rfl ?_ | refine uR rfl (fun K hK=>?_) | refine X.skip rfl ?_ | (refine X.ite rfl rfl (fun hc=>?_);(first | (with_reducible refine Xb.case hc (fun h=>?_) (fun h=>?_))) <;> clear hc))
 any_goals (exfalso;omega)
 ·have hk : l.length ≤ l.length:=Nat.le_refl _
  have hins:=insMt_at x l l.length hk (fun i e _ he=>by have:=of_decide_eq_false (hz e (List.mem_of_getElem? he));omega) (fun e he=>by rw [List.getElem?_eq_none (Nat.le_refl _)] at he;cases he)
  refine X.regionOb ts102 [0,7,4] [(0,.slice (some ad) l.length c),(7,.int .i64 (l.length : Nat)),(4,.pointer (some ⟨b4,0,none⟩))] (val102Mt l x l.length ad c) (rows102Mt l x l.length) (fun _=>(0,0)) (⟨b5,0,[.func (.func 55) #[] #[]],some 101,1⟩::⟨b4,0,cMt x,some 44,6⟩::H) rfl mixed (by repeat (first | exact uU _ | refine uV rfl ?_)) rfl (by kernel_rfl) (loc102Mt l x l.length ad c) (qR _) ?_ ?_
  ·repeat' (first | exact AllF.done rfl | (refine AllF.step rfl ?_ ?_;·(first | fail | ((first | refine Ob.ng rfl ?_);(first | exact ObK.pure (fun env R hR=>by exact ⟨_,uM rfl rfl,rfl⟩) rfl (fun _=>rfl) | exact ObK.pure (fun env R hR=>by exact ⟨_,uA rfl rfl,rfl⟩) rfl (fun _=>rfl) | exact ObK.pure (fun env R hR=>by exact ⟨_,uL rfl rfl (uW (te rfl) rfl (hR _ (qT _ (qH _))) rfl),rfl⟩) rfl (fun _=>rfl)|(exact fun env S hS=>(OpF.call (uT rfl (by (repeat (first | exact Args.nil | refine Args.cons rfl ?_));done)) (clone_specMt l ad c _ (hl.sub (fun r hr=>hS _ (qT _ (qT _ hr)))) hb)).mono (fun v H' ⟨b,k,hv,hH⟩=>⟨(b,k),fun _=>hv,by rw [hH];exact List.Perm.refl _⟩))|(exact fun env S hS=>(StF.buildOne rfl el24 rfl rfl rfl (by decide) (by decide)).op.mono (fun v H' ⟨b,hv,hH⟩=>⟨(b,0),fun _=>hv,by rw [hH];exact List.Perm.refl _⟩))|(exact fun env S hS=>(OpF.call (uT rfl (by (repeat (first | exact Args.nil | refine Args.cons rfl ?_));done)) (insert_specMt l x l.length _ _ _ S hk hb)).mono (fun v H' ⟨b,k,hv,hH⟩=>⟨(b,k),fun _=>hv,by rw [hH];exact List.Perm.refl _⟩)))))))
  ·intro env t ha hv
   refine ⟨[(6,.slice (some ⟨(env 5).1,0,none⟩) (l.length + 1) (env 5).2)],(ha.sub (uU _)).cons (hv 6 6 (Nat.le_of_ble_eq_true rfl) rfl),?_⟩
   show X _ _ _ _ (⟨(env 5).1,0,(l.take l.length++[x]++l.drop l.length).flatMap cMt,some 44,(env 5).2 * 6⟩::⟨b5,0,[.func (.func 55) #[] #[]],some 101,1⟩::⟨b4,0,cMt x,some 44,6⟩::H) _
   repeat' (first | refine X.ret rfl ?_)
   refine ret_one (by simp) Tryz.results64 rfl (H' := ⟨(env 5).1,0,(l.take l.length++[x]++l.drop l.length).flatMap cMt,some 44,(env 5).2 * 6⟩::H) (by repeat (first | exact qR _ | apply qK | apply qC)) ⟨_,_,by rw [insMt_len],?_⟩
   rw [hins]
 ·have hk : k ≤ l.length:=Nat.le_of_lt (List.getElem?_eq_some_iff.1 he).1
  have hins:=insMt_at x l k hk (fun i e hi he=>by have:=of_decide_eq_false (hz i e hi he);omega) (fun e' he' => by rw [he] at he';cases he';have:=of_decide_eq_true hp;omega)
  refine X.regionOb ts102 [0,7,4] [(0,.slice (some ad) l.length c),(7,.int .i64 (k : Nat)),(4,.pointer (some ⟨b4,0,none⟩))] (val102Mt l x k ad c) (rows102Mt l x k) (fun _=>(0,0)) (⟨b5,0,[.func (.func 55) #[] #[]],some 101,1⟩::⟨b4,0,cMt x,some 44,6⟩::H) rfl mixed (by repeat (first | exact uU _ | refine uV rfl ?_)) rfl (by kernel_rfl) (loc102Mt l x k ad c) (qR _) ?_ ?_
  ·repeat' (first | exact AllF.done rfl | (refine AllF.step rfl ?_ ?_;·(first | fail | ((first | refine Ob.ng rfl ?_);(first | exact ObK.pure (fun env R hR=>by exact ⟨_,uM rfl rfl,rfl⟩) rfl (fun _=>rfl) | exact ObK.pure (fun env R hR=>by exact ⟨_,uA rfl rfl,rfl⟩) rfl (fun _=>rfl) | exact ObK.pure (fun env R hR=>by exact ⟨_,uL rfl rfl (uW (te rfl) rfl (hR _ (qT _ (qH _))) rfl),rfl⟩) rfl (fun _=>rfl)|(exact fun env S hS=>(OpF.call (uT rfl (by (repeat (first | exact Args.nil | refine Args.cons rfl ?_));done)) (clone_specMt l ad c _ (hl.sub (fun r hr=>hS _ (qT _ (qT _ hr)))) hb)).mono (fun v H' ⟨b,k,hv,hH⟩=>⟨(b,k),fun _=>hv,by rw [hH];exact List.Perm.refl _⟩))|(exact fun env S hS=>(StF.buildOne rfl el24 rfl rfl rfl (by decide) (by decide)).op.mono (fun v H' ⟨b,hv,hH⟩=>⟨(b,0),fun _=>hv,by rw [hH];exact List.Perm.refl _⟩))|(exact fun env S hS=>(OpF.call (uT rfl (by (repeat (first | exact Args.nil | refine Args.cons rfl ?_));done)) (insert_specMt l x k _ _ _ S hk hb)).mono (fun v H' ⟨b,k,hv,hH⟩=>⟨(b,k),fun _=>hv,by rw [hH];exact List.Perm.refl _⟩)))))))
  ·intro env t ha hv
   refine ⟨[(6,.slice (some ⟨(env 5).1,0,none⟩) (l.length + 1) (env 5).2)],(ha.sub (uU _)).cons (hv 6 6 (Nat.le_of_ble_eq_true rfl) rfl),?_⟩
   show X _ _ _ _ (⟨(env 5).1,0,(l.take k++[x]++l.drop k).flatMap cMt,some 44,(env 5).2 * 6⟩::⟨b5,0,[.func (.func 55) #[] #[]],some 101,1⟩::⟨b4,0,cMt x,some 44,6⟩::H) _
   repeat' (first | refine X.ret rfl ?_)
   refine ret_one (by simp) Tryz.results64 rfl (H' := ⟨(env 5).1,0,(l.take k++[x]++l.drop k).flatMap cMt,some 44,(env 5).2 * 6⟩::H) (by repeat (first | exact qR _ | apply qK | apply qC)) ⟨_,_,by rw [insMt_len],?_⟩
   rw [hins]
end Go.Proofs.YtmfppdpkalelhaaGreat
end
section
set_option linter.unusedVariables false
set_option linter.unusedSimpArgs false
namespace Go.Proofs.YtmfppdpkalelhaaGreat
open Go Go.Fw
set_option maxRecDepth 10000
theorem filter_snoc_tMt {p : Mt → Bool} {l : List Mt} {j : Nat} {e : Mt} (he : l[j]? = some e) (hp : p e = true) : (l.take (j + 1)).filter (fun e => !p e)=(l.take j).filter (fun e => !p e):=by
 rw [take_snoc he,List.filter_append];simp [hp]
theorem filter_snoc_fMt {p : Mt → Bool} {l : List Mt} {j : Nat} {e : Mt} (he : l[j]? = some e) (hp : p e = false) : (l.take (j + 1)).filter (fun e => !p e)=(l.take j).filter (fun e => !p e)++[e]:=by
 rw [take_snoc he,List.filter_append];simp [hp]
theorem honeMt (z : Value) (w : World) (h : (zeroValue 44).run Tryz.prog w = .ok z w) : z.cells.all (·.oneCell') = true:=by
 rw [Tryz.zeroValue44] at h
 cases h
 first | decide | simp [Value.cells,Value.oneCell'] | kernel_rfl
set_option maxHeartbeats 4000000 in
theorem deleteFunc_specMt (l : List Mt) (b c g : Nat) (p : Mt → Bool) (cap : List Value) (H : List Row) (hb : l.length ≤ 1000000) (hf : ∀ Z,∀ e ∈ l,Fc Tryz.prog g ([.agg (cMt e).toArray]++cap) (Z++H) (fun v H' => v = .bool (p e)∧H' = Z++H)) :
  Fc Tryz.prog 97 [.slice (some ⟨b,0,none⟩) l.length c,.func (.func g) #[] cap.toArray] (⟨b,0,l.flatMap cMt,some 44,c * 6⟩::H)
   (fun v H' => v = .slice (some ⟨b,0,none⟩) (l.filter (fun e => !p e)).length c∧H' = ⟨b,0,(l.filter (fun e => !p e)).flatMap cMt,some 44,c * 6⟩::H):=by
 have hlen:=lenMt l
 refine Fc.mk (callable Tryz.call97) Tryz.func97 rfl Tryz.ntmps97 rfl ?_;dsimp only [fr]
 refine X.reveal (q:=0) rfl (fun rest hrest=>?_)
 refine X.forget (q:=0) (cs:=l.flatMap cMt) (cs' := rest) rfl ?_
 dsimp only [List.set]
 have hlc : l.length ≤ c:=by
  rw [List.length_append,hlen] at hrest
  omega
 clear hrest
 repeat' (first | (refine uP rfl ?_;(first | ((first | refine uN rfl ?_);(first | (refine uC (uT rfl (by (repeat (first | exact Args.nil | refine Args.cons rfl ?_));done)) rfl rfl (indexFunc_specMt l _ _ g p cap _ (SlE.ofRow (qH _) (fun _ _=>rfl)) (by omega) (fun e he=>hf [_] e he)) ?_;rintro _ H9 ⟨⟨z,rfl,hz⟩,hH9⟩;subst H9;rcases hz with ⟨rfl,hz⟩ | ⟨k,e0,rfl,he0,hp0,hz⟩;rotate_left;have hk0:=(List.getElem?_eq_some_iff.1 he0).1;rotate_right)|(refine uE (uM rfl rfl) rfl rfl ?_)|(refine uE (uA rfl rfl) rfl rfl ?_)|(refine uE (uQ rfl rfl rfl rfl) rfl rfl ?_)|(refine uE (EvF.add64 rfl rfl rfl (by omega) (by omega)) rfl rfl ?_)))))|(refine uD rfl ?_;refine hK _ _ ?_;clear hK K) | refine uS rfl ?_ | refine uR rfl (fun K hK=>?_) | refine X.block rfl ?_ | refine X.skip rfl ?_ | refine X.ret rfl ?_ | (refine X.ite rfl rfl (fun hc=>?_);(first | (with_reducible refine Xb.case hc (fun h=>?_) (fun h=>?_))) <;> clear hc))
 any_goals (exfalso;omega)
 ·have e1 : l.filter (fun e => !p e)=l:=List.filter_eq_self.2 (fun e he=>by simp [hz e he])
  refine ret_one (by simp) Tryz.results97 rfl (H' := ⟨b,0,l.flatMap cMt,some 44,c * 6⟩::H) (qR _) ?_
  rw [e1]
  exact ⟨rfl,rfl⟩
 have e1 : (l.take k).filter (fun e => !p e)=l.take k:=List.filter_eq_self.2 (fun e he=>by
  obtain ⟨i,hi⟩:=List.getElem?_of_mem he
  rw [List.getElem?_take] at hi
  split at hi
  ·simp [hz i e (by assumption) hi]
  ·cases hi)
 refine X.lp rfl (fun q F' H' => ∃ (i j : Nat) (M : List Value),q = l.length - j∧j ≤ l.length∧i < j∧i = ((l.take j).filter (fun e => !p e)).length∧M.length = (j - i) * 6 ∧
   ⟨b,0,((l.take j).filter (fun e => !p e)).flatMap cMt++M++(l.drop j).flatMap cMt,some 44,c * 6⟩::H = H' ∧
   F' = [(0,.slice (some ⟨b,0,none⟩) l.length c),(1,.func (.func g) #[] cap.toArray),(5,.int .i64 i),(6,.int .i64 j)])
  (l.length - (k + 1)) [(0,.slice (some ⟨b,0,none⟩) l.length c),(1,.func (.func g) #[] cap.toArray),(5,.int .i64 k),(6,.int .i64 (k + 1 : Nat))] _ (by repeat (first | exact uU _ | refine uV rfl ?_)) (qR _) ⟨k,k + 1,cMt e0,rfl,by omega,by omega,?_,?_,?_,rfl⟩ ?_
 ·rw [filter_snoc_tMt he0 hp0,e1,List.length_take];omega
 ·show 6 = _;omega
 ·rw [filter_snoc_tMt he0 hp0,e1]
  congr 2
  rw [show l.flatMap cMt = (l.take k++l.drop k).flatMap cMt by rw [List.take_append_drop],drop_cons he0,List.flatMap_append,List.flatMap_cons,List.append_assoc]
 rintro _ _ H2 ⟨i,j,M,rfl,hj,hij,hi,hM,hH,rfl⟩
 subst hH
 have hF : (((l.take j).filter (fun e => !p e)).flatMap cMt).length = i * 6:=by rw [lenMt, ← hi]
 repeat' (first | (refine uP rfl ?_;(first | ((first | refine uN rfl ?_);(first | (refine uE (uM rfl rfl) rfl rfl ?_)|(refine uE (uQ rfl rfl rfl rfl) rfl rfl ?_)|(refine uE (EvF.lenSlice rfl rfl (te rfl)) rfl rfl ?_)|(refine uE (EvF.indexSlice rfl rfl rfl (te rfl) (te rfl) (by omega) (by omega)) rfl rfl ?_)))))|(refine uD rfl ?_;refine hK _ _ ?_;clear hK K) | refine uS rfl ?_ | refine uR rfl (fun K hK=>?_) | refine X.block rfl ?_ | (refine X.brk rfl ?_;repeat (first | refine blockX_hit rfl ?_ | refine blockX_miss (by decide) ?_)) | refine X.skip rfl ?_ | (refine X.ite rfl rfl (fun hc=>?_);(first | (with_reducible refine Xb.case hc (fun h=>?_) (fun h=>?_))) <;> clear hc))
 ·have hjl : j < l.length:=by omega
  obtain ⟨e,he⟩ : ∃ e,l[j]? = some e:=⟨_,List.getElem?_eq_getElem hjl⟩
  rw [drop_cons he,List.flatMap_cons]
  have hload : ((((l.take j).filter (fun e => !p e)).flatMap cMt++M++(cMt e++(l.drop (j + 1)).flatMap cMt)).drop (0 + (j : Int).toNat * 6)).take 6 = cMt e:=by
   rw [List.drop_left' (by rw [List.length_append,hF,hM];show _ = 0 + j * 6;omega)]
   exact List.take_left' rfl
  repeat' (first | (refine uP rfl ?_;(first | ((first | refine uN rfl ?_);(first | (refine uE (uL rfl rfl (LoadV.ownAgg (te rfl) rfl (qH _) hload rfl)) rfl rfl ?_)|(refine uC (EnF.dyn0 rfl rfl (by (repeat (first | exact Args.nil | refine Args.cons rfl ?_));done)) rfl rfl (hf [_,_] e (List.mem_of_getElem? he)) ?_;rintro _ H9 ⟨rfl,hH9⟩;subst H9)|(refine Xg.st0 (StF.storeAt (q:=1) rfl rfl rfl (te rfl) rfl rfl (one_mt e) (by rw [List.length_append,List.length_append,hF,hM];show 0 + i * 6 + 6 ≤ _;omega)) rfl ?_;rintro _ _ ⟨rfl,rfl⟩;dsimp only [List.set])|(refine uE (uM rfl rfl) rfl rfl ?_)|(refine uE (uA rfl rfl) rfl rfl ?_)|(refine uE (EvF.add64 rfl rfl rfl (by omega) (by omega)) rfl rfl ?_)|(refine uE (EvF.not rfl rfl) rfl rfl ?_)|(refine uE (EvF.indexSlice rfl rfl rfl (te rfl) (te rfl) (by omega) (by omega)) rfl rfl ?_)|(refine uE (uL rfl rfl (uW (te rfl) rfl (qH _) rfl)) rfl rfl ?_)|(refine Xg.st (StF.alloc rfl Tryz.zeroValue44 rfl) rfl rfl ?_;rintro _ _ ⟨bx,rfl,rfl⟩)|(refine Xg.st0 (StF.storeAll (i:=0) rfl rfl rfl (te rfl) rfl rfl rfl rfl) rfl ?_;rintro _ _ ⟨rfl,rfl⟩;dsimp only [List.set])))))|(refine uD rfl ?_;refine hK _ _ ?_;clear hK K) | refine uS rfl ?_ | refine uR rfl (fun K hK=>?_) | refine X.skip rfl ?_ | (refine X.ite rfl rfl (fun hc=>?_);(first | (with_reducible refine Xb.caseB hc (fun h=>?_) (fun h=>?_))) <;> clear hc))
  ·have hp : p e = false:=by simpa using h
   refine ⟨_,[(0,.slice (some ⟨b,0,none⟩) l.length c),(1,.func (.func g) #[] cap.toArray),(5,.int .i64 (i + 1 : Nat)),(6,.int .i64 (j + 1 : Nat))],_,(by repeat (first | exact uU _ | refine uV rfl ?_)),?_,⟨i + 1,j + 1,M.drop 6++cMt e,rfl,by omega,by omega,?_,?_,rfl,rfl⟩,by omega⟩
   ·rw [filter_snoc_fMt he hp,List.flatMap_append]
    have:=splice_at (xs:=((l.take j).filter (fun e => !p e)).flatMap cMt) (ys:=M.take 6) (zs:=M.drop 6++(cMt e++(l.drop (j + 1)).flatMap cMt)) (vs:=cMt e) (j:=0 + (i : Int).toNat * 6) (by rw [hF];show _ = 0 + i * 6;omega) (by rw [List.length_take,hM];show 6 = _;omega)
    rw [show ((l.take j).filter (fun e => !p e)).flatMap cMt++M.take 6++(M.drop 6++(cMt e++(l.drop (j + 1)).flatMap cMt)) = ((l.take j).filter (fun e => !p e)).flatMap cMt++M++(cMt e++(l.drop (j + 1)).flatMap cMt) by
     rw [List.append_assoc, ← List.append_assoc (M.take 6),List.take_append_drop,List.append_assoc]] at this
    rw [this]
    rw [show ((l.take j).filter (fun e => !p e)).flatMap cMt++cMt e++(M.drop 6++(cMt e++(l.drop (j + 1)).flatMap cMt)) = ((l.take j).filter (fun e => !p e)).flatMap cMt++[e].flatMap cMt++(M.drop 6++cMt e)++(l.drop (j + 1)).flatMap cMt by
     rw [List.flatMap_singleton];simp only [List.append_assoc]]
    exact (by repeat (first | exact qR _ | apply qK | apply qC))
   ·rw [filter_snoc_fMt he hp,List.length_append, ← hi];rfl
   ·rw [List.length_append,List.length_drop,hM];show _ + 6 = _;omega
  ·have hp : p e = true:=by simpa using h
   refine ⟨_,[(0,.slice (some ⟨b,0,none⟩) l.length c),(1,.func (.func g) #[] cap.toArray),(5,.int .i64 i),(6,.int .i64 (j + 1 : Nat))],_,(by repeat (first | exact uU _ | refine uV rfl ?_)),?_,⟨i,j + 1,M++cMt e,rfl,by omega,by omega,?_,?_,rfl,rfl⟩,by omega⟩
   ·rw [filter_snoc_tMt he hp,List.append_assoc,List.append_assoc,List.append_assoc]
    exact (by repeat (first | exact qR _ | apply qK | apply qC))
   ·rw [filter_snoc_tMt he hp];exact hi
   ·rw [List.length_append,hM];show _ + 6 = _;omega
 ·obtain rfl : j = l.length:=by omega
  rw [List.take_length] at hi hF ⊢
  rw [List.drop_length,List.flatMap_nil,List.append_nil]
  repeat' (first | (refine uP rfl ?_;(first | ((first | refine uN rfl ?_);(first | (refine uE (EvF.sliceFromL (lo:=i) rfl rfl (te rfl) (te rfl) rfl (by omega) (by omega) (by omega)) rfl rfl ?_)|(refine Xg.st0 (StF.clear (q:=0) rfl el24 rfl rfl (by rw [List.length_append,hF,hM];show 0 + i * 6 + _ ≤ _;omega) honeMt) rfl ?_;rintro _ _ ⟨zs,hzs,rfl⟩;dsimp only [List.set])|(refine uE (uM rfl rfl) rfl rfl ?_)))))|(refine uD rfl ?_;refine hK _ _ ?_;clear hK K) | refine uS rfl ?_ | refine uR rfl (fun K hK=>?_))
  have e2 : splice ((l.filter (fun e => !p e)).flatMap cMt++M) (0 + i * 6) zs = (l.filter (fun e => !p e)).flatMap cMt++zs:=by
   have:=splice_at (xs:=(l.filter (fun e => !p e)).flatMap cMt) (ys:=M) (zs:=[]) (vs:=zs) (j:=0 + i * 6) (by rw [hF];omega) (by rw [hzs,hM])
   rwa [List.append_nil,List.append_nil] at this
  rw [e2]
  refine XO.forget (q:=0) rfl ?_
  dsimp only [List.set]
  repeat' (first | (refine uP rfl ?_;(first | ((first | refine uN rfl ?_);(first | (refine uE (EvF.sliceTo (hh:=i) rfl rfl (te rfl) (te rfl) rfl (by omega)) rfl rfl ?_)|(refine uE (uA rfl rfl) rfl rfl ?_)))))|(refine uD rfl ?_;refine hK _ _ ?_;clear hK K) | refine X.ret rfl ?_)
  refine ret_one (by simp) Tryz.results97 rfl (H' := ⟨b,0,(l.filter (fun e => !p e)).flatMap cMt,some 44,c * 6⟩::H) (qR _) ⟨?_,rfl⟩
  rw [hi]
end Go.Proofs.YtmfppdpkalelhaaGreat
end
section
set_option linter.unusedVariables false
set_option linter.unusedSimpArgs false
namespace Go.Proofs.YtmfppdpkalelhaaGreat
open Go Go.Fw
set_option maxRecDepth 10000
theorem indexFunc_specI (l : List Int) (a : Option Addr) (c g : Nat) (p : Int → Bool) (cap : List Value) (H : List Row) (hl : SlE H a cI 1 l) (hb : l.length ≤ 9223372036854775807) (hf : ∀ e ∈ l,Fc Tryz.prog g ([.int .i64 e]++cap) H (fun v H' => v = .bool (p e)∧H' = H)) :
  Fc Tryz.prog 85 [.slice a l.length c,.func (.func g) #[] cap.toArray] H (fun v H' => (∃ z,v = .int .i64 z∧IdxR p l z)∧H' = H):=by
 refine Fc.mk (callable Tryz.call85) Tryz.func85 rfl Tryz.ntmps85 rfl ?_;dsimp only [fr]
 repeat' (first | (refine uP rfl ?_;(first | ((first | refine uN rfl ?_);(first | (refine uE (uM rfl rfl) rfl rfl ?_)|(refine uE (uA rfl rfl) rfl rfl ?_)|(refine uE (uQ rfl rfl rfl rfl) rfl rfl ?_)|(refine uE (EvF.lenSlice rfl rfl (te rfl)) rfl rfl ?_)))))|(refine uD rfl ?_;refine hK _ _ ?_;clear hK K) | refine uS rfl ?_ | refine uR rfl (fun K hK=>?_) | refine X.block rfl ?_ | (refine X.brk rfl ?_;repeat (first | refine blockX_hit rfl ?_ | refine blockX_miss (by decide) ?_)) | refine X.skip rfl ?_ | refine X.ret rfl ?_ | (refine X.ite rfl rfl (fun hc=>?_);(first | (with_reducible refine Xb.case hc (fun h=>?_) (fun h=>?_))) <;> clear hc))
 refine X.lp rfl (fun q F' H' => ∃ k : Nat,q = l.length - k∧k ≤ l.length∧(∀ i e,i < k → l[i]? = some e → p e = false)∧H = H' ∧
   F' = [(0,.slice a l.length c),(1,.func (.func g) #[] cap.toArray),(7,.int .i64 l.length),(8,.int .i64 k)])
  l.length [(0,.slice a l.length c),(1,.func (.func g) #[] cap.toArray),(7,.int .i64 l.length),(8,.int .i64 (0 : Nat))] _ (by repeat (first | exact uU _ | refine uV rfl ?_)) (by repeat (first | exact qR _ | apply qK | apply qC)) ⟨0,by omega,by omega,(fun i e hi=>absurd hi (by omega)),rfl,rfl⟩ ?_
 rintro _ _ H2 ⟨k,rfl,hk,hn,hH,rfl⟩
 subst hH
 repeat' (first | (refine uP rfl ?_;(first | ((first | refine uN rfl ?_);(first | (refine uE (uM rfl rfl) rfl rfl ?_)|(refine uE (uA rfl rfl) rfl rfl ?_)|(refine uE (uQ rfl rfl rfl rfl) rfl rfl ?_)|(refine uE (EvF.lenSlice rfl rfl (te rfl)) rfl rfl ?_)))))|(refine uD rfl ?_;refine hK _ _ ?_;clear hK K) | refine uS rfl ?_ | refine uR rfl (fun K hK=>?_) | refine X.block rfl ?_ | (refine X.brk rfl ?_;repeat (first | refine blockX_hit rfl ?_ | refine blockX_miss (by decide) ?_)) | refine X.skip rfl ?_ | refine X.ret rfl ?_ | (refine X.ite rfl rfl (fun hc=>?_);(first | (with_reducible refine Xb.case hc (fun h=>?_) (fun h=>?_))) <;> clear hc))
 ·obtain ⟨b,off,e,rfl,he⟩:=hl.elem (i:=k) (by omega)
  repeat' (first | (refine uP rfl ?_;(first | ((first | refine uN rfl ?_);(first | (refine uE (uL rfl rfl (LoadV.el0 hl he (te rfl) rfl (fun _ hm=>hm) rfl)) rfl rfl ?_)|(refine uC (EnF.dyn0 rfl rfl (by (repeat (first | exact Args.nil | refine Args.cons rfl ?_));done)) rfl rfl (hf e (List.mem_of_getElem? he)) ?_;rintro _ H9 ⟨rfl,hH9⟩;subst H9)|(refine uE (uM rfl rfl) rfl rfl ?_)|(refine uE (uA rfl rfl) rfl rfl ?_)|(refine uE (EvF.add64 rfl rfl rfl (by omega) (by omega)) rfl rfl ?_)|(refine uE (EvF.indexSlice rfl rfl rfl (te rfl) (te rfl) (by omega) (by omega)) rfl rfl ?_)))))|(refine uD rfl ?_;refine hK _ _ ?_;clear hK K) | refine uS rfl ?_ | refine uR rfl (fun K hK=>?_) | refine X.skip rfl ?_ | refine X.ret rfl ?_ | (refine X.ite rfl rfl (fun hc=>?_);(first | (with_reducible refine Xb.caseB hc (fun h=>?_) (fun h=>?_))) <;> clear hc))
  ·refine ret_one (by simp) Tryz.results85 rfl (H' := H) (by (repeat (first | exact qR _ | apply qC));done) ?_;simp only [and_true,true_and]
   exact ⟨_,rfl,.inr ⟨k,e,rfl,he,by assumption,hn⟩⟩
  ·refine ⟨_,_,_,(by repeat (first | exact uU _ | refine uV rfl ?_)),(by repeat (first | exact qR _ | apply qK | apply qC)),⟨k + 1,rfl,by omega,(fun i e' hi he' => ?_),rfl,rfl⟩,by omega⟩
   rcases Nat.lt_or_ge i k with h1 | h1
   ·exact hn i e' h1 he'
   ·obtain rfl : i = k:=by omega
    rw [he] at he';cases he';assumption
 ·refine ret_one (by simp) Tryz.results85 rfl (H' := H) (by (repeat (first | exact qR _ | apply qC));done) ?_;simp only [and_true,true_and]
  refine ⟨_,rfl,.inl ⟨rfl,fun e he=>?_⟩⟩
  obtain ⟨i,hi,rfl⟩:=List.mem_iff_getElem.1 he
  exact hn i _ (by omega) (List.getElem?_eq_getElem hi)
theorem containsFunc_specI (l : List Int) (a : Option Addr) (c g : Nat) (p : Int → Bool) (cap : List Value) (H : List Row) (hl : SlE H a cI 1 l) (hb : l.length ≤ 9223372036854775807) (hf : ∀ e ∈ l,Fc Tryz.prog g ([.int .i64 e]++cap) H (fun v H' => v = .bool (p e)∧H' = H)) :
  Fc Tryz.prog 48 [.slice a l.length c,.func (.func g) #[] cap.toArray] H (fun v H' => v = .bool (decide (∃ e ∈ l,p e = true))∧H' = H):=by
 refine Fc.mk (callable Tryz.call48) Tryz.func48 rfl Tryz.ntmps48 rfl ?_;dsimp only [fr]
 repeat' (first | (refine uP rfl ?_;(first | ((first | refine uN rfl ?_);(first | (refine uC (uT rfl (by (repeat (first | exact Args.nil | refine Args.cons rfl ?_));done)) rfl rfl (indexFunc_specI l a c g p cap H hl hb hf) ?_;rintro _ H9 ⟨⟨z,rfl,hz⟩,hH9⟩;subst H9)|(refine uE (uM rfl rfl) rfl rfl ?_)|(refine uE (uA rfl rfl) rfl rfl ?_)|(refine uE (uQ rfl rfl rfl rfl) rfl rfl ?_)))))|(refine uD rfl ?_;refine hK _ _ ?_;clear hK K) | refine uS rfl ?_ | refine uR rfl (fun K hK=>?_) | refine X.ret rfl ?_)
 refine ret_one (by simp) Tryz.results48 rfl (H' := H) (by (repeat (first | exact qR _ | apply qC));done) ?_;simp only [and_true,true_and]
 congr 1
 exact decide_eq_decide.2 hz.ge
theorem among1_spec (l : List Int) (a : Option Addr) (c : Nat) (n : Int) (b : Nat) (ow : Option Kd) (cap : Nat) (H : List Row) (hm : ⟨b,0,[.slice a l.length c],ow,cap⟩ ∈ H) (hl : SlE H a cI 1 l) (hb : l.length ≤ 9223372036854775807) :
  Fc Tryz.prog 130 ([.int .i64 n]++[.pointer (some ⟨b,0,none⟩)]) H (fun v H' => v = .bool (!decide (n ∈ l))∧H' = H):=by
 show Fc Tryz.prog 130 [.int .i64 n,.pointer (some ⟨b,0,none⟩)] H _
 refine Fc.mk (callable Tryz.call130) Tryz.func130 rfl Tryz.ntmps130 rfl ?_;dsimp only [fr]
 repeat' (first | (refine uP rfl ?_;(first | ((first | refine uN rfl ?_);(first | (refine uE (uL rfl rfl (uO (te rfl) rfl hm rfl)) rfl rfl ?_)|(refine uC (uT rfl (by (repeat (first | exact Args.nil | refine Args.cons rfl ?_));done)) rfl rfl (contains_spec l a c n _ hl hb) ?_;rintro _ H9 ⟨rfl,hH9⟩;subst H9)|(refine uE (uM rfl rfl) rfl rfl ?_)|(refine uE (uA rfl rfl) rfl rfl ?_)|(refine uE (EvF.not rfl rfl) rfl rfl ?_)))))|(refine uD rfl ?_;refine hK _ _ ?_;clear hK K) | refine uS rfl ?_ | refine uR rfl (fun K hK=>?_) | refine X.ret rfl ?_)
 refine ret_one (by simp) Tryz.results130 rfl (H' := H) (by (repeat (first | exact qR _ | apply qC));done) ?_;simp only [and_true,true_and]
theorem among_spec (L l : List Int) (a a' : Option Addr) (c c' : Nat) (H : List Row) (hL : SlE H a cI 1 L) (hl : SlE H a' cI 1 l) (hb : L.length ≤ 9223372036854775807) (hb' : l.length ≤ 9223372036854775807) :
  Fc Tryz.prog 121 [.slice a L.length c,.slice a' l.length c'] H (fun v H' => v = .bool (decide (∀ n ∈ l,n ∈ L))∧H' = H):=by
 refine Fc.mk (callable Tryz.call121) Tryz.func121 rfl Tryz.ntmps121 rfl ?_;dsimp only [fr]
 repeat' (first | (refine uP rfl ?_;(first | ((first | refine uN rfl ?_);(first | (refine uE (EvF.makeFunc (fl:=[]) rfl Args.nil (Args.cons rfl Args.nil)) rfl rfl ?_)|(refine uC (uT rfl (by (repeat (first | exact Args.nil | refine Args.cons rfl ?_));done)) rfl rfl (containsFunc_specI l a' c' 130 (fun n => !decide (n ∈ L)) [_] _ (hl.sub (fun _ h=>by repeat (first | exact h | apply qT))) hb' (fun e _=>among1_spec L a c e _ _ _ _ (qH _) (hL.sub (fun _ h=>by repeat (first | exact h | apply qT))) hb)) ?_;rintro _ H9 ⟨rfl,hH9⟩;subst H9)|(refine uE (uM rfl rfl) rfl rfl ?_)|(refine uE (uA rfl rfl) rfl rfl ?_)|(refine uE (EvF.not rfl rfl) rfl rfl ?_)|(refine Xg.st (StF.boxOne rfl rfl rfl) rfl rfl ?_;rintro _ _ ⟨bx,rfl,rfl⟩)))))|(refine uD rfl ?_;refine hK _ _ ?_;clear hK K) | refine uS rfl ?_ | refine uR rfl (fun K hK=>?_) | refine X.ret rfl ?_)
 refine ret_one (by simp) Tryz.results121 rfl (H' := H) (by (repeat (first | exact qR _ | apply qC));done) ?_;simp only [and_true,true_and]
 congr 1
 cases hq : decide (∃ e ∈ l,(!decide (e ∈ L)) = true)
 ·symm
  refine decide_eq_true (fun n hn=>?_)
  have:=of_decide_eq_false hq
  by_cases h : n ∈ L
  ·exact h
  ·exact absurd ⟨n,hn,by rw [decide_eq_false h];rfl⟩ this
 ·symm
  refine decide_eq_false (fun h=>?_)
  obtain ⟨e,he,h2⟩:=of_decide_eq_true hq
  rw [decide_eq_true (h e he)] at h2
  cases h2
end Go.Proofs.YtmfppdpkalelhaaGreat
end
section
set_option linter.unusedVariables false
set_option linter.unusedSimpArgs false
namespace Go.Proofs.YtmfppdpkalelhaaGreat
open Go Go.Fw
set_option maxRecDepth 10000
theorem numbersO_specMt (g : Nat) (f : Mt → Int) (hg : ∀ e H,Fc Tryz.prog g ([.agg (cMt e).toArray]++[]) H (fun v H' => v = .int .i64 (f e)∧H' = H)) (l : List Mt) (a : Option Addr) (c : Nat) (H : List Row) (hl : SlE H a cMt 6 l) (hb : l.length ≤ 1000000) :
  Fc Tryz.prog 54 [.slice a l.length c,.func (.func g) #[] #[]] H (fun v H' => (l = []∧v = .slice none 0 0∧H' = H) ∨ ∃ b q,l ≠ []∧v = .slice (some ⟨b,0,none⟩) (l.map f).length q∧H' = ⟨b,0,(l.map f).flatMap cI,some 3,q * 1⟩::H):=by
 refine Fc.mk (callable Tryz.call54) Tryz.func54 rfl Tryz.ntmps54 rfl ?_;dsimp only [fr]
 repeat' (first | (refine uP rfl ?_;(first | ((first | refine uN rfl ?_);(first | (refine uE (uM rfl rfl) rfl rfl ?_)|(refine uE (uA rfl rfl) rfl rfl ?_)|(refine uE (uQ rfl rfl rfl rfl) rfl rfl ?_)|(refine uE (EvF.lenSlice rfl rfl (te rfl)) rfl rfl ?_)))))|(refine uD rfl ?_;refine hK _ _ ?_;clear hK K) | refine uS rfl ?_ | refine uR rfl (fun K hK=>?_) | refine X.block rfl ?_ | (refine X.brk rfl ?_;repeat (first | refine blockX_hit rfl ?_ | refine blockX_miss (by decide) ?_)) | refine X.skip rfl ?_ | refine X.ret rfl ?_ | (refine X.ite rfl rfl (fun hc=>?_);(first | (with_reducible refine Xb.case hc (fun h=>?_) (fun h=>?_))) <;> clear hc))
 refine X.lp rfl (fun q F' H' => ∃ (k : Nat) (out : Value) (Z : List Row),q = l.length - k∧k ≤ l.length∧((k = 0∧out = .slice none 0 0∧Z = []) ∨ ∃ b q,0 < k∧out = .slice (some ⟨b,0,none⟩) k q∧Z = [⟨b,0,((l.take k).map f).flatMap cI,some 3,q * 1⟩])∧Z++H = H' ∧
   F' = [(1,.func (.func g) #[] #[]),(5,out),(8,.slice a l.length c),(9,.int .i64 l.length),(10,.int .i64 k)])
  l.length [(1,.func (.func g) #[] #[]),(5,.slice none 0 0),(8,.slice a l.length c),(9,.int .i64 l.length),(10,.int .i64 (0 : Nat))] _ (by repeat (first | exact uU _ | refine uV rfl ?_)) (by repeat (first | exact qR _ | apply qK | apply qC)) ⟨0,_,[],by omega,by omega,.inl ⟨rfl,rfl,rfl⟩,rfl,rfl⟩ ?_
 rintro _ _ H2 ⟨k,out,Z,rfl,hk,⟨rfl,rfl,rfl⟩ | ⟨b0,q0,hk0,rfl,rfl⟩,hH,rfl⟩
 ·rw [List.nil_append] at hH
  subst hH
  repeat' (first | (refine uP rfl ?_;(first | ((first | refine uN rfl ?_);(first | (refine uE (uM rfl rfl) rfl rfl ?_)|(refine uE (uA rfl rfl) rfl rfl ?_)|(refine uE (uQ rfl rfl rfl rfl) rfl rfl ?_)|(refine uE (EvF.lenSlice rfl rfl (te rfl)) rfl rfl ?_)))))|(refine uD rfl ?_;refine hK _ _ ?_;clear hK K) | refine uS rfl ?_ | refine uR rfl (fun K hK=>?_) | refine X.block rfl ?_ | (refine X.brk rfl ?_;repeat (first | refine blockX_hit rfl ?_ | refine blockX_miss (by decide) ?_)) | refine X.skip rfl ?_ | refine X.ret rfl ?_ | (refine X.ite rfl rfl (fun hc=>?_);(first | (with_reducible refine Xb.case hc (fun h=>?_) (fun h=>?_))) <;> clear hc))
  ·obtain ⟨b,off,e,rfl,he⟩:=hl.elem (i:=0) (by omega)
   repeat' (first | (refine uP rfl ?_;(first | ((first | refine uN rfl ?_);(first | (refine uE (uL rfl rfl (LoadV.elA0 hl he (te rfl) rfl (fun _ hm=>hm) rfl)) rfl rfl ?_)|(refine uC (EnF.dyn0 rfl rfl (by (repeat (first | exact Args.nil | refine Args.cons rfl ?_));done)) rfl rfl (hg _ _) ?_;rintro _ H9 ⟨rfl,hH9⟩;subst H9)|(refine Xg.st (StF.buildOne rfl el55 rfl rfl rfl (by decide) (by decide)) rfl rfl ?_;rintro _ _ ⟨bs,rfl,rfl⟩)|(refine Xg.st (StF.appendNew rfl el55 rfl rfl (by decide) rfl (Rd.own (qH _)) (by decide)) rfl rfl ?_;rintro _ _ ⟨bn,kn,rfl,rfl⟩)|(refine uE (uM rfl rfl) rfl rfl ?_)|(refine uE (uA rfl rfl) rfl rfl ?_)|(refine uE (EvF.add64 rfl rfl rfl (by omega) (by omega)) rfl rfl ?_)|(refine uE (EvF.indexSlice rfl rfl rfl (te rfl) (te rfl) (by omega) (by omega)) rfl rfl ?_)|(refine uE (uL rfl rfl (uW (te rfl) rfl (qH _) rfl)) rfl rfl ?_)|(refine Xg.st (StF.alloc rfl Tryz.zeroValue44 rfl) rfl rfl ?_;rintro _ _ ⟨bx,rfl,rfl⟩)|(refine Xg.st0 (StF.storeAll (i:=0) rfl rfl rfl (te rfl) rfl rfl rfl rfl) rfl ?_;rintro _ _ ⟨rfl,rfl⟩;dsimp only [List.set])))))|(refine uD rfl ?_;refine hK _ _ ?_;clear hK K) | refine uR rfl (fun K hK=>?_))
   refine ⟨_,_,_,(by repeat (first | exact uU _ | refine uV rfl ?_)),?_,⟨0 + 1,_,[⟨bn,0,((l.take (0 + 1)).map f).flatMap cI,some 3,kn * 1⟩],rfl,by omega,.inr ⟨_,_,by omega,rfl,rfl⟩,rfl,rfl⟩,by omega⟩
   rw [take_snoc he]
   exact (by repeat (first | exact qR _ | apply qK | apply qC))
  ·obtain rfl : l = []:=List.eq_nil_of_length_eq_zero (by omega)
   exact ret_one (by simp) Tryz.results54 rfl (H' := H) (by repeat (first | exact qR _ | apply qK | apply qC)) (.inl ⟨rfl,rfl,rfl⟩)
 ·have hlen : (((l.take k).map f).flatMap cI).length = k * 1:=by rw [lenI,List.length_map,List.length_take];omega
  simp only [List.cons_append,List.nil_append] at hH
  subst hH
  repeat' (first | (refine uP rfl ?_;(first | ((first | refine uN rfl ?_);(first | (refine uE (uM rfl rfl) rfl rfl ?_)|(refine uE (uA rfl rfl) rfl rfl ?_)|(refine uE (uQ rfl rfl rfl rfl) rfl rfl ?_)|(refine uE (EvF.lenSlice rfl rfl (te rfl)) rfl rfl ?_)))))|(refine uD rfl ?_;refine hK _ _ ?_;clear hK K) | refine uS rfl ?_ | refine uR rfl (fun K hK=>?_) | refine X.block rfl ?_ | (refine X.brk rfl ?_;repeat (first | refine blockX_hit rfl ?_ | refine blockX_miss (by decide) ?_)) | refine X.skip rfl ?_ | refine X.ret rfl ?_ | (refine X.ite rfl rfl (fun hc=>?_);(first | (with_reducible refine Xb.case hc (fun h=>?_) (fun h=>?_))) <;> clear hc))
  ·obtain ⟨b,off,e,rfl,he⟩:=hl.elem (i:=k) (by omega)
   have hl1 : ∀ r,SlE (r::H) (some ⟨b,off,none⟩) cMt 6 l:=fun r=>hl.sub (fun _ h=>List.mem_cons_of_mem _ h)
   repeat' (first | (refine uP rfl ?_;(first | ((first | refine uN rfl ?_);(first | (refine uE (uL rfl rfl (LoadV.elA0 (hl1 _) he (te rfl) rfl (fun _ hm=>hm) rfl)) rfl rfl ?_)|(refine uC (EnF.dyn0 rfl rfl (by (repeat (first | exact Args.nil | refine Args.cons rfl ?_));done)) rfl rfl (hg _ _) ?_;rintro _ H9 ⟨rfl,hH9⟩;subst H9)|(refine Xg.st (StF.buildOne rfl el55 rfl rfl rfl (by decide) (by decide)) rfl rfl ?_;rintro _ _ ⟨bs,rfl,rfl⟩)|(refine Xg.st (StF.appendOwn (i:=2) rfl el55 rfl rfl rfl hlen rfl (Rd.own (qH _)) rfl (by omega)) rfl rfl ?_;rintro _ _ ⟨bn,kn,rfl,rfl⟩;dsimp only [List.eraseIdx])|(refine uE (uM rfl rfl) rfl rfl ?_)|(refine uE (uA rfl rfl) rfl rfl ?_)|(refine uE (EvF.add64 rfl rfl rfl (by omega) (by omega)) rfl rfl ?_)|(refine uE (EvF.indexSlice rfl rfl rfl (te rfl) (te rfl) (by omega) (by omega)) rfl rfl ?_)|(refine uE (uL rfl rfl (uW (te rfl) rfl (qH _) rfl)) rfl rfl ?_)|(refine Xg.st (StF.alloc rfl Tryz.zeroValue44 rfl) rfl rfl ?_;rintro _ _ ⟨bx,rfl,rfl⟩)|(refine Xg.st0 (StF.storeAll (i:=0) rfl rfl rfl (te rfl) rfl rfl rfl rfl) rfl ?_;rintro _ _ ⟨rfl,rfl⟩;dsimp only [List.set])))))|(refine uD rfl ?_;refine hK _ _ ?_;clear hK K) | refine uR rfl (fun K hK=>?_))
   refine ⟨_,_,_,(by repeat (first | exact uU _ | refine uV rfl ?_)),?_,⟨k + 1,_,[⟨bn,0,((l.take (k + 1)).map f).flatMap cI,some 3,kn * 1⟩],rfl,by omega,.inr ⟨_,_,by omega,rfl,rfl⟩,rfl,rfl⟩,by omega⟩
   rw [take_snoc he,List.map_append,List.flatMap_append]
   exact (by repeat (first | exact qR _ | apply qK | apply qC))
  ·obtain rfl : k = l.length:=by omega
   rw [List.take_length]
   refine ret_one (by simp) Tryz.results54 rfl (H' := ⟨b0,0,(l.map f).flatMap cI,some 3,q0 * 1⟩::H) (by repeat (first | exact qR _ | apply qK | apply qC)) (.inr ⟨b0,q0,(fun e=>by rw [e] at hk0;exact absurd hk0 (Nat.lt_irrefl 0)),by rw [List.length_map],rfl⟩)
theorem numbersF_specMt (g : Nat) (f : Mt → Int) (hg : ∀ e H,Fc Tryz.prog g ([.agg (cMt e).toArray]++[]) H (fun v H' => v = .int .i64 (f e)∧H' = H)) (l : List Mt) (a : Option Addr) (c : Nat) (H : List Row) (hl : SlE H a cMt 6 l) (hb : l.length ≤ 1000000) :
  Fc Tryz.prog 54 [.slice a l.length c,.func (.func g) #[] #[]] H (fun v H' => ∃ a' c' Z,v = .slice a' (l.map f).length c'∧H' = Z++H∧SlE (Z++H) a' cI 1 (l.map f)):=by
 refine (numbersO_specMt g f hg l a c H hl hb).mono ?_
 rintro v H' (⟨rfl,rfl,rfl⟩ | ⟨b,q,_,rfl,rfl⟩)
 ·exact ⟨none,0,[],rfl,rfl,sleNil⟩
 ·exact ⟨some ⟨b,0,none⟩,q,[_],rfl,rfl,SlE.ofRow (qH _) (fun _ _=>rfl)⟩
theorem numbers_specMt (l : List Mt) (a : Option Addr) (c : Nat) (H : List Row) (hl : SlE H a cMt 6 l) (hb : l.length ≤ 1000000) :
  Fc Tryz.prog 54 [.slice a l.length c,.func (.func 55) #[] #[]] H (fun v H' => ∃ a' c' Z,v = .slice a' (l.map (·.number)).length c'∧H' = Z++H∧SlE (Z++H) a' cI 1 (l.map (·.number))) :=
 numbersF_specMt 55 (·.number) number_spec l a c H hl hb
theorem numbersO_specBx (g : Nat) (f : Bx → Int) (hg : ∀ e H,Fc Tryz.prog g ([.agg (cBx e).toArray]++[]) H (fun v H' => v = .int .i64 (f e)∧H' = H)) (l : List Bx) (a : Option Addr) (c : Nat) (H : List Row) (hl : SlE H a cBx 2 l) (hb : l.length ≤ 1000000) :
  Fc Tryz.prog 105 [.slice a l.length c,.func (.func g) #[] #[]] H (fun v H' => (l = []∧v = .slice none 0 0∧H' = H) ∨ ∃ b q,l ≠ []∧v = .slice (some ⟨b,0,none⟩) (l.map f).length q∧H' = ⟨b,0,(l.map f).flatMap cI,some 3,q * 1⟩::H):=by
 refine Fc.mk (callable Tryz.call105) Tryz.func105 rfl Tryz.ntmps105 rfl ?_;dsimp only [fr]
 repeat' (first | (refine uP rfl ?_;(first | ((first | refine uN rfl ?_);(first | (refine uE (uM rfl rfl) rfl rfl ?_)|(refine uE (uA rfl rfl) rfl rfl ?_)|(refine uE (uQ rfl rfl rfl rfl) rfl rfl ?_)|(refine uE (EvF.lenSlice rfl rfl (te rfl)) rfl rfl ?_)))))|(refine uD rfl ?_;refine hK _ _ ?_;clear hK K) | refine uS rfl ?_ | refine uR rfl (fun K hK=>?_) | refine X.block rfl ?_ | (refine X.brk rfl ?_;repeat (first | refine blockX_hit rfl ?_ | refine blockX_miss (by decide) ?_)) | refine X.skip rfl ?_ | refine X.ret rfl ?_ | (refine X.ite rfl rfl (fun hc=>?_);(first | (with_reducible refine Xb.case hc (fun h=>?_) (fun h=>?_))) <;> clear hc))
 refine X.lp rfl (fun q F' H' => ∃ (k : Nat) (out : Value) (Z : List Row),q = l.length - k∧k ≤ l.length∧((k = 0∧out = .slice none 0 0∧Z = []) ∨ ∃ b q,0 < k∧out = .slice (some ⟨b,0,none⟩) k q∧Z = [⟨b,0,((l.take k).map f).flatMap cI,some 3,q * 1⟩])∧Z++H = H' ∧
   F' = [(1,.func (.func g) #[] #[]),(5,out),(8,.slice a l.length c),(9,.int .i64 l.length),(10,.int .i64 k)])
  l.length [(1,.func (.func g) #[] #[]),(5,.slice none 0 0),(8,.slice a l.length c),(9,.int .i64 l.length),(10,.int .i64 (0 : Nat))] _ (by repeat (first | exact uU _ | refine uV rfl ?_)) (by repeat (first | exact qR _ | apply qK | apply qC)) ⟨0,_,[],by omega,by omega,.inl ⟨rfl,rfl,rfl⟩,rfl,rfl⟩ ?_
 rintro _ _ H2 ⟨k,out,Z,rfl,hk,⟨rfl,rfl,rfl⟩ | ⟨b0,q0,hk0,rfl,rfl⟩,hH,rfl⟩
 ·rw [List.nil_append] at hH
  subst hH
  repeat' (first | (refine uP rfl ?_;(first | ((first | refine uN rfl ?_);(first | (refine uE (uM rfl rfl) rfl rfl ?_)|(refine uE (uA rfl rfl) rfl rfl ?_)|(refine uE (uQ rfl rfl rfl rfl) rfl rfl ?_)|(refine uE (EvF.lenSlice rfl rfl (te rfl)) rfl rfl ?_)))))|(refine uD rfl ?_;refine hK _ _ ?_;clear hK K) | refine uS rfl ?_ | refine uR rfl (fun K hK=>?_) | refine X.block rfl ?_ | (refine X.brk rfl ?_;repeat (first | refine blockX_hit rfl ?_ | refine blockX_miss (by decide) ?_)) | refine X.skip rfl ?_ | refine X.ret rfl ?_ | (refine X.ite rfl rfl (fun hc=>?_);(first | (with_reducible refine Xb.case hc (fun h=>?_) (fun h=>?_))) <;> clear hc))
  ·obtain ⟨b,off,e,rfl,he⟩:=hl.elem (i:=0) (by omega)
   repeat' (first | (refine uP rfl ?_;(first | ((first | refine uN rfl ?_);(first | (refine uE (uL rfl rfl (LoadV.elA0 hl he (te rfl) rfl (fun _ hm=>hm) rfl)) rfl rfl ?_)|(refine uC (EnF.dyn0 rfl rfl (by (repeat (first | exact Args.nil | refine Args.cons rfl ?_));done)) rfl rfl (hg _ _) ?_;rintro _ H9 ⟨rfl,hH9⟩;subst H9)|(refine Xg.st (StF.buildOne rfl el55 rfl rfl rfl (by decide) (by decide)) rfl rfl ?_;rintro _ _ ⟨bs,rfl,rfl⟩)|(refine Xg.st (StF.appendNew rfl el55 rfl rfl (by decide) rfl (Rd.own (qH _)) (by decide)) rfl rfl ?_;rintro _ _ ⟨bn,kn,rfl,rfl⟩)|(refine uE (uM rfl rfl) rfl rfl ?_)|(refine uE (uA rfl rfl) rfl rfl ?_)|(refine uE (EvF.add64 rfl rfl rfl (by omega) (by omega)) rfl rfl ?_)|(refine uE (EvF.indexSlice rfl rfl rfl (te rfl) (te rfl) (by omega) (by omega)) rfl rfl ?_)|(refine uE (uL rfl rfl (uW (te rfl) rfl (qH _) rfl)) rfl rfl ?_)|(refine Xg.st (StF.alloc rfl Tryz.zeroValue24 rfl) rfl rfl ?_;rintro _ _ ⟨bx,rfl,rfl⟩)|(refine Xg.st0 (StF.storeAll (i:=0) rfl rfl rfl (te rfl) rfl rfl rfl rfl) rfl ?_;rintro _ _ ⟨rfl,rfl⟩;dsimp only [List.set])))))|(refine uD rfl ?_;refine hK _ _ ?_;clear hK K) | refine uR rfl (fun K hK=>?_))
   refine ⟨_,_,_,(by repeat (first | exact uU _ | refine uV rfl ?_)),?_,⟨0 + 1,_,[⟨bn,0,((l.take (0 + 1)).map f).flatMap cI,some 3,kn * 1⟩],rfl,by omega,.inr ⟨_,_,by omega,rfl,rfl⟩,rfl,rfl⟩,by omega⟩
   rw [take_snoc he]
   exact (by repeat (first | exact qR _ | apply qK | apply qC))
  ·obtain rfl : l = []:=List.eq_nil_of_length_eq_zero (by omega)
   exact ret_one (by simp) Tryz.results105 rfl (H' := H) (by repeat (first | exact qR _ | apply qK | apply qC)) (.inl ⟨rfl,rfl,rfl⟩)
 ·have hlen : (((l.take k).map f).flatMap cI).length = k * 1:=by rw [lenI,List.length_map,List.length_take];omega
  simp only [List.cons_append,List.nil_append] at hH
  subst hH
  repeat' (first | (refine uP rfl ?_;(first | ((first | refine uN rfl ?_);(first | (refine uE (uM rfl rfl) rfl rfl ?_)|(refine uE (uA rfl rfl) rfl rfl ?_)|(refine uE (uQ rfl rfl rfl rfl) rfl rfl ?_)|(refine uE (EvF.lenSlice rfl rfl (te rfl)) rfl rfl ?_)))))|(refine uD rfl ?_;refine hK _ _ ?_;clear hK K) | refine uS rfl ?_ | refine uR rfl (fun K hK=>?_) | refine X.block rfl ?_ | (refine X.brk rfl ?_;repeat (first | refine blockX_hit rfl ?_ | refine blockX_miss (by decide) ?_)) | refine X.skip rfl ?_ | refine X.ret rfl ?_ | (refine X.ite rfl rfl (fun hc=>?_);(first | (with_reducible refine Xb.case hc (fun h=>?_) (fun h=>?_))) <;> clear hc))
  ·obtain ⟨b,off,e,rfl,he⟩:=hl.elem (i:=k) (by omega)
   have hl1 : ∀ r,SlE (r::H) (some ⟨b,off,none⟩) cBx 2 l:=fun r=>hl.sub (fun _ h=>List.mem_cons_of_mem _ h)
   repeat' (first | (refine uP rfl ?_;(first | ((first | refine uN rfl ?_);(first | (refine uE (uL rfl rfl (LoadV.elA0 (hl1 _) he (te rfl) rfl (fun _ hm=>hm) rfl)) rfl rfl ?_)|(refine uC (EnF.dyn0 rfl rfl (by (repeat (first | exact Args.nil | refine Args.cons rfl ?_));done)) rfl rfl (hg _ _) ?_;rintro _ H9 ⟨rfl,hH9⟩;subst H9)|(refine Xg.st (StF.buildOne rfl el55 rfl rfl rfl (by decide) (by decide)) rfl rfl ?_;rintro _ _ ⟨bs,rfl,rfl⟩)|(refine Xg.st (StF.appendOwn (i:=2) rfl el55 rfl rfl rfl hlen rfl (Rd.own (qH _)) rfl (by omega)) rfl rfl ?_;rintro _ _ ⟨bn,kn,rfl,rfl⟩;dsimp only [List.eraseIdx])|(refine uE (uM rfl rfl) rfl rfl ?_)|(refine uE (uA rfl rfl) rfl rfl ?_)|(refine uE (EvF.add64 rfl rfl rfl (by omega) (by omega)) rfl rfl ?_)|(refine uE (EvF.indexSlice rfl rfl rfl (te rfl) (te rfl) (by omega) (by omega)) rfl rfl ?_)|(refine uE (uL rfl rfl (uW (te rfl) rfl (qH _) rfl)) rfl rfl ?_)|(refine Xg.st (StF.alloc rfl Tryz.zeroValue24 rfl) rfl rfl ?_;rintro _ _ ⟨bx,rfl,rfl⟩)|(refine Xg.st0 (StF.storeAll (i:=0) rfl rfl rfl (te rfl) rfl rfl rfl rfl) rfl ?_;rintro _ _ ⟨rfl,rfl⟩;dsimp only [List.set])))))|(refine uD rfl ?_;refine hK _ _ ?_;clear hK K) | refine uR rfl (fun K hK=>?_))
   refine ⟨_,_,_,(by repeat (first | exact uU _ | refine uV rfl ?_)),?_,⟨k + 1,_,[⟨bn,0,((l.take (k + 1)).map f).flatMap cI,some 3,kn * 1⟩],rfl,by omega,.inr ⟨_,_,by omega,rfl,rfl⟩,rfl,rfl⟩,by omega⟩
   rw [take_snoc he,List.map_append,List.flatMap_append]
   exact (by repeat (first | exact qR _ | apply qK | apply qC))
  ·obtain rfl : k = l.length:=by omega
   rw [List.take_length]
   refine ret_one (by simp) Tryz.results105 rfl (H' := ⟨b0,0,(l.map f).flatMap cI,some 3,q0 * 1⟩::H) (by repeat (first | exact qR _ | apply qK | apply qC)) (.inr ⟨b0,q0,(fun e=>by rw [e] at hk0;exact absurd hk0 (Nat.lt_irrefl 0)),by rw [List.length_map],rfl⟩)
theorem numbersF_specBx (g : Nat) (f : Bx → Int) (hg : ∀ e H,Fc Tryz.prog g ([.agg (cBx e).toArray]++[]) H (fun v H' => v = .int .i64 (f e)∧H' = H)) (l : List Bx) (a : Option Addr) (c : Nat) (H : List Row) (hl : SlE H a cBx 2 l) (hb : l.length ≤ 1000000) :
  Fc Tryz.prog 105 [.slice a l.length c,.func (.func g) #[] #[]] H (fun v H' => ∃ a' c' Z,v = .slice a' (l.map f).length c'∧H' = Z++H∧SlE (Z++H) a' cI 1 (l.map f)):=by
 refine (numbersO_specBx g f hg l a c H hl hb).mono ?_
 rintro v H' (⟨rfl,rfl,rfl⟩ | ⟨b,q,_,rfl,rfl⟩)
 ·exact ⟨none,0,[],rfl,rfl,sleNil⟩
 ·exact ⟨some ⟨b,0,none⟩,q,[_],rfl,rfl,SlE.ofRow (qH _) (fun _ _=>rfl)⟩
theorem numbers_specBx (l : List Bx) (a : Option Addr) (c : Nat) (H : List Row) (hl : SlE H a cBx 2 l) (hb : l.length ≤ 1000000) :
  Fc Tryz.prog 105 [.slice a l.length c,.func (.func 67) #[] #[]] H (fun v H' => ∃ a' c' Z,v = .slice a' (l.map (·.id)).length c'∧H' = Z++H∧SlE (Z++H) a' cI 1 (l.map (·.id))) :=
 numbersF_specBx 67 (·.id) id_spec l a c H hl hb
end Go.Proofs.YtmfppdpkalelhaaGreat
end
section
set_option linter.unusedVariables false
set_option linter.unusedSimpArgs false
namespace Go.Proofs.YtmfppdpkalelhaaGreat
open Go Go.Fw
set_option maxRecDepth 10000
def ts66a : List TOp:=[⟨some 5,[],[],[]⟩,⟨some 6,[],[],[]⟩,⟨some 7,[1],[1],[]⟩,⟨some 8,[1,2],[2],[]⟩,⟨some 9,[0,1,2,3],[0,3],[3]⟩,⟨some 10,[0,1,2,3,4],[4],[]⟩,⟨some 11,[0,1,2,3,4,5],[5],[]⟩,⟨some 12,[0,1,2,3,4,5,6],[],[]⟩,⟨some 13,[0,1,2,3,4,5,6],[],[]⟩,⟨some 14,[0,1,2,3,4,5,6,8],[8],[]⟩,⟨some 15,[0,1,2,3,4,5,6,8,9],[9],[]⟩,⟨some 16,[0,1,2,3,4,5,6,7,8,9,10],[7,10],[10]⟩,⟨some 17,[0,1,2,3,4,5,6,7,8,9,10,11],[11],[]⟩,⟨some 18,[0,1,2,3,4,5,6,7,8,9,10,11,12],[6,12],[]⟩,⟨some 19,[0,1,2,3,4,5,6,7,8,9,10,11,12,13],[13],[]⟩,⟨some 20,[0,1,2,3,4,5,6,7,8,9,10,11,12,13,14],[],[]⟩,⟨some 21,[0,1,2,3,4,5,6,7,8,9,10,11,12,13,14,15],[15],[]⟩,⟨some 22,[0,1,2,3,4,5,6,7,8,9,10,11,12,13,14,15,16],[16],[]⟩,⟨some 23,[0,1,2,3,4,5,6,7,8,9,10,11,12,13,14],[],[]⟩,⟨some 24,[0,1,2,3,4,5,6,7,8,9,10,11,12,13,14,18],[18],[]⟩,⟨some 25,[0,1,2,3,4,5,6,7,8,9,10,11,12,13,14,15,16,17,18,19],[17,19],[]⟩,⟨some 26,[0,1,2,3,4,5,6,7,8,9,10,11,12,13,14,15,16,17,18,19,20],[14,20],[]⟩]
def val66a (b1 : Nat) (R : Rm) (p : Pl) (w0 w1 l1 : Bool) (k : Nat) (env : Env) : Value :=
 match k with
 | 0 => .agg (cSp ⟨1,12⟩).toArray
 | 1 => .pointer (some ⟨b1,0,none⟩)
 | 2 => .int .i64 R.months
 | 3 => .slice (some ⟨(env 3).1,0,none⟩) 1 1
 | 4 => .bool w0
 | 5 => .bool (!w0)
 | 6 => .bool (!w0)
 | 7=>gt (!w0) (.agg (cSp ⟨0,60⟩).toArray)
 | 8=>gt (!w0) (.pointer (some ⟨b1,1,none⟩))
 | 9=>gt (!w0) (.int .i64 R.step)
 | 10=>gt (!w0) (.slice (some ⟨(env 10).1,0,none⟩) 1 1)
 | 11=>gt (!w0) (.bool w1)
 | 12=>gt (!w0) (.bool (!w1))
 | 13 => .bool (!w0 || !w1)
 | 14 => .bool (!w0 || !w1)
 | 15=>gt (!w0 || !w1) (.pointer (some ⟨b1,2,none⟩))
 | 16=>gt (!w0 || !w1) (.slice p.a1 R.ages.length p.c1)
 | 17=>gt (!w0 || !w1) (.int .i64 R.ages.length)
 | 18=>gt (!w0 || !w1) (.pointer (some ⟨b1,0,none⟩))
 | 19=>gt (!w0 || !w1) (.int .i64 R.months)
 | 20=>gt (!w0 || !w1) (.bool l1)
 | 21 => .bool (!w0 || !w1 || l1)
 | _=>undef
def rows66a (R : Rm) (w0 : Bool) (k : Nat) (env : Env) : List Row :=
 match k with
 | 3=>[⟨(env 3).1,0,[.int .i64 R.months],some 3,1 * 1⟩]
 | 10=>gr (!w0) [⟨(env 10).1,0,[.int .i64 R.step],some 3,1 * 1⟩]
 | _=>[]
theorem loc66a (b1 : Nat) (R : Rm) (p : Pl) (w0 w1 l1 : Bool) : ∀ k env i q9,i ≠ k → (tAt ts66a k).sup.contains i = false → val66a b1 R p w0 w1 l1 k (upd env i q9)=val66a b1 R p w0 w1 l1 k env∧rows66a R w0 k (upd env i q9)=rows66a R w0 k env:=by
 intro k env i q hk hs
 have hu : ∀ j,j ≠ i → upd env i q j = env j:=fun j hj=>by unfold upd;rw [if_neg hj]
 match k,hk,hs with
 | 0,_,_=>exact ⟨rfl,rfl⟩
 | 1,_,_=>exact ⟨rfl,rfl⟩
 | 2,_,_=>exact ⟨rfl,rfl⟩
 | 3,hk,hs=>exact ⟨by simp only [val66a,hu 3 (fun e=>hk e.symm)],by simp only [rows66a,hu 3 (fun e=>hk e.symm)]⟩
 | 4,_,_=>exact ⟨rfl,rfl⟩
 | 5,_,_=>exact ⟨rfl,rfl⟩
 | 6,_,_=>exact ⟨rfl,rfl⟩
 | 7,_,_=>exact ⟨rfl,rfl⟩
 | 8,_,_=>exact ⟨rfl,rfl⟩
 | 9,_,_=>exact ⟨rfl,rfl⟩
 | 10,hk,hs=>exact ⟨by simp only [val66a,hu 10 (fun e=>hk e.symm)],by simp only [rows66a,hu 10 (fun e=>hk e.symm)]⟩
 | 11,_,_=>exact ⟨rfl,rfl⟩
 | 12,_,_=>exact ⟨rfl,rfl⟩
 | 13,_,_=>exact ⟨rfl,rfl⟩
 | 14,_,_=>exact ⟨rfl,rfl⟩
 | 15,_,_=>exact ⟨rfl,rfl⟩
 | 16,_,_=>exact ⟨rfl,rfl⟩
 | 17,_,_=>exact ⟨rfl,rfl⟩
 | 18,_,_=>exact ⟨rfl,rfl⟩
 | 19,_,_=>exact ⟨rfl,rfl⟩
 | 20,_,_=>exact ⟨rfl,rfl⟩
 | 21,_,_=>exact ⟨rfl,rfl⟩
 | _ + 22,_,_=>exact ⟨rfl,rfl⟩
theorem part_spec (s : Sp) (lo hi : Int) (H : List Row) : Fc Tryz.prog 104 [.agg (cSp s).toArray,.int .i64 lo,.int .i64 hi] H (fun v H' => v = .bool (decide (s.lo ≤ s.hi ∧ ∀ n ∈ [s.lo,s.hi],(Sp.mk lo hi).lo ≤ n∧n ≤ (Sp.mk lo hi).hi))∧H' = H):=by
 refine Fc.mk (callable Tryz.call104) Tryz.func104 rfl Tryz.ntmps104 rfl ?_;dsimp only [fr]
 repeat' (first | (refine uP rfl ?_;(first | ((first | refine uN rfl ?_ | (refine Xo.g rfl rfl ?_;with_reducible refine Xw.tt ?_));(first | (refine uE (EvF.build (cs:=cSp ⟨lo,hi⟩) rfl (ArgsP.cons rfl (ArgsP.cons rfl ArgsP.nil)) (te rfl) (Places.cons (te rfl) (Places.cons (te rfl) Places.nil)) Tryz.zeroValue24 rfl) rfl rfl ?_)|(refine Xg.st (StF.buildTwo rfl el55 rfl rfl rfl rfl rfl rfl (by decide) (by decide)) rfl rfl ?_;rintro _ _ ⟨bo,rfl,rfl⟩)|(refine uC (uT rfl (by (repeat (first | exact Args.nil | refine Args.cons rfl ?_));done)) rfl rfl (withinL_spec ⟨lo,hi⟩ [s.lo,s.hi] _ _ _ (SlE.ofRow (l:=[s.lo,s.hi]) (qH _) (fun _ _=>rfl)) (by simp)) ?_;rintro _ H9 ⟨rfl,hH9⟩;subst H9)|(refine uE (uM rfl rfl) rfl rfl ?_)|(refine uE (uA rfl rfl) rfl rfl ?_)|(refine uE (EvF.pickT rfl rfl rfl) rfl rfl ?_)|(refine uE (EvF.pickF rfl rfl rfl) rfl rfl ?_)|(refine uE (uQ rfl rfl rfl rfl) rfl rfl ?_)|(refine uE (uF rfl rfl (te rfl) rfl (te rfl) (by decide)) rfl rfl ?_)|(refine uE (uL rfl rfl (uO (te rfl) rfl (qH _) rfl)) rfl rfl ?_)|(refine Xg.st (StF.boxAgg rfl rfl) rfl rfl ?_;rintro _ _ ⟨bx,rfl,rfl⟩)))|(refine Xo.g rfl rfl ?_;(first | (with_reducible refine Xw.ft rfl rfl ?_)|(with_reducible refine Xw.case (fun h=>?_) (fun h=>?_) <;> simp only [h,decide_true,decide_false,Bool.not_true,Bool.not_false,and_self,and_true,true_and,and_false,false_and])))))|(refine uD rfl ?_;refine hK _ _ ?_;clear hK K) | refine uS rfl ?_ | refine uR rfl (fun K hK=>?_) | refine X.ret rfl ?_)
 all_goals (refine ret_one (by simp) Tryz.results104 rfl (H' := H) (by (repeat (first | exact qR _ | apply qC));done) ?_;simp only [and_true,true_and])
 ·congr 1;symm;exact decide_eq_decide.2 (and_iff_right (by assumption))
 ·congr 1;symm;exact decide_eq_false (fun q=>absurd q.1 (by assumption))
def agesOk (R : Rm) : Prop:=(1 ≤ R.months∧R.months ≤ 12)∧(0 ≤ R.step∧R.step ≤ 60)∧(R.ages.length : Int)=R.months∧okAges R.ages
instance (R : Rm) : Decidable (agesOk R):=by unfold agesOk;infer_instance
set_option maxHeartbeats 2000000 in
theorem hasAges_spec (R : Rm) (p : Pl) (H : List Row) (hR : RmOk H R p) : Fc Tryz.prog 68 [.agg (cRm R p).toArray] H (fun v H' => v = .bool (decide (agesOk R))∧H' = H):=by
 have l1:=hR.l1
 obtain ⟨w0,e0⟩ : ∃ b,decide (∀ n ∈ [R.months],(Sp.mk 1 12).lo ≤ n∧n ≤ (Sp.mk 1 12).hi)=b:=⟨_,rfl⟩
 obtain ⟨w1,e1⟩ : ∃ b,decide (∀ n ∈ [R.step],(Sp.mk 0 60).lo ≤ n∧n ≤ (Sp.mk 0 60).hi)=b:=⟨_,rfl⟩
 obtain ⟨bb,hbb⟩ : ∃ b,(!w0 || !w1 || !decide ((R.ages.length : Int)=R.months)) = b:=⟨_,rfl⟩
 have hh : bb = false ↔ (1 ≤ R.months∧R.months ≤ 12)∧(0 ≤ R.step∧R.step ≤ 60)∧(R.ages.length : Int)=R.months:=by
  rw [← hbb, ← e0, ← e1]
  simp [and_assoc]
 refine Fc.mk (callable Tryz.call68) Tryz.func68 rfl Tryz.ntmps68 rfl ?_;dsimp only [fr]
 refine uS rfl ?_;refine uR rfl (fun K hK=>?_);repeat' (first | (refine uP rfl ?_;(first | ((first | refine uN rfl ?_);(first | (refine uE (uA rfl rfl) rfl rfl ?_)|(refine Xg.st (StF.boxAgg rfl rfl) rfl rfl ?_;rintro _ _ ⟨bx,rfl,rfl⟩)))))|(refine uD rfl ?_;refine hK _ _ ?_;clear hK K))
 rename Nat=>b1
 refine uS rfl ?_
 refine uS rfl ?_
 refine X.regionOb ts66a [1] [(1,.pointer (some ⟨b1,0,none⟩))] (val66a b1 R p w0 w1 (!decide ((R.ages.length : Int)=R.months))) (rows66a R w0) (fun _=>(0,0)) (⟨b1,0,cRm R p,some 32,5⟩::H) rfl mixed (by repeat (first | exact uU _ | refine uV rfl ?_)) rfl (by kernel_rfl) (loc66a b1 R p w0 w1 _) (qR _) ?_ ?_
 ·clear hbb
  cases w0 <;> cases w1
  all_goals repeat' (first | exact AllF.done rfl | (refine AllF.step rfl ?_ ?_;·(first | exact Ob.sk rfl rfl (fun _=>rfl) (fun _=>rfl) (fun _=>rfl) (fun _=>rfl)|((first | refine Ob.ng rfl ?_ | refine Ob.g rfl rfl (fun _=>rfl) ?_);(first | exact ObK.pure (fun env R hR=>by exact ⟨_,uM rfl rfl,rfl⟩) rfl (fun _=>rfl) | exact ObK.pure (fun env R hR=>by exact ⟨_,EvF.pickT rfl rfl rfl,rfl⟩) rfl (fun _=>rfl) | exact ObK.pure (fun env R hR=>by exact ⟨_,EvF.pickF rfl rfl rfl,rfl⟩) rfl (fun _=>rfl) | exact ObK.pure (fun env R hR=>by exact ⟨_,uF rfl rfl (te rfl) rfl (te rfl) (by decide),rfl⟩) rfl (fun _=>rfl) | exact ObK.pure (fun env R hR=>by exact ⟨_,EvF.not rfl rfl,rfl⟩) rfl (fun _=>rfl) | exact ObK.pure (fun env R hR=>by exact ⟨_,uQ rfl rfl rfl rfl,rfl⟩) rfl (fun _=>rfl) | exact ObK.pure (fun env R hR=>by exact ⟨_,EvF.lenSlice rfl rfl (te rfl),rfl⟩) rfl (fun _=>rfl) | exact ObK.pure (fun env R hR=>by exact ⟨_,uL rfl rfl (uO (te rfl) rfl (hR _ (qH _)) rfl),rfl⟩) rfl (fun _=>rfl)|(exact fun env S hS=>(StF.buildOne rfl el55 rfl rfl rfl (by decide) (by decide)).op.mono (fun v H' ⟨b,hv,hH⟩=>⟨(b,0),fun _=>hv,by rw [hH];exact List.Perm.refl _⟩))|(exact ObK.pure (fun env S hS=>⟨_,EvF.build (cs:=cSp ⟨1,12⟩) rfl (ArgsP.cons rfl (ArgsP.cons rfl ArgsP.nil)) (te rfl) (Places.cons (te rfl) (Places.cons (te rfl) Places.nil)) Tryz.zeroValue24 rfl,rfl⟩) rfl (fun _=>rfl))|(exact fun env S hS=>OpF.callV (Z:=[]) (uT rfl (by (repeat (first | exact Args.nil | refine Args.cons rfl ?_));done)) (anyPoints_spec _) rfl rfl)|(exact fun env S hS=>OpF.callV (uT rfl (by (repeat (first | exact Args.nil | refine Args.cons rfl ?_));done)) (withinL_spec ⟨1,12⟩ [R.months] _ _ _ (SlE.ofRow (l:=[R.months]) (qH _) (fun _ _=>rfl)) (by simp)) (by rw [e0];rfl) rfl)|(exact fun env S hS=>OpF.callV (uT rfl (by (repeat (first | exact Args.nil | refine Args.cons rfl ?_));done)) (withinL_spec ⟨0,60⟩ [R.step] _ _ _ (SlE.ofRow (l:=[R.step]) (qH _) (fun _ _=>rfl)) (by simp)) (by rw [e1];rfl) rfl))))))
 ·intro env t ha hv
  refine ⟨[(26,.bool bb),(1,.pointer (some ⟨b1,0,none⟩))],ha.cons (by rw [← hbb];exact hv 21 26 (Nat.le_of_ble_eq_true rfl) rfl),?_⟩
  show X _ _ _ _ (⟨b1,0,cRm R p,some 32,5⟩::H) _
  repeat' (first | (refine uP rfl ?_;(first | ((first | refine uN rfl ?_);(first | (refine uE (uM rfl rfl) rfl rfl ?_)|(refine uE (uA rfl rfl) rfl rfl ?_)|(refine uE (uQ rfl rfl rfl rfl) rfl rfl ?_)|(refine uE (uF rfl rfl (te rfl) rfl (te rfl) (by decide)) rfl rfl ?_)|(refine uE (EvF.lenSlice rfl rfl (te rfl)) rfl rfl ?_)|(refine uE (uL rfl rfl (uO (te rfl) rfl (qH _) rfl)) rfl rfl ?_)))))|(refine uD rfl ?_;refine hK _ _ ?_;clear hK K) | refine uS rfl ?_ | refine uR rfl (fun K hK=>?_) | refine X.block rfl ?_ | (refine X.brk rfl ?_;repeat (first | refine blockX_hit rfl ?_ | refine blockX_miss (by decide) ?_)) | refine X.skip rfl ?_ | refine X.ret rfl ?_ | (refine X.ite rfl rfl (fun hc=>?_);(first | (with_reducible refine Xb.case hc (fun h=>?_) (fun h=>?_))|(with_reducible refine Xb.caseB hc (fun h=>?_) (fun h=>?_))) <;> clear hc))
  ·refine ret_one (by simp) Tryz.results68 rfl (H' := H) (by (repeat (first | exact qR _ | apply qC));done) ?_;simp only [and_true,true_and]
   congr 1;symm;exact decide_eq_false (fun q=>by rw [hh.2 ⟨q.1,q.2.1,q.2.2.1⟩] at h;cases h)
  have hh' := hh.1 (by assumption)
  have hR1 : ∀ r,RmOk (r::H) R p:=fun r=>hR.sub (fun _ h=>List.mem_cons_of_mem _ h)
  obtain ⟨a1,c1,a2,c2,a3,c3⟩:=p
  refine X.lp rfl (fun m F' H' => ∃ k : Nat,m = R.ages.length - k∧k ≤ R.ages.length∧(okAges R.ages ↔ okAges (R.ages.drop k))∧H' = ⟨b1,0,cRm R ⟨a1,c1,a2,c2,a3,c3⟩,some 32,5⟩::H ∧
    F' = [(1,.pointer (some ⟨b1,0,none⟩)),(28,.slice a1 R.ages.length c1),(29,.int .i64 R.ages.length),(30,.int .i64 k)])
   R.ages.length [(1,.pointer (some ⟨b1,0,none⟩)),(28,.slice a1 R.ages.length c1),(29,.int .i64 R.ages.length),(30,.int .i64 (0 : Nat))] _ (by repeat (first | exact uU _ | refine uV rfl ?_)) (qR _) ⟨0,by omega,by omega,by simp,rfl,rfl⟩ ?_
  rintro _ _ _ ⟨k,rfl,hk,hn,rfl,rfl⟩
  repeat' (first | (refine uP rfl ?_;(first | ((first | refine uN rfl ?_);(first | (refine uE (uM rfl rfl) rfl rfl ?_)|(refine uE (uA rfl rfl) rfl rfl ?_)|(refine uE (uQ rfl rfl rfl rfl) rfl rfl ?_)|(refine uE (uF rfl rfl (te rfl) rfl (te rfl) (by decide)) rfl rfl ?_)|(refine uE (EvF.lenSlice rfl rfl (te rfl)) rfl rfl ?_)|(refine uE (uL rfl rfl (uO (te rfl) rfl (qH _) rfl)) rfl rfl ?_)))))|(refine uD rfl ?_;refine hK _ _ ?_;clear hK K) | refine uS rfl ?_ | refine uR rfl (fun K hK=>?_) | refine X.block rfl ?_ | (refine X.brk rfl ?_;repeat (first | refine blockX_hit rfl ?_ | refine blockX_miss (by decide) ?_)) | refine X.skip rfl ?_ | refine X.ret rfl ?_ | (refine X.ite rfl rfl (fun hc=>?_);(first | (with_reducible refine Xb.case hc (fun h=>?_) (fun h=>?_))|(with_reducible refine Xb.caseB hc (fun h=>?_) (fun h=>?_))) <;> clear hc))
  ·obtain ⟨b,off,e,rfl,he⟩:=hR.ages.elem (i:=k) (by omega)
   rw [drop_cons he] at hn
   have h2 : (e.lo ≤ e.hi ∧ ∀ n ∈ [e.lo,e.hi],(Sp.mk 0 60).lo ≤ n∧n ≤ (Sp.mk 0 60).hi) ↔ 0 ≤ e.lo∧e.lo ≤ e.hi∧e.hi ≤ 60:=by
    simp
    omega
   repeat' (first | (refine uP rfl ?_;(first | ((first | refine uN rfl ?_);(first | (refine uE (uL rfl rfl (LoadV.elA0 (hR1 _).ages he (te rfl) rfl (fun _ hm=>hm) rfl)) rfl rfl ?_)|(refine uC (uT rfl (by (repeat (first | exact Args.nil | refine Args.cons rfl ?_));done)) rfl rfl (part_spec e 0 60 _) ?_;rintro _ H9 ⟨rfl,hH9⟩;subst H9)|(refine uE (uM rfl rfl) rfl rfl ?_)|(refine uE (uA rfl rfl) rfl rfl ?_)|(refine uE (EvF.add64 rfl rfl rfl (by omega) (by omega)) rfl rfl ?_)|(refine uE (EvF.not rfl rfl) rfl rfl ?_)|(refine uE (EvF.indexSlice rfl rfl rfl (te rfl) (te rfl) (by omega) (by omega)) rfl rfl ?_)|(refine uE (uL rfl rfl (uW (te rfl) rfl (qH _) rfl)) rfl rfl ?_)|(refine Xg.st (StF.alloc rfl Tryz.zeroValue24 rfl) rfl rfl ?_;rintro _ _ ⟨bx,rfl,rfl⟩)|(refine Xg.st0 (StF.storeAll (i:=0) rfl rfl rfl (te rfl) rfl rfl rfl rfl) rfl ?_;rintro _ _ ⟨rfl,rfl⟩;dsimp only [List.set])))))|(refine uD rfl ?_;refine hK _ _ ?_;clear hK K) | refine uS rfl ?_ | refine uR rfl (fun K hK=>?_) | refine X.skip rfl ?_ | refine X.ret rfl ?_ | (refine X.ite rfl rfl (fun hc=>?_);(first | (with_reducible refine Xb.caseN hc (fun h=>?_) (fun h=>?_))) <;> clear hc))
   ·refine ret_one (by simp) Tryz.results68 rfl (H' := H) (by (repeat (first | exact qR _ | apply qC));done) ?_;simp only [and_true,true_and]
    congr 1;symm
    exact decide_eq_false (fun q=>h (h2.2 (okAges_cons.1 (hn.1 q.2.2.2)).1))
   ·exact ⟨_,_,_,(by repeat (first | exact uU _ | refine uV rfl ?_)),(by (repeat (first | exact qR _ | apply qC));done),⟨k + 1,rfl,by omega,hn.trans (okAges_cons.trans (and_iff_right (h2.1 (by assumption)))),rfl,rfl⟩,by omega⟩
  ·refine ret_one (by simp) Tryz.results68 rfl (H' := H) (by (repeat (first | exact qR _ | apply qC));done) ?_;simp only [and_true,true_and]
   congr 1;symm
   exact decide_eq_true ⟨hh'.1,hh'.2.1,hh'.2.2,hn.2 (by rw [List.drop_eq_nil_of_le (by omega)];simp [okAges])⟩
end Go.Proofs.YtmfppdpkalelhaaGreat
end
section
set_option linter.unusedVariables false
set_option linter.unusedSimpArgs false
namespace Go.Proofs.YtmfppdpkalelhaaGreat
open Go Go.Fw
set_option maxRecDepth 10000
def ts67 : List TOp:=[⟨some 23,[],[],[]⟩,⟨some 24,[0],[0],[]⟩,⟨some 25,[],[],[]⟩,⟨some 26,[2],[2],[]⟩,⟨some 27,[2,3],[3],[]⟩,⟨some 28,[0,1,2,3,4],[1,4],[4]⟩,⟨some 29,[0,1,2,3,4,5],[5],[]⟩]
def val67 (b4 : Nat) (R : Rm) (p : Pl) (e : Bx) (w : Bool) (k : Nat) (env : Env) : Value :=
 match k with
 | 0 => .agg (cRm R p).toArray
 | 1 => .agg (cSp ⟨0,R.months - 1⟩).toArray
 | 2 => .pointer (some ⟨b4,1,none⟩)
 | 3 => .int .i64 e.made
 | 4 => .slice (some ⟨(env 4).1,0,none⟩) 1 1
 | 5 => .bool w
 | 6 => .bool (!w)
 | _=>undef
def rows67 (e : Bx) (k : Nat) (env : Env) : List Row :=
 match k with
 | 4=>[⟨(env 4).1,0,[.int .i64 e.made],some 3,1 * 1⟩]
 | _=>[]
theorem loc67 (b4 : Nat) (R : Rm) (p : Pl) (e : Bx) (w : Bool) : ∀ k env i q9,i ≠ k → (tAt ts67 k).sup.contains i = false → val67 b4 R p e w k (upd env i q9)=val67 b4 R p e w k env∧rows67 e k (upd env i q9)=rows67 e k env:=by
 intro k env i q hk hs
 have hu : ∀ j,j ≠ i → upd env i q j = env j:=fun j hj=>by unfold upd;rw [if_neg hj]
 match k,hk,hs with
 | 0,_,_=>exact ⟨rfl,rfl⟩
 | 1,_,_=>exact ⟨rfl,rfl⟩
 | 2,_,_=>exact ⟨rfl,rfl⟩
 | 3,_,_=>exact ⟨rfl,rfl⟩
 | 4,hk,hs=>exact ⟨by simp only [val67,hu 4 (fun e=>hk e.symm)],by simp only [rows67,hu 4 (fun e=>hk e.symm)]⟩
 | 5,_,_=>exact ⟨rfl,rfl⟩
 | 6,_,_=>exact ⟨rfl,rfl⟩
 | _ + 7,_,_=>exact ⟨rfl,rfl⟩
def boxesOk (R : Rm) : Prop:=R.boxes.length ≤ 4∧risesOk (R.boxes.map (·.id)) ∧ ∀ b ∈ R.boxes,0 ≤ b.made∧b.made ≤ R.months - 1
noncomputable instance (R : Rm) : Decidable (boxesOk R):=Classical.propDecidable _
set_option maxHeartbeats 2000000 in
theorem hasValidBoxes_spec (R : Rm) (p : Pl) (H : List Row) (hR : RmOk H R p) (hm : 1 ≤ R.months∧R.months ≤ 12) : Fc Tryz.prog 69 [.agg (cRm R p).toArray] H (fun v H' => v = .bool (decide (boxesOk R))∧H' = H):=by
 have l2:=hR.l2
 have hR1 : ∀ r,RmOk (r::H) R p:=fun r=>hR.sub (fun _ h=>List.mem_cons_of_mem _ h)
 obtain ⟨a1,c1,a2,c2,a3,c3⟩:=p
 refine Fc.mk (callable Tryz.call69) Tryz.func69 rfl Tryz.ntmps69 rfl ?_;dsimp only [fr]
 refine uS rfl ?_;refine uR rfl (fun K hK=>?_);repeat' (first | (refine uP rfl ?_;(first | ((first | refine uN rfl ?_);(first | (refine uE (uA rfl rfl) rfl rfl ?_)|(refine Xg.st (StF.boxAgg rfl rfl) rfl rfl ?_;rintro _ _ ⟨bx,rfl,rfl⟩)))))|(refine uD rfl ?_;refine hK _ _ ?_;clear hK K))
 rename Nat=>b1
 repeat' (first | (refine uP rfl ?_;(first | ((first | refine uN rfl ?_ | (refine Xo.g rfl rfl ?_;with_reducible refine Xw.ff ?_));(first | (refine uC (uT rfl (by (repeat (first | exact Args.nil | refine Args.cons rfl ?_));done)) rfl rfl (numbers_specBx R.boxes _ _ _ (hR1 _).boxes (by omega)) ?_;rintro _ _ ⟨a',c',Z,rfl,rfl,hz⟩)|(refine uC (uT rfl (by (repeat (first | exact Args.nil | refine Args.cons rfl ?_));done)) rfl rfl (rising_spec (R.boxes.map (·.id)) a' c' _ hz (by rw [List.length_map];omega)) ?_;rintro _ H9 ⟨rfl,hH9⟩;subst H9)|(refine uE (uL rfl rfl (uO (te rfl) rfl (List.mem_append_right _ (qH _)) rfl)) rfl rfl ?_)|(refine uE (uM rfl rfl) rfl rfl ?_)|(refine uE (uA rfl rfl) rfl rfl ?_)|(refine uE (EvF.pickT rfl rfl rfl) rfl rfl ?_)|(refine uE (EvF.pickF rfl rfl rfl) rfl rfl ?_)|(refine uE (uQ rfl rfl rfl rfl) rfl rfl ?_)|(refine uE (EvF.not rfl rfl) rfl rfl ?_)|(refine uE (uF rfl rfl (te rfl) rfl (te rfl) (by decide)) rfl rfl ?_)|(refine uE (EvF.lenSlice rfl rfl (te rfl)) rfl rfl ?_)|(refine uE (uL rfl rfl (uO (te rfl) rfl (qH _) rfl)) rfl rfl ?_)))|(refine Xo.g rfl rfl ?_;(first | (with_reducible refine Xw.tf rfl rfl ?_)|(with_reducible refine Xw.case (fun h=>?_) (fun h=>?_) <;> simp only [h,decide_true,decide_false,Bool.not_true,Bool.not_false,and_self,and_true,true_and,and_false,false_and])))))|(refine uD rfl ?_;refine hK _ _ ?_;clear hK K) | refine uS rfl ?_ | refine uR rfl (fun K hK=>?_) | refine X.block rfl ?_ | refine X.skip rfl ?_ | refine X.ret rfl ?_ | (refine X.ite rfl rfl (fun hc=>?_);(first | (with_reducible refine Xb.t hc ?_)|(with_reducible refine Xb.caseN hc (fun h=>?_) (fun h=>?_))) <;> clear hc))
 ·refine ret_one (by simp) Tryz.results69 rfl (H' := H) (by (repeat (first | exact qR _ | apply qC));done) ?_;simp only [and_true,true_and]
  congr 1;symm;exact decide_eq_false (fun q=>by have:=q.1;omega)
 ·refine ret_one (by simp) Tryz.results69 rfl (H' := H) ((List.sublist_cons_self _ _).trans (List.sublist_append_right _ _)) ⟨?_,rfl⟩
  congr 1;symm;exact decide_eq_false (fun q=>h q.2.1)
 have hri : risesOk (R.boxes.map (·.id)):=by assumption
 refine X.lp rfl (fun m F' H' => ∃ k : Nat,m = R.boxes.length - k∧k ≤ R.boxes.length∧((∀ b ∈ R.boxes,0 ≤ b.made∧b.made ≤ R.months - 1) ↔ ∀ b ∈ R.boxes.drop k,0 ≤ b.made∧b.made ≤ R.months - 1)∧H' = ⟨b1,0,cRm R ⟨a1,c1,a2,c2,a3,c3⟩,some 32,5⟩::H ∧
   F' = [(1,.pointer (some ⟨b1,0,none⟩)),(17,.slice a2 R.boxes.length c2),(18,.int .i64 R.boxes.length),(19,.int .i64 k)])
  R.boxes.length [(1,.pointer (some ⟨b1,0,none⟩)),(17,.slice a2 R.boxes.length c2),(18,.int .i64 R.boxes.length),(19,.int .i64 (0 : Nat))] _ (by repeat (first | exact uU _ | refine uV rfl ?_)) (List.sublist_append_right _ _) ⟨0,by omega,by omega,by simp,rfl,rfl⟩ ?_
 rintro _ _ _ ⟨k,rfl,hk,hn,rfl,rfl⟩
 repeat' (first | (refine uP rfl ?_;(first | ((first | refine uN rfl ?_);(first | (refine uE (uM rfl rfl) rfl rfl ?_)|(refine uE (uA rfl rfl) rfl rfl ?_)|(refine uE (uQ rfl rfl rfl rfl) rfl rfl ?_)|(refine uE (EvF.add64 rfl rfl rfl (by omega) (by omega)) rfl rfl ?_)))))|(refine uD rfl ?_;refine hK _ _ ?_;clear hK K) | refine uS rfl ?_ | refine uR rfl (fun K hK=>?_) | refine X.block rfl ?_ | (refine X.brk rfl ?_;repeat (first | refine blockX_hit rfl ?_ | refine blockX_miss (by decide) ?_)) | refine X.skip rfl ?_ | refine X.ret rfl ?_ | (refine X.ite rfl rfl (fun hc=>?_);(first | (with_reducible refine Xb.case hc (fun h=>?_) (fun h=>?_))|(with_reducible refine Xb.caseB hc (fun h=>?_) (fun h=>?_))) <;> clear hc))
 ·obtain ⟨b,off,e,rfl,he⟩:=hR.boxes.elem (i:=k) (by omega)
  rw [drop_cons he] at hn
  repeat' (first | (refine uP rfl ?_;(first | ((first | refine uN rfl ?_);(first | (refine uE (uL rfl rfl (LoadV.elA0 (hR1 _).boxes he (te rfl) rfl (fun _ hm=>hm) rfl)) rfl rfl ?_)|(refine uE (EvF.indexSlice rfl rfl rfl (te rfl) (te rfl) (by omega) (by omega)) rfl rfl ?_)|(refine Xg.st (StF.alloc rfl Tryz.zeroValue24 rfl) rfl rfl ?_;rintro _ _ ⟨bx,rfl,rfl⟩)|(refine Xg.st0 (StF.storeAll (i:=0) rfl rfl rfl (te rfl) rfl rfl rfl rfl) rfl ?_;rintro _ _ ⟨rfl,rfl⟩;dsimp only [List.set])))))|(refine uD rfl ?_;refine hK _ _ ?_;clear hK K) | refine uS rfl ?_)
  rename Nat=>b4
  obtain ⟨w,ew⟩ : ∃ q,decide (∀ n ∈ [e.made],(Sp.mk 0 (R.months - 1)).lo ≤ n∧n ≤ (Sp.mk 0 (R.months - 1)).hi)=q:=⟨_,rfl⟩
  obtain ⟨b2,hb2⟩ : ∃ q,(!w)=q:=⟨_,rfl⟩
  have h2 : b2 = false ↔ 0 ≤ e.made∧e.made ≤ R.months - 1:=by
   rw [← hb2, ← ew]
   simp
  refine X.regionOb ts67 [4,1,17,18,19] [(4,.pointer (some ⟨b4,0,none⟩)),(1,.pointer (some ⟨b1,0,none⟩)),(17,.slice (some ⟨b,off,none⟩) R.boxes.length c2),(18,.int .i64 R.boxes.length),(19,.int .i64 k)] (val67 b4 R ⟨a1,c1,some ⟨b,off,none⟩,c2,a3,c3⟩ e w) (rows67 e) (fun _=>(0,0)) (⟨b4,0,cBx e,some 47,2⟩::⟨b1,0,cRm R ⟨a1,c1,some ⟨b,off,none⟩,c2,a3,c3⟩,some 32,5⟩::H) rfl mixed (by repeat (first | exact uU _ | refine uV rfl ?_)) rfl (by kernel_rfl) (loc67 b4 R _ e w) (qR _) ?_ ?_
  ·clear hb2 h2
   repeat' (first | exact AllF.done rfl | (refine AllF.step rfl ?_ ?_;·(first | fail | ((first | refine Ob.ng rfl ?_);(first | exact ObK.pure (fun env R hR=>by exact ⟨_,uF rfl rfl (te rfl) rfl (te rfl) (by decide),rfl⟩) rfl (fun _=>rfl) | exact ObK.pure (fun env R hR=>by exact ⟨_,EvF.not rfl rfl,rfl⟩) rfl (fun _=>rfl) | exact ObK.pure (fun env R hR=>by exact ⟨_,uL rfl rfl (uO (te rfl) rfl (hR _ (qH _)) rfl),rfl⟩) rfl (fun _=>rfl) | exact ObK.pure (fun env R hR=>by exact ⟨_,uL rfl rfl (uW (te rfl) rfl (hR _ (qT _ (qH _))) rfl),rfl⟩) rfl (fun _=>rfl)|(exact fun env S hS=>(StF.buildOne rfl el55 rfl rfl rfl (by decide) (by decide)).op.mono (fun v H' ⟨b,hv,hH⟩=>⟨(b,0),fun _=>hv,by rw [hH];exact List.Perm.refl _⟩))|(exact fun env S hS=>OpF.callV (Z:=[]) (uT rfl (by (repeat (first | exact Args.nil | refine Args.cons rfl ?_));done)) (anyMonth_spec R _ _ (by omega) (by omega)) rfl rfl)|(exact fun env S hS=>OpF.callV (uT rfl (by (repeat (first | exact Args.nil | refine Args.cons rfl ?_));done)) (withinL_spec ⟨0,R.months - 1⟩ [e.made] _ _ _ (SlE.ofRow (l:=[e.made]) (qH _) (fun _ _=>rfl)) (by simp)) (by rw [ew];rfl) rfl))))))
  ·intro env t ha hv
   refine ⟨[(29,.bool b2),(1,.pointer (some ⟨b1,0,none⟩)),(17,.slice (some ⟨b,off,none⟩) R.boxes.length c2),(18,.int .i64 R.boxes.length),(19,.int .i64 k)],(ha.sub (by repeat (first | exact uU _ | refine uV rfl ?_))).cons (by rw [← hb2];exact hv 6 29 (Nat.le_of_ble_eq_true rfl) rfl),?_⟩
   show X _ _ _ _ (⟨b4,0,cBx e,some 47,2⟩::⟨b1,0,cRm R ⟨a1,c1,some ⟨b,off,none⟩,c2,a3,c3⟩,some 32,5⟩::H) _
   repeat' (first | (refine uP rfl ?_;(first | ((first | refine uN rfl ?_);(first | (refine uE (uM rfl rfl) rfl rfl ?_)|(refine uE (uA rfl rfl) rfl rfl ?_)|(refine uE (uQ rfl rfl rfl rfl) rfl rfl ?_)|(refine uE (EvF.add64 rfl rfl rfl (by omega) (by omega)) rfl rfl ?_)))))|(refine uD rfl ?_;refine hK _ _ ?_;clear hK K) | refine uS rfl ?_ | refine uR rfl (fun K hK=>?_) | refine X.block rfl ?_ | (refine X.brk rfl ?_;repeat (first | refine blockX_hit rfl ?_ | refine blockX_miss (by decide) ?_)) | refine X.skip rfl ?_ | refine X.ret rfl ?_ | (refine X.ite rfl rfl (fun hc=>?_);(first | (with_reducible refine Xb.case hc (fun h=>?_) (fun h=>?_))|(with_reducible refine Xb.caseB hc (fun h=>?_) (fun h=>?_))) <;> clear hc))
   ·refine ret_one (by simp) Tryz.results69 rfl (H' := H) (by (repeat (first | exact qR _ | apply qC));done) ?_;simp only [and_true,true_and]
    congr 1;symm
    exact decide_eq_false (fun q=>by rw [h2.2 (hn.1 q.2.2 e List.mem_cons_self)] at h;cases h)
   ·refine ⟨_,_,_,(by repeat (first | exact uU _ | refine uV rfl ?_)),(by (repeat (first | exact qR _ | apply qC));done),⟨k + 1,rfl,by omega,hn.trans ⟨fun q n hm=>q n (List.mem_cons_of_mem _ hm),fun q n hm=>?_⟩,rfl,rfl⟩,by omega⟩
    rcases List.mem_cons.1 hm with rfl | hm
    ·exact h2.1 (by assumption)
    ·exact q n hm
 ·refine ret_one (by simp) Tryz.results69 rfl (H' := H) (by (repeat (first | exact qR _ | apply qC));done) ?_;simp only [and_true,true_and]
  congr 1;symm
  exact decide_eq_true ⟨by omega,hri,hn.2 (by rw [List.drop_eq_nil_of_le (by omega)];exact fun _ h=>absurd h List.not_mem_nil)⟩
end Go.Proofs.YtmfppdpkalelhaaGreat
end
