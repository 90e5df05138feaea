/- Own work: contracts of functions, from rows of what is known of the memory; contracts of functions, from rows of what is known of the memory; contracts of functions, from rows of what is known of the memory; contracts of functions, from rows of what is known of the memory; The reference: closed.; contracts of functions, from rows of what is known of the memory; Own work: unsigned numbers of 64 bits. No condition.; contracts of functions, from rows of what is known of the memory -/
import Derived.Test.YtmfppdpkalelhaaGreatW03
section
set_option linter.unusedVariables false
namespace Go.Fw
open Go Go.RowKit
def reFs (ts : List TOp) (F0 : FS) (i : Nat) : List (Nat × Nat × Value) → FS
 | []=>F0
 | e::l=>match (tAt ts e.1).sup.contains i with | true=>(e.2.1,e.2.2)::reFs ts F0 i l | false=>reFs ts F0 i l
theorem wpAny_ob6 {P : Program} {n : Nat} {ops : Array Oper} {ts : List TOp} {dom : List Nat} {F0 : FS} {sm : List Nat} (hd : F0.map (·.1)=dom) (hok : okReg3 sm ops ts dom n = true) (rd : Nat → List Nat) (hrd : okRd ts rd ops.size = true) (val : Nat → Env → Value) (rows : Nat → Env → List Row)
  (hloc : ∀ k env i p,i ≠ k → (tAt ts k).sup.contains i = false → val k (upd env i p)=val k env∧rows k (upd env i p)=rows k env)
  (hsm : ∀ i d,sm.contains i = true → (tAt ts i).dst = some d → ∀ env v,lk F0 d = some v → val i env = v)
  {re : List (Nat × Nat × Value)} (hre : ∀ e ∈ re,(tAt ts e.1).dst = some e.2.1∧e.1 < ops.size)
  (R0 : List Row) (hob : ∀ i o,opAt ops.toList i = some o → ObR P n ts rd val rows (reFs ts F0 i re) R0 i o)
  {Q : QT} (hQ : ∀ env t,Ag n F0 t → (∀ i d,i < ops.size → (tAt ts i).dst = some d → t[d]? = some (val i env)) → Q .normal t ((alive ts).flatMap (fun k=>rows k env)++R0))
  {ρ : Option Nat} {ds : List Deferred} {B : Nat} {w0 : World} :
  ∀ (fuel : Nat) (listed : Array Bool) (U A : List Nat) (t : List Value) (H : List Row) (w : World) (env : Env),listed.size = ops.size → U.length = fuel → U.Nodup → (∀ k,k ∈ U ↔ k < ops.size∧listed.getD k true = false) →
   (∀ k,k < ops.size → listed.getD k true = true → ∀ j,(tAt ts k).sup.contains j = true → listed.getD j true = true) →
   A.Nodup → (∀ k,k ∈ A ↔ k < ts.length∧listed.getD k true = true ∧ ∀ j,j < ops.size → listed.getD j true = true → k ∉ (tAt ts j).kills) →
   Ag n F0 t → (∀ e ∈ re,listed.getD e.1 true = false → t[e.2.1]? = some e.2.2) → (∀ k d,k < ops.size → listed.getD k true = true → (tAt ts k).dst = some d → t[d]? = some (val k env)) →
   St B w0 H w → H.Perm (R0++A.flatMap (fun k=>rows k env)) → wpAnyIn (wf ρ) 0 P .any ops (lift ds B w0 Q) fuel listed ⟨t.toArray,ds⟩ w:=by
 unfold okReg3 at hok
 simp only [Bool.and_eq_true,decide_eq_true_eq] at hok
 obtain ⟨⟨⟨hlen,hops⟩,hkn⟩,hps⟩:=hok
 have hopAt : ∀ i o,ops[i]? = some o → okOp3 sm ts dom n ops.size i o = true:=by
  intro i o hi
  have:=List.all_eq_true.1 hops (o,i) (by
   rw [List.mem_zipIdx_iff_getElem?];simpa using hi)
  exact this
 intro fuel
 induction fuel with
 | zero =>
  intro listed U A t H w env hls hUl hUn hU hcl hAn hA hag hr0 hv hS hH
  have hU0 : U = []:=List.eq_nil_of_length_eq_zero hUl
  subst hU0
  have hall : ∀ k,listed.getD k true = true:=by
   intro k
   cases hk : listed.getD k true with
   | true=>rfl
   | false =>
    by_cases h1 : k < ops.size
    ·exact absurd ((hU k).2 ⟨h1,hk⟩) (by simp)
    ·rw [Array.getD_eq_getD_getElem?,Array.getElem?_eq_none (by omega)] at hk;cases hk
  refine ⟨?_,rfl,_,?_,hS.perm (H' := (alive ts).flatMap (fun k=>rows k env)++R0) ?_⟩
  ·unfold Region.ready
   rw [List.filter_eq_nil_iff]
   intro k _
   rw [hall];simp
  ·have:=hQ env t hag (fun i d hi hd=>hv i d hi (hall i) hd)
   simpa using this
  ·refine List.perm_append_comm.trans ((List.Perm.append_left R0 (List.Perm.flatMap_right _ ?_)).trans hH.symm)
   refine perm_of_mem ((List.nodup_range).sublist List.filter_sublist) hAn fun k=>?_
   rw [hA,alive,List.mem_filter,List.mem_range]
   simp only [hall,true_and,Bool.not_eq_true',List.contains_eq_mem,decide_eq_false_iff_not,true_implies]
   refine and_congr_right fun _=>⟨fun h j _ hj=>h (tAt_mem hj),fun h hm=>?_⟩
   obtain ⟨T,hT,hk⟩:=List.mem_flatMap.1 hm
   obtain ⟨j,hj,rfl⟩:=List.mem_iff_getElem.1 hT
   by_cases hj' : j < ops.size
   ·exact h j hj' (by unfold tAt;simp [List.getD,hj,hk])
   ·have:=List.all_eq_true.1 hps ts[j] (by
     rw [List.mem_iff_getElem?]
     exact ⟨j - ops.size,by rw [List.getElem?_drop,show ops.size + (j - ops.size)=j by omega,List.getElem?_eq_getElem hj]⟩)
    simp only [Bool.and_eq_true,List.isEmpty_iff] at this
    rw [this.1] at hk;cases hk
 | succ fuel ih =>
  intro listed U A t H w env hls hUl hUn hU hcl hAn hA hag hr0 hv hS hH
  have hge : ∀ k,ops.size ≤ k → listed.getD k true = true:=fun k hk=>by rw [Array.getD_eq_getD_getElem?,Array.getElem?_eq_none (by omega)];rfl
  have hgd : ∀ k,k < ops.size → listed.getD k false = listed.getD k true:=fun k hk=>by
   rw [Array.getD_eq_getD_getElem?,Array.getD_eq_getD_getElem?,Array.getElem?_eq_getElem (by omega)];rfl
  refine ⟨fun h0=>?_,fun i hi=>?_⟩
  ·exfalso
   have key : ∀ m,m ∈ U → False:=by
    intro m
    induction m using Nat.strongRecOn with
    | _ m ihm =>
     intro hm
     obtain ⟨hms,hml⟩:=(hU m).1 hm
     obtain ⟨o,ho⟩ : ∃ o,ops[m]? = some o:=⟨ops[m],Array.getElem?_eq_getElem hms⟩
     have hc:=hopAt m o ho
     unfold okOp3 at hc
     simp only [Bool.and_eq_true] at hc
     obtain ⟨⟨⟨⟨_,haf⟩,_⟩,_⟩,_⟩:=hc
     by_cases hal : o.after.all (fun e => !Region.binds .any e || listed.getD e.on false)=true
     ·have : m ∈ Region.ready .any ops listed:=by
       unfold Region.ready
       rw [List.mem_filter]
       refine ⟨List.mem_range.2 hms,?_⟩
       rw [hml,ho]
       simp only [Option.map_some,Option.getD_some,Bool.not_false,Bool.true_and]
       exact hal
      rw [h0] at this;cases this
     ·have : ∃ e ∈ o.after, ¬ ((!Region.binds .any e || listed.getD e.on false)=true):=by
       rw [Array.all_eq_true_iff_forall_mem] at hal
       simpa using hal
      obtain ⟨e,he,hne⟩:=this
      have h1:=List.all_eq_true.1 haf e (Array.mem_toList_iff.2 he)
      simp only [Bool.or_eq_true,Bool.not_eq_true',not_or,Bool.not_eq_false,Bool.not_eq_true] at hne h1
      have h2 : e.on < m:=by
       rcases h1 with h1 | h1
       ·rw [hne.1] at h1;cases h1
       ·simpa using h1
      refine ihm e.on h2 ((hU e.on).2 ⟨by omega,?_⟩)
      rw [← hgd e.on (by omega)];exact hne.2
   cases U with
   | nil=>simp at hUl
   | cons u U=>exact key u (List.mem_cons_self ..)
  ·unfold Region.ready at hi
   rw [List.mem_filter,List.mem_range] at hi
   obtain ⟨his,hi2⟩:=hi
   obtain ⟨o,ho⟩ : ∃ o,ops[i]? = some o:=⟨ops[i],Array.getElem?_eq_getElem his⟩
   simp only [ho,Option.map_some,Option.getD_some,Bool.and_eq_true,Bool.not_eq_true'] at hi2
   obtain ⟨hil,hia⟩:=hi2
   have hc:=hopAt i o ho
   unfold okOp3 at hc
   simp only [Bool.and_eq_true] at hc
   obtain ⟨⟨⟨⟨⟨⟨hgu,hdst⟩,hds⟩,haf⟩,hsup⟩,hdeps⟩,hkil⟩:=hc
   have hdst' : o.dst = (tAt ts i).dst:=by simpa using hdst
   rw [Array.all_eq_true_iff_forall_mem] at hia
   have hson : ∀ j,(tAt ts i).sup.contains j = true → j < i∧listed.getD j true = true:=by
    intro j hj
    have h1:=List.all_eq_true.1 hsup j (by simpa using hj)
    simp only [Bool.and_eq_true,decide_eq_true_eq,List.any_eq_true] at h1
    obtain ⟨hji,e,he',hb,h2⟩:=h1
    have he:=Array.mem_toList_iff.1 he'
    refine ⟨hji,?_⟩
    have h3:=hia e he
    rw [hb] at h3
    have h4:=List.all_eq_true.1 haf e he'
    rw [hb] at h4
    simp only [Bool.not_true,Bool.false_or,decide_eq_true_eq] at h3 h4
    rw [hgd e.on (by omega)] at h3
    simp only [Bool.or_eq_true,beq_iff_eq] at h2
    rcases h2 with h2 | h2
    ·rw [← h2];exact h3
    ·exact hcl e.on (by omega) h3 j h2
   have hks : ∀ k ∈ (tAt ts i).kills,k ∈ A:=by
    intro k hk
    rw [hA]
    have h1:=List.all_eq_true.1 hkil k hk
    simp only [Bool.or_eq_true,decide_eq_true_eq] at h1
    refine ⟨?_,?_,fun j hj hjl hkj=>?_⟩
    ·rcases h1 with h1 | h1
     ·have:=(hson k h1).1;omega
     ·omega
    ·rcases h1 with h1 | h1
     ·exact (hson k h1).2
     ·exact hge k h1.1
    ·have:=kills_once hkn hk hkj
     subst this
     rw [hil] at hjl;cases hjl
   have hkin : (tAt ts i).kills.Nodup:=by
    unfold tAt List.getD
    cases hti : ts[i]? with
    | none=>simp
    | some T =>
     simp only [Option.getD_some]
     exact kills_nodup hkn (List.mem_of_getElem? hti)
   obtain ⟨A',hp,hA'n,hA'm⟩:=take_out _ A hkin hAn hks
   have hH1 : ((tAt ts i).kills.flatMap (fun k=>rows k env)++(R0++A'.flatMap (fun k=>rows k env))).Perm H:=by
    refine List.Perm.trans ?_ hH.symm
    refine List.Perm.trans ?_ (List.Perm.append_left R0 (List.Perm.flatMap_right _ hp.symm))
    rw [List.flatMap_append, ← List.append_assoc, ← List.append_assoc]
    exact List.Perm.append_right _ List.perm_append_comm
   have hdp : ∀ k ∈ (tAt ts i).deps,∀ d,(tAt ts k).dst = some d → t[d]? = some (val k env):=by
    intro k hk d hd
    have h1:=List.all_eq_true.1 hdeps k hk
    obtain ⟨h2,h3⟩:=hson k h1
    exact hv k d (by omega) h3 hd
   have hag' : Ag n (reFs ts F0 i re) t:=by
    have hgen : ∀ l : List (Nat × Nat × Value),(∀ e ∈ l,e.1 < ops.size) → (∀ e ∈ l,listed.getD e.1 true = false → t[e.2.1]? = some e.2.2) → Ag n (reFs ts F0 i l) t:=by
     intro l
     induction l with
     | nil=>exact fun _ _=>hag
     | cons e l ihl =>
      intro ha hb
      have hl' := ihl (fun e' he' => ha e' (List.mem_cons_of_mem _ he')) (fun e' he' => hb e' (List.mem_cons_of_mem _ he'))
      unfold reFs
      cases hci : (tAt ts e.1).sup.contains i with
      | false=>exact hl'
      | true =>
       refine hl'.cons (hb e List.mem_cons_self ?_)
       cases hx : listed.getD e.1 true with
       | false=>rfl
       | true=>have:=hcl e.1 (ha e List.mem_cons_self) hx i hci;rw [hil] at this;cases this
    exact hgen re (fun e he=>(hre e he).2) hr0
   have hst:=hob i o (by rw [opAt_eq];simpa using ho)
   have hreads : ∀ k ∈ rd i,∀ r ∈ rows k env,r ∈ R0++A'.flatMap (fun k=>rows k env):=by
    intro k hk r hr
    refine List.mem_append_right _ (List.mem_flatMap.2 ⟨k,?_,hr⟩)
    have h1:=List.all_eq_true.1 (List.all_eq_true.1 hrd i (List.mem_range.2 his)) k hk
    simp only [Bool.and_eq_true,Bool.or_eq_true,decide_eq_true_eq,Bool.not_eq_true'] at h1
    obtain ⟨⟨h1,h2⟩,h3⟩:=h1
    rw [hA'm,hA]
    refine ⟨⟨?_,?_,fun j hj hjl hkj=>?_⟩,by simpa using h2⟩
    ·rcases h1 with h1 | h1
     ·have:=(hson k h1).1;omega
     ·omega
    ·rcases h1 with h1 | h1
     ·exact (hson k h1).2
     ·exact hge k h1.1
    ·have h4:=List.all_eq_true.1 h3 j (List.mem_range.2 hj)
     simp only [Bool.or_eq_true,Bool.not_eq_true'] at h4
     rcases h4 with h4 | h4
     ·rw [List.contains_iff_mem.2 hkj] at h4;cases h4
     ·have:=hcl j hj hjl i h4
      rw [hil] at this;cases this
   have hyv : ∀ j ww,o.guard = some (j,ww) → (tAt ts j).dst ≠ none → yielded ops t.toArray j = bv (val j env):=by
    intro j ww hg hj
    rw [hg] at hgu
    obtain ⟨h1,h2⟩:=hson j hgu
    obtain ⟨d,hd'⟩:=Option.ne_none_iff_exists'.1 hj
    have hoj : ops[j]? = some ops[j]:=Array.getElem?_eq_getElem (by omega)
    have hcj:=hopAt j _ hoj
    unfold okOp3 at hcj
    simp only [Bool.and_eq_true] at hcj
    have hdj : (ops[j]).dst = (tAt ts j).dst:=by simpa using hcj.1.1.1.1.1.2
    exact yielded_bv hoj (by rw [hdj,hd']) (hv j d (by omega) h2 hd')
   have hnext : ∀ (v : Value) (w' : World) (H' : List Row),St B w0 H' w' → (∃ p,((tAt ts i).dst ≠ none → v = val i (upd env i p))∧H'.Perm (rows i (upd env i p)++(R0++A'.flatMap (fun k=>rows k env)))) → wpAnyIn (wf ρ) 0 P .any ops (lift ds B w0 Q) fuel (listed.setIfInBounds i true) ⟨(put t o.dst v).toArray,ds⟩ w' := by
    rintro v w' H' hS' ⟨p,hval,hH'⟩
    have hl' : ∀ k,(listed.setIfInBounds i true).getD k true = if k = i then true else listed.getD k true:=by
     intro k
     rw [Array.getD_eq_getD_getElem?,Array.getD_eq_getD_getElem?,Array.getElem?_setIfInBounds]
     by_cases hki : k = i
     ·subst hki;simp;split <;> rfl
     ·rw [if_neg (fun e=>hki e.symm),if_neg hki]
    have hnot : ∀ k,listed.getD k true = true → (tAt ts k).sup.contains i = false:=by
     intro k hk
     by_cases hks' : k < ops.size
     ·cases hcs : (tAt ts k).sup.contains i with
      | false=>rfl
      | true=>have:=hcl k hks' hk i hcs;rw [hil] at this;cases this
     ·by_cases hkt : k < ts.length
      ·have:=List.all_eq_true.1 hps ts[k] (by
        rw [List.mem_iff_getElem?]
        exact ⟨k - ops.size,by rw [List.getElem?_drop,show ops.size + (k - ops.size)=k by omega,List.getElem?_eq_getElem hkt]⟩)
       simp only [Bool.and_eq_true,List.isEmpty_iff] at this
       have e : tAt ts k = ts[k]:=by unfold tAt;simp [List.getD,hkt]
       rw [e,this.2];rfl
      ·have e : tAt ts k = ⟨none,[],[],[]⟩:=by unfold tAt;simp [List.getD,List.getElem?_eq_none (by omega : ts.length ≤ k)]
       rw [e];rfl
    have hiA : i ∉ A:=fun h=>by have:=((hA i).1 h).2.1;rw [hil] at this;cases this
    refine ih (listed.setIfInBounds i true) (U.erase i) (i::A') (put t o.dst v) H' w' (upd env i p) (by simpa using hls) ?_ (hUn.sublist List.erase_sublist) ?_ ?_ ?_ ?_ ?_ ?_ ?_ hS' ?_
    ·rw [List.length_erase_of_mem ((hU i).2 ⟨his,hil⟩)];omega
    ·intro k
     rw [hUn.mem_erase_iff,hU,hl']
     by_cases hki : k = i
     ·simp [hki]
     ·simp [hki]
    ·intro k hk hkl j hj
     rw [hl'] at hkl ⊢
     split
     ·rfl
     ·by_cases hki : k = i
      ·subst hki;exact (hson j hj).2
      ·rw [if_neg hki] at hkl;exact hcl k hk hkl j hj
    ·exact List.nodup_cons.2 ⟨fun h=>hiA ((hA'm i).1 h).1,hA'n⟩
    ·intro k
     rw [List.mem_cons,hA'm,hA,hl']
     by_cases hki : k = i
     ·subst hki
      simp only [true_or,if_true,true_and,true_iff]
      refine ⟨by omega,fun j hj hjl hkj=>?_⟩
      have h1 : ops[j]? = some ops[j]:=Array.getElem?_eq_getElem hj
      have hcj:=hopAt j _ h1
      unfold okOp3 at hcj
      simp only [Bool.and_eq_true] at hcj
      have h2:=List.all_eq_true.1 hcj.2 k hkj
      simp only [Bool.or_eq_true,decide_eq_true_eq] at h2
      rw [hl'] at hjl
      rcases h2 with h2 | h2
      ·by_cases hjk : j = k
       ·subst hjk;have:=(hson j h2).1;omega
       ·rw [if_neg hjk] at hjl
        have:=hcl j hj hjl k h2
        rw [hil] at this;cases this
      ·omega
     ·simp only [hki,false_or,if_false]
      constructor
      ·rintro ⟨⟨h1,h2,h3⟩,h4⟩
       refine ⟨h1,h2,fun j hj hjl=>?_⟩
       rw [hl'] at hjl
       by_cases hji : j = i
       ·subst hji;exact h4
       ·rw [if_neg hji] at hjl;exact h3 j hj hjl
      ·rintro ⟨h1,h2,h3⟩
       exact ⟨⟨h1,h2,fun j hj hjl=>h3 j hj (by rw [hl'];split;rfl;exact hjl)⟩,h3 i his (by rw [hl',if_pos rfl])⟩
    ·cases hdd : o.dst with
     | none=>exact hag
     | some d =>
      rw [hdst'] at hdd
      rw [hdd] at hds
      simp only [Bool.and_eq_true,decide_eq_true_eq] at hds
      refine ⟨by simpa [put] using hag.1,fun s u hs=>?_⟩
      have h1:=hag.2 s u hs
      simp only [put,List.getElem?_set]
      by_cases hsd : d = s
      ·subst hsd
       have : d ∈ dom:=by
        rw [← hd]
        exact lk_mem hs
       have h2:=hds.1.2
       have hsi : sm.contains i = true:=by simpa [this] using h2
       have e : v = u:=(hval (by rw [hdd];simp)).trans (hsm i d hsi hdd _ u hs)
       rw [if_pos rfl,e]
       exact if_pos (by rw [hag.1];exact hds.1.1)
      ·rw [if_neg hsd]
       exact h1
    ·rintro ⟨i0,d0,u0⟩ he0 hl0
     have hi0 : i0 < ops.size:=(hre _ he0).2
     have hre0 : (tAt ts i0).dst = some d0:=(hre _ he0).1
     dsimp only at hl0 ⊢
     rw [hl'] at hl0
     by_cases hii : i0 = i
     ·rw [if_pos hii] at hl0;cases hl0
     ·rw [if_neg hii] at hl0
      have h1 : t[d0]? = some u0:=hr0 _ he0 hl0
      cases hdd : o.dst with
      | none=>exact h1
      | some d' =>
       simp only [put,List.getElem?_set]
       rw [if_neg]
       ·exact h1
       ·rintro rfl
        rw [hdst'] at hdd
        rcases Nat.lt_or_gt_of_ne hii with hlt | hlt
        ·rw [hdd] at hds
         simp only [Bool.and_eq_true] at hds
         have:=List.all_eq_true.1 hds.2 i0 (List.mem_range.2 hlt)
         simp [hre0] at this
        ·have hck:=hopAt i0 _ (Array.getElem?_eq_getElem hi0)
         unfold okOp3 at hck
         simp only [Bool.and_eq_true] at hck
         have hdk:=hck.1.1.1.1.2
         rw [hre0] at hdk
         simp only [Bool.and_eq_true] at hdk
         have:=List.all_eq_true.1 hdk.2 i (List.mem_range.2 hlt)
         simp [hdd] at this
    ·intro k d hk hkl hkd
     rw [hl'] at hkl
     by_cases hki : k = i
     ·subst hki
      rw [hdst',hkd]
      rw [hkd] at hds
      simp only [Bool.and_eq_true,decide_eq_true_eq] at hds
      simp only [put,List.getElem?_set,if_true]
      rw [if_pos (by rw [hag.1];exact hds.1.1),hval (by rw [hkd];simp)]
     ·rw [if_neg hki] at hkl
      rw [(hloc k env i p (fun e=>hki e.symm) (hnot k hkl)).1]
      have h1:=hv k d hk hkl hkd
      cases hdd : o.dst with
      | none=>exact h1
      | some d' =>
       simp only [put,List.getElem?_set]
       rw [if_neg]
       ·exact h1
       ·rintro rfl
        rw [hdst'] at hdd
        rcases Nat.lt_or_gt_of_ne hki with hlt | hlt
        ·rw [hdd] at hds
         simp only [Bool.and_eq_true] at hds
         have:=List.all_eq_true.1 hds.2 k (List.mem_range.2 hlt)
         simp [hkd] at this
        ·have hck:=hopAt k _ (Array.getElem?_eq_getElem hk)
         unfold okOp3 at hck
         simp only [Bool.and_eq_true] at hck
         have hdk:=hck.1.1.1.1.2
         rw [hkd] at hdk
         simp only [Bool.and_eq_true] at hdk
         have:=List.all_eq_true.1 hdk.2 i (List.mem_range.2 hlt)
         simp [hdd] at this
    ·refine hH'.trans ?_
     have e : A'.flatMap (fun k=>rows k (upd env i p)) = A'.flatMap (fun k=>rows k env):=by
      have : ∀ k ∈ A',rows k (upd env i p)=rows k env:=fun k hk=>by
       have h1:=(hA'm k).1 hk
       have h2:=((hA k).1 h1.1).2.1
       exact (hloc k env i p (fun e=>hiA (e ▸ h1.1)) (hnot k h2)).2
      exact flatMap_congr' this
     rw [List.flatMap_cons,e, ← List.append_assoc, ← List.append_assoc]
     exact List.Perm.append_right _ List.perm_append_comm
   unfold wpOpIn
   simp only [ho]
   rcases hst with ⟨hgr,hst⟩ | ⟨j,ww,hg,hj,hbv,hki,hvi,hri⟩
   ·have hwant : Region.wanted o (yielded ops t.toArray)=true:=by
     unfold Region.wanted
     rcases hgr with hgr | ⟨j,ww,hg,hj,hb⟩
     ·rw [hgr]
     ·rw [hg];simp only [hyv j ww hg hj,hb];simp
    simp only [hwant,if_true]
    exact hst env (R0++A'.flatMap (fun k=>rows k env)) (fun r hr=>List.mem_append_left _ hr) hreads t (ag_fdeps hag' _ hdp) ρ ds B w0 w (hS.perm hH1) _ _ hnext
   ·have hwant : Region.wanted o (yielded ops t.toArray)=false:=by
     unfold Region.wanted
     rw [hg];simp only [hyv j ww hg hj]
     simpa using hbv env
    simp only [hwant,Bool.false_eq_true,if_false]
    rw [put_act]
    refine ⟨fun _ _=>trivial,hnext undef w _ hS ⟨(0,0),fun _=>(hvi _).symm,?_⟩⟩
    --,fun _=>(hvi _).symm,?_⟩
    rw [hri,List.nil_append]
    rw [hki] at hH1
    simpa using hH1.symm
theorem X.regionRs {P : Program} {n : Nat} {c : Code} {F : FS} {H : List Row} {Q : QX} (sm : List Nat) (ts : List TOp) (rd : Nat → List Nat) (dom : List Nat) (F0 : FS) (val : Nat → Env → Value) (rows : Nat → Env → List Row) (env0 : Env) (R0 : List Row)
  (h : c = .region (cid c) (cops c) true) (hm : P.follows .mixedOrders = true) (hsub : Sub F0 F) (hd : F0.map (·.1)=dom) (hok : okReg3 sm (cops c) ts dom n = true) (hrd : okRd ts rd (cops c).size = true)
  (hloc : ∀ k env i p,i ≠ k → (tAt ts k).sup.contains i = false → val k (upd env i p)=val k env∧rows k (upd env i p)=rows k env)
  (hsm : ∀ i d,sm.contains i = true → (tAt ts i).dst = some d → ∀ env v,lk F0 d = some v → val i env = v)
  (hH : (((List.range ts.length).drop (cops c).size).flatMap (fun k=>rows k env0)++R0).Sublist H)
  (re : List (Nat × Nat × Value)) (hre : ∀ e ∈ re,(tAt ts e.1).dst = some e.2.1∧e.1 < (cops c).size) (h0 : ∀ e ∈ re,lk F e.2.1 = some e.2.2)
  (hob' : AllF (cops c).toList 0 fun i o=>ObR P n ts rd val rows (reFs ts F0 i re) R0 i o)
  (hQ : ∀ env t,Ag n F0 t → (∀ i d,i < (cops c).size → (tAt ts i).dst = some d → t[d]? = some (val i env)) → exQ n Q .normal t ((alive ts).flatMap (fun k=>rows k env)++R0)) : X P n c F H Q:=by
 have hob:=fun i o ho=>hob' i o (Nat.zero_le i) ho
 unfold X W
 intro t ha ρ ds B w0 w hS
 rw [h]
 refine wpIn_region_any hm ?_
 have hlen : (cops c).size ≤ ts.length:=by
  have:=hok
  unfold okReg3 at this
  simp only [Bool.and_eq_true,decide_eq_true_eq] at this
  exact this.1.1.1
 have hl : ∀ k d,(Array.replicate (cops c).size false).getD k d = if k < (cops c).size then false else d:=by
  intro k d
  rw [Array.getD_eq_getD_getElem?,Array.getElem?_replicate]
  split <;> rfl
 have hdm : ∀ k,k ∈ (List.range ts.length).drop (cops c).size ↔ (cops c).size ≤ k∧k < ts.length:=by
  intro k
  rw [List.mem_iff_getElem?]
  constructor
  ·rintro ⟨j,hj⟩
   rw [List.getElem?_drop] at hj
   have:=List.getElem?_eq_some_iff.1 hj
   obtain ⟨h1,h2⟩:=this
   simp at h1 h2
   omega
  ·rintro ⟨h1,h2⟩
   exact ⟨k - (cops c).size,by rw [List.getElem?_drop,show (cops c).size + (k - (cops c).size)=k by omega,List.getElem?_range h2]⟩
 refine wpAny_ob6 hd hok rd hrd val rows hloc hsm hre R0 hob hQ (cops c).size _ (List.range (cops c).size) ((List.range ts.length).drop (cops c).size) t _ _ env0 (by simp) (by simp) List.nodup_range ?_ ?_ ((List.nodup_range).sublist (List.drop_sublist _ _)) ?_ (ha.sub hsub) (fun e he _=>ha.2 e.2.1 e.2.2 (h0 e he)) ?_ ((hS.drewN 1).sub hH) List.perm_append_comm
 ·intro k
  rw [List.mem_range,hl]
  by_cases hk : k < (cops c).size <;> simp [hk]
 ·intro k hk hkl
  rw [hl,if_pos hk] at hkl
  cases hkl
 ·intro k
  rw [hdm,hl]
  constructor
  ·rintro ⟨h1,h2⟩
   refine ⟨h2,by rw [if_neg (by omega)],fun j hj hjl=>?_⟩
   rw [hl,if_pos hj] at hjl
   cases hjl
  ·rintro ⟨h1,h2,_⟩
   refine ⟨?_,h1⟩
   by_cases hk : k < (cops c).size
   ·rw [if_pos hk] at h2;cases h2
   ·omega
 ·intro k d hk hkl
  rw [hl,if_pos hk] at hkl
  cases hkl
end Go.Fw
end
section
set_option linter.unusedVariables false
set_option linter.unusedSimpArgs false
namespace Go.Proofs.YtmfppdpkalelhaaGreat
open Go Go.Fw
set_option maxRecDepth 10000
theorem sp_cells : ∀ (l : List Sp) (k : Nat),k < l.length → ((l.flatMap cSp).drop (k * 2)).take 2 = cSp (sat l k)∧(l.flatMap cSp)[k * 2]? = some (.int .i64 (sat l k).lo)∧(l.flatMap cSp)[k * 2 + 1]? = some (.int .i64 (sat l k).hi)
 | [],k,h=>absurd h (Nat.not_lt_zero _)
 | s::l,0,_=>by
  refine ⟨?_,rfl,rfl⟩
  rfl
 | s::l,k + 1,h=>by
  obtain ⟨h1,h2,h3⟩:=sp_cells l k (by simpa using h)
  have e : sat (s::l) (k + 1)=sat l k:=rfl
  rw [e]
  have hc : (s::l).flatMap cSp = .int .i64 s.lo :: .int .i64 s.hi::l.flatMap cSp:=rfl
  rw [hc,show (k + 1) * 2 = k * 2 + 1 + 1 by omega]
  exact ⟨by simpa using h1,by simpa using h2,by simpa using h3⟩
theorem sp_set : ∀ (l : List Sp) (k : Nat) (v : Int),k < l.length → (l.flatMap cSp).set (k * 2) (.int .i64 v)=(l.set k ⟨v,(sat l k).hi⟩).flatMap cSp∧(l.flatMap cSp).set (k * 2 + 1) (.int .i64 v)=(l.set k ⟨(sat l k).lo,v⟩).flatMap cSp
 | [],k,_,h=>absurd h (Nat.not_lt_zero _)
 | s::l,0,v,_=>⟨rfl,rfl⟩
 | s::l,k + 1,v,h=>by
  obtain ⟨h1,h2⟩:=sp_set l k v (by simpa using h)
  have e : sat (s::l) (k + 1)=sat l k:=rfl
  have hc : (s::l).flatMap cSp = .int .i64 s.lo :: .int .i64 s.hi::l.flatMap cSp:=rfl
  rw [e,hc,show (k + 1) * 2 = k * 2 + 1 + 1 by omega]
  simp only [List.set_cons_succ]
  rw [h1,h2]
  exact ⟨rfl,rfl⟩
theorem sp_splice : ∀ (l : List Sp) (k : Nat) (s : Sp),k < l.length → splice (l.flatMap cSp) (k * 2) (cSp s)=(l.set k s).flatMap cSp
 | [],k,_,h=>absurd h (Nat.not_lt_zero _)
 | x::l,0,s,_=>rfl
 | x::l,k + 1,s,h=>by
  have h1:=sp_splice l k s (by simpa using h)
  have hc : (x::l).flatMap cSp = .int .i64 x.lo :: .int .i64 x.hi::l.flatMap cSp:=rfl
  have hl2 : (cSp s).length = 2:=rfl
  unfold splice at h1 ⊢
  rw [hl2] at h1 ⊢
  rw [hc,show (k + 1) * 2 = k * 2 + 1 + 1 by omega,show k * 2 + 1 + 1 + 2 = (k * 2 + 2) + 1 + 1 by omega]
  simp only [List.take_succ_cons,List.drop_succ_cons,List.cons_append,List.set_cons_succ]
  rw [h1]
  rfl
theorem sp_one (l : List Sp) : (l.flatMap cSp).all (·.oneCell') = true:=by
 rw [List.all_eq_true]
 intro v hv
 obtain ⟨s,_,h⟩:=List.mem_flatMap.1 hv
 simp only [cSp,List.mem_cons,List.not_mem_nil,or_false] at h
 rcases h with rfl | rfl <;> rfl
theorem sp_len (l : List Sp) : (l.flatMap cSp).length = l.length * 2:=flat_len (fun _ _=>rfl)
def tsNa : List TOp:=[⟨some 11,[],[],[]⟩,⟨some 12,[],[],[]⟩,⟨some 13,[],[],[]⟩,⟨some 14,[2],[2],[]⟩,⟨some 15,[2,3],[3],[]⟩,⟨some 16,[2,3,4],[4],[]⟩,⟨some 17,[],[],[]⟩,⟨some 18,[2,3,4,5,6],[5,6],[]⟩,⟨some 19,[],[],[]⟩,⟨some 20,[8],[8],[]⟩,⟨some 21,[8,9],[9],[]⟩,⟨some 22,[8,9,10],[10],[]⟩,⟨some 23,[],[],[]⟩,⟨some 24,[8,9,10,11,12],[11,12],[]⟩,⟨some 25,[0,2,3,4,5,6,7,8,9,10,11],[0],[]⟩,⟨some 26,[0,2,3,4,5,6,7,8,9,10,11,14],[14],[]⟩,⟨none,[0,2,3,4,5,6,7,8,9,10,11,14,15],[15,7],[20]⟩,⟨some 27,[0,1,2,3,4,5,6,7,8,9,10,11,12,13,14,15,16],[1],[]⟩,⟨some 28,[0,1,2,3,4,5,6,7,8,9,10,11,12,13,14,15,16,17],[17],[]⟩,⟨none,[0,1,2,3,4,5,6,7,8,9,10,11,12,13,14,15,16,17,18],[18,13],[16]⟩,⟨none,[],[],[]⟩]
def valNa (b k2 cap b7 : Nat) (T : Nat) (l : List Sp) (kk : Nat) (s : Sp) (lo hi : Int) (k : Nat) (env : Env) : Value :=
 match k with
 | 0 => .pointer (some ⟨b,k2,none⟩)
 | 1 => .pointer (some ⟨b,k2,none⟩)
 | 2 => .pointer (some ⟨b,k2,none⟩)
 | 3 => .pointer (some ⟨b,k2,none⟩)
 | 4 => .pointer (some ⟨b,k2,none⟩)
 | 5 => .int .i64 s.lo
 | 6 => .int .i64 lo
 | 7 => .int .i64 (max s.lo lo)
 | 8 => .pointer (some ⟨b,k2,none⟩)
 | 9 => .pointer (some ⟨b,k2,none⟩)
 | 10 => .pointer (some ⟨b,k2 + 1,none⟩)
 | 11 => .int .i64 s.hi
 | 12 => .int .i64 hi
 | 13 => .int .i64 (min s.hi hi)
 | 14 => .pointer (some ⟨b,k2,none⟩)
 | 15 => .pointer (some ⟨b,k2,none⟩)
 | 16=>undef
 | 17 => .pointer (some ⟨b,k2,none⟩)
 | 18 => .pointer (some ⟨b,k2 + 1,none⟩)
 | 19=>undef
 | _=>undef
def rowsNa (b k2 cap b7 : Nat) (T : Nat) (l : List Sp) (kk : Nat) (s : Sp) (lo hi : Int) (k : Nat) (env : Env) : List Row :=
 match k with
 | 16=>[⟨b,0,(l.set kk ⟨max s.lo lo,s.hi⟩).flatMap cSp,some T,cap⟩]
 | 19=>[⟨b,0,(l.set kk ⟨max s.lo lo,min s.hi hi⟩).flatMap cSp,some T,cap⟩]
 | 20=>[⟨b,0,l.flatMap cSp,some T,cap⟩]
 | _=>[]
theorem locNa (b k2 cap b7 : Nat) (T : Nat) (l : List Sp) (kk : Nat) (s : Sp) (lo hi : Int) : ∀ k env i q9,i ≠ k → (tAt tsNa k).sup.contains i = false → valNa b k2 cap b7 T l kk s lo hi k (upd env i q9)=valNa b k2 cap b7 T l kk s lo hi k env∧rowsNa b k2 cap b7 T l kk s lo hi k (upd env i q9)=rowsNa b k2 cap b7 T l kk s lo hi k env:=by
 intro k env i q hk hs
 have hu : ∀ j,j ≠ i → upd env i q j = env j:=fun j hj=>by unfold upd;rw [if_neg hj]
 match k,hk,hs with
 | 0,_,_=>exact ⟨rfl,rfl⟩
 | 1,_,_=>exact ⟨rfl,rfl⟩
 | 2,_,_=>exact ⟨rfl,rfl⟩
 | 3,_,_=>exact ⟨rfl,rfl⟩
 | 4,_,_=>exact ⟨rfl,rfl⟩
 | 5,_,_=>exact ⟨rfl,rfl⟩
 | 6,_,_=>exact ⟨rfl,rfl⟩
 | 7,_,_=>exact ⟨rfl,rfl⟩
 | 8,_,_=>exact ⟨rfl,rfl⟩
 | 9,_,_=>exact ⟨rfl,rfl⟩
 | 10,_,_=>exact ⟨rfl,rfl⟩
 | 11,_,_=>exact ⟨rfl,rfl⟩
 | 12,_,_=>exact ⟨rfl,rfl⟩
 | 13,_,_=>exact ⟨rfl,rfl⟩
 | 14,_,_=>exact ⟨rfl,rfl⟩
 | 15,_,_=>exact ⟨rfl,rfl⟩
 | 16,_,_=>exact ⟨rfl,rfl⟩
 | 17,_,_=>exact ⟨rfl,rfl⟩
 | 18,_,_=>exact ⟨rfl,rfl⟩
 | 19,_,_=>exact ⟨rfl,rfl⟩
 | 20,_,_=>exact ⟨rfl,rfl⟩
 | _ + 21,_,_=>exact ⟨rfl,rfl⟩
def rdNa (k : Nat) : List Nat:=match k with
 | 5=>[20]
 | 11=>[20]
 | _=>[]
def tsNb : List TOp:=[⟨some 29,[],[],[]⟩,⟨some 30,[0],[0],[]⟩,⟨some 31,[0,1],[1],[]⟩,⟨some 32,[],[],[]⟩,⟨some 33,[0,1,2,3],[2,3],[]⟩,⟨some 6,[0,1,2,3,4],[4],[]⟩]
def valNb (b k2 b7 : Nat) (x y : Sp) (w : Bool) (k : Nat) (env : Env) : Value :=
 match k with
 | 0 => .pointer (some ⟨b,k2,none⟩)
 | 1 => .pointer (some ⟨b,k2,none⟩)
 | 2 => .agg (cSp x).toArray
 | 3 => .agg (cSp y).toArray
 | 4 => .bool w
 | 5 => .bool w
 | _=>undef
def rowsNb (b k2 b7 : Nat) (x y : Sp) (w : Bool) (k : Nat) (env : Env) : List Row :=
 match k with
 | _=>[]
theorem locNb (b k2 b7 : Nat) (x y : Sp) (w : Bool) : ∀ k env i q9,i ≠ k → (tAt tsNb k).sup.contains i = false → valNb b k2 b7 x y w k (upd env i q9)=valNb b k2 b7 x y w k env∧rowsNb b k2 b7 x y w k (upd env i q9)=rowsNb b k2 b7 x y w k env:=by
 intro k env i q hk hs
 have hu : ∀ j,j ≠ i → upd env i q j = env j:=fun j hj=>by unfold upd;rw [if_neg hj]
 match k,hk,hs with
 | 0,_,_=>exact ⟨rfl,rfl⟩
 | 1,_,_=>exact ⟨rfl,rfl⟩
 | 2,_,_=>exact ⟨rfl,rfl⟩
 | 3,_,_=>exact ⟨rfl,rfl⟩
 | 4,_,_=>exact ⟨rfl,rfl⟩
 | 5,_,_=>exact ⟨rfl,rfl⟩
 | _ + 6,_,_=>exact ⟨rfl,rfl⟩
set_option maxHeartbeats 8000000 in
theorem narrow_spec (l : List Sp) (k b cap T : Nat) (lo hi : Int) (H : List Row) (hk : k < l.length) :
  Fc Tryz.prog 131 [.pointer (some ⟨b,k * 2,none⟩),.int .i64 lo,.int .i64 hi] (⟨b,0,l.flatMap cSp,some T,cap⟩::H)
   (fun v H' => v = .bool (decide (cut (sat l k) ⟨lo,hi⟩ ≠ sat l k))∧H' = ⟨b,0,(nar l k ⟨lo,hi⟩).flatMap cSp,some T,cap⟩::H):=by
 obtain ⟨hc1,hc2,hc3⟩:=sp_cells l k hk
 obtain ⟨s,hs⟩ : ∃ s,s = sat l k:=⟨_,rfl⟩
 rw [← hs] at hc1 hc2 hc3
 have hlen:=sp_len l
 obtain ⟨k2,hk2⟩ : ∃ k2,k2 = k * 2:=⟨_,rfl⟩
 rw [← hk2] at hc1 hc2 hc3 ⊢
 have e1 : (l.flatMap cSp).set k2 (.int .i64 (max s.lo lo)) = (l.set k ⟨max s.lo lo,s.hi⟩).flatMap cSp:=by rw [hk2,hs];exact (sp_set l k _ hk).1
 have hl1 : (l.set k ⟨max s.lo lo,s.hi⟩).length = l.length:=List.length_set
 have e2 : ((l.set k ⟨max s.lo lo,s.hi⟩).flatMap cSp).set (k2 + 1) (.int .i64 (min s.hi hi)) = (l.set k ⟨max s.lo lo,min s.hi hi⟩).flatMap cSp:=by
  have h1:=(sp_set (l.set k ⟨max s.lo lo,s.hi⟩) k (min s.hi hi) (by omega)).2
  rw [sat_set hk,if_pos rfl,List.set_set] at h1
  rw [hk2];exact h1
 have hn : (l.set k ⟨max s.lo lo,min s.hi hi⟩) = nar l k ⟨lo,hi⟩:=by unfold nar cut;rw [← hs]
 have hln : (nar l k ⟨lo,hi⟩).length = l.length:=List.length_set
 obtain ⟨hd1,_,_⟩:=sp_cells (nar l k ⟨lo,hi⟩) k (by omega)
 have hsn : sat (nar l k ⟨lo,hi⟩) k = cut s ⟨lo,hi⟩:=by unfold nar;rw [sat_set hk,if_pos rfl, ← hs]
 rw [hsn, ← hk2] at hd1
 refine Fc.mk (callable Tryz.call131) Tryz.func131 rfl Tryz.ntmps131 rfl ?_;dsimp only [fr]
 repeat' (first | (refine uP rfl ?_;(first | ((first | refine uN rfl ?_);(first | (refine uE (EvF.nilCheck rfl rfl) rfl rfl ?_)|(refine uE (uL rfl rfl (LoadV.ownAgg (te rfl) rfl (qH _) hc1 rfl)) rfl rfl ?_)|(refine uE (uM rfl rfl) rfl rfl ?_)|(refine uE (uA rfl rfl) rfl rfl ?_)|(refine Xg.st (StF.alloc rfl Tryz.zeroValue24 rfl) rfl rfl ?_;rintro _ _ ⟨bx,rfl,rfl⟩)|(refine Xg.st0 (StF.storeAll (i:=0) rfl rfl rfl (te rfl) rfl rfl rfl rfl) rfl ?_;rintro _ _ ⟨rfl,rfl⟩;dsimp only [List.set])))))|(refine uD rfl ?_;refine hK _ _ ?_;clear hK K) | refine uS rfl ?_ | refine uR rfl (fun K hK=>?_))
 rename Nat=>b7
 refine X.permH (H' := ⟨b,0,l.flatMap cSp,some T,cap⟩::⟨b7,0,cSp s,some 24,2⟩::H) (List.Perm.swap _ _ _) ?_
 refine X.regionRd tsNa rdNa [0,1,2,7] [(0,.pointer (some ⟨b,k2,none⟩)),(1,.int .i64 lo),(2,.int .i64 hi),(7,.pointer (some ⟨b7,0,none⟩))] (valNa b k2 cap b7 T l k s lo hi) (rowsNa b k2 cap b7 T l k s lo hi) (fun _=>(0,0)) (⟨b7,0,cSp s,some 24,2⟩::H) rfl mixed (by repeat (first | exact uU _ | refine uV rfl ?_)) rfl (by kernel_rfl) (by kernel_rfl) (locNa b k2 cap b7 T l k s lo hi) (qR _) ?_ ?_
 ·repeat' (first | exact AllF.done rfl | (refine AllF.step rfl ?_ ?_;·(first | exact (Ob.ng rfl (ObK.pure (fun env R hR=>by exact ⟨_,uM rfl rfl,rfl⟩) rfl (fun _=>rfl))).toR | exact (Ob.ng rfl (ObK.pure (fun env R hR=>by exact ⟨_,uF rfl rfl (te rfl) rfl (te rfl) (by decide),rfl⟩) rfl (fun _=>rfl))).toR | (refine ObR.ng rfl ?_;(first | (exact fun env S hS hrd=>(StF.ofEv (EvF.nilCheck rfl rfl)).op.mono (fun v H' ⟨hv,hH⟩=>⟨(0,0),fun _=>hv,by rw [hH];exact List.Perm.refl _⟩))|(exact fun env S hS hrd=>(StF.ofEv (uL rfl rfl (uO (te rfl) rfl (hrd 20 (qH _) _ (qH _)) hc2))).op.mono (fun v H' ⟨hv,hH⟩=>⟨(0,0),fun _=>hv,by rw [hH];exact List.Perm.refl _⟩))|(exact fun env S hS hrd=>(StF.ofEv (uL rfl rfl (uO (te rfl) rfl (hrd 20 (qH _) _ (qH _)) hc3))).op.mono (fun v H' ⟨hv,hH⟩=>⟨(0,0),fun _=>hv,by rw [hH];exact List.Perm.refl _⟩))|(exact fun env S hS hrd=>(StF.ofEv (EvF.max64 rfl rfl rfl)).op.mono (fun v H' ⟨hv,hH⟩=>⟨(0,0),fun _=>hv,by rw [hH];exact List.Perm.refl _⟩))|(exact fun env S hS hrd=>(StF.ofEv (EvF.min64 rfl rfl rfl)).op.mono (fun v H' ⟨hv,hH⟩=>⟨(0,0),fun _=>hv,by rw [hH];exact List.Perm.refl _⟩))|(exact fun env S hS hrd=>(StF.storeOne (i:=0) (cs:=l.flatMap cSp) (j:=k2) rfl rfl rfl rfl (te rfl) rfl rfl (by omega)).op.mono (fun v H' ⟨hv,hH⟩=>⟨(0,0),fun h=>absurd rfl h,by rw [hH];show List.Perm (⟨b,0,(l.flatMap cSp).set k2 (.int .i64 (max s.lo lo)),some T,cap⟩::S) _;rw [e1];exact List.Perm.refl _⟩))|(exact fun env S hS hrd=>(StF.storeOne (i:=0) (cs:=(l.set k ⟨max s.lo lo,s.hi⟩).flatMap cSp) (j:=k2 + 1) rfl rfl rfl rfl (te rfl) rfl rfl (by rw [sp_len];omega)).op.mono (fun v H' ⟨hv,hH⟩=>⟨(0,0),fun h=>absurd rfl h,by rw [hH];show List.Perm (⟨b,0,((l.set k ⟨max s.lo lo,s.hi⟩).flatMap cSp).set (k2 + 1) (.int .i64 (min s.hi hi)),some T,cap⟩::S) _;rw [e2];exact List.Perm.refl _⟩)))))))
 intro env t ha2 hv
 refine ⟨_,ha2,?_⟩
 clear hv ha2
 show X _ _ _ _ (⟨b,0,(l.set k ⟨max s.lo lo,min s.hi hi⟩).flatMap cSp,some T,cap⟩::⟨b7,0,cSp s,some 24,2⟩::H) _
 rw [hn]
 clear env
 obtain ⟨w,hw⟩ : ∃ w,w = decide (cut s ⟨lo,hi⟩ ≠ s):=⟨_,rfl⟩
 rw [← hs, ← hw]
 have hwv : (!decide (cut s ⟨lo,hi⟩ = s)) = w:=by rw [hw];simp
 refine uS rfl ?_
 refine X.regionOb tsNb [0,7] [(0,.pointer (some ⟨b,k2,none⟩)),(7,.pointer (some ⟨b7,0,none⟩))] (valNb b k2 b7 (cut s ⟨lo,hi⟩) s w) (rowsNb b k2 b7 (cut s ⟨lo,hi⟩) s w) (fun _=>(0,0)) (⟨b,0,(nar l k ⟨lo,hi⟩).flatMap cSp,some T,cap⟩::⟨b7,0,cSp s,some 24,2⟩::H) rfl mixed (by repeat (first | exact uU _ | refine uV rfl ?_)) rfl (by kernel_rfl) (locNb b k2 b7 (cut s ⟨lo,hi⟩) s w) (qR _) ?_ ?_
 ·repeat' (first | exact AllF.done rfl | (refine AllF.step rfl ?_ ?_;·(first | fail | ((first | refine Ob.ng rfl ?_);(first | exact ObK.pure (fun env R hR=>by exact ⟨_,uM rfl rfl,rfl⟩) rfl (fun _=>rfl) | exact ObK.pure (fun env R hR=>by exact ⟨_,uA rfl rfl,rfl⟩) rfl (fun _=>rfl) | exact ObK.pure (fun env R hR=>by exact ⟨_,uL rfl rfl (uW (te rfl) rfl (hR _ (qT _ (qH _))) rfl),rfl⟩) rfl (fun _=>rfl)|(exact ObK.pure (fun env S hS=>⟨_,EvF.nilCheck rfl rfl,rfl⟩) rfl (fun _=>rfl))|(exact ObK.pure (fun env S hS=>⟨_,uL rfl rfl (LoadV.ownAgg (te rfl) rfl (hS _ (qH _)) hd1 rfl),rfl⟩) rfl (fun _=>rfl))|(exact ObK.pure (fun env S hS=>⟨_,EvF.eqSt rfl rfl rfl (by kernel_rfl) (fun w=>eqSp 9998 (cut s ⟨lo,hi⟩) s w) rfl,congrArg Value.bool hwv⟩) rfl (fun _=>rfl)))))))
 intro env t ha2 hv
 refine ⟨_,ha2.cons (hv 5 6 (Nat.le_of_ble_eq_true rfl) rfl),?_⟩
 clear hv ha2
 repeat' (first | refine X.ret rfl ?_)
 exact ret_one (by simp) Tryz.results131 rfl (H' := ⟨b,0,(nar l k ⟨lo,hi⟩).flatMap cSp,some T,cap⟩::H) (by repeat (first | exact qR _ | apply qK | apply qC)) ⟨rfl,rfl⟩
end Go.Proofs.YtmfppdpkalelhaaGreat
end
section
set_option linter.unusedVariables false
set_option linter.unusedSimpArgs false
namespace Go.Proofs.YtmfppdpkalelhaaGreat
open Go Go.Fw
set_option maxRecDepth 10000
def tsFi : List TOp:=[⟨some 23,[],[],[]⟩,⟨some 24,[],[],[]⟩,⟨some 25,[],[],[]⟩,⟨some 26,[2],[2],[]⟩,⟨some 27,[],[],[]⟩,⟨some 28,[],[],[]⟩,⟨some 29,[5],[5],[]⟩,⟨some 30,[4,5,6],[4,6],[]⟩,⟨some 31,[2,3,4,5,6,7],[3,7],[]⟩,⟨some 32,[2,3,4,5,6,7,8],[8],[]⟩,⟨some 33,[0],[0],[]⟩,⟨some 34,[0,1,2,3,4,5,6,7,8,9,10],[10,1],[]⟩,⟨none,[0,1,2,3,4,5,6,7,8,9,10,11],[11,9],[13]⟩,⟨none,[],[],[]⟩]
def valFi (b1 b2 b3 b5 ii m j ab ao : Nat) (R : Rm) (p : Pl) (e : Bx) (l : List Sp) (s : Sp) (v8 v9 v10 : Value) (k : Nat) (env : Env) : Value :=
 match k with
 | 0 => .int .i64 (ii : Nat)
 | 1 => .int .i64 (m : Nat)
 | 2 => .pointer (some ⟨b1,2,none⟩)
 | 3 => .slice (some ⟨ab,ao,none⟩) R.ages.length p.c1
 | 4 => .int .i64 (m : Nat)
 | 5 => .pointer (some ⟨b5,1,none⟩)
 | 6 => .int .i64 e.made
 | 7 => .int .i64 ((m : Nat) - e.made)
 | 8 => .pointer (some ⟨ab,ao + j * 2,none⟩)
 | 9 => .agg (cSp s).toArray
 | 10 => .pointer (some ⟨b3,0 + ii * 24,none⟩)
 | 11 => .pointer (some ⟨b3,0 + ii * 24 + m * 2,none⟩)
 | 12=>undef
 | _=>undef
def rowsFi (b1 b2 b3 b5 ii m j ab ao : Nat) (R : Rm) (p : Pl) (e : Bx) (l : List Sp) (s : Sp) (v8 v9 v10 : Value) (k : Nat) (env : Env) : List Row :=
 match k with
 | 12=>[⟨b3,0,(l.set (ii * 12 + m) s).flatMap cSp,some 149,96⟩]
 | 13=>[⟨b3,0,l.flatMap cSp,some 149,96⟩]
 | _=>[]
theorem locFi (b1 b2 b3 b5 ii m j ab ao : Nat) (R : Rm) (p : Pl) (e : Bx) (l : List Sp) (s : Sp) (v8 v9 v10 : Value) : ∀ k env i q9,i ≠ k → (tAt tsFi k).sup.contains i = false → valFi b1 b2 b3 b5 ii m j ab ao R p e l s v8 v9 v10 k (upd env i q9)=valFi b1 b2 b3 b5 ii m j ab ao R p e l s v8 v9 v10 k env∧rowsFi b1 b2 b3 b5 ii m j ab ao R p e l s v8 v9 v10 k (upd env i q9)=rowsFi b1 b2 b3 b5 ii m j ab ao R p e l s v8 v9 v10 k env:=by
 intro k env i q hk hs
 have hu : ∀ j,j ≠ i → upd env i q j = env j:=fun j hj=>by unfold upd;rw [if_neg hj]
 match k,hk,hs with
 | 0,_,_=>exact ⟨rfl,rfl⟩
 | 1,_,_=>exact ⟨rfl,rfl⟩
 | 2,_,_=>exact ⟨rfl,rfl⟩
 | 3,_,_=>exact ⟨rfl,rfl⟩
 | 4,_,_=>exact ⟨rfl,rfl⟩
 | 5,_,_=>exact ⟨rfl,rfl⟩
 | 6,_,_=>exact ⟨rfl,rfl⟩
 | 7,_,_=>exact ⟨rfl,rfl⟩
 | 8,_,_=>exact ⟨rfl,rfl⟩
 | 9,_,_=>exact ⟨rfl,rfl⟩
 | 10,_,_=>exact ⟨rfl,rfl⟩
 | 11,_,_=>exact ⟨rfl,rfl⟩
 | 12,_,_=>exact ⟨rfl,rfl⟩
 | 13,_,_=>exact ⟨rfl,rfl⟩
 | _ + 14,_,_=>exact ⟨rfl,rfl⟩
def zRc : List Sp:=List.replicate 48 ⟨0,0⟩
/-- the chart by ages, as far as boxes and months have been gone through -/
structure FirP (R : Rm) (l : List Sp) (i : Nat) (m : Int) : Prop where
 len : l.length = 48
 ok : ∀ k,0 ≤ (sat l k).lo∧(sat l k).lo ≤ (sat l k).hi∧(sat l k).hi ≤ 60
 at_ : ∀ (j : Nat) (b : Bx) (q : Int),R.boxes[j]? = some b → there R b q → (j < i∨(j = i∧q < m)) → sat l (j * 12 + q.toNat)=R.ages.getD (q - b.made).toNat ⟨0,0⟩
theorem zRc_at (k : Nat) : sat zRc k = ⟨0,0⟩:=by
 unfold sat zRc
 simp only [List.getD_eq_getElem?_getD,List.getElem?_replicate]
 split <;> rfl
theorem FirP.set {R : Rm} {l : List Sp} {i m : Nat} {e : Bx} (hr : okRm R) (h : FirP R l i m) (he : R.boxes[i]? = some e) (ht : there R e m) : FirP R (l.set (i * 12 + m) (R.ages.getD ((m : Int) - e.made).toNat ⟨0,0⟩)) i (m + 1 : Nat):=by
 have hl:=h.len
 have h2:=(List.getElem?_eq_some_iff.1 he).1
 have h3:=hr.b4
 have h4:=there_bd hr ht
 have hk : i * 12 + m < l.length:=by omega
 have ha:=hr.age ht
 refine ⟨by rw [List.length_set];exact hl,fun k=>?_,fun j b q hj hb hq=>?_⟩
 ·rw [sat_set hk]
  split
  ·omega
  ·exact h.ok k
 ·have h5:=there_bd hr hb
  rw [sat_set hk]
  by_cases e1 : j * 12 + q.toNat = i * 12 + m
  ·rw [if_pos e1]
   have e2 : j = i:=by omega
   subst e2
   rw [he] at hj
   cases hj
   rw [show q = (m : Int) by omega]
  ·rw [if_neg e1]
   exact h.at_ j b q hj hb (by omega)
theorem FirP.next {R : Rm} {l : List Sp} {i : Nat} {m : Int} (hr : okRm R) (h : FirP R l i m) (hm : R.months ≤ m) : FirP R l (i + 1) 0 :=
 ⟨h.len,h.ok,fun j b q hj hb hq=>h.at_ j b q hj hb (by
  have:=hb.2.2
  have:=there_bd hr hb
  rcases hq with hq | ⟨_,hq⟩
  ·by_cases e : j = i
   ·exact .inr ⟨e,by omega⟩
   ·exact .inl (by omega)
  ·exact .inl (by omega))⟩
theorem FirP.start {R : Rm} {l : List Sp} {i : Nat} {e : Bx} (hr : okRm R) (h : FirP R l i 0) (he : R.boxes[i]? = some e) : FirP R l i e.made :=
 ⟨h.len,h.ok,fun j b q hj hb hq=>h.at_ j b q hj hb (by
  rcases hq with hq | ⟨rfl,hq⟩
  ·exact .inl hq
  ·rw [he] at hj
   cases hj
   have:=hb.2.1
   omega)⟩
theorem FirP.done {R : Rm} {l : List Sp} {m : Int} (hr : okRm R) (h : FirP R l R.boxes.length m) : FirstC R l :=
 ⟨h.len,fun b q ht=>by
  obtain ⟨j,hj⟩:=box_at ht.1
  rw [cel_box hr.bx hj]
  exact h.at_ j b q hj ht (.inl (List.getElem?_eq_some_iff.1 hj).1),h.ok⟩
set_option maxHeartbeats 8000000 in
theorem first_spec (R : Rm) (p : Pl) (H : List Row) (hr : okRm R) (hR : RmOk H R p) :
  Fc Tryz.prog 125 [.agg (cRm R p).toArray] H (fun v H' => ∃ l,FirstC R l∧v = .agg (l.flatMap cSp).toArray∧H' = H):=by
 have hb4:=hr.b4
 have hm12:=hr.m12
 have hlen:=hr.len
 have hm1:=hr.m1
 obtain ⟨b0,o0,s0,ha0,_⟩:=hR.ages.elem (i:=0) (by omega)
 obtain ⟨a1,c1,a2,c2,a3,c3⟩:=p
 simp only at ha0
 subst ha0
 refine Fc.mk (callable Tryz.call125) Tryz.func125 rfl Tryz.ntmps125 rfl ?_;dsimp only [fr]
 repeat' (first | (refine uP rfl ?_;(first | ((first | refine uN rfl ?_);(first | (refine uE (uM rfl rfl) rfl rfl ?_)|(refine uE (uF rfl rfl (te rfl) rfl (te rfl) (by decide)) rfl rfl ?_)|(refine uE (EvF.lenSlice rfl rfl (te rfl)) rfl rfl ?_)|(refine uE (uL rfl rfl (uO (te rfl) rfl (qT _ (qT _ (qH _))) rfl)) rfl rfl ?_)|(refine Xg.st (StF.boxAgg rfl rfl) rfl rfl ?_;rintro _ _ ⟨bx,rfl,rfl⟩)|(refine Xg.st (StF.alloc rfl Tryz.zeroValue149 rfl) rfl rfl ?_;rintro _ _ ⟨bx,rfl,rfl⟩)))))|(refine uD rfl ?_;refine hK _ _ ?_;clear hK K) | refine uS rfl ?_ | refine uR rfl (fun K hK=>?_) | refine X.block rfl ?_)
 rename_i b1 b2
 generalize bx = b3
 refine X.lp rfl (fun q F' H' => ∃ (i : Nat) (l : List Sp),q = R.boxes.length - i∧i ≤ R.boxes.length∧FirP R l i 0∧H' = ⟨b3,0,l.flatMap cSp,some 149,96⟩::⟨b2,0,zRc.flatMap cSp,some 149,96⟩::⟨b1,0,cRm R ⟨some ⟨b0,o0,none⟩,c1,a2,c2,a3,c3⟩,some 32,5⟩::H ∧
   F' = [(1,.pointer (some ⟨b1,0,none⟩)),(2,.pointer (some ⟨b2,0,none⟩)),(3,.pointer (some ⟨b3,0,none⟩)),(8,.slice a2 R.boxes.length c2),(9,.int .i64 R.boxes.length),(10,.int .i64 i)])
  R.boxes.length [(1,.pointer (some ⟨b1,0,none⟩)),(2,.pointer (some ⟨b2,0,none⟩)),(3,.pointer (some ⟨b3,0,none⟩)),(8,.slice a2 R.boxes.length c2),(9,.int .i64 R.boxes.length),(10,.int .i64 (0 : Nat))] (⟨b3,0,zRc.flatMap cSp,some 149,96⟩::⟨b2,0,zRc.flatMap cSp,some 149,96⟩::⟨b1,0,cRm R ⟨some ⟨b0,o0,none⟩,c1,a2,c2,a3,c3⟩,some 32,5⟩::H) (by repeat (first | exact uU _ | refine uV rfl ?_)) (by repeat (first | exact qR _ | apply qK | apply qC)) ⟨0,zRc,by omega,by omega,⟨rfl,fun k=>by rw [zRc_at];exact ⟨by decide,by decide,by decide⟩,fun j b q hj hb hq=>by
   have:=(okBoxes_mem _ _ _ hr.bx b hb.1).2.2.1
   have:=hb.2.1
   omega⟩,rfl,rfl⟩ ?_
 rintro _ _ _ ⟨i,l,rfl,hi,hl,rfl,rfl⟩
 repeat' (first | (refine uP rfl ?_;(first | ((first | refine uN rfl ?_);(first | (refine uE (uM rfl rfl) rfl rfl ?_)|(refine uE (uQ rfl rfl rfl rfl) rfl rfl ?_)))))|(refine uD rfl ?_;refine hK _ _ ?_;clear hK K) | refine uS rfl ?_ | refine uR rfl (fun K hK=>?_) | refine X.block rfl ?_ | (refine X.brk rfl ?_;repeat (first | refine blockX_hit rfl ?_ | refine blockX_miss (by decide) ?_)) | refine X.skip rfl ?_ | (refine X.ite rfl rfl (fun hc=>?_);(first | (with_reducible refine Xb.case hc (fun h=>?_) (fun h=>?_))) <;> clear hc))
 ·obtain ⟨bb,off,e,rfl,he⟩:=hR.boxes.elem (i:=i) (by omega)
  have hmem:=List.mem_of_getElem? he
  have hbx:=okBoxes_mem _ _ _ hr.bx e hmem
  obtain ⟨m0,hm0⟩ : ∃ m0 : Nat,(m0 : Int)=e.made:=⟨e.made.toNat,by omega⟩
  repeat' (first | (refine uP rfl ?_;(first | ((first | refine uN rfl ?_);(first | (refine uE (uL rfl rfl (LoadV.elA0 (hR.boxes.sub (fun _ h=>by repeat (first | exact h | apply qT))) he (te rfl) rfl (fun _ hm=>hm) rfl)) rfl rfl ?_)|(refine uE (uA rfl rfl) rfl rfl ?_)|(refine uE (uF rfl rfl (te rfl) rfl (te rfl) (by decide)) rfl rfl ?_)|(refine uE (EvF.indexSlice rfl rfl rfl (te rfl) (te rfl) (by omega) (by omega)) rfl rfl ?_)|(refine uE (uL rfl rfl (uO (te rfl) rfl (qH _) rfl)) rfl rfl ?_)|(refine Xg.st (StF.alloc rfl Tryz.zeroValue24 rfl) rfl rfl ?_;rintro _ _ ⟨bx,rfl,rfl⟩)|(refine Xg.st0 (StF.storeAll (i:=0) rfl rfl rfl (te rfl) rfl rfl rfl rfl) rfl ?_;rintro _ _ ⟨rfl,rfl⟩;dsimp only [List.set])))))|(refine uD rfl ?_;refine hK _ _ ?_;clear hK K) | refine uS rfl ?_ | refine uR rfl (fun K hK=>?_) | refine X.block rfl ?_)
  rename Nat=>b5
  refine X.permH (H' := ⟨b3,0,l.flatMap cSp,some 149,96⟩::⟨b5,0,cBx e,some 47,2⟩::⟨b2,0,zRc.flatMap cSp,some 149,96⟩::⟨b1,0,cRm R ⟨some ⟨b0,o0,none⟩,c1,some ⟨bb,off,none⟩,c2,a3,c3⟩,some 32,5⟩::H) (List.Perm.swap _ _ _) ?_
  refine X.lp rfl (fun q F' H' => ∃ (m : Nat) (l : List Sp),q = R.months.toNat - m∧(m : Int)≤R.months∧e.made ≤ m∧FirP R l i m∧H' = ⟨b3,0,l.flatMap cSp,some 149,96⟩::⟨b5,0,cBx e,some 47,2⟩::⟨b2,0,zRc.flatMap cSp,some 149,96⟩::⟨b1,0,cRm R ⟨some ⟨b0,o0,none⟩,c1,some ⟨bb,off,none⟩,c2,a3,c3⟩,some 32,5⟩::H ∧
    F' = [(1,.pointer (some ⟨b1,0,none⟩)),(2,.pointer (some ⟨b2,0,none⟩)),(3,.pointer (some ⟨b3,0,none⟩)),(4,.int .i64 i),(5,.pointer (some ⟨b5,0,none⟩)),(6,.int .i64 m),(8,.slice (some ⟨bb,off,none⟩) R.boxes.length c2),(9,.int .i64 R.boxes.length),(10,.int .i64 i)])
   (R.months.toNat - m0) [(1,.pointer (some ⟨b1,0,none⟩)),(2,.pointer (some ⟨b2,0,none⟩)),(3,.pointer (some ⟨b3,0,none⟩)),(4,.int .i64 i),(5,.pointer (some ⟨b5,0,none⟩)),(6,.int .i64 m0),(8,.slice (some ⟨bb,off,none⟩) R.boxes.length c2),(9,.int .i64 R.boxes.length),(10,.int .i64 i)] _ (by rw [hm0];exact (by repeat (first | exact uU _ | refine uV rfl ?_))) (qR _) ⟨m0,l,rfl,by omega,by omega,by rw [hm0];exact hl.start hr he,rfl,rfl⟩ ?_
  rintro _ _ _ ⟨m,l,rfl,hm,hme,hl,rfl,rfl⟩
  repeat' (first | (refine uP rfl ?_;(first | ((first | refine uN rfl ?_);(first | (refine uE (uM rfl rfl) rfl rfl ?_)|(refine uE (uQ rfl rfl rfl rfl) rfl rfl ?_)|(refine uE (EvF.add64 rfl rfl rfl (by omega) (by omega)) rfl rfl ?_)|(refine uE (uF rfl rfl (te rfl) rfl (te rfl) (by decide)) rfl rfl ?_)|(refine uE (uL rfl rfl (uO (te rfl) rfl (qT _ (qT _ (qT _ (qH _)))) rfl)) rfl rfl ?_)))))|(refine uD rfl ?_;refine hK _ _ ?_;clear hK K) | refine uS rfl ?_ | refine uR rfl (fun K hK=>?_) | refine X.block rfl ?_ | (refine X.brk rfl ?_;repeat (first | refine blockX_hit rfl ?_ | refine blockX_miss (by decide) ?_)) | refine X.skip rfl ?_ | (refine X.ite rfl rfl (fun hc=>?_);(first | (with_reducible refine Xb.case hc (fun h=>?_) (fun h=>?_))) <;> clear hc))
  ·have hml : (m : Int)<R.months:=by omega
   have ht : there R e m:=⟨hmem,hme,by omega⟩
   obtain ⟨j,hj⟩ : ∃ j : Nat,(j : Int)=(m : Int) - e.made:=⟨((m : Int) - e.made).toNat,by omega⟩
   obtain ⟨ab,ao,s,hab,hs⟩:=hR.ages.elem (i:=j) (by omega)
   cases hab
   have hsg : R.ages.getD ((m : Int) - e.made).toNat ⟨0,0⟩ = s:=by rw [← hj];simp [List.getD_eq_getElem?_getD,hs]
   have hnx:=hl.set hr he ht
   rw [hsg] at hnx
   have hll:=hl.len
   have hil : i < R.boxes.length:=by omega
   have hst : (l.flatMap cSp).length = 96:=by rw [sp_len,hll]
   have hsp : splice (l.flatMap cSp) (0 + i * 24 + m * 2) (cSp s)=(l.set (i * 12 + m) s).flatMap cSp:=by
    rw [show 0 + i * 24 + m * 2 = (i * 12 + m) * 2 by omega]
    exact sp_splice l (i * 12 + m) s (by omega)
   refine X.regionOb tsFi [1,2,3,4,5,6,8,9,10] [(1,.pointer (some ⟨b1,0,none⟩)),(2,.pointer (some ⟨b2,0,none⟩)),(3,.pointer (some ⟨b3,0,none⟩)),(4,.int .i64 (i : Nat)),(5,.pointer (some ⟨b5,0,none⟩)),(6,.int .i64 (m : Nat)),(8,(.slice (some ⟨bb,off,none⟩) R.boxes.length c2)),(9,(.int .i64 R.boxes.length)),(10,(.int .i64 i))] (valFi b1 b2 b3 b5 i m j b0 o0 R ⟨some ⟨b0,o0,none⟩,c1,some ⟨bb,off,none⟩,c2,a3,c3⟩ e l s (.slice (some ⟨bb,off,none⟩) R.boxes.length c2) (.int .i64 R.boxes.length) (.int .i64 i)) (rowsFi b1 b2 b3 b5 i m j b0 o0 R ⟨some ⟨b0,o0,none⟩,c1,some ⟨bb,off,none⟩,c2,a3,c3⟩ e l s (.slice (some ⟨bb,off,none⟩) R.boxes.length c2) (.int .i64 R.boxes.length) (.int .i64 i)) (fun _=>(0,0)) (⟨b5,0,cBx e,some 47,2⟩::⟨b2,0,zRc.flatMap cSp,some 149,96⟩::⟨b1,0,cRm R ⟨some ⟨b0,o0,none⟩,c1,some ⟨bb,off,none⟩,c2,a3,c3⟩,some 32,5⟩::H) rfl mixed (by repeat (first | exact uU _ | refine uV rfl ?_)) rfl (by kernel_rfl) (locFi b1 b2 b3 b5 i m j b0 o0 R ⟨some ⟨b0,o0,none⟩,c1,some ⟨bb,off,none⟩,c2,a3,c3⟩ e l s (.slice (some ⟨bb,off,none⟩) R.boxes.length c2) (.int .i64 R.boxes.length) (.int .i64 i)) (qR _) ?_ ?_
   ·repeat' (first | exact AllF.done rfl | (refine AllF.step rfl ?_ ?_;·(first | fail | ((first | refine Ob.ng rfl ?_);(first | exact ObK.pure (fun env R hR=>by exact ⟨_,uM rfl rfl,rfl⟩) rfl (fun _=>rfl) | exact ObK.pure (fun env R hR=>by exact ⟨_,uF rfl rfl (te rfl) rfl (te rfl) (by decide),rfl⟩) rfl (fun _=>rfl) | exact ObK.pure (fun env R hR=>by exact ⟨_,uL rfl rfl (uO (te rfl) rfl (hR _ (qH _)) rfl),rfl⟩) rfl (fun _=>rfl) | exact ObK.pure (fun env R hR=>by exact ⟨_,uL rfl rfl (uO (te rfl) rfl (hR _ (qT _ (qT _ (qH _)))) rfl),rfl⟩) rfl (fun _=>rfl)|((refine ObK.pure (fun env S hS=>⟨.pointer (some ⟨b0,o0 + ((m : Int) - e.made).toNat * 2,none⟩),?_,by rw [← hj];rfl⟩) rfl (fun _=>rfl);exact EvF.indexSlice (i:=(m : Int) - e.made) (off:=o0) (b:=b0) (T:=28) (e:=24) (len:=R.ages.length) rfl rfl rfl (te rfl) (te rfl) (by omega) (by omega)))|(exact ObK.pure (fun env S hS=>⟨_,uL rfl rfl (LoadV.elA0 (hR.ages.sub (fun _ h=>hS _ (List.mem_append_right [_,_,_] h))) hs (te rfl) rfl (fun _ h=>h) rfl),rfl⟩) rfl (fun _=>rfl))|((refine ObK.pure (fun env S hS=>⟨.pointer (some ⟨b3,0 + i * 24,none⟩),?_,rfl⟩) rfl (fun _=>rfl);exact EvF.indexArray (i:=(i : Int)) (off:=0) (b:=b3) (T:=149) (e:=147) (len:=4) rfl rfl rfl (te rfl) (te rfl) (by omega) (by omega)))|((refine ObK.pure (fun env S hS=>⟨.pointer (some ⟨b3,0 + i * 24 + m * 2,none⟩),?_,rfl⟩) rfl (fun _=>rfl);exact EvF.indexArray (i:=(m : Int)) (off:=0 + i * 24) (b:=b3) (T:=147) (e:=24) (len:=12) rfl rfl rfl (te rfl) (te rfl) (by omega) (by omega)))|(exact fun env S hS=>(StF.storeAt (q:=0) (j:=0 + i * 24 + m * 2) (vs:=cSp s) (cs:=l.flatMap cSp) rfl rfl rfl (te rfl) rfl rfl rfl (by rw [hst];show 0 + i * 24 + m * 2 + 2 ≤ 96;omega)).op.mono (fun v H' ⟨hv,hH⟩=>⟨(0,0),fun h=>absurd rfl h,by rw [hH];show List.Perm (⟨b3,0,splice (l.flatMap cSp) (0 + i * 24 + m * 2) (cSp s),some 149,96⟩::S) _;rw [hsp];exact List.Perm.refl _⟩))|(exact ObK.pure (fun env S hS=>⟨_,EvF.sub64 rfl rfl rfl (by omega) (by omega),rfl⟩) rfl (fun _=>rfl)))))))
   intro env t ha2 hv
   refine ⟨_,ha2,?_⟩
   clear hv ha2
   show X _ _ _ _ (⟨b3,0,(l.set (i * 12 + m) s).flatMap cSp,some 149,96⟩::⟨b5,0,cBx e,some 47,2⟩::⟨b2,0,zRc.flatMap cSp,some 149,96⟩::⟨b1,0,cRm R ⟨some ⟨b0,o0,none⟩,c1,some ⟨bb,off,none⟩,c2,a3,c3⟩,some 32,5⟩::H) _
   clear env
   repeat' (first | (refine uP rfl ?_;(first | ((first | refine uN rfl ?_);(first | (refine uE (uM rfl rfl) rfl rfl ?_)|(refine uE (uA rfl rfl) rfl rfl ?_)|(refine uE (EvF.add64 rfl rfl rfl (by omega) (by omega)) rfl rfl ?_)))))|(refine uD rfl ?_;refine hK _ _ ?_;clear hK K) | refine uR rfl (fun K hK=>?_))
   exact ⟨_,[(1,.pointer (some ⟨b1,0,none⟩)),(2,.pointer (some ⟨b2,0,none⟩)),(3,.pointer (some ⟨b3,0,none⟩)),(4,.int .i64 i),(5,.pointer (some ⟨b5,0,none⟩)),(6,.int .i64 (m + 1 : Nat)),(8,.slice (some ⟨bb,off,none⟩) R.boxes.length c2),(9,.int .i64 R.boxes.length),(10,.int .i64 i)],_,(by repeat (first | exact uU _ | refine uV rfl ?_)),(by repeat (first | exact qR _ | apply qK | apply qC)),⟨m + 1,_,rfl,by omega,by omega,hnx,rfl,rfl⟩,by omega⟩
  ·have hm2 : (m : Int)=R.months:=by omega
   refine ⟨_,[(1,.pointer (some ⟨b1,0,none⟩)),(2,.pointer (some ⟨b2,0,none⟩)),(3,.pointer (some ⟨b3,0,none⟩)),(8,.slice (some ⟨bb,off,none⟩) R.boxes.length c2),(9,.int .i64 R.boxes.length),(10,.int .i64 (i + 1 : Nat))],⟨b3,0,l.flatMap cSp,some 149,96⟩::⟨b2,0,zRc.flatMap cSp,some 149,96⟩::⟨b1,0,cRm R ⟨some ⟨b0,o0,none⟩,c1,some ⟨bb,off,none⟩,c2,a3,c3⟩,some 32,5⟩::H,(by repeat (first | exact uU _ | refine uV rfl ?_)),(by repeat (first | exact qR _ | apply qK | apply qC)),⟨i + 1,l,rfl,by omega,hl.next hr (by omega),rfl,rfl⟩,by omega⟩
 ·have hi2 : i = R.boxes.length:=by omega
  subst hi2
  have hll : (l.flatMap cSp).length = 96:=by rw [sp_len,hl.len]
  repeat' (first | (refine uP rfl ?_;(first | ((first | refine uN rfl ?_);(first | (refine uE (uL rfl rfl (uW (te rfl) rfl (qH _) hll)) rfl rfl ?_)|(refine Xg.st0 (StF.storeAll (i:=1) (vs:=l.flatMap cSp) (cs:=zRc.flatMap cSp) rfl rfl rfl (te rfl) rfl hll (sp_one l) (by rw [hll,sp_len];rfl)) rfl ?_;rintro _ _ ⟨rfl,rfl⟩;dsimp only [List.set])))))|(refine uD rfl ?_;refine hK _ _ ?_;clear hK K) | refine X.ret rfl ?_)
  exact ret_one (v := .agg (l.flatMap cSp).toArray) (by simp) Tryz.results125 ⟨_,rfl,uW (te rfl) rfl (qT _ (qH _)) hll⟩ (H' := H) (by repeat (first | exact qR _ | apply qK | apply qC)) ⟨l,hl.done hr,rfl,rfl⟩
end Go.Proofs.YtmfppdpkalelhaaGreat
end
section
set_option linter.unusedVariables false
set_option linter.unusedSimpArgs false
namespace Go.Proofs.YtmfppdpkalelhaaGreat
open Go Go.Fw
set_option maxRecDepth 10000
theorem X.toN {P : Program} {n : Nat} {c d : Code} {F F1 : FS} {H H1 : List Row} {Q : QX} (h : X P n c F H (fun e F' H' => e = .normal∧Sub F1 F'∧H1.Sublist H')) (k : X P n d F1 H1 Q) : X P n c F H (thenX (fun F H=>X P n d F H Q) Q):=by
 unfold X at h k ⊢
 intro t ha
 refine (h t ha).mono ?_
 rintro e t' H' ⟨F',ha',rfl,h2,h3⟩
 refine ⟨F',ha',?_⟩
 have:=X.weak (P:=P) (n:=n) (c:=d) (Q:=Q) h2 h3 (by unfold X;exact k)
 unfold X at this
 exact this
theorem X.toQ {P : Program} {n : Nat} {c : Code} {F F1 : FS} {H H1 : List Row} {Q : QX} (h : X P n c F H (fun e F' H' => e = .normal∧Sub F1 F'∧H1.Sublist H')) (k : ∀ F' H',Sub F1 F' → H1.Sublist H' → Q .normal F' H') : X P n c F H Q:=by
 unfold X at h ⊢
 intro t ha
 refine (h t ha).mono ?_
 rintro e t' H' ⟨F',ha',rfl,h2,h3⟩
 exact ⟨F',ha',k F' H' h2 h3⟩
/-- only cells of months in the house are narrowed -/
def Same (R : Rm) (l0 cur : List Sp) : Prop := ∀ k,(∀ b m,there R b m → cel R ⟨b.id,m⟩ ≠ k) → sat cur k = sat l0 k
theorem Same.nar {R : Rm} {l0 cur : List Sp} {b : Bx} {m : Int} {k : Nat} {t : Sp} (h : Same R l0 cur) (hl : cur.length = 48) (ht : there R b m) (hk : cel R ⟨b.id,m⟩ = k) (h48 : k < 48) : Same R l0 (nar cur k t):=by
 intro j hj
 unfold Proofs.YtmfppdpkalelhaaGreat.nar
 rw [sat_set (by omega),if_neg (fun e=>hj b m ht (by rw [hk,e]))]
 exact h j hj
/-- between the rounds of the closing -/
structure Cl (R : Rm) (M : List Mt) (c cur : List Sp) (ag : Bool) : Prop where
 len : cur.length = 48
 sub : ∀ k,(sat c k).lo ≤ (sat cur k).lo∧(sat cur k).hi ≤ (sat c k).hi
 ok : ∀ k,0 ≤ (sat cur k).lo∧(sat cur k).lo ≤ (sat cur k).hi∧(sat cur k).hi ≤ 60
 keep : ∀ z,Tru R M z → Inn R c z → Inn R cur z
 fix : ag = false → Fixed R M cur
/-- within a round, in the months -/
structure Mo (R : Rm) (M : List Mt) (l0 cur : List Sp) (ag : Bool) (i : Nat) (m : Int) : Prop where
 nv : ∃ n : Nat,(n : Int)≤24 * i + 2 * m∧Nv R M l0 cur ag n
 same : Same R l0 cur
 no : ag = false → ∀ (j : Nat) (b : Bx) (q : Int),R.boxes[j]? = some b → there R b q → there R b (q + 1) → (j < i∨(j = i∧q < m)) → Fits l0 (j * 12 + (q + 1).toNat) (j * 12 + q.toNat) 0 R.step
/-- within a round, in the matches -/
structure Ma (R : Rm) (M : List Mt) (l0 cur : List Sp) (ag : Bool) (k : Nat) : Prop where
 nv : ∃ n : Nat,n ≤ 200 + 2 * k∧Nv R M l0 cur ag n
 same : Same R l0 cur
 step : ag = false → ∀ b m,there R b m → there R b (m + 1) → Fits l0 (cel R ⟨b.id,m + 1⟩) (cel R ⟨b.id,m⟩) 0 R.step
 mat : ag = false → ∀ (j : Nat) (x : Mt),M[j]? = some x → j < k → Fits l0 (cel R ⟨x.a,x.month⟩) (cel R ⟨x.b,x.month⟩) x.lo x.hi
theorem Mo.next {R : Rm} {M : List Mt} {l0 cur : List Sp} {ag : Bool} {i : Nat} {m : Int} (hr : okRm R) (h : Mo R M l0 cur ag i m) (hm : m ≤ 12) (h2 : R.months ≤ m + 1) : Mo R M l0 cur ag (i + 1) 0 :=
 ⟨by obtain ⟨n,h1,h3⟩:=h.nv;exact ⟨n,by omega,h3⟩,h.same,fun e j b q hj hb hb2 hq=>h.no e j b q hj hb hb2 (by
  have:=hb2.2.2
  have:=there_bd hr hb
  rcases hq with hq | ⟨_,hq⟩
  ·by_cases e : j = i
   ·exact .inr ⟨e,by omega⟩
   ·exact .inl (by omega)
  ·exact .inl (by omega))⟩
theorem Mo.start {R : Rm} {M : List Mt} {l0 cur : List Sp} {ag : Bool} {i : Nat} {e : Bx} (hr : okRm R) (h : Mo R M l0 cur ag i 0) (he : R.boxes[i]? = some e) : Mo R M l0 cur ag i e.made :=
 ⟨by
  have:=(okBoxes_mem _ _ _ hr.bx e (List.mem_of_getElem? he)).2.2.1
  obtain ⟨n,h1,h3⟩:=h.nv
  exact ⟨n,by omega,h3⟩,h.same,fun ea j b q hj hb hb2 hq=>h.no ea j b q hj hb hb2 (by
  rcases hq with hq | ⟨rfl,hq⟩
  ·exact .inl hq
  ·rw [he] at hj
   cases hj
   have:=hb.2.1
   omega)⟩
theorem Mo.ma {R : Rm} {M : List Mt} {l0 cur : List Sp} {ag : Bool} {i : Nat} {m : Int} (hr : okRm R) (h : Mo R M l0 cur ag i m) (hi : i = R.boxes.length) (hm : m ≤ 12) : Ma R M l0 cur ag 0:=by
 have:=hr.b4
 obtain ⟨n,h1,h3⟩:=h.nv
 refine ⟨⟨n,by omega,h3⟩,h.same,fun e b q h1 h2=>?_,fun _ _ _ _ h=>absurd h (Nat.not_lt_zero _)⟩
 obtain ⟨j,hj⟩:=box_at h1.1
 have:=h.no e j b q hj h1 h2 (.inl (by rw [hi];exact (List.getElem?_eq_some_iff.1 hj).1))
 rw [cel_box hr.bx hj,cel_box hr.bx hj]
 exact this
/-- one month's two narrowings -/
theorem Mo.set {R : Rm} {M : List Mt} {l0 cur : List Sp} {ag : Bool} {i m : Nat} {e : Bx} {x y : Sp} (hr : okRm R) (h : Mo R M l0 cur ag i m) (he : R.boxes[i]? = some e) (ht : there R e m) (ht2 : there R e ((m : Int) + 1))
  (hx : x = sat cur (i * 12 + m)) (hy : y = sat cur (i * 12 + (m + 1))) (l1 l2 : List Sp) (w1 w2 : Bool)
  (hl1 : l1 = nar cur (i * 12 + m) ⟨y.lo - R.step,y.hi⟩) (hl2 : l2 = nar l1 (i * 12 + (m + 1)) ⟨x.lo,x.hi + R.step⟩)
  (hw1 : w1 = decide (cut (sat cur (i * 12 + m)) ⟨y.lo - R.step,y.hi⟩ ≠ sat cur (i * 12 + m))) (hw2 : w2 = decide (cut (sat l1 (i * 12 + (m + 1))) ⟨x.lo,x.hi + R.step⟩ ≠ sat l1 (i * 12 + (m + 1)))) :
  Mo R M l0 l2 ((ag || w1) || w2) i (m + 1 : Nat):=by
 obtain ⟨n,h1,h3⟩:=h.nv
 have hb4:=hr.b4
 have hil:=(List.getElem?_eq_some_iff.1 he).1
 have hbd:=there_bd hr ht2
 have hs0:=hr.s0
 have hs60:=hr.s60
 have hc1 : cel R ⟨e.id,(m : Int)⟩ = i * 12 + m:=cel_box hr.bx he m
 have hc2 : cel R ⟨e.id,(m : Int) + 1⟩ = i * 12 + (m + 1):=cel_box hr.bx he ((m : Int) + 1)
 have bx:=h3.bd (i * 12 + m)
 have by_:=h3.bd (i * 12 + (m + 1))
 rw [← hx] at bx
 rw [← hy] at by_
 have hn1 : Nv R M l0 l1 (ag || w1) (n + 1):=by
  rw [hl1]
  refine h3.narrow (by omega) (by dsimp only;omega) (fun z hz _ hI b q hb hq=>?_) w1 (by rw [hw1];exact decide_eq_true_iff)
  rw [← hc1] at hq
  obtain ⟨rfl,rfl⟩:=cel_inj hr hb ht hq
  have k1:=hz.step b m ht ht2
  have k2:=hI b _ ht2
  rw [hc2, ← hy] at k2
  unfold holds at k2 ⊢
  dsimp only
  omega
 have hn2 : Nv R M l0 l2 ((ag || w1) || w2) (n + 1 + 1):=by
  rw [hl2]
  have hk:=hn1.keep
  refine hn1.narrow (by omega) (by dsimp only;omega) (fun z hz hI0 hI b q hb hq=>?_) w2 (by rw [hw2];exact decide_eq_true_iff)
  rw [← hc2] at hq
  obtain ⟨rfl,rfl⟩:=cel_inj hr hb ht2 hq
  have k1:=hz.step b m ht ht2
  have k2:=h3.keep z hz hI0 b _ ht
  rw [hc1, ← hx] at k2
  unfold holds at k2 ⊢
  dsimp only
  omega
 refine ⟨⟨n + 1 + 1,by omega,hn2⟩,by rw [hl2];refine Same.nar ?_ hn1.len ht2 hc2 (by omega);rw [hl1];exact h.same.nar h3.len ht hc1 (by omega),fun ea j b q hj hb hb2 hq=>?_⟩
 have ea1 : ag = false:=by cases ag <;> simp_all
 have ew1 : w1 = false:=by cases w1 <;> simp_all
 have ew2 : w2 = false:=by cases w2 <;> simp_all
 have h5:=there_bd hr hb
 by_cases e1 : j < i∨(j = i∧q < m)
 ·exact h.no ea1 j b q hj hb hb2 e1
 ·have e2 : j = i∧q = m:=by omega
  obtain ⟨rfl,rfl⟩:=e2
  have q0:=h3.no ea1
  subst q0
  have q1:=hn1.no (by rw [ea1,ew1];rfl)
  rw [ew1] at hw1
  rw [ew2,q1] at hw2
  have f1:=of_decide_eq_false hw1.symm
  have f2:=of_decide_eq_false hw2.symm
  have f1:=Classical.byContradiction f1
  have f2:=Classical.byContradiction f2
  rw [hy] at f1
  rw [hx] at f2
  have r1:=cut_same f1
  have r2:=cut_same f2
  dsimp only at r1 r2
  have t1 : ((m : Int) + 1).toNat = m + 1:=by omega
  have t2 : (m : Int).toNat = m:=by omega
  rw [t1,t2]
  unfold Fits
  omega
/-- one match's two narrowings -/
theorem Ma.set {R : Rm} {M : List Mt} {l0 cur : List Sp} {ag : Bool} {k : Nat} {x : Mt} {u v : Sp} (hr : okRm R) (hm : matsThere R M) (h : Ma R M l0 cur ag k) (hk : k ≤ 100) (he : M[k]? = some x)
  (hu : u = sat cur (cel R ⟨x.a,x.month⟩)) (hv : v = sat cur (cel R ⟨x.b,x.month⟩)) (l1 l2 : List Sp) (w1 w2 : Bool)
  (hl1 : l1 = nar cur (cel R ⟨x.a,x.month⟩) ⟨v.lo + x.lo,v.hi + x.hi⟩) (hl2 : l2 = nar l1 (cel R ⟨x.b,x.month⟩) ⟨u.lo - x.hi,u.hi - x.lo⟩)
  (hw1 : w1 = decide (cut (sat cur (cel R ⟨x.a,x.month⟩)) ⟨v.lo + x.lo,v.hi + x.hi⟩ ≠ sat cur (cel R ⟨x.a,x.month⟩))) (hw2 : w2 = decide (cut (sat l1 (cel R ⟨x.b,x.month⟩)) ⟨u.lo - x.hi,u.hi - x.lo⟩ ≠ sat l1 (cel R ⟨x.b,x.month⟩))) :
  Ma R M l0 l2 ((ag || w1) || w2) (k + 1):=by
 obtain ⟨n,h1,h3⟩:=h.nv
 have hxm:=List.mem_of_getElem? he
 obtain ⟨⟨ba,hta,ea⟩,⟨bb,htb,eb⟩,h60⟩:=hm x hxm
 have hlt1:=cel_lt hr hta
 have hlt2:=cel_lt hr htb
 rw [ea] at hlt1
 rw [eb] at hlt2
 have bu:=h3.bd (cel R ⟨x.a,x.month⟩)
 have bv:=h3.bd (cel R ⟨x.b,x.month⟩)
 rw [← hu] at bu
 rw [← hv] at bv
 have hn1 : Nv R M l0 l1 (ag || w1) (n + 1):=by
  rw [hl1]
  refine h3.narrow hlt1 (by dsimp only;omega) (fun z hz _ hI b q hb hq=>?_) w1 (by rw [hw1];exact decide_eq_true_iff)
  rw [← ea] at hq
  obtain ⟨rfl,rfl⟩:=cel_inj hr hb hta hq
  have k1:=hz.mat x hxm
  have k2:=hI bb _ htb
  rw [eb, ← hv] at k2
  rw [ea]
  unfold holds at k2 ⊢
  dsimp only
  omega
 have hn2 : Nv R M l0 l2 ((ag || w1) || w2) (n + 1 + 1):=by
  rw [hl2]
  refine hn1.narrow hlt2 (by dsimp only;omega) (fun z hz hI0 hI b q hb hq=>?_) w2 (by rw [hw2];exact decide_eq_true_iff)
  rw [← eb] at hq
  obtain ⟨rfl,rfl⟩:=cel_inj hr hb htb hq
  have k1:=hz.mat x hxm
  have k2:=h3.keep z hz hI0 ba _ hta
  rw [ea, ← hu] at k2
  rw [eb]
  unfold holds at k2 ⊢
  dsimp only
  omega
 have hz : ((ag || w1) || w2)=false → ag = false∧w1 = false∧w2 = false:=by cases ag <;> cases w1 <;> cases w2 <;> simp
 refine ⟨⟨n + 1 + 1,by omega,hn2⟩,by rw [hl2];refine Same.nar ?_ hn1.len htb (by rw [eb]) hlt2;rw [hl1];exact h.same.nar h3.len hta (by rw [ea]) hlt1,fun e=>h.step (hz e).1,fun e j y hj hq=>?_⟩
 obtain ⟨ea1,ew1,ew2⟩:=hz e
 by_cases e1 : j < k
 ·exact h.mat ea1 j y hj e1
 ·have e2 : j = k:=by omega
  subst e2
  rw [he] at hj
  cases hj
  have q0:=h3.no ea1
  subst q0
  have q1:=hn1.no (by rw [ea1,ew1];rfl)
  rw [ew1] at hw1
  rw [ew2,q1] at hw2
  have f1:=Classical.byContradiction (of_decide_eq_false hw1.symm)
  have f2:=Classical.byContradiction (of_decide_eq_false hw2.symm)
  rw [hv] at f1
  rw [hu] at f2
  exact fits_of f1 f2
theorem Cl.start {R : Rm} {M : List Mt} {c l0 : List Sp} {a : Bool} (ok0 : ∀ b ∈ R.boxes,0 ≤ b.made) (h : Cl R M c l0 a) : Mo R M l0 l0 false 0 0 :=
 ⟨⟨0,by omega,Nv.start h.len h.ok⟩,fun _ _=>rfl,fun _ j b q _ hb _ hq=>by
  have:=hb.2.1
  rcases hq with hq | ⟨_,hq⟩
  ·exact absurd hq (Nat.not_lt_zero _)
  ·have:=(show (0:Int)≤b.made from (ok0 b hb.1));omega⟩
theorem Cl.next {R : Rm} {M : List Mt} {c l0 cur : List Sp} {a ag : Bool} (hr : okRm R) (h : Cl R M c l0 a) (hq : Ma R M l0 cur ag M.length) (hf : ∀ b m,there R b m → (sat cur (cel R ⟨b.id,m⟩)).lo ≤ (sat cur (cel R ⟨b.id,m⟩)).hi) : Cl R M c cur ag∧0 ≤ wid cur∧(ag = true → wid cur < wid l0):=by
 obtain ⟨n,h1,h3⟩:=hq.nv
 have hok : ∀ k,0 ≤ (sat cur k).lo∧(sat cur k).lo ≤ (sat cur k).hi∧(sat cur k).hi ≤ 60:=fun k=>by
  have k1:=h3.sub k
  have k2:=h.ok k
  by_cases e : ∃ b m,there R b m∧cel R ⟨b.id,m⟩ = k
  ·obtain ⟨b,m,ht,rfl⟩:=e
   have:=hf b m ht
   omega
  ·have:=hq.same k (fun b m ht e' => e ⟨b,m,ht,e'⟩)
   rw [this];exact k2
 refine ⟨⟨h3.len,fun k=>?_,hok,fun z hz hI=>h3.keep z hz (h.keep z hz hI),fun e=>?_⟩,wid_nonneg cur (fun s hs=>?_),h3.yes⟩
 ·have k1:=h3.sub k
  have k2:=h.sub k
  omega
 ·have e0:=h3.no e
  subst e0
  refine ⟨hq.step e,fun x hx=>?_⟩
  obtain ⟨j,hj,ex⟩:=List.mem_iff_getElem.1 hx
  exact hq.mat e j x (by rw [List.getElem?_eq_getElem hj,ex]) hj
 ·obtain ⟨j,hj,ex⟩:=List.mem_iff_getElem.1 hs
  have:=hok j
  have e2 : sat cur j = s:=by
   have:=sat_get hj
   rw [List.getElem?_eq_getElem hj,ex] at this
   exact (Option.some.inj this).symm
  rw [e2] at this
  exact this.2.1
theorem Cl.done {R : Rm} {M : List Mt} {c cur : List Sp} (h : Cl R M c cur false) : ClosedT R M c cur:=⟨h.len,h.sub,fun k=>(h.ok k).2.1,h.fix rfl,h.keep⟩
theorem Cl.fail {R : Rm} {M : List Mt} {c l0 cur : List Sp} {a ag : Bool} (h : Cl R M c l0 a) (hq : Ma R M l0 cur ag M.length) {b : Bx} {m : Int} (ht : there R b m) (hf : (sat cur (cel R ⟨b.id,m⟩)).hi < (sat cur (cel R ⟨b.id,m⟩)).lo) : cur.length = 48 ∧ ∀ z,Tru R M z → ¬ Inn R c z:=by
 obtain ⟨n,_,h3⟩:=hq.nv
 refine ⟨h3.len,fun z hz hI=>?_⟩
 have:=h3.keep z hz (h.keep z hz hI) b m ht
 unfold holds at this
 omega
/-- the check, as far as it has gone -/
def Ch (R : Rm) (cur : List Sp) (i : Nat) (m : Int) : Prop := ∀ (j : Nat) (b : Bx) (q : Int),R.boxes[j]? = some b → there R b q → (j < i∨(j = i∧q < m)) → (sat cur (j * 12 + q.toNat)).lo ≤ (sat cur (j * 12 + q.toNat)).hi
theorem Ch.zero {R : Rm} {cur : List Sp} (ok0 : ∀ b ∈ R.boxes,0 ≤ b.made) : Ch R cur 0 0:=fun j b q _ hb hq=>by
 have:=ok0 b hb.1
 have:=hb.2.1
 rcases hq with hq | ⟨_,hq⟩
 ·exact absurd hq (Nat.not_lt_zero _)
 ·omega
theorem Ch.start {R : Rm} {cur : List Sp} {i : Nat} {e : Bx} (h : Ch R cur i 0) (he : R.boxes[i]? = some e) (h0 : 0 ≤ e.made) : Ch R cur i e.made:=fun j b q hj hb hq=>h j b q hj hb (by
 rcases hq with hq | ⟨rfl,hq⟩
 ·exact .inl hq
 ·rw [he] at hj
  cases hj
  have:=hb.2.1
  omega)
theorem Ch.next {R : Rm} {cur : List Sp} {i : Nat} {m : Int} (hr : okRm R) (h : Ch R cur i m) (hm : R.months ≤ m) : Ch R cur (i + 1) 0:=fun j b q hj hb hq=>h j b q hj hb (by
 have:=hb.2.2
 have:=there_bd hr hb
 rcases hq with hq | ⟨_,hq⟩
 ·by_cases e : j = i
  ·exact .inr ⟨e,by omega⟩
  ·exact .inl (by omega)
 ·exact .inl (by omega))
theorem Ch.set {R : Rm} {cur : List Sp} {i m : Nat} (h : Ch R cur i m) (hs : (sat cur (i * 12 + m)).lo ≤ (sat cur (i * 12 + m)).hi) : Ch R cur i (m + 1 : Nat):=fun j b q hj hb hq=>by
 by_cases e1 : j < i∨(j = i∧q < m)
 ·exact h j b q hj hb e1
 ·have e2 : j = i∧q = m:=by omega
  obtain ⟨rfl,rfl⟩:=e2
  exact hs
theorem Ch.done {R : Rm} {cur : List Sp} {m : Int} (hr : okRm R) (h : Ch R cur R.boxes.length m) : ∀ b m,there R b m → (sat cur (cel R ⟨b.id,m⟩)).lo ≤ (sat cur (cel R ⟨b.id,m⟩)).hi:=fun b q hb=>by
 obtain ⟨j,hj⟩:=box_at hb.1
 rw [cel_box hr.bx hj]
 exact h j b q hj hb (.inl (List.getElem?_eq_some_iff.1 hj).1)
end Go.Proofs.YtmfppdpkalelhaaGreat
end
section
set_option linter.unusedVariables false
set_option linter.unusedSimpArgs false
namespace Go.Proofs.YtmfppdpkalelhaaGreat
open Go Go.Fw
set_option maxRecDepth 10000
def tsCa : List TOp:=[⟨some 41,[],[],[]⟩,⟨some 42,[],[],[]⟩,⟨some 43,[0],[0],[]⟩,⟨some 44,[0,1,2],[2,1],[]⟩,⟨some 45,[0,1,2,3],[3],[]⟩,⟨some 46,[],[],[]⟩,⟨some 47,[],[],[]⟩,⟨some 48,[6],[6],[]⟩,⟨some 49,[5],[5],[]⟩,⟨some 50,[5,6,7,8],[8,7],[]⟩,⟨some 51,[5,6,7,8,9],[9],[]⟩,⟨some 12,[],[],[]⟩,⟨some 13,[],[],[]⟩,⟨none,[0,1,2,3,4,11,12],[11,4],[11]⟩,⟨none,[0,1,2,3,4,5,6,7,8,9,10,11,12,13],[12,10],[12]⟩]
def valCa (b3 b5 b6 b10 ii m : Nat) (R : Rm) (p : Pl) (e : Bx) (x y : Sp) (g : Bool) (v1 v25 v26 v27 : Value) (k : Nat) (env : Env) : Value :=
 match k with
 | 0 => .int .i64 (ii : Nat)
 | 1 => .int .i64 (m : Nat)
 | 2 => .pointer (some ⟨b5,0 + ii * 24,none⟩)
 | 3 => .pointer (some ⟨b5,0 + ii * 24 + m * 2,none⟩)
 | 4 => .agg (cSp x).toArray
 | 5 => .int .i64 (ii : Nat)
 | 6 => .int .i64 (m : Nat)
 | 7 => .int .i64 ((m : Nat) + 1)
 | 8 => .pointer (some ⟨b5,0 + ii * 24,none⟩)
 | 9 => .pointer (some ⟨b5,0 + ii * 24 + (m + 1) * 2,none⟩)
 | 10 => .agg (cSp y).toArray
 | 11 => .pointer (some ⟨(env 11).1,0,none⟩)
 | 12 => .pointer (some ⟨(env 12).1,0,none⟩)
 | 13=>undef
 | 14=>undef
 | _=>undef
def rowsCa (b3 b5 b6 b10 ii m : Nat) (R : Rm) (p : Pl) (e : Bx) (x y : Sp) (g : Bool) (v1 v25 v26 v27 : Value) (k : Nat) (env : Env) : List Row :=
 match k with
 | 11=>[⟨(env 11).1,0,cSp ⟨0,0⟩,some 24,2⟩]
 | 12=>[⟨(env 12).1,0,cSp ⟨0,0⟩,some 24,2⟩]
 | 13=>[⟨(env 11).1,0,cSp x,some 24,2⟩]
 | 14=>[⟨(env 12).1,0,cSp y,some 24,2⟩]
 | _=>[]
theorem locCa (b3 b5 b6 b10 ii m : Nat) (R : Rm) (p : Pl) (e : Bx) (x y : Sp) (g : Bool) (v1 v25 v26 v27 : Value) : ∀ k env i q9,i ≠ k → (tAt tsCa k).sup.contains i = false → valCa b3 b5 b6 b10 ii m R p e x y g v1 v25 v26 v27 k (upd env i q9)=valCa b3 b5 b6 b10 ii m R p e x y g v1 v25 v26 v27 k env∧rowsCa b3 b5 b6 b10 ii m R p e x y g v1 v25 v26 v27 k (upd env i q9)=rowsCa b3 b5 b6 b10 ii m R p e x y g v1 v25 v26 v27 k env:=by
 intro k env i q hk hs
 have hu : ∀ j,j ≠ i → upd env i q j = env j:=fun j hj=>by unfold upd;rw [if_neg hj]
 match k,hk,hs with
 | 0,_,_=>exact ⟨rfl,rfl⟩
 | 1,_,_=>exact ⟨rfl,rfl⟩
 | 2,_,_=>exact ⟨rfl,rfl⟩
 | 3,_,_=>exact ⟨rfl,rfl⟩
 | 4,_,_=>exact ⟨rfl,rfl⟩
 | 5,_,_=>exact ⟨rfl,rfl⟩
 | 6,_,_=>exact ⟨rfl,rfl⟩
 | 7,_,_=>exact ⟨rfl,rfl⟩
 | 8,_,_=>exact ⟨rfl,rfl⟩
 | 9,_,_=>exact ⟨rfl,rfl⟩
 | 10,_,_=>exact ⟨rfl,rfl⟩
 | 11,hk,hs=>exact ⟨by simp only [valCa,hu 11 (fun e=>hk e.symm)],by simp only [rowsCa,hu 11 (fun e=>hk e.symm)]⟩
 | 12,hk,hs=>exact ⟨by simp only [valCa,hu 12 (fun e=>hk e.symm)],by simp only [rowsCa,hu 12 (fun e=>hk e.symm)]⟩
 | 13,hk,hs=>exact ⟨by simp only [valCa,hu 11 (by rintro rfl;cases hs)],by simp only [rowsCa,hu 11 (by rintro rfl;cases hs)]⟩
 | 14,hk,hs=>exact ⟨by simp only [valCa,hu 12 (by rintro rfl;cases hs)],by simp only [rowsCa,hu 12 (by rintro rfl;cases hs)]⟩
 | _ + 15,_,_=>exact ⟨rfl,rfl⟩
def tsCb : List TOp:=[⟨some 52,[],[],[]⟩,⟨some 53,[],[],[]⟩,⟨some 54,[0],[0],[]⟩,⟨some 55,[0,1,2],[2,1],[]⟩,⟨some 56,[],[],[]⟩,⟨some 57,[4],[4],[]⟩,⟨some 58,[],[],[]⟩,⟨some 59,[6],[6],[]⟩,⟨some 60,[4,5,6,7],[5,7],[]⟩,⟨some 61,[],[],[]⟩,⟨some 62,[9],[9],[]⟩,⟨some 63,[0,1,2,3,4,5,6,7,8,9,10],[3,8,10],[12]⟩,⟨none,[],[],[]⟩]
def valCb (b3 b5 b6 b10 ba bb ii m : Nat) (R : Rm) (p : Pl) (l l1 : List Sp) (x y : Sp) (g w : Bool) (v1 v25 v26 v27 : Value) (k : Nat) (env : Env) : Value :=
 match k with
 | 0 => .int .i64 (ii : Nat)
 | 1 => .int .i64 (m : Nat)
 | 2 => .pointer (some ⟨b5,0 + ii * 24,none⟩)
 | 3 => .pointer (some ⟨b5,0 + ii * 24 + m * 2,none⟩)
 | 4 => .pointer (some ⟨bb,0,none⟩)
 | 5 => .int .i64 y.lo
 | 6 => .pointer (some ⟨b3,1,none⟩)
 | 7 => .int .i64 R.step
 | 8 => .int .i64 (y.lo - R.step)
 | 9 => .pointer (some ⟨bb,1,none⟩)
 | 10 => .int .i64 y.hi
 | 11 => .bool w
 | _=>undef
def rowsCb (b3 b5 b6 b10 ba bb ii m : Nat) (R : Rm) (p : Pl) (l l1 : List Sp) (x y : Sp) (g w : Bool) (v1 v25 v26 v27 : Value) (k : Nat) (env : Env) : List Row :=
 match k with
 | 11=>[⟨b5,0,l1.flatMap cSp,some 149,96⟩]
 | 12=>[⟨b5,0,l.flatMap cSp,some 149,96⟩]
 | _=>[]
theorem locCb (b3 b5 b6 b10 ba bb ii m : Nat) (R : Rm) (p : Pl) (l l1 : List Sp) (x y : Sp) (g w : Bool) (v1 v25 v26 v27 : Value) : ∀ k env i q9,i ≠ k → (tAt tsCb k).sup.contains i = false → valCb b3 b5 b6 b10 ba bb ii m R p l l1 x y g w v1 v25 v26 v27 k (upd env i q9)=valCb b3 b5 b6 b10 ba bb ii m R p l l1 x y g w v1 v25 v26 v27 k env∧rowsCb b3 b5 b6 b10 ba bb ii m R p l l1 x y g w v1 v25 v26 v27 k (upd env i q9)=rowsCb b3 b5 b6 b10 ba bb ii m R p l l1 x y g w v1 v25 v26 v27 k env:=by
 intro k env i q hk hs
 have hu : ∀ j,j ≠ i → upd env i q j = env j:=fun j hj=>by unfold upd;rw [if_neg hj]
 match k,hk,hs with
 | 0,_,_=>exact ⟨rfl,rfl⟩
 | 1,_,_=>exact ⟨rfl,rfl⟩
 | 2,_,_=>exact ⟨rfl,rfl⟩
 | 3,_,_=>exact ⟨rfl,rfl⟩
 | 4,_,_=>exact ⟨rfl,rfl⟩
 | 5,_,_=>exact ⟨rfl,rfl⟩
 | 6,_,_=>exact ⟨rfl,rfl⟩
 | 7,_,_=>exact ⟨rfl,rfl⟩
 | 8,_,_=>exact ⟨rfl,rfl⟩
 | 9,_,_=>exact ⟨rfl,rfl⟩
 | 10,_,_=>exact ⟨rfl,rfl⟩
 | 11,_,_=>exact ⟨rfl,rfl⟩
 | 12,_,_=>exact ⟨rfl,rfl⟩
 | _ + 13,_,_=>exact ⟨rfl,rfl⟩
def tsCc : List TOp:=[⟨some 64,[],[],[]⟩,⟨some 65,[],[],[]⟩,⟨some 66,[1],[1],[]⟩,⟨some 67,[0],[0],[]⟩,⟨some 68,[0,1,2,3],[3,2],[]⟩,⟨some 69,[],[],[]⟩,⟨some 70,[5],[5],[]⟩,⟨some 71,[],[],[]⟩,⟨some 72,[7],[7],[]⟩,⟨some 73,[],[],[]⟩,⟨some 74,[9],[9],[]⟩,⟨some 75,[7,8,9,10],[8,10],[]⟩,⟨some 76,[0,1,2,3,4,5,6,7,8,9,10,11],[4,6,11],[13]⟩,⟨none,[],[],[]⟩]
def valCc (b3 b5 b6 b10 ba bb ii m : Nat) (R : Rm) (p : Pl) (l l1 : List Sp) (x y : Sp) (g w : Bool) (v1 v25 v26 v27 : Value) (k : Nat) (env : Env) : Value :=
 match k with
 | 0 => .int .i64 (ii : Nat)
 | 1 => .int .i64 (m : Nat)
 | 2 => .int .i64 ((m : Nat) + 1)
 | 3 => .pointer (some ⟨b5,0 + ii * 24,none⟩)
 | 4 => .pointer (some ⟨b5,0 + ii * 24 + (m + 1) * 2,none⟩)
 | 5 => .pointer (some ⟨ba,0,none⟩)
 | 6 => .int .i64 x.lo
 | 7 => .pointer (some ⟨ba,1,none⟩)
 | 8 => .int .i64 x.hi
 | 9 => .pointer (some ⟨b3,1,none⟩)
 | 10 => .int .i64 R.step
 | 11 => .int .i64 (x.hi + R.step)
 | 12 => .bool w
 | _=>undef
def rowsCc (b3 b5 b6 b10 ba bb ii m : Nat) (R : Rm) (p : Pl) (l l1 : List Sp) (x y : Sp) (g w : Bool) (v1 v25 v26 v27 : Value) (k : Nat) (env : Env) : List Row :=
 match k with
 | 12=>[⟨b5,0,l1.flatMap cSp,some 149,96⟩]
 | 13=>[⟨b5,0,l.flatMap cSp,some 149,96⟩]
 | _=>[]
theorem locCc (b3 b5 b6 b10 ba bb ii m : Nat) (R : Rm) (p : Pl) (l l1 : List Sp) (x y : Sp) (g w : Bool) (v1 v25 v26 v27 : Value) : ∀ k env i q9,i ≠ k → (tAt tsCc k).sup.contains i = false → valCc b3 b5 b6 b10 ba bb ii m R p l l1 x y g w v1 v25 v26 v27 k (upd env i q9)=valCc b3 b5 b6 b10 ba bb ii m R p l l1 x y g w v1 v25 v26 v27 k env∧rowsCc b3 b5 b6 b10 ba bb ii m R p l l1 x y g w v1 v25 v26 v27 k (upd env i q9)=rowsCc b3 b5 b6 b10 ba bb ii m R p l l1 x y g w v1 v25 v26 v27 k env:=by
 intro k env i q hk hs
 have hu : ∀ j,j ≠ i → upd env i q j = env j:=fun j hj=>by unfold upd;rw [if_neg hj]
 match k,hk,hs with
 | 0,_,_=>exact ⟨rfl,rfl⟩
 | 1,_,_=>exact ⟨rfl,rfl⟩
 | 2,_,_=>exact ⟨rfl,rfl⟩
 | 3,_,_=>exact ⟨rfl,rfl⟩
 | 4,_,_=>exact ⟨rfl,rfl⟩
 | 5,_,_=>exact ⟨rfl,rfl⟩
 | 6,_,_=>exact ⟨rfl,rfl⟩
 | 7,_,_=>exact ⟨rfl,rfl⟩
 | 8,_,_=>exact ⟨rfl,rfl⟩
 | 9,_,_=>exact ⟨rfl,rfl⟩
 | 10,_,_=>exact ⟨rfl,rfl⟩
 | 11,_,_=>exact ⟨rfl,rfl⟩
 | 12,_,_=>exact ⟨rfl,rfl⟩
 | 13,_,_=>exact ⟨rfl,rfl⟩
 | _ + 14,_,_=>exact ⟨rfl,rfl⟩
def tsCd : List TOp:=[⟨some 84,[],[],[]⟩,⟨some 85,[],[],[]⟩,⟨some 86,[1],[1],[]⟩,⟨some 87,[0,1,2],[0,2],[]⟩,⟨some 88,[],[],[]⟩,⟨some 89,[],[],[]⟩,⟨some 90,[5],[5],[]⟩,⟨some 91,[0,1,2,3,4,5,6],[4,6],[]⟩,⟨some 16,[0,1,2,3,4,5,6,7],[3],[]⟩,⟨some 17,[0,1,2,3,4,5,6,7,8],[7],[]⟩]
def valCd (b3 b5 b6 b15 : Nat) (R : Rm) (p : Pl) (x : Mt) (g : Bool) (v1 v79 v80 : Value) (ia ib : Nat) (k : Nat) (env : Env) : Value :=
 match k with
 | 0 => .agg (cRm R p).toArray
 | 1 => .pointer (some ⟨b15,2,none⟩)
 | 2 => .int .i64 x.a
 | 3 => .int .i64 (ia : Nat)
 | 4 => .agg (cRm R p).toArray
 | 5 => .pointer (some ⟨b15,3,none⟩)
 | 6 => .int .i64 x.b
 | 7 => .int .i64 (ib : Nat)
 | 8 => .int .i64 (ia : Nat)
 | 9 => .int .i64 (ib : Nat)
 | _=>undef
def rowsCd (b3 b5 b6 b15 : Nat) (R : Rm) (p : Pl) (x : Mt) (g : Bool) (v1 v79 v80 : Value) (ia ib : Nat) (k : Nat) (env : Env) : List Row :=
 match k with
 | _=>[]
theorem locCd (b3 b5 b6 b15 : Nat) (R : Rm) (p : Pl) (x : Mt) (g : Bool) (v1 v79 v80 : Value) (ia ib : Nat) : ∀ k env i q9,i ≠ k → (tAt tsCd k).sup.contains i = false → valCd b3 b5 b6 b15 R p x g v1 v79 v80 ia ib k (upd env i q9)=valCd b3 b5 b6 b15 R p x g v1 v79 v80 ia ib k env∧rowsCd b3 b5 b6 b15 R p x g v1 v79 v80 ia ib k (upd env i q9)=rowsCd b3 b5 b6 b15 R p x g v1 v79 v80 ia ib k env:=by
 intro k env i q hk hs
 have hu : ∀ j,j ≠ i → upd env i q j = env j:=fun j hj=>by unfold upd;rw [if_neg hj]
 match k,hk,hs with
 | 0,_,_=>exact ⟨rfl,rfl⟩
 | 1,_,_=>exact ⟨rfl,rfl⟩
 | 2,_,_=>exact ⟨rfl,rfl⟩
 | 3,_,_=>exact ⟨rfl,rfl⟩
 | 4,_,_=>exact ⟨rfl,rfl⟩
 | 5,_,_=>exact ⟨rfl,rfl⟩
 | 6,_,_=>exact ⟨rfl,rfl⟩
 | 7,_,_=>exact ⟨rfl,rfl⟩
 | 8,_,_=>exact ⟨rfl,rfl⟩
 | 9,_,_=>exact ⟨rfl,rfl⟩
 | _ + 10,_,_=>exact ⟨rfl,rfl⟩
def tsCe : List TOp:=[⟨some 92,[],[],[]⟩,⟨some 93,[],[],[]⟩,⟨some 94,[1],[1],[]⟩,⟨some 95,[0],[0],[]⟩,⟨some 96,[0,1,2,3],[3,2],[]⟩,⟨some 97,[0,1,2,3,4],[4],[]⟩,⟨some 98,[],[],[]⟩,⟨some 99,[],[],[]⟩,⟨some 100,[7],[7],[]⟩,⟨some 101,[6],[6],[]⟩,⟨some 102,[6,7,8,9],[9,8],[]⟩,⟨some 103,[6,7,8,9,10],[10],[]⟩,⟨some 18,[],[],[]⟩,⟨some 19,[],[],[]⟩,⟨none,[0,1,2,3,4,5,12,13],[12,5],[12]⟩,⟨none,[0,1,2,3,4,5,6,7,8,9,10,11,12,13,14],[13,11],[13]⟩]
def valCe (b3 b5 b6 b15 : Nat) (R : Rm) (p : Pl) (x : Mt) (g : Bool) (v1 v79 v80 : Value) (ia ib : Nat) (u v : Sp) (k : Nat) (env : Env) : Value :=
 match k with
 | 0 => .int .i64 (ia : Nat)
 | 1 => .pointer (some ⟨b15,1,none⟩)
 | 2 => .int .i64 x.month
 | 3 => .pointer (some ⟨b5,0 + ia * 24,none⟩)
 | 4 => .pointer (some ⟨b5,0 + ia * 24 + x.month.toNat * 2,none⟩)
 | 5 => .agg (cSp u).toArray
 | 6 => .int .i64 (ib : Nat)
 | 7 => .pointer (some ⟨b15,1,none⟩)
 | 8 => .int .i64 x.month
 | 9 => .pointer (some ⟨b5,0 + ib * 24,none⟩)
 | 10 => .pointer (some ⟨b5,0 + ib * 24 + x.month.toNat * 2,none⟩)
 | 11 => .agg (cSp v).toArray
 | 12 => .pointer (some ⟨(env 12).1,0,none⟩)
 | 13 => .pointer (some ⟨(env 13).1,0,none⟩)
 | 14=>undef
 | 15=>undef
 | _=>undef
def rowsCe (b3 b5 b6 b15 : Nat) (R : Rm) (p : Pl) (x : Mt) (g : Bool) (v1 v79 v80 : Value) (ia ib : Nat) (u v : Sp) (k : Nat) (env : Env) : List Row :=
 match k with
 | 12=>[⟨(env 12).1,0,cSp ⟨0,0⟩,some 24,2⟩]
 | 13=>[⟨(env 13).1,0,cSp ⟨0,0⟩,some 24,2⟩]
 | 14=>[⟨(env 12).1,0,cSp u,some 24,2⟩]
 | 15=>[⟨(env 13).1,0,cSp v,some 24,2⟩]
 | _=>[]
theorem locCe (b3 b5 b6 b15 : Nat) (R : Rm) (p : Pl) (x : Mt) (g : Bool) (v1 v79 v80 : Value) (ia ib : Nat) (u v : Sp) : ∀ k env i q9,i ≠ k → (tAt tsCe k).sup.contains i = false → valCe b3 b5 b6 b15 R p x g v1 v79 v80 ia ib u v k (upd env i q9)=valCe b3 b5 b6 b15 R p x g v1 v79 v80 ia ib u v k env∧rowsCe b3 b5 b6 b15 R p x g v1 v79 v80 ia ib u v k (upd env i q9)=rowsCe b3 b5 b6 b15 R p x g v1 v79 v80 ia ib u v k env:=by
 intro k env i q hk hs
 have hu : ∀ j,j ≠ i → upd env i q j = env j:=fun j hj=>by unfold upd;rw [if_neg hj]
 match k,hk,hs with
 | 0,_,_=>exact ⟨rfl,rfl⟩
 | 1,_,_=>exact ⟨rfl,rfl⟩
 | 2,_,_=>exact ⟨rfl,rfl⟩
 | 3,_,_=>exact ⟨rfl,rfl⟩
 | 4,_,_=>exact ⟨rfl,rfl⟩
 | 5,_,_=>exact ⟨rfl,rfl⟩
 | 6,_,_=>exact ⟨rfl,rfl⟩
 | 7,_,_=>exact ⟨rfl,rfl⟩
 | 8,_,_=>exact ⟨rfl,rfl⟩
 | 9,_,_=>exact ⟨rfl,rfl⟩
 | 10,_,_=>exact ⟨rfl,rfl⟩
 | 11,_,_=>exact ⟨rfl,rfl⟩
 | 12,hk,hs=>exact ⟨by simp only [valCe,hu 12 (fun e=>hk e.symm)],by simp only [rowsCe,hu 12 (fun e=>hk e.symm)]⟩
 | 13,hk,hs=>exact ⟨by simp only [valCe,hu 13 (fun e=>hk e.symm)],by simp only [rowsCe,hu 13 (fun e=>hk e.symm)]⟩
 | 14,hk,hs=>exact ⟨by simp only [valCe,hu 12 (by rintro rfl;cases hs)],by simp only [rowsCe,hu 12 (by rintro rfl;cases hs)]⟩
 | 15,hk,hs=>exact ⟨by simp only [valCe,hu 13 (by rintro rfl;cases hs)],by simp only [rowsCe,hu 13 (by rintro rfl;cases hs)]⟩
 | _ + 16,_,_=>exact ⟨rfl,rfl⟩
def tsCf : List TOp:=[⟨some 104,[],[],[]⟩,⟨some 105,[],[],[]⟩,⟨some 106,[1],[1],[]⟩,⟨some 107,[0],[0],[]⟩,⟨some 108,[0,1,2,3],[3,2],[]⟩,⟨some 109,[],[],[]⟩,⟨some 110,[5],[5],[]⟩,⟨some 111,[],[],[]⟩,⟨some 112,[7],[7],[]⟩,⟨some 113,[7,8],[8],[]⟩,⟨some 114,[5,6,7,8,9],[6,9],[]⟩,⟨some 115,[],[],[]⟩,⟨some 116,[11],[11],[]⟩,⟨some 117,[],[],[]⟩,⟨some 118,[13],[13],[]⟩,⟨some 119,[13,14],[14],[]⟩,⟨some 120,[11,12,13,14,15],[12,15],[]⟩,⟨some 121,[0,1,2,3,4,5,6,7,8,9,10,11,12,13,14,15,16],[4,10,16],[18]⟩,⟨none,[],[],[]⟩]
def valCf (b3 b5 b6 b15 : Nat) (R : Rm) (p : Pl) (x : Mt) (g : Bool) (v1 v79 v80 : Value) (ia ib bu bv : Nat) (u v : Sp) (l l1 : List Sp) (w : Bool) (k : Nat) (env : Env) : Value :=
 match k with
 | 0 => .int .i64 (ia : Nat)
 | 1 => .pointer (some ⟨b15,1,none⟩)
 | 2 => .int .i64 x.month
 | 3 => .pointer (some ⟨b5,0 + ia * 24,none⟩)
 | 4 => .pointer (some ⟨b5,0 + ia * 24 + x.month.toNat * 2,none⟩)
 | 5 => .pointer (some ⟨bv,0,none⟩)
 | 6 => .int .i64 v.lo
 | 7 => .pointer (some ⟨b15,4,none⟩)
 | 8 => .pointer (some ⟨b15,4,none⟩)
 | 9 => .int .i64 x.lo
 | 10 => .int .i64 (v.lo + x.lo)
 | 11 => .pointer (some ⟨bv,1,none⟩)
 | 12 => .int .i64 v.hi
 | 13 => .pointer (some ⟨b15,4,none⟩)
 | 14 => .pointer (some ⟨b15,5,none⟩)
 | 15 => .int .i64 x.hi
 | 16 => .int .i64 (v.hi + x.hi)
 | 17 => .bool w
 | _=>undef
def rowsCf (b3 b5 b6 b15 : Nat) (R : Rm) (p : Pl) (x : Mt) (g : Bool) (v1 v79 v80 : Value) (ia ib bu bv : Nat) (u v : Sp) (l l1 : List Sp) (w : Bool) (k : Nat) (env : Env) : List Row :=
 match k with
 | 17=>[⟨b5,0,l1.flatMap cSp,some 149,96⟩]
 | 18=>[⟨b5,0,l.flatMap cSp,some 149,96⟩]
 | _=>[]
theorem locCf (b3 b5 b6 b15 : Nat) (R : Rm) (p : Pl) (x : Mt) (g : Bool) (v1 v79 v80 : Value) (ia ib bu bv : Nat) (u v : Sp) (l l1 : List Sp) (w : Bool) : ∀ k env i q9,i ≠ k → (tAt tsCf k).sup.contains i = false → valCf b3 b5 b6 b15 R p x g v1 v79 v80 ia ib bu bv u v l l1 w k (upd env i q9)=valCf b3 b5 b6 b15 R p x g v1 v79 v80 ia ib bu bv u v l l1 w k env∧rowsCf b3 b5 b6 b15 R p x g v1 v79 v80 ia ib bu bv u v l l1 w k (upd env i q9)=rowsCf b3 b5 b6 b15 R p x g v1 v79 v80 ia ib bu bv u v l l1 w k env:=by
 intro k env i q hk hs
 have hu : ∀ j,j ≠ i → upd env i q j = env j:=fun j hj=>by unfold upd;rw [if_neg hj]
 match k,hk,hs with
 | 0,_,_=>exact ⟨rfl,rfl⟩
 | 1,_,_=>exact ⟨rfl,rfl⟩
 | 2,_,_=>exact ⟨rfl,rfl⟩
 | 3,_,_=>exact ⟨rfl,rfl⟩
 | 4,_,_=>exact ⟨rfl,rfl⟩
 | 5,_,_=>exact ⟨rfl,rfl⟩
 | 6,_,_=>exact ⟨rfl,rfl⟩
 | 7,_,_=>exact ⟨rfl,rfl⟩
 | 8,_,_=>exact ⟨rfl,rfl⟩
 | 9,_,_=>exact ⟨rfl,rfl⟩
 | 10,_,_=>exact ⟨rfl,rfl⟩
 | 11,_,_=>exact ⟨rfl,rfl⟩
 | 12,_,_=>exact ⟨rfl,rfl⟩
 | 13,_,_=>exact ⟨rfl,rfl⟩
 | 14,_,_=>exact ⟨rfl,rfl⟩
 | 15,_,_=>exact ⟨rfl,rfl⟩
 | 16,_,_=>exact ⟨rfl,rfl⟩
 | 17,_,_=>exact ⟨rfl,rfl⟩
 | 18,_,_=>exact ⟨rfl,rfl⟩
 | _ + 19,_,_=>exact ⟨rfl,rfl⟩
def tsCg : List TOp:=[⟨some 122,[],[],[]⟩,⟨some 123,[],[],[]⟩,⟨some 124,[1],[1],[]⟩,⟨some 125,[0],[0],[]⟩,⟨some 126,[0,1,2,3],[3,2],[]⟩,⟨some 127,[],[],[]⟩,⟨some 128,[5],[5],[]⟩,⟨some 129,[],[],[]⟩,⟨some 130,[7],[7],[]⟩,⟨some 131,[7,8],[8],[]⟩,⟨some 132,[5,6,7,8,9],[6,9],[]⟩,⟨some 133,[],[],[]⟩,⟨some 134,[11],[11],[]⟩,⟨some 135,[],[],[]⟩,⟨some 136,[13],[13],[]⟩,⟨some 137,[13,14],[14],[]⟩,⟨some 138,[11,12,13,14,15],[12,15],[]⟩,⟨some 139,[0,1,2,3,4,5,6,7,8,9,10,11,12,13,14,15,16],[4,10,16],[18]⟩,⟨none,[],[],[]⟩]
def valCg (b3 b5 b6 b15 : Nat) (R : Rm) (p : Pl) (x : Mt) (g : Bool) (v1 v79 v80 : Value) (ia ib bu bv : Nat) (u v : Sp) (l l1 : List Sp) (w : Bool) (k : Nat) (env : Env) : Value :=
 match k with
 | 0 => .int .i64 (ib : Nat)
 | 1 => .pointer (some ⟨b15,1,none⟩)
 | 2 => .int .i64 x.month
 | 3 => .pointer (some ⟨b5,0 + ib * 24,none⟩)
 | 4 => .pointer (some ⟨b5,0 + ib * 24 + x.month.toNat * 2,none⟩)
 | 5 => .pointer (some ⟨bu,0,none⟩)
 | 6 => .int .i64 u.lo
 | 7 => .pointer (some ⟨b15,4,none⟩)
 | 8 => .pointer (some ⟨b15,5,none⟩)
 | 9 => .int .i64 x.hi
 | 10 => .int .i64 (u.lo - x.hi)
 | 11 => .pointer (some ⟨bu,1,none⟩)
 | 12 => .int .i64 u.hi
 | 13 => .pointer (some ⟨b15,4,none⟩)
 | 14 => .pointer (some ⟨b15,4,none⟩)
 | 15 => .int .i64 x.lo
 | 16 => .int .i64 (u.hi - x.lo)
 | 17 => .bool w
 | _=>undef
def rowsCg (b3 b5 b6 b15 : Nat) (R : Rm) (p : Pl) (x : Mt) (g : Bool) (v1 v79 v80 : Value) (ia ib bu bv : Nat) (u v : Sp) (l l1 : List Sp) (w : Bool) (k : Nat) (env : Env) : List Row :=
 match k with
 | 17=>[⟨b5,0,l1.flatMap cSp,some 149,96⟩]
 | 18=>[⟨b5,0,l.flatMap cSp,some 149,96⟩]
 | _=>[]
theorem locCg (b3 b5 b6 b15 : Nat) (R : Rm) (p : Pl) (x : Mt) (g : Bool) (v1 v79 v80 : Value) (ia ib bu bv : Nat) (u v : Sp) (l l1 : List Sp) (w : Bool) : ∀ k env i q9,i ≠ k → (tAt tsCg k).sup.contains i = false → valCg b3 b5 b6 b15 R p x g v1 v79 v80 ia ib bu bv u v l l1 w k (upd env i q9)=valCg b3 b5 b6 b15 R p x g v1 v79 v80 ia ib bu bv u v l l1 w k env∧rowsCg b3 b5 b6 b15 R p x g v1 v79 v80 ia ib bu bv u v l l1 w k (upd env i q9)=rowsCg b3 b5 b6 b15 R p x g v1 v79 v80 ia ib bu bv u v l l1 w k env:=by
 intro k env i q hk hs
 have hu : ∀ j,j ≠ i → upd env i q j = env j:=fun j hj=>by unfold upd;rw [if_neg hj]
 match k,hk,hs with
 | 0,_,_=>exact ⟨rfl,rfl⟩
 | 1,_,_=>exact ⟨rfl,rfl⟩
 | 2,_,_=>exact ⟨rfl,rfl⟩
 | 3,_,_=>exact ⟨rfl,rfl⟩
 | 4,_,_=>exact ⟨rfl,rfl⟩
 | 5,_,_=>exact ⟨rfl,rfl⟩
 | 6,_,_=>exact ⟨rfl,rfl⟩
 | 7,_,_=>exact ⟨rfl,rfl⟩
 | 8,_,_=>exact ⟨rfl,rfl⟩
 | 9,_,_=>exact ⟨rfl,rfl⟩
 | 10,_,_=>exact ⟨rfl,rfl⟩
 | 11,_,_=>exact ⟨rfl,rfl⟩
 | 12,_,_=>exact ⟨rfl,rfl⟩
 | 13,_,_=>exact ⟨rfl,rfl⟩
 | 14,_,_=>exact ⟨rfl,rfl⟩
 | 15,_,_=>exact ⟨rfl,rfl⟩
 | 16,_,_=>exact ⟨rfl,rfl⟩
 | 17,_,_=>exact ⟨rfl,rfl⟩
 | 18,_,_=>exact ⟨rfl,rfl⟩
 | _ + 19,_,_=>exact ⟨rfl,rfl⟩
def tsCh9 : List TOp:=[⟨some 157,[],[],[]⟩,⟨some 158,[],[],[]⟩,⟨some 159,[0],[0],[]⟩,⟨some 160,[0,1,2],[2,1],[]⟩,⟨some 161,[0,1,2,3],[3],[]⟩,⟨some 162,[0,1,2,3,4],[4],[]⟩,⟨some 163,[],[],[]⟩,⟨some 164,[],[],[]⟩,⟨some 165,[6],[6],[]⟩,⟨some 166,[6,7,8],[8,7],[]⟩,⟨some 167,[6,7,8,9],[9],[]⟩,⟨some 168,[6,7,8,9,10],[10],[]⟩,⟨some 169,[0,1,2,3,4,5,6,7,8,9,10,11],[5,11],[]⟩]
def valCh9 (b3 b5 b6 b21 ii m : Nat) (s : Sp) (w g : Bool) (v1 v142 v143 v144 : Value) (k : Nat) (env : Env) : Value :=
 match k with
 | 0 => .int .i64 (ii : Nat)
 | 1 => .int .i64 (m : Nat)
 | 2 => .pointer (some ⟨b5,0 + ii * 24,none⟩)
 | 3 => .pointer (some ⟨b5,0 + ii * 24 + m * 2,none⟩)
 | 4 => .pointer (some ⟨b5,0 + ii * 24 + m * 2,none⟩)
 | 5 => .int .i64 s.lo
 | 6 => .int .i64 (ii : Nat)
 | 7 => .int .i64 (m : Nat)
 | 8 => .pointer (some ⟨b5,0 + ii * 24,none⟩)
 | 9 => .pointer (some ⟨b5,0 + ii * 24 + m * 2,none⟩)
 | 10 => .pointer (some ⟨b5,0 + ii * 24 + m * 2 + 1,none⟩)
 | 11 => .int .i64 s.hi
 | 12 => .bool w
 | _=>undef
def rowsCh9 (b3 b5 b6 b21 ii m : Nat) (s : Sp) (w g : Bool) (v1 v142 v143 v144 : Value) (k : Nat) (env : Env) : List Row :=
 match k with
 | _=>[]
theorem locCh9 (b3 b5 b6 b21 ii m : Nat) (s : Sp) (w g : Bool) (v1 v142 v143 v144 : Value) : ∀ k env i q9,i ≠ k → (tAt tsCh9 k).sup.contains i = false → valCh9 b3 b5 b6 b21 ii m s w g v1 v142 v143 v144 k (upd env i q9)=valCh9 b3 b5 b6 b21 ii m s w g v1 v142 v143 v144 k env∧rowsCh9 b3 b5 b6 b21 ii m s w g v1 v142 v143 v144 k (upd env i q9)=rowsCh9 b3 b5 b6 b21 ii m s w g v1 v142 v143 v144 k env:=by
 intro k env i q hk hs
 have hu : ∀ j,j ≠ i → upd env i q j = env j:=fun j hj=>by unfold upd;rw [if_neg hj]
 match k,hk,hs with
 | 0,_,_=>exact ⟨rfl,rfl⟩
 | 1,_,_=>exact ⟨rfl,rfl⟩
 | 2,_,_=>exact ⟨rfl,rfl⟩
 | 3,_,_=>exact ⟨rfl,rfl⟩
 | 4,_,_=>exact ⟨rfl,rfl⟩
 | 5,_,_=>exact ⟨rfl,rfl⟩
 | 6,_,_=>exact ⟨rfl,rfl⟩
 | 7,_,_=>exact ⟨rfl,rfl⟩
 | 8,_,_=>exact ⟨rfl,rfl⟩
 | 9,_,_=>exact ⟨rfl,rfl⟩
 | 10,_,_=>exact ⟨rfl,rfl⟩
 | 11,_,_=>exact ⟨rfl,rfl⟩
 | 12,_,_=>exact ⟨rfl,rfl⟩
 | _ + 13,_,_=>exact ⟨rfl,rfl⟩
theorem sp_at {l : List Sp} {k j : Nat} (h : k < l.length) (e : j = k * 2) : ((l.flatMap cSp).drop j).take 2 = cSp (sat l k):=by rw [e];exact (sp_cells l k h).1
theorem nar_at {l : List Sp} {k j b cap T : Nat} {lo hi : Int} (h : k < l.length) (e : j = k * 2) {l1 : List Sp} {w : Bool} (hl : l1 = nar l k ⟨lo,hi⟩) (hw : w = decide (cut (sat l k) ⟨lo,hi⟩ ≠ sat l k)) (S : List Row) :
  Fc Tryz.prog 131 [.pointer (some ⟨b,j,none⟩),.int .i64 lo,.int .i64 hi] (⟨b,0,l.flatMap cSp,some T,cap⟩::S) (fun v H' => v = .bool w∧H' = ⟨b,0,l1.flatMap cSp,some T,cap⟩::S):=by
 rw [e,hl,hw];exact narrow_spec l k b cap T lo hi S h
set_option maxHeartbeats 16000000 in
theorem closed_spec (R : Rm) (p : Pl) (M : List Mt) (am : Option Addr) (cm : Nat) (c : List Sp) (H : List Row) (hr : okRm R) (hR : RmOk H R p) (hM : SlE H am cMt 6 M) (hML : M.length ≤ 100) (hm : matsThere R M) (hc : c.length = 48) (hok : ∀ k,0 ≤ (sat c k).lo∧(sat c k).lo ≤ (sat c k).hi∧(sat c k).hi ≤ 60) :
  Fc Tryz.prog 124 [.agg (cRm R p).toArray,.slice am M.length cm,.agg (c.flatMap cSp).toArray] H (fun v H' => ∃ l,H' = H∧((ClosedT R M c l∧v = .tuple #[.agg (l.flatMap cSp).toArray,.bool true])∨(l.length = 48∧(∀ z,Tru R M z → ¬ Inn R c z)∧v = .tuple #[.agg (l.flatMap cSp).toArray,.bool false]))):=by
 have hb4:=hr.b4
 have hm12:=hr.m12
 have hs0:=hr.s0
 have hs60:=hr.s60
 have hcl : (c.flatMap cSp).length = 96:=by rw [sp_len,hc]
 have ok0 : ∀ b ∈ R.boxes,0 ≤ b.made:=fun b hb=>(okBoxes_mem _ _ _ hr.bx b hb).2.2.1
 obtain ⟨a1,c1,a2,c2,a3,c3⟩:=p
 refine Fc.mk (callable Tryz.call124) Tryz.func124 rfl Tryz.ntmps124 rfl ?_;dsimp only [fr]
 repeat' (first | (refine uP rfl ?_;(first | ((first | refine uN rfl ?_);(first | (refine uE (uA rfl rfl) rfl rfl ?_)|(refine Xg.st (StF.boxAgg rfl rfl) rfl rfl ?_;rintro _ _ ⟨bx,rfl,rfl⟩)|(refine Xg.st (StF.alloc rfl Tryz.zeroValue149 rfl) rfl rfl ?_;rintro _ _ ⟨bx,rfl,rfl⟩)))))|(refine uD rfl ?_;refine hK _ _ ?_;clear hK K) | refine uS rfl ?_ | refine uR rfl (fun K hK=>?_) | refine X.block rfl ?_)
 rename_i b3 b5
 generalize bx = b6
 rw [hcl]
 refine X.permH (H' := ⟨b5,0,c.flatMap cSp,some 149,96⟩::⟨b6,0,zRc.flatMap cSp,some 149,96⟩::⟨b3,0,cRm R ⟨a1,c1,a2,c2,a3,c3⟩,some 32,5⟩::H) (List.Perm.swap _ _ _) ?_
 refine X.lp rfl (fun q F' H' => ∃ (l0 : List Sp) (a : Bool),q = (if a then (wid l0).toNat + 1 else 0)∧Cl R M c l0 a∧H' = ⟨b5,0,l0.flatMap cSp,some 149,96⟩::⟨b6,0,zRc.flatMap cSp,some 149,96⟩::⟨b3,0,cRm R ⟨a1,c1,a2,c2,a3,c3⟩,some 32,5⟩::H∧F' = [(1,.slice am M.length cm),(3,.pointer (some ⟨b3,0,none⟩)),(5,.pointer (some ⟨b5,0,none⟩)),(6,.pointer (some ⟨b6,0,none⟩)),(7,.bool false),(8,.bool a)])
  ((wid c).toNat + 1) [(1,.slice am M.length cm),(3,.pointer (some ⟨b3,0,none⟩)),(5,.pointer (some ⟨b5,0,none⟩)),(6,.pointer (some ⟨b6,0,none⟩)),(7,.bool false),(8,.bool true)] _ (by repeat (first | exact uU _ | refine uV rfl ?_)) (qR _) ⟨c,true,rfl,⟨hc,fun k=>⟨Int.le_refl _,Int.le_refl _⟩,hok,fun _ _ h=>h,fun h=>by cases h⟩,rfl,rfl⟩ ?_
 rintro _ _ _ ⟨l0,a,rfl,hCl,rfl,rfl⟩
 repeat' (first | (refine uP rfl ?_;(first | ((first | refine uN rfl ?_);(first | (refine uE (uM rfl rfl) rfl rfl ?_)|(refine uE (uA rfl rfl) rfl rfl ?_)|(refine uE (uF rfl rfl (te rfl) rfl (te rfl) (by decide)) rfl rfl ?_)|(refine uE (EvF.lenSlice rfl rfl (te rfl)) rfl rfl ?_)|(refine uE (uL rfl rfl (uO (te rfl) rfl (qT _ (qT _ (qH _))) rfl)) rfl rfl ?_)))))|(refine uD rfl ?_;refine hK _ _ ?_;clear hK K) | refine uS rfl ?_ | refine uR rfl (fun K hK=>?_) | refine X.block rfl ?_ | (refine X.brk rfl ?_;repeat (first | refine blockX_hit rfl ?_ | refine blockX_miss (by decide) ?_)) | refine X.skip rfl ?_ | (refine X.ite rfl rfl (fun hc=>?_);(first | (with_reducible refine Xb.caseB hc (fun h=>?_) (fun h=>?_))) <;> clear hc))
 ·-- a round
  subst_vars
  refine X.lp rfl (fun q F' H' => ∃ (i : Nat) (cur : List Sp) (ag : Bool),q = R.boxes.length - i∧i ≤ R.boxes.length∧Mo R M l0 cur ag i 0∧H' = ⟨b5,0,cur.flatMap cSp,some 149,96⟩::⟨b6,0,zRc.flatMap cSp,some 149,96⟩::⟨b3,0,cRm R ⟨a1,c1,a2,c2,a3,c3⟩,some 32,5⟩::H∧F' = [(1,.slice am M.length cm),(3,.pointer (some ⟨b3,0,none⟩)),(5,.pointer (some ⟨b5,0,none⟩)),(6,.pointer (some ⟨b6,0,none⟩)),(7,.bool false),(8,.bool ag),(25,.slice a2 R.boxes.length c2),(26,.int .i64 R.boxes.length),(27,.int .i64 i)])
   R.boxes.length [(1,.slice am M.length cm),(3,.pointer (some ⟨b3,0,none⟩)),(5,.pointer (some ⟨b5,0,none⟩)),(6,.pointer (some ⟨b6,0,none⟩)),(7,.bool false),(8,.bool false),(25,.slice a2 R.boxes.length c2),(26,.int .i64 R.boxes.length),(27,.int .i64 (0 : Nat))] _ (by repeat (first | exact uU _ | refine uV rfl ?_)) (qR _) ⟨0,l0,false,by omega,by omega,hCl.start ok0,rfl,rfl⟩ ?_
  rintro _ _ _ ⟨i,cur,ag,rfl,hi,hMo,rfl,rfl⟩
  repeat' (first | (refine uP rfl ?_;(first | ((first | refine uN rfl ?_);(first | (refine uE (uM rfl rfl) rfl rfl ?_)|(refine uE (uQ rfl rfl rfl rfl) rfl rfl ?_)|(refine uE (EvF.lenSlice rfl rfl (te rfl)) rfl rfl ?_)))))|(refine uD rfl ?_;refine hK _ _ ?_;clear hK K) | refine uS rfl ?_ | refine uR rfl (fun K hK=>?_) | refine X.block rfl ?_ | (refine X.brk rfl ?_;repeat (first | refine blockX_hit rfl ?_ | refine blockX_miss (by decide) ?_)) | refine X.skip rfl ?_ | (refine X.ite rfl rfl (fun hc=>?_);(first | (with_reducible refine Xb.case hc (fun h=>?_) (fun h=>?_))) <;> clear hc))
  ·obtain ⟨b0,off,e,rfl,he⟩:=hR.boxes.elem (i:=i) (by omega)
   have hmem:=List.mem_of_getElem? he
   have hbx:=okBoxes_mem _ _ _ hr.bx e hmem
   obtain ⟨m0,hm0⟩ : ∃ m0 : Nat,(m0 : Int)=e.made:=⟨e.made.toNat,by omega⟩
   repeat' (first | (refine uP rfl ?_;(first | ((first | refine uN rfl ?_);(first | (refine uE (uL rfl rfl (LoadV.elA0 (hR.boxes.sub (fun _ h=>by repeat (first | exact h | apply qT))) he (te rfl) rfl (fun _ hm=>hm) rfl)) rfl rfl ?_)|(refine uE (uA rfl rfl) rfl rfl ?_)|(refine uE (uF rfl rfl (te rfl) rfl (te rfl) (by decide)) rfl rfl ?_)|(refine uE (EvF.indexSlice rfl rfl rfl (te rfl) (te rfl) (by omega) (by omega)) rfl rfl ?_)|(refine uE (uL rfl rfl (uO (te rfl) rfl (qH _) rfl)) rfl rfl ?_)|(refine Xg.st (StF.alloc rfl Tryz.zeroValue24 rfl) rfl rfl ?_;rintro _ _ ⟨bx,rfl,rfl⟩)|(refine Xg.st0 (StF.storeAll (i:=0) rfl rfl rfl (te rfl) rfl rfl rfl rfl) rfl ?_;rintro _ _ ⟨rfl,rfl⟩;dsimp only [List.set])))))|(refine uD rfl ?_;refine hK _ _ ?_;clear hK K) | refine uS rfl ?_ | refine uR rfl (fun K hK=>?_) | refine X.block rfl ?_)
   rename Nat=>b10
   refine X.permH (H' := ⟨b5,0,cur.flatMap cSp,some 149,96⟩::⟨b10,0,cBx e,some 47,2⟩::⟨b6,0,zRc.flatMap cSp,some 149,96⟩::⟨b3,0,cRm R ⟨a1,c1,some ⟨b0,off,none⟩,c2,a3,c3⟩,some 32,5⟩::H) (List.Perm.swap _ _ _) ?_
   refine X.lp rfl (fun q F' H' => ∃ (m : Nat) (cur : List Sp) (ag : Bool),q = R.months.toNat - m∧(m : Int)<R.months∧e.made ≤ m∧Mo R M l0 cur ag i m∧H' = ⟨b5,0,cur.flatMap cSp,some 149,96⟩::⟨b10,0,cBx e,some 47,2⟩::⟨b6,0,zRc.flatMap cSp,some 149,96⟩::⟨b3,0,cRm R ⟨a1,c1,some ⟨b0,off,none⟩,c2,a3,c3⟩,some 32,5⟩::H∧F' = [(1,.slice am M.length cm),(3,.pointer (some ⟨b3,0,none⟩)),(5,.pointer (some ⟨b5,0,none⟩)),(6,.pointer (some ⟨b6,0,none⟩)),(7,.bool false),(8,.bool ag),(9,.int .i64 i),(10,.pointer (some ⟨b10,0,none⟩)),(11,.int .i64 m),(25,.slice (some ⟨b0,off,none⟩) R.boxes.length c2),(26,.int .i64 R.boxes.length),(27,.int .i64 i)])
    (R.months.toNat - m0) [(1,.slice am M.length cm),(3,.pointer (some ⟨b3,0,none⟩)),(5,.pointer (some ⟨b5,0,none⟩)),(6,.pointer (some ⟨b6,0,none⟩)),(7,.bool false),(8,.bool ag),(9,.int .i64 i),(10,.pointer (some ⟨b10,0,none⟩)),(11,.int .i64 m0),(25,.slice (some ⟨b0,off,none⟩) R.boxes.length c2),(26,.int .i64 R.boxes.length),(27,.int .i64 i)] _ (by rw [hm0];exact (by repeat (first | exact uU _ | refine uV rfl ?_))) (qR _) ⟨m0,cur,ag,rfl,by omega,by omega,by rw [hm0];exact hMo.start hr he,rfl,rfl⟩ ?_
   clear hMo cur ag
   rintro _ _ _ ⟨m,cur,ag,rfl,hm1,hme,hMo,rfl,rfl⟩
   repeat' (first | (refine uP rfl ?_;(first | ((first | refine uN rfl ?_);(first | (refine uE (uM rfl rfl) rfl rfl ?_)|(refine uE (uQ rfl rfl rfl rfl) rfl rfl ?_)|(refine uE (EvF.add64 rfl rfl rfl (by omega) (by omega)) rfl rfl ?_)|(refine uE (uF rfl rfl (te rfl) rfl (te rfl) (by decide)) rfl rfl ?_)|(refine uE (uL rfl rfl (uO (te rfl) rfl (qT _ (qT _ (qT _ (qH _)))) rfl)) rfl rfl ?_)))))|(refine uD rfl ?_;refine hK _ _ ?_;clear hK K) | refine uS rfl ?_ | refine uR rfl (fun K hK=>?_) | refine X.block rfl ?_ | (refine X.brk rfl ?_;repeat (first | refine blockX_hit rfl ?_ | refine blockX_miss (by decide) ?_)) | refine X.skip rfl ?_ | (refine X.ite rfl rfl (fun hc=>?_);(first | (with_reducible refine Xb.case hc (fun h=>?_) (fun h=>?_))) <;> clear hc))
   ·have hil : i < R.boxes.length:=(List.getElem?_eq_some_iff.1 he).1
    have ht : there R e m:=⟨hmem,hme,by omega⟩
    have ht2 : there R e ((m : Int) + 1):=⟨hmem,by omega,by omega⟩
    have hcl2 : cur.length = 48:=by obtain ⟨n,_,h⟩:=hMo.nv;exact h.len
    obtain ⟨x,hx⟩ : ∃ x,x = sat cur (i * 12 + m):=⟨_,rfl⟩
    obtain ⟨y,hy⟩ : ∃ y,y = sat cur (i * 12 + (m + 1)):=⟨_,rfl⟩
    obtain ⟨l1,hl1⟩ : ∃ l1,l1 = nar cur (i * 12 + m) ⟨y.lo - R.step,y.hi⟩:=⟨_,rfl⟩
    obtain ⟨l2,hl2⟩ : ∃ l2,l2 = nar l1 (i * 12 + (m + 1)) ⟨x.lo,x.hi + R.step⟩:=⟨_,rfl⟩
    obtain ⟨w1,hw1⟩ : ∃ w1,w1 = decide (cut (sat cur (i * 12 + m)) ⟨y.lo - R.step,y.hi⟩ ≠ sat cur (i * 12 + m)):=⟨_,rfl⟩
    obtain ⟨w2,hw2⟩ : ∃ w2,w2 = decide (cut (sat l1 (i * 12 + (m + 1))) ⟨x.lo,x.hi + R.step⟩ ≠ sat l1 (i * 12 + (m + 1))):=⟨_,rfl⟩
    have hset:=hMo.set hr he ht ht2 hx hy l1 l2 w1 w2 hl1 hl2 hw1 hw2
    have hc1:=sp_at (l:=cur) (k:=i * 12 + m) (j:=0 + i * 24 + m * 2) (by omega) (by omega)
    have hc2:=sp_at (l:=cur) (k:=i * 12 + (m + 1)) (j:=0 + i * 24 + (m + 1) * 2) (by omega) (by omega)
    have hl1l : l1.length = 48:=by rw [hl1];unfold nar;rw [List.length_set];exact hcl2
    have hn1:=nar_at (l:=cur) (k:=i * 12 + m) (j:=0 + i * 24 + m * 2) (b:=b5) (cap:=96) (T:=149) (by omega) (by omega) hl1 hw1
    have hn2:=nar_at (l:=l1) (k:=i * 12 + (m + 1)) (j:=0 + i * 24 + (m + 1) * 2) (b:=b5) (cap:=96) (T:=149) (by omega) (by omega) hl2 hw2
    rw [← hx] at hc1
    rw [← hy] at hc2
    have bdx : -100000 ≤ x.lo∧x.lo ≤ 100000 ∧ -100000 ≤ x.hi∧x.hi ≤ 100000:=by obtain ⟨n,h1,h⟩:=hMo.nv;have:=h.bd (i * 12 + m);rw [← hx] at this;omega
    have bdy : -100000 ≤ y.lo∧y.lo ≤ 100000 ∧ -100000 ≤ y.hi∧y.hi ≤ 100000:=by obtain ⟨n,h1,h⟩:=hMo.nv;have:=h.bd (i * 12 + (m + 1));rw [← hy] at this;omega
    refine X.regionOb tsCa [1,3,5,6,7,8,9,10,11,25,26,27] [(1,(.slice am M.length cm)),(3,.pointer (some ⟨b3,0,none⟩)),(5,.pointer (some ⟨b5,0,none⟩)),(6,.pointer (some ⟨b6,0,none⟩)),(7,.bool false),(8,.bool ag),(9,.int .i64 (i : Nat)),(10,.pointer (some ⟨b10,0,none⟩)),(11,.int .i64 (m : Nat)),(25,(.slice (some ⟨b0,off,none⟩) R.boxes.length c2)),(26,(.int .i64 R.boxes.length)),(27,(.int .i64 i))] (valCa b3 b5 b6 b10 i m R ⟨a1,c1,(some ⟨b0,off,none⟩),c2,a3,c3⟩ e x y ag (.slice am M.length cm) (.slice (some ⟨b0,off,none⟩) R.boxes.length c2) (.int .i64 R.boxes.length) (.int .i64 i)) (rowsCa b3 b5 b6 b10 i m R ⟨a1,c1,(some ⟨b0,off,none⟩),c2,a3,c3⟩ e x y ag (.slice am M.length cm) (.slice (some ⟨b0,off,none⟩) R.boxes.length c2) (.int .i64 R.boxes.length) (.int .i64 i)) (fun _=>(0,0)) (⟨b5,0,cur.flatMap cSp,some 149,96⟩::⟨b10,0,cBx e,some 47,2⟩::⟨b6,0,zRc.flatMap cSp,some 149,96⟩::⟨b3,0,cRm R ⟨a1,c1,some ⟨b0,off,none⟩,c2,a3,c3⟩,some 32,5⟩::H) rfl mixed (by repeat (first | exact uU _ | refine uV rfl ?_)) rfl (by kernel_rfl) (locCa b3 b5 b6 b10 i m R ⟨a1,c1,(some ⟨b0,off,none⟩),c2,a3,c3⟩ e x y ag (.slice am M.length cm) (.slice (some ⟨b0,off,none⟩) R.boxes.length c2) (.int .i64 R.boxes.length) (.int .i64 i)) (qR _) ?_ ?_
    ·repeat' (first | exact AllF.done rfl | (refine AllF.step rfl ?_ ?_;·(first | fail | ((first | refine Ob.ng rfl ?_);(first | exact ObK.pure (fun env R hR=>by exact ⟨_,uM rfl rfl,rfl⟩) rfl (fun _=>rfl)|((refine ObK.pure (fun env S hS=>⟨.pointer (some ⟨b5,0 + i * 24,none⟩),?_,rfl⟩) rfl (fun _=>rfl);exact EvF.indexArray (i:=(i : Int)) (off:=0) (b:=b5) (T:=149) (e:=147) (len:=4) rfl rfl rfl (te rfl) (te rfl) (by omega) (by omega)))|((refine ObK.pure (fun env S hS=>⟨.pointer (some ⟨b5,0 + i * 24 + m * 2,none⟩),?_,rfl⟩) rfl (fun _=>rfl);exact EvF.indexArray (i:=(m : Int)) (off:=0 + i * 24) (b:=b5) (T:=147) (e:=24) (len:=12) rfl rfl rfl (te rfl) (te rfl) (by omega) (by omega)))|((refine ObK.pure (fun env S hS=>⟨.pointer (some ⟨b5,0 + i * 24 + (m + 1) * 2,none⟩),?_,rfl⟩) rfl (fun _=>rfl);exact EvF.indexArray (i:=((m + 1 : Nat) : Int)) (off:=0 + i * 24) (b:=b5) (T:=147) (e:=24) (len:=12) rfl rfl rfl (te rfl) (te rfl) (by omega) (by omega)))|(exact ObK.pure (fun env S hS=>⟨_,uL rfl rfl (LoadV.ownAgg (te rfl) rfl (hS _ (qH _)) hc1 rfl),rfl⟩) rfl (fun _=>rfl))|(exact ObK.pure (fun env S hS=>⟨_,uL rfl rfl (LoadV.ownAgg (te rfl) rfl (hS _ (qH _)) hc2 rfl),rfl⟩) rfl (fun _=>rfl))|(exact fun env S hS=>(StF.alloc rfl Tryz.zeroValue24 rfl).op.mono (fun v H' ⟨b,hv,hH⟩=>⟨(b,0),fun _=>hv,by rw [hH];exact List.Perm.refl _⟩))|(exact fun env S hS=>(StF.storeAll (i:=0) (vs:=cSp x) (cs:=cSp ⟨0,0⟩) rfl rfl rfl (te rfl) rfl rfl rfl rfl).op.mono (fun v H' ⟨hv,hH⟩=>⟨(0,0),fun h=>absurd rfl h,by rw [hH];exact List.Perm.refl _⟩))|(exact fun env S hS=>(StF.storeAll (i:=0) (vs:=cSp y) (cs:=cSp ⟨0,0⟩) rfl rfl rfl (te rfl) rfl rfl rfl rfl).op.mono (fun v H' ⟨hv,hH⟩=>⟨(0,0),fun h=>absurd rfl h,by rw [hH];exact List.Perm.refl _⟩))|(exact ObK.pure (fun env S hS=>⟨_,EvF.add64 rfl rfl rfl (by omega) (by omega),rfl⟩) rfl (fun _=>rfl)))))))
    intro env t ha2 hv;refine ⟨_,(ha2.cons (hv 11 12 (Nat.le_of_ble_eq_true rfl) rfl)).cons (hv 12 13 (Nat.le_of_ble_eq_true rfl) rfl),?_⟩;clear hv ha2
    show X _ _ _ [(13,.pointer (some ⟨(env 12).1,0,none⟩)),(12,.pointer (some ⟨(env 11).1,0,none⟩)),(1,.slice am M.length cm),(3,.pointer (some ⟨b3,0,none⟩)),(5,.pointer (some ⟨b5,0,none⟩)),(6,.pointer (some ⟨b6,0,none⟩)),(7,.bool false),(8,.bool ag),(9,.int .i64 i),(10,.pointer (some ⟨b10,0,none⟩)),(11,.int .i64 m),(25,.slice (some ⟨b0,off,none⟩) R.boxes.length c2),(26,.int .i64 R.boxes.length),(27,.int .i64 i)] (⟨(env 11).1,0,cSp x,some 24,2⟩::⟨(env 12).1,0,cSp y,some 24,2⟩::⟨b5,0,cur.flatMap cSp,some 149,96⟩::⟨b10,0,cBx e,some 47,2⟩::⟨b6,0,zRc.flatMap cSp,some 149,96⟩::⟨b3,0,cRm R ⟨a1,c1,some ⟨b0,off,none⟩,c2,a3,c3⟩,some 32,5⟩::H) _
    generalize (env 11).1 = ba
    generalize (env 12).1 = bb
    clear env
    refine X.permH (H' := ⟨b5,0,cur.flatMap cSp,some 149,96⟩::⟨ba,0,cSp x,some 24,2⟩::⟨bb,0,cSp y,some 24,2⟩::⟨b10,0,cBx e,some 47,2⟩::⟨b6,0,zRc.flatMap cSp,some 149,96⟩::⟨b3,0,cRm R ⟨a1,c1,some ⟨b0,off,none⟩,c2,a3,c3⟩,some 32,5⟩::H) (List.perm_middle (l₁:=[_,_])).symm ?_
    obtain ⟨g1,hg1⟩ : ∃ g1,g1 = (ag || w1):=⟨_,rfl⟩
    obtain ⟨g2,hg2⟩ : ∃ g2,g2 = (g1 || w2):=⟨_,rfl⟩
    rw [← hg1, ← hg2] at hset
    refine uS rfl ?_
    refine X.toN (F1:=[(13,.pointer (some ⟨bb,0,none⟩)),(12,.pointer (some ⟨ba,0,none⟩)),(1,.slice am M.length cm),(3,.pointer (some ⟨b3,0,none⟩)),(5,.pointer (some ⟨b5,0,none⟩)),(6,.pointer (some ⟨b6,0,none⟩)),(7,.bool false),(8,.bool g1),(9,.int .i64 i),(10,.pointer (some ⟨b10,0,none⟩)),(11,.int .i64 m),(25,.slice (some ⟨b0,off,none⟩) R.boxes.length c2),(26,.int .i64 R.boxes.length),(27,.int .i64 i)]) (H1:=⟨b5,0,l1.flatMap cSp,some 149,96⟩::⟨ba,0,cSp x,some 24,2⟩::⟨bb,0,cSp y,some 24,2⟩::⟨b10,0,cBx e,some 47,2⟩::⟨b6,0,zRc.flatMap cSp,some 149,96⟩::⟨b3,0,cRm R ⟨a1,c1,some ⟨b0,off,none⟩,c2,a3,c3⟩,some 32,5⟩::H) ?_ ?_
    ·refine uS rfl ?_
     refine X.regionOb tsCb [1,3,5,6,7,8,9,10,11,12,13,25,26,27] [(1,(.slice am M.length cm)),(3,.pointer (some ⟨b3,0,none⟩)),(5,.pointer (some ⟨b5,0,none⟩)),(6,.pointer (some ⟨b6,0,none⟩)),(7,.bool false),(8,.bool ag),(9,.int .i64 (i : Nat)),(10,.pointer (some ⟨b10,0,none⟩)),(11,.int .i64 (m : Nat)),(12,.pointer (some ⟨ba,0,none⟩)),(13,.pointer (some ⟨bb,0,none⟩)),(25,(.slice (some ⟨b0,off,none⟩) R.boxes.length c2)),(26,(.int .i64 R.boxes.length)),(27,(.int .i64 i))] (valCb b3 b5 b6 b10 ba bb i m R ⟨a1,c1,(some ⟨b0,off,none⟩),c2,a3,c3⟩ cur l1 x y ag w1 (.slice am M.length cm) (.slice (some ⟨b0,off,none⟩) R.boxes.length c2) (.int .i64 R.boxes.length) (.int .i64 i)) (rowsCb b3 b5 b6 b10 ba bb i m R ⟨a1,c1,(some ⟨b0,off,none⟩),c2,a3,c3⟩ cur l1 x y ag w1 (.slice am M.length cm) (.slice (some ⟨b0,off,none⟩) R.boxes.length c2) (.int .i64 R.boxes.length) (.int .i64 i)) (fun _=>(0,0)) (⟨ba,0,cSp x,some 24,2⟩::⟨bb,0,cSp y,some 24,2⟩::⟨b10,0,cBx e,some 47,2⟩::⟨b6,0,zRc.flatMap cSp,some 149,96⟩::⟨b3,0,cRm R ⟨a1,c1,some ⟨b0,off,none⟩,c2,a3,c3⟩,some 32,5⟩::H) rfl mixed (by repeat (first | exact uU _ | refine uV rfl ?_)) rfl (by kernel_rfl) (locCb b3 b5 b6 b10 ba bb i m R ⟨a1,c1,(some ⟨b0,off,none⟩),c2,a3,c3⟩ cur l1 x y ag w1 (.slice am M.length cm) (.slice (some ⟨b0,off,none⟩) R.boxes.length c2) (.int .i64 R.boxes.length) (.int .i64 i)) (qR _) ?_ ?_
     ·repeat' (first | exact AllF.done rfl | (refine AllF.step rfl ?_ ?_;·(first | fail | ((first | refine Ob.ng rfl ?_);(first | exact ObK.pure (fun env R hR=>by exact ⟨_,uM rfl rfl,rfl⟩) rfl (fun _=>rfl) | exact ObK.pure (fun env R hR=>by exact ⟨_,uF rfl rfl (te rfl) rfl (te rfl) (by decide),rfl⟩) rfl (fun _=>rfl) | exact ObK.pure (fun env R hR=>by exact ⟨_,uL rfl rfl (uO (te rfl) rfl (hR _ (qT _ (qH _))) rfl),rfl⟩) rfl (fun _=>rfl)|((refine ObK.pure (fun env S hS=>⟨.pointer (some ⟨b5,0 + i * 24,none⟩),?_,rfl⟩) rfl (fun _=>rfl);exact EvF.indexArray (i:=(i : Int)) (off:=0) (b:=b5) (T:=149) (e:=147) (len:=4) rfl rfl rfl (te rfl) (te rfl) (by omega) (by omega)))|((refine ObK.pure (fun env S hS=>⟨.pointer (some ⟨b5,0 + i * 24 + m * 2,none⟩),?_,rfl⟩) rfl (fun _=>rfl);exact EvF.indexArray (i:=(m : Int)) (off:=0 + i * 24) (b:=b5) (T:=147) (e:=24) (len:=12) rfl rfl rfl (te rfl) (te rfl) (by omega) (by omega)))|(exact fun env S hS=>(OpF.call (uT rfl (Args.cons rfl (Args.cons rfl (Args.cons rfl Args.nil)))) (hn1 S)).mono (fun v H' ⟨hv,hH⟩=>⟨(0,0),fun _=>hv,by rw [hH];exact List.Perm.refl _⟩))|(exact ObK.pure (fun env S hS=>⟨_,uL rfl rfl (uO (te rfl) rfl (hS _ (qT _ (qT _ (qT _ (qT _ (qH _)))))) rfl),rfl⟩) rfl (fun _=>rfl))|(exact ObK.pure (fun env S hS=>⟨_,EvF.sub64 rfl rfl rfl (by omega) (by omega),rfl⟩) rfl (fun _=>rfl)))))))
     intro env t ha2 hv;refine ⟨_,ha2.cons (hv 11 63 (Nat.le_of_ble_eq_true rfl) rfl),?_⟩;clear hv ha2
     show X _ _ _ [(63,.bool w1),(1,.slice am M.length cm),(3,.pointer (some ⟨b3,0,none⟩)),(5,.pointer (some ⟨b5,0,none⟩)),(6,.pointer (some ⟨b6,0,none⟩)),(7,.bool false),(8,.bool ag),(9,.int .i64 i),(10,.pointer (some ⟨b10,0,none⟩)),(11,.int .i64 m),(12,.pointer (some ⟨ba,0,none⟩)),(13,.pointer (some ⟨bb,0,none⟩)),(25,.slice (some ⟨b0,off,none⟩) R.boxes.length c2),(26,.int .i64 R.boxes.length),(27,.int .i64 i)] (⟨b5,0,l1.flatMap cSp,some 149,96⟩::⟨ba,0,cSp x,some 24,2⟩::⟨bb,0,cSp y,some 24,2⟩::⟨b10,0,cBx e,some 47,2⟩::⟨b6,0,zRc.flatMap cSp,some 149,96⟩::⟨b3,0,cRm R ⟨a1,c1,some ⟨b0,off,none⟩,c2,a3,c3⟩,some 32,5⟩::H) _
     clear env
     refine X.iteB rfl rfl (fun q=>?_) (fun q=>?_)
     ·have qg : g1 = true:=by rw [hg1,q];simp
      rw [qg]
      repeat' (first | (refine uP rfl ?_;(first | ((first | refine uN rfl ?_);(first | (refine uE (uA rfl rfl) rfl rfl ?_)))))|(refine uD rfl ?_;refine hK _ _ ?_;clear hK K) | refine uR rfl (fun K hK=>?_))
      exact ⟨rfl,(by repeat (first | exact uU _ | refine uV rfl ?_)),(by repeat (first | exact qR _ | apply qK | apply qC))⟩
     ·have qg : g1 = ag:=by rw [hg1,q];simp
      rw [qg]
      exact X.skip rfl ⟨rfl,(by repeat (first | exact uU _ | refine uV rfl ?_)),(by repeat (first | exact qR _ | apply qK | apply qC))⟩
    ·refine X.toQ (F1:=[(13,.pointer (some ⟨bb,0,none⟩)),(12,.pointer (some ⟨ba,0,none⟩)),(1,.slice am M.length cm),(3,.pointer (some ⟨b3,0,none⟩)),(5,.pointer (some ⟨b5,0,none⟩)),(6,.pointer (some ⟨b6,0,none⟩)),(7,.bool false),(8,.bool g2),(9,.int .i64 i),(10,.pointer (some ⟨b10,0,none⟩)),(11,.int .i64 m),(25,.slice (some ⟨b0,off,none⟩) R.boxes.length c2),(26,.int .i64 R.boxes.length),(27,.int .i64 i)]) (H1:=⟨b5,0,l2.flatMap cSp,some 149,96⟩::⟨ba,0,cSp x,some 24,2⟩::⟨bb,0,cSp y,some 24,2⟩::⟨b10,0,cBx e,some 47,2⟩::⟨b6,0,zRc.flatMap cSp,some 149,96⟩::⟨b3,0,cRm R ⟨a1,c1,some ⟨b0,off,none⟩,c2,a3,c3⟩,some 32,5⟩::H) ?_ (fun F' H' q1 q2=>?_)
     ·refine uS rfl ?_
      refine X.regionOb tsCc [1,3,5,6,7,8,9,10,11,12,13,25,26,27] [(1,(.slice am M.length cm)),(3,.pointer (some ⟨b3,0,none⟩)),(5,.pointer (some ⟨b5,0,none⟩)),(6,.pointer (some ⟨b6,0,none⟩)),(7,.bool false),(8,.bool g1),(9,.int .i64 (i : Nat)),(10,.pointer (some ⟨b10,0,none⟩)),(11,.int .i64 (m : Nat)),(12,.pointer (some ⟨ba,0,none⟩)),(13,.pointer (some ⟨bb,0,none⟩)),(25,(.slice (some ⟨b0,off,none⟩) R.boxes.length c2)),(26,(.int .i64 R.boxes.length)),(27,(.int .i64 i))] (valCc b3 b5 b6 b10 ba bb i m R ⟨a1,c1,(some ⟨b0,off,none⟩),c2,a3,c3⟩ l1 l2 x y g1 w2 (.slice am M.length cm) (.slice (some ⟨b0,off,none⟩) R.boxes.length c2) (.int .i64 R.boxes.length) (.int .i64 i)) (rowsCc b3 b5 b6 b10 ba bb i m R ⟨a1,c1,(some ⟨b0,off,none⟩),c2,a3,c3⟩ l1 l2 x y g1 w2 (.slice am M.length cm) (.slice (some ⟨b0,off,none⟩) R.boxes.length c2) (.int .i64 R.boxes.length) (.int .i64 i)) (fun _=>(0,0)) (⟨ba,0,cSp x,some 24,2⟩::⟨bb,0,cSp y,some 24,2⟩::⟨b10,0,cBx e,some 47,2⟩::⟨b6,0,zRc.flatMap cSp,some 149,96⟩::⟨b3,0,cRm R ⟨a1,c1,some ⟨b0,off,none⟩,c2,a3,c3⟩,some 32,5⟩::H) rfl mixed (by repeat (first | exact uU _ | refine uV rfl ?_)) rfl (by kernel_rfl) (locCc b3 b5 b6 b10 ba bb i m R ⟨a1,c1,(some ⟨b0,off,none⟩),c2,a3,c3⟩ l1 l2 x y g1 w2 (.slice am M.length cm) (.slice (some ⟨b0,off,none⟩) R.boxes.length c2) (.int .i64 R.boxes.length) (.int .i64 i)) (qR _) ?_ ?_
      ·repeat' (first | exact AllF.done rfl | (refine AllF.step rfl ?_ ?_;·(first | fail | ((first | refine Ob.ng rfl ?_);(first | exact ObK.pure (fun env R hR=>by exact ⟨_,uM rfl rfl,rfl⟩) rfl (fun _=>rfl) | exact ObK.pure (fun env R hR=>by exact ⟨_,uF rfl rfl (te rfl) rfl (te rfl) (by decide),rfl⟩) rfl (fun _=>rfl) | exact ObK.pure (fun env R hR=>by exact ⟨_,uL rfl rfl (uO (te rfl) rfl (hR _ (qH _)) rfl),rfl⟩) rfl (fun _=>rfl)|((refine ObK.pure (fun env S hS=>⟨.pointer (some ⟨b5,0 + i * 24,none⟩),?_,rfl⟩) rfl (fun _=>rfl);exact EvF.indexArray (i:=(i : Int)) (off:=0) (b:=b5) (T:=149) (e:=147) (len:=4) rfl rfl rfl (te rfl) (te rfl) (by omega) (by omega)))|((refine ObK.pure (fun env S hS=>⟨.pointer (some ⟨b5,0 + i * 24 + (m + 1) * 2,none⟩),?_,rfl⟩) rfl (fun _=>rfl);exact EvF.indexArray (i:=((m + 1 : Nat) : Int)) (off:=0 + i * 24) (b:=b5) (T:=147) (e:=24) (len:=12) rfl rfl rfl (te rfl) (te rfl) (by omega) (by omega)))|(exact fun env S hS=>(OpF.call (uT rfl (Args.cons rfl (Args.cons rfl (Args.cons rfl Args.nil)))) (hn2 S)).mono (fun v H' ⟨hv,hH⟩=>⟨(0,0),fun _=>hv,by rw [hH];exact List.Perm.refl _⟩))|(exact ObK.pure (fun env S hS=>⟨_,uL rfl rfl (uO (te rfl) rfl (hS _ (qT _ (qT _ (qT _ (qT _ (qH _)))))) rfl),rfl⟩) rfl (fun _=>rfl))|(exact ObK.pure (fun env S hS=>⟨_,EvF.add64 rfl rfl rfl (by omega) (by omega),rfl⟩) rfl (fun _=>rfl)))))))
      intro env t ha2 hv;refine ⟨_,ha2.cons (hv 12 76 (Nat.le_of_ble_eq_true rfl) rfl),?_⟩;clear hv ha2
      show X _ _ _ [(76,.bool w2),(1,.slice am M.length cm),(3,.pointer (some ⟨b3,0,none⟩)),(5,.pointer (some ⟨b5,0,none⟩)),(6,.pointer (some ⟨b6,0,none⟩)),(7,.bool false),(8,.bool g1),(9,.int .i64 i),(10,.pointer (some ⟨b10,0,none⟩)),(11,.int .i64 m),(12,.pointer (some ⟨ba,0,none⟩)),(13,.pointer (some ⟨bb,0,none⟩)),(25,.slice (some ⟨b0,off,none⟩) R.boxes.length c2),(26,.int .i64 R.boxes.length),(27,.int .i64 i)] (⟨b5,0,l2.flatMap cSp,some 149,96⟩::⟨ba,0,cSp x,some 24,2⟩::⟨bb,0,cSp y,some 24,2⟩::⟨b10,0,cBx e,some 47,2⟩::⟨b6,0,zRc.flatMap cSp,some 149,96⟩::⟨b3,0,cRm R ⟨a1,c1,some ⟨b0,off,none⟩,c2,a3,c3⟩,some 32,5⟩::H) _
      clear env
      refine X.iteB rfl rfl (fun q=>?_) (fun q=>?_)
      ·have qg : g2 = true:=by rw [hg2,q];simp
       rw [qg]
       repeat' (first | (refine uP rfl ?_;(first | ((first | refine uN rfl ?_);(first | (refine uE (uA rfl rfl) rfl rfl ?_)))))|(refine uD rfl ?_;refine hK _ _ ?_;clear hK K) | refine uR rfl (fun K hK=>?_))
       exact ⟨rfl,(by repeat (first | exact uU _ | refine uV rfl ?_)),(by repeat (first | exact qR _ | apply qK | apply qC))⟩
      ·have qg : g2 = g1:=by rw [hg2,q];simp
       rw [qg]
       exact X.skip rfl ⟨rfl,(by repeat (first | exact uU _ | refine uV rfl ?_)),(by repeat (first | exact qR _ | apply qK | apply qC))⟩
     ·show X _ _ _ F' H' _
      refine X.weak q1 q2 ?_
      repeat' (first | (refine uP rfl ?_;(first | ((first | refine uN rfl ?_);(first | (refine uE (uM rfl rfl) rfl rfl ?_)|(refine uE (uA rfl rfl) rfl rfl ?_)|(refine uE (EvF.add64 rfl rfl rfl (by omega) (by omega)) rfl rfl ?_)))))|(refine uD rfl ?_;refine hK _ _ ?_;clear hK K) | refine uR rfl (fun K hK=>?_))
      exact ⟨_,_,⟨b5,0,l2.flatMap cSp,some 149,96⟩::⟨b10,0,cBx e,some 47,2⟩::⟨b6,0,zRc.flatMap cSp,some 149,96⟩::⟨b3,0,cRm R ⟨a1,c1,some ⟨b0,off,none⟩,c2,a3,c3⟩,some 32,5⟩::H,(by repeat (first | exact uU _ | refine uV rfl ?_)),(by repeat (first | exact qR _ | apply qK | apply qC)),⟨m + 1,l2,g2,rfl,by omega,by omega,hset,rfl,rfl⟩,by omega⟩
   ·exact ⟨_,_,⟨b5,0,cur.flatMap cSp,some 149,96⟩::⟨b6,0,zRc.flatMap cSp,some 149,96⟩::⟨b3,0,cRm R ⟨a1,c1,some ⟨b0,off,none⟩,c2,a3,c3⟩,some 32,5⟩::H,(by repeat (first | exact uU _ | refine uV rfl ?_)),(by repeat (first | exact qR _ | apply qK | apply qC)),⟨i + 1,cur,ag,rfl,by omega,hMo.next hr (by omega) (by omega),rfl,rfl⟩,by omega⟩
  ·have hi2 : i = R.boxes.length:=by omega
   have hMa:=hMo.ma hr hi2 (by omega)
   clear hMo h hi
   subst hi2
   refine X.lp rfl (fun q F' H' => ∃ (k : Nat) (cur : List Sp) (ag : Bool),q = M.length - k∧k ≤ M.length∧Ma R M l0 cur ag k∧H' = ⟨b5,0,cur.flatMap cSp,some 149,96⟩::⟨b6,0,zRc.flatMap cSp,some 149,96⟩::⟨b3,0,cRm R ⟨a1,c1,a2,c2,a3,c3⟩,some 32,5⟩::H∧F' = [(1,.slice am M.length cm),(3,.pointer (some ⟨b3,0,none⟩)),(5,.pointer (some ⟨b5,0,none⟩)),(6,.pointer (some ⟨b6,0,none⟩)),(7,.bool false),(8,.bool ag),(78,.slice am M.length cm),(79,.int .i64 M.length),(80,.int .i64 k)])
    M.length [(1,.slice am M.length cm),(3,.pointer (some ⟨b3,0,none⟩)),(5,.pointer (some ⟨b5,0,none⟩)),(6,.pointer (some ⟨b6,0,none⟩)),(7,.bool false),(8,.bool ag),(78,.slice am M.length cm),(79,.int .i64 M.length),(80,.int .i64 (0 : Nat))] _ (by repeat (first | exact uU _ | refine uV rfl ?_)) (qR _) ⟨0,cur,ag,by omega,by omega,hMa,rfl,rfl⟩ ?_
   clear hMa cur ag
   rintro _ _ _ ⟨k,cur,ag,rfl,hk,hMa,rfl,rfl⟩
   repeat' (first | (refine uP rfl ?_;(first | ((first | refine uN rfl ?_);(first | (refine uE (uM rfl rfl) rfl rfl ?_)|(refine uE (uQ rfl rfl rfl rfl) rfl rfl ?_)|(refine uE (uF rfl rfl (te rfl) rfl (te rfl) (by decide)) rfl rfl ?_)|(refine uE (EvF.lenSlice rfl rfl (te rfl)) rfl rfl ?_)|(refine uE (uL rfl rfl (uO (te rfl) rfl (qT _ (qT _ (qH _))) rfl)) rfl rfl ?_)))))|(refine uD rfl ?_;refine hK _ _ ?_;clear hK K) | refine uS rfl ?_ | refine uR rfl (fun K hK=>?_) | refine X.block rfl ?_ | (refine X.brk rfl ?_;repeat (first | refine blockX_hit rfl ?_ | refine blockX_miss (by decide) ?_)) | refine X.skip rfl ?_ | (refine X.ite rfl rfl (fun hc=>?_);(first | (with_reducible refine Xb.case hc (fun h=>?_) (fun h=>?_))) <;> clear hc))
   ·obtain ⟨bm,om,x,rfl,he⟩:=hM.elem (i:=k) (by omega)
    repeat' (first | (refine uP rfl ?_;(first | ((first | refine uN rfl ?_);(first | (refine uE (uL rfl rfl (LoadV.elA0 (hM.sub (fun _ h=>by repeat (first | exact h | apply qT))) he (te rfl) rfl (fun _ hm=>hm) rfl)) rfl rfl ?_)|(refine uE (EvF.indexSlice rfl rfl rfl (te rfl) (te rfl) (by omega) (by omega)) rfl rfl ?_)|(refine Xg.st (StF.alloc rfl Tryz.zeroValue44 rfl) rfl rfl ?_;rintro _ _ ⟨bx,rfl,rfl⟩)|(refine Xg.st0 (StF.storeAll (i:=0) rfl rfl rfl (te rfl) rfl rfl rfl rfl) rfl ?_;rintro _ _ ⟨rfl,rfl⟩;dsimp only [List.set])))))|(refine uD rfl ?_;refine hK _ _ ?_;clear hK K) | refine uS rfl ?_)
    rename Nat=>b15
    refine X.permH (H' := ⟨b5,0,cur.flatMap cSp,some 149,96⟩::⟨b15,0,cMt x,some 44,6⟩::⟨b6,0,zRc.flatMap cSp,some 149,96⟩::⟨b3,0,cRm R ⟨a1,c1,a2,c2,a3,c3⟩,some 32,5⟩::H) (List.Perm.swap _ _ _) ?_
    have hxm:=List.mem_of_getElem? he
    obtain ⟨⟨xa,hta,ea⟩,⟨xb,htb,eb⟩,h60⟩:=hm x hxm
    obtain ⟨ia,hia⟩:=box_at hta.1
    obtain ⟨ib,hib⟩:=box_at htb.1
    have hial:=(List.getElem?_eq_some_iff.1 hia).1
    have hibl:=(List.getElem?_eq_some_iff.1 hib).1
    have hmb:=there_bd hr hta
    have ca : cel R ⟨x.a,x.month⟩ = ia * 12 + x.month.toNat:=by rw [← ea];exact cel_box hr.bx hia _
    have cb : cel R ⟨x.b,x.month⟩ = ib * 12 + x.month.toNat:=by rw [← eb];exact cel_box hr.bx hib _
    have xia : ∀ S,RmOk S R ⟨a1,c1,a2,c2,a3,c3⟩ → Fc Tryz.prog 110 [.agg (cRm R ⟨a1,c1,a2,c2,a3,c3⟩).toArray,.int .i64 x.a] S (fun v H' => v = .int .i64 (ia : Nat)∧H' = S):=fun S h=>by
     have:=index_spec R _ x.a S h
     rw [← ea,index_box hr.bx hia] at this
     rw [← ea];exact this
    have xib : ∀ S,RmOk S R ⟨a1,c1,a2,c2,a3,c3⟩ → Fc Tryz.prog 110 [.agg (cRm R ⟨a1,c1,a2,c2,a3,c3⟩).toArray,.int .i64 x.b] S (fun v H' => v = .int .i64 (ib : Nat)∧H' = S):=fun S h=>by
     have:=index_spec R _ x.b S h
     rw [← eb,index_box hr.bx hib] at this
     rw [← eb];exact this
    have hRs : ∀ S : List Row,(∀ r ∈ ⟨b5,0,cur.flatMap cSp,some 149,96⟩::⟨b15,0,cMt x,some 44,6⟩::⟨b6,0,zRc.flatMap cSp,some 149,96⟩::⟨b3,0,cRm R ⟨a1,c1,a2,c2,a3,c3⟩,some 32,5⟩::H,r ∈ S) → RmOk S R ⟨a1,c1,a2,c2,a3,c3⟩:=fun S hS=>hR.sub (fun r h=>hS r (List.mem_append_right [_,_,_,_] h))
    have hcl2 : cur.length = 48:=by obtain ⟨n,_,h⟩:=hMa.nv;exact h.len
    obtain ⟨u,hu⟩ : ∃ u,u = sat cur (cel R ⟨x.a,x.month⟩):=⟨_,rfl⟩
    obtain ⟨v,hv9⟩ : ∃ v,v = sat cur (cel R ⟨x.b,x.month⟩):=⟨_,rfl⟩
    obtain ⟨l1,hl1⟩ : ∃ l1,l1 = nar cur (cel R ⟨x.a,x.month⟩) ⟨v.lo + x.lo,v.hi + x.hi⟩:=⟨_,rfl⟩
    obtain ⟨l2,hl2⟩ : ∃ l2,l2 = nar l1 (cel R ⟨x.b,x.month⟩) ⟨u.lo - x.hi,u.hi - x.lo⟩:=⟨_,rfl⟩
    obtain ⟨w1,hw1⟩ : ∃ w1,w1 = decide (cut (sat cur (cel R ⟨x.a,x.month⟩)) ⟨v.lo + x.lo,v.hi + x.hi⟩ ≠ sat cur (cel R ⟨x.a,x.month⟩)):=⟨_,rfl⟩
    obtain ⟨w2,hw2⟩ : ∃ w2,w2 = decide (cut (sat l1 (cel R ⟨x.b,x.month⟩)) ⟨u.lo - x.hi,u.hi - x.lo⟩ ≠ sat l1 (cel R ⟨x.b,x.month⟩)):=⟨_,rfl⟩
    have hset:=hMa.set hr hm (by omega) he hu hv9 l1 l2 w1 w2 hl1 hl2 hw1 hw2
    have hc1:=sp_at (l:=cur) (k:=cel R ⟨x.a,x.month⟩) (j:=0 + ia * 24 + x.month.toNat * 2) (by omega) (by omega)
    have hc2:=sp_at (l:=cur) (k:=cel R ⟨x.b,x.month⟩) (j:=0 + ib * 24 + x.month.toNat * 2) (by omega) (by omega)
    have hl1l : l1.length = 48:=by rw [hl1];unfold nar;rw [List.length_set];exact hcl2
    have hn1:=nar_at (l:=cur) (k:=cel R ⟨x.a,x.month⟩) (j:=0 + ia * 24 + x.month.toNat * 2) (b:=b5) (cap:=96) (T:=149) (by omega) (by omega) hl1 hw1
    have hn2:=nar_at (l:=l1) (k:=cel R ⟨x.b,x.month⟩) (j:=0 + ib * 24 + x.month.toNat * 2) (b:=b5) (cap:=96) (T:=149) (by omega) (by omega) hl2 hw2
    rw [← hu] at hc1
    rw [← hv9] at hc2
    have bdu : -100000 ≤ u.lo∧u.lo ≤ 100000 ∧ -100000 ≤ u.hi∧u.hi ≤ 100000:=by obtain ⟨n,h1,h⟩:=hMa.nv;have:=h.bd (cel R ⟨x.a,x.month⟩);rw [← hu] at this;omega
    have bdv : -100000 ≤ v.lo∧v.lo ≤ 100000 ∧ -100000 ≤ v.hi∧v.hi ≤ 100000:=by obtain ⟨n,h1,h⟩:=hMa.nv;have:=h.bd (cel R ⟨x.b,x.month⟩);rw [← hv9] at this;omega
    refine X.regionOb tsCd [1,3,5,6,7,8,15,78,79,80] [(1,(.slice (some ⟨bm,om,none⟩) M.length cm)),(3,.pointer (some ⟨b3,0,none⟩)),(5,.pointer (some ⟨b5,0,none⟩)),(6,.pointer (some ⟨b6,0,none⟩)),(7,.bool false),(8,.bool ag),(15,.pointer (some ⟨b15,0,none⟩)),(78,(.slice (some ⟨bm,om,none⟩) M.length cm)),(79,(.int .i64 M.length)),(80,(.int .i64 k))] (valCd b3 b5 b6 b15 R ⟨a1,c1,a2,c2,a3,c3⟩ x ag (.slice (some ⟨bm,om,none⟩) M.length cm) (.int .i64 M.length) (.int .i64 k) ia ib) (rowsCd b3 b5 b6 b15 R ⟨a1,c1,a2,c2,a3,c3⟩ x ag (.slice (some ⟨bm,om,none⟩) M.length cm) (.int .i64 M.length) (.int .i64 k) ia ib) (fun _=>(0,0)) (⟨b5,0,cur.flatMap cSp,some 149,96⟩::⟨b15,0,cMt x,some 44,6⟩::⟨b6,0,zRc.flatMap cSp,some 149,96⟩::⟨b3,0,cRm R ⟨a1,c1,a2,c2,a3,c3⟩,some 32,5⟩::H) rfl mixed (by repeat (first | exact uU _ | refine uV rfl ?_)) rfl (by kernel_rfl) (locCd b3 b5 b6 b15 R ⟨a1,c1,a2,c2,a3,c3⟩ x ag (.slice (some ⟨bm,om,none⟩) M.length cm) (.int .i64 M.length) (.int .i64 k) ia ib) (qR _) ?_ ?_
    ·repeat' (first | exact AllF.done rfl | (refine AllF.step rfl ?_ ?_;·(first | fail | ((first | refine Ob.ng rfl ?_);(first | exact ObK.pure (fun env R hR=>by exact ⟨_,uA rfl rfl,rfl⟩) rfl (fun _=>rfl) | exact ObK.pure (fun env R hR=>by exact ⟨_,uF rfl rfl (te rfl) rfl (te rfl) (by decide),rfl⟩) rfl (fun _=>rfl) | exact ObK.pure (fun env R hR=>by exact ⟨_,uL rfl rfl (uO (te rfl) rfl (hR _ (qT _ (qH _))) rfl),rfl⟩) rfl (fun _=>rfl) | exact ObK.pure (fun env R hR=>by exact ⟨_,uL rfl rfl (uW (te rfl) rfl (hR _ (qT _ (qT _ (qT _ (qH _))))) rfl),rfl⟩) rfl (fun _=>rfl)|(exact fun env S hS=>OpF.callV (Z:=[]) (uT rfl (Args.cons rfl (Args.cons rfl Args.nil))) (xia _ (hRs _ hS)) rfl rfl)|(exact fun env S hS=>OpF.callV (Z:=[]) (uT rfl (Args.cons rfl (Args.cons rfl Args.nil))) (xib _ (hRs _ hS)) rfl rfl))))))
    intro env t ha2 hv;refine ⟨_,(ha2.cons (hv 8 16 (Nat.le_of_ble_eq_true rfl) rfl)).cons (hv 9 17 (Nat.le_of_ble_eq_true rfl) rfl),?_⟩;clear hv ha2
    show X _ _ _ [(17,.int .i64 ib),(16,.int .i64 ia),(1,.slice (some ⟨bm,om,none⟩) M.length cm),(3,.pointer (some ⟨b3,0,none⟩)),(5,.pointer (some ⟨b5,0,none⟩)),(6,.pointer (some ⟨b6,0,none⟩)),(7,.bool false),(8,.bool ag),(15,.pointer (some ⟨b15,0,none⟩)),(78,.slice (some ⟨bm,om,none⟩) M.length cm),(79,.int .i64 M.length),(80,.int .i64 k)] (⟨b5,0,cur.flatMap cSp,some 149,96⟩::⟨b15,0,cMt x,some 44,6⟩::⟨b6,0,zRc.flatMap cSp,some 149,96⟩::⟨b3,0,cRm R ⟨a1,c1,a2,c2,a3,c3⟩,some 32,5⟩::H) _
    clear env
    repeat' (first | refine uS rfl ?_)
    refine X.regionOb tsCe [1,3,5,6,7,8,15,16,17,78,79,80] [(1,(.slice (some ⟨bm,om,none⟩) M.length cm)),(3,.pointer (some ⟨b3,0,none⟩)),(5,.pointer (some ⟨b5,0,none⟩)),(6,.pointer (some ⟨b6,0,none⟩)),(7,.bool false),(8,.bool ag),(15,.pointer (some ⟨b15,0,none⟩)),(16,.int .i64 (ia : Nat)),(17,.int .i64 (ib : Nat)),(78,(.slice (some ⟨bm,om,none⟩) M.length cm)),(79,(.int .i64 M.length)),(80,(.int .i64 k))] (valCe b3 b5 b6 b15 R ⟨a1,c1,a2,c2,a3,c3⟩ x ag (.slice (some ⟨bm,om,none⟩) M.length cm) (.int .i64 M.length) (.int .i64 k) ia ib u v) (rowsCe b3 b5 b6 b15 R ⟨a1,c1,a2,c2,a3,c3⟩ x ag (.slice (some ⟨bm,om,none⟩) M.length cm) (.int .i64 M.length) (.int .i64 k) ia ib u v) (fun _=>(0,0)) (⟨b5,0,cur.flatMap cSp,some 149,96⟩::⟨b15,0,cMt x,some 44,6⟩::⟨b6,0,zRc.flatMap cSp,some 149,96⟩::⟨b3,0,cRm R ⟨a1,c1,a2,c2,a3,c3⟩,some 32,5⟩::H) rfl mixed (by repeat (first | exact uU _ | refine uV rfl ?_)) rfl (by kernel_rfl) (locCe b3 b5 b6 b15 R ⟨a1,c1,a2,c2,a3,c3⟩ x ag (.slice (some ⟨bm,om,none⟩) M.length cm) (.int .i64 M.length) (.int .i64 k) ia ib u v) (qR _) ?_ ?_
    ·repeat' (first | exact AllF.done rfl | (refine AllF.step rfl ?_ ?_;·(first | fail | ((first | refine Ob.ng rfl ?_);(first | exact ObK.pure (fun env R hR=>by exact ⟨_,uM rfl rfl,rfl⟩) rfl (fun _=>rfl) | exact ObK.pure (fun env R hR=>by exact ⟨_,uF rfl rfl (te rfl) rfl (te rfl) (by decide),rfl⟩) rfl (fun _=>rfl) | exact ObK.pure (fun env R hR=>by exact ⟨_,uL rfl rfl (uO (te rfl) rfl (hR _ (qT _ (qH _))) rfl),rfl⟩) rfl (fun _=>rfl)|((refine ObK.pure (fun env S hS=>⟨.pointer (some ⟨b5,0 + ia * 24,none⟩),?_,rfl⟩) rfl (fun _=>rfl);exact EvF.indexArray (i:=(ia : Int)) (off:=0) (b:=b5) (T:=149) (e:=147) (len:=4) rfl rfl rfl (te rfl) (te rfl) (by omega) (by omega)))|((refine ObK.pure (fun env S hS=>⟨.pointer (some ⟨b5,0 + ia * 24 + x.month.toNat * 2,none⟩),?_,rfl⟩) rfl (fun _=>rfl);exact EvF.indexArray (i:=x.month) (off:=0 + ia * 24) (b:=b5) (T:=147) (e:=24) (len:=12) rfl rfl rfl (te rfl) (te rfl) (by omega) (by omega)))|((refine ObK.pure (fun env S hS=>⟨.pointer (some ⟨b5,0 + ib * 24,none⟩),?_,rfl⟩) rfl (fun _=>rfl);exact EvF.indexArray (i:=(ib : Int)) (off:=0) (b:=b5) (T:=149) (e:=147) (len:=4) rfl rfl rfl (te rfl) (te rfl) (by omega) (by omega)))|((refine ObK.pure (fun env S hS=>⟨.pointer (some ⟨b5,0 + ib * 24 + x.month.toNat * 2,none⟩),?_,rfl⟩) rfl (fun _=>rfl);exact EvF.indexArray (i:=x.month) (off:=0 + ib * 24) (b:=b5) (T:=147) (e:=24) (len:=12) rfl rfl rfl (te rfl) (te rfl) (by omega) (by omega)))|(exact ObK.pure (fun env S hS=>⟨_,uL rfl rfl (LoadV.ownAgg (te rfl) rfl (hS _ (qH _)) hc1 rfl),rfl⟩) rfl (fun _=>rfl))|(exact ObK.pure (fun env S hS=>⟨_,uL rfl rfl (LoadV.ownAgg (te rfl) rfl (hS _ (qH _)) hc2 rfl),rfl⟩) rfl (fun _=>rfl))|(exact fun env S hS=>(StF.alloc rfl Tryz.zeroValue24 rfl).op.mono (fun v H' ⟨b,hv,hH⟩=>⟨(b,0),fun _=>hv,by rw [hH];exact List.Perm.refl _⟩))|(exact fun env S hS=>(StF.storeAll (i:=0) (vs:=cSp u) (cs:=cSp ⟨0,0⟩) rfl rfl rfl (te rfl) rfl rfl rfl rfl).op.mono (fun v H' ⟨hv,hH⟩=>⟨(0,0),fun h=>absurd rfl h,by rw [hH];exact List.Perm.refl _⟩))|(exact fun env S hS=>(StF.storeAll (i:=0) (vs:=cSp v) (cs:=cSp ⟨0,0⟩) rfl rfl rfl (te rfl) rfl rfl rfl rfl).op.mono (fun v H' ⟨hv,hH⟩=>⟨(0,0),fun h=>absurd rfl h,by rw [hH];exact List.Perm.refl _⟩)))))))
    intro env t ha2 hv;refine ⟨_,(ha2.cons (hv 12 18 (Nat.le_of_ble_eq_true rfl) rfl)).cons (hv 13 19 (Nat.le_of_ble_eq_true rfl) rfl),?_⟩;clear hv ha2
    show X _ _ _ [(19,.pointer (some ⟨(env 13).1,0,none⟩)),(18,.pointer (some ⟨(env 12).1,0,none⟩)),(1,.slice (some ⟨bm,om,none⟩) M.length cm),(3,.pointer (some ⟨b3,0,none⟩)),(5,.pointer (some ⟨b5,0,none⟩)),(6,.pointer (some ⟨b6,0,none⟩)),(7,.bool false),(8,.bool ag),(15,.pointer (some ⟨b15,0,none⟩)),(16,.int .i64 ia),(17,.int .i64 ib),(78,.slice (some ⟨bm,om,none⟩) M.length cm),(79,.int .i64 M.length),(80,.int .i64 k)] (⟨(env 12).1,0,cSp u,some 24,2⟩::⟨(env 13).1,0,cSp v,some 24,2⟩::⟨b5,0,cur.flatMap cSp,some 149,96⟩::⟨b15,0,cMt x,some 44,6⟩::⟨b6,0,zRc.flatMap cSp,some 149,96⟩::⟨b3,0,cRm R ⟨a1,c1,a2,c2,a3,c3⟩,some 32,5⟩::H) _
    generalize (env 12).1 = bu
    generalize (env 13).1 = bv
    clear env
    refine X.permH (H' := ⟨b5,0,cur.flatMap cSp,some 149,96⟩::⟨bu,0,cSp u,some 24,2⟩::⟨bv,0,cSp v,some 24,2⟩::⟨b15,0,cMt x,some 44,6⟩::⟨b6,0,zRc.flatMap cSp,some 149,96⟩::⟨b3,0,cRm R ⟨a1,c1,a2,c2,a3,c3⟩,some 32,5⟩::H) (List.perm_middle (l₁:=[_,_])).symm ?_
    obtain ⟨g1,hg1⟩ : ∃ g1,g1 = (ag || w1):=⟨_,rfl⟩
    obtain ⟨g2,hg2⟩ : ∃ g2,g2 = (g1 || w2):=⟨_,rfl⟩
    rw [← hg1, ← hg2] at hset
    refine uS rfl ?_
    refine X.toN (F1:=[(1,.slice (some ⟨bm,om,none⟩) M.length cm),(3,.pointer (some ⟨b3,0,none⟩)),(5,.pointer (some ⟨b5,0,none⟩)),(6,.pointer (some ⟨b6,0,none⟩)),(7,.bool false),(8,.bool g1),(15,.pointer (some ⟨b15,0,none⟩)),(16,.int .i64 ia),(17,.int .i64 ib),(18,.pointer (some ⟨bu,0,none⟩)),(19,.pointer (some ⟨bv,0,none⟩)),(78,.slice (some ⟨bm,om,none⟩) M.length cm),(79,.int .i64 M.length),(80,.int .i64 k)]) (H1:=⟨b5,0,l1.flatMap cSp,some 149,96⟩::⟨bu,0,cSp u,some 24,2⟩::⟨bv,0,cSp v,some 24,2⟩::⟨b15,0,cMt x,some 44,6⟩::⟨b6,0,zRc.flatMap cSp,some 149,96⟩::⟨b3,0,cRm R ⟨a1,c1,a2,c2,a3,c3⟩,some 32,5⟩::H) ?_ ?_
    ·refine uS rfl ?_
     refine X.regionOb tsCf [1,3,5,6,7,8,15,16,17,18,19,78,79,80] [(1,(.slice (some ⟨bm,om,none⟩) M.length cm)),(3,.pointer (some ⟨b3,0,none⟩)),(5,.pointer (some ⟨b5,0,none⟩)),(6,.pointer (some ⟨b6,0,none⟩)),(7,.bool false),(8,.bool ag),(15,.pointer (some ⟨b15,0,none⟩)),(16,.int .i64 (ia : Nat)),(17,.int .i64 (ib : Nat)),(18,.pointer (some ⟨bu,0,none⟩)),(19,.pointer (some ⟨bv,0,none⟩)),(78,(.slice (some ⟨bm,om,none⟩) M.length cm)),(79,(.int .i64 M.length)),(80,(.int .i64 k))] (valCf b3 b5 b6 b15 R ⟨a1,c1,a2,c2,a3,c3⟩ x ag (.slice (some ⟨bm,om,none⟩) M.length cm) (.int .i64 M.length) (.int .i64 k) ia ib bu bv u v cur l1 w1) (rowsCf b3 b5 b6 b15 R ⟨a1,c1,a2,c2,a3,c3⟩ x ag (.slice (some ⟨bm,om,none⟩) M.length cm) (.int .i64 M.length) (.int .i64 k) ia ib bu bv u v cur l1 w1) (fun _=>(0,0)) (⟨bu,0,cSp u,some 24,2⟩::⟨bv,0,cSp v,some 24,2⟩::⟨b15,0,cMt x,some 44,6⟩::⟨b6,0,zRc.flatMap cSp,some 149,96⟩::⟨b3,0,cRm R ⟨a1,c1,a2,c2,a3,c3⟩,some 32,5⟩::H) rfl mixed (by repeat (first | exact uU _ | refine uV rfl ?_)) rfl (by kernel_rfl) (locCf b3 b5 b6 b15 R ⟨a1,c1,a2,c2,a3,c3⟩ x ag (.slice (some ⟨bm,om,none⟩) M.length cm) (.int .i64 M.length) (.int .i64 k) ia ib bu bv u v cur l1 w1) (qR _) ?_ ?_
     ·repeat' (first | exact AllF.done rfl | (refine AllF.step rfl ?_ ?_;·(first | fail | ((first | refine Ob.ng rfl ?_);(first | exact ObK.pure (fun env R hR=>by exact ⟨_,uM rfl rfl,rfl⟩) rfl (fun _=>rfl) | exact ObK.pure (fun env R hR=>by exact ⟨_,uF rfl rfl (te rfl) rfl (te rfl) (by decide),rfl⟩) rfl (fun _=>rfl) | exact ObK.pure (fun env R hR=>by exact ⟨_,uL rfl rfl (uO (te rfl) rfl (hR _ (qT _ (qH _))) rfl),rfl⟩) rfl (fun _=>rfl) | exact ObK.pure (fun env R hR=>by exact ⟨_,uL rfl rfl (uO (te rfl) rfl (hR _ (qT _ (qT _ (qH _)))) rfl),rfl⟩) rfl (fun _=>rfl)|((refine ObK.pure (fun env S hS=>⟨.pointer (some ⟨b5,0 + ia * 24,none⟩),?_,rfl⟩) rfl (fun _=>rfl);exact EvF.indexArray (i:=(ia : Int)) (off:=0) (b:=b5) (T:=149) (e:=147) (len:=4) rfl rfl rfl (te rfl) (te rfl) (by omega) (by omega)))|((refine ObK.pure (fun env S hS=>⟨.pointer (some ⟨b5,0 + ia * 24 + x.month.toNat * 2,none⟩),?_,rfl⟩) rfl (fun _=>rfl);exact EvF.indexArray (i:=x.month) (off:=0 + ia * 24) (b:=b5) (T:=147) (e:=24) (len:=12) rfl rfl rfl (te rfl) (te rfl) (by omega) (by omega)))|(exact fun env S hS=>(OpF.call (uT rfl (Args.cons rfl (Args.cons rfl (Args.cons rfl Args.nil)))) (hn1 S)).mono (fun v H' ⟨hv,hH⟩=>⟨(0,0),fun _=>hv,by rw [hH];exact List.Perm.refl _⟩))|(exact ObK.pure (fun env S hS=>⟨_,EvF.add64 rfl rfl rfl (by omega) (by omega),rfl⟩) rfl (fun _=>rfl)))))))
     intro env t ha2 hv;refine ⟨_,ha2.cons (hv 17 121 (Nat.le_of_ble_eq_true rfl) rfl),?_⟩;clear hv ha2
     show X _ _ _ [(121,.bool w1),(1,.slice (some ⟨bm,om,none⟩) M.length cm),(3,.pointer (some ⟨b3,0,none⟩)),(5,.pointer (some ⟨b5,0,none⟩)),(6,.pointer (some ⟨b6,0,none⟩)),(7,.bool false),(8,.bool ag),(15,.pointer (some ⟨b15,0,none⟩)),(16,.int .i64 ia),(17,.int .i64 ib),(18,.pointer (some ⟨bu,0,none⟩)),(19,.pointer (some ⟨bv,0,none⟩)),(78,.slice (some ⟨bm,om,none⟩) M.length cm),(79,.int .i64 M.length),(80,.int .i64 k)] (⟨b5,0,l1.flatMap cSp,some 149,96⟩::⟨bu,0,cSp u,some 24,2⟩::⟨bv,0,cSp v,some 24,2⟩::⟨b15,0,cMt x,some 44,6⟩::⟨b6,0,zRc.flatMap cSp,some 149,96⟩::⟨b3,0,cRm R ⟨a1,c1,a2,c2,a3,c3⟩,some 32,5⟩::H) _
     clear env
     refine X.iteB rfl rfl (fun q=>?_) (fun q=>?_)
     ·have qg : g1 = true:=by rw [hg1,q];simp
      rw [qg]
      repeat' (first | (refine uP rfl ?_;(first | ((first | refine uN rfl ?_);(first | (refine uE (uA rfl rfl) rfl rfl ?_)))))|(refine uD rfl ?_;refine hK _ _ ?_;clear hK K) | refine uR rfl (fun K hK=>?_))
      exact ⟨rfl,(by repeat (first | exact uU _ | refine uV rfl ?_)),(by repeat (first | exact qR _ | apply qK | apply qC))⟩
     ·have qg : g1 = ag:=by rw [hg1,q];simp
      rw [qg]
      exact X.skip rfl ⟨rfl,(by repeat (first | exact uU _ | refine uV rfl ?_)),(by repeat (first | exact qR _ | apply qK | apply qC))⟩
    ·refine X.toQ (F1:=[(1,.slice (some ⟨bm,om,none⟩) M.length cm),(3,.pointer (some ⟨b3,0,none⟩)),(5,.pointer (some ⟨b5,0,none⟩)),(6,.pointer (some ⟨b6,0,none⟩)),(7,.bool false),(8,.bool g2),(15,.pointer (some ⟨b15,0,none⟩)),(16,.int .i64 ia),(17,.int .i64 ib),(18,.pointer (some ⟨bu,0,none⟩)),(19,.pointer (some ⟨bv,0,none⟩)),(78,.slice (some ⟨bm,om,none⟩) M.length cm),(79,.int .i64 M.length),(80,.int .i64 k)]) (H1:=⟨b5,0,l2.flatMap cSp,some 149,96⟩::⟨bu,0,cSp u,some 24,2⟩::⟨bv,0,cSp v,some 24,2⟩::⟨b15,0,cMt x,some 44,6⟩::⟨b6,0,zRc.flatMap cSp,some 149,96⟩::⟨b3,0,cRm R ⟨a1,c1,a2,c2,a3,c3⟩,some 32,5⟩::H) ?_ (fun F' H' q1 q2=>?_)
     ·refine uS rfl ?_
      refine X.regionOb tsCg [1,3,5,6,7,8,15,16,17,18,19,78,79,80] [(1,(.slice (some ⟨bm,om,none⟩) M.length cm)),(3,.pointer (some ⟨b3,0,none⟩)),(5,.pointer (some ⟨b5,0,none⟩)),(6,.pointer (some ⟨b6,0,none⟩)),(7,.bool false),(8,.bool g1),(15,.pointer (some ⟨b15,0,none⟩)),(16,.int .i64 (ia : Nat)),(17,.int .i64 (ib : Nat)),(18,.pointer (some ⟨bu,0,none⟩)),(19,.pointer (some ⟨bv,0,none⟩)),(78,(.slice (some ⟨bm,om,none⟩) M.length cm)),(79,(.int .i64 M.length)),(80,(.int .i64 k))] (valCg b3 b5 b6 b15 R ⟨a1,c1,a2,c2,a3,c3⟩ x g1 (.slice (some ⟨bm,om,none⟩) M.length cm) (.int .i64 M.length) (.int .i64 k) ia ib bu bv u v l1 l2 w2) (rowsCg b3 b5 b6 b15 R ⟨a1,c1,a2,c2,a3,c3⟩ x g1 (.slice (some ⟨bm,om,none⟩) M.length cm) (.int .i64 M.length) (.int .i64 k) ia ib bu bv u v l1 l2 w2) (fun _=>(0,0)) (⟨bu,0,cSp u,some 24,2⟩::⟨bv,0,cSp v,some 24,2⟩::⟨b15,0,cMt x,some 44,6⟩::⟨b6,0,zRc.flatMap cSp,some 149,96⟩::⟨b3,0,cRm R ⟨a1,c1,a2,c2,a3,c3⟩,some 32,5⟩::H) rfl mixed (by repeat (first | exact uU _ | refine uV rfl ?_)) rfl (by kernel_rfl) (locCg b3 b5 b6 b15 R ⟨a1,c1,a2,c2,a3,c3⟩ x g1 (.slice (some ⟨bm,om,none⟩) M.length cm) (.int .i64 M.length) (.int .i64 k) ia ib bu bv u v l1 l2 w2) (qR _) ?_ ?_
      ·repeat' (first | exact AllF.done rfl | (refine AllF.step rfl ?_ ?_;·(first | fail | ((first | refine Ob.ng rfl ?_);(first | exact ObK.pure (fun env R hR=>by exact ⟨_,uM rfl rfl,rfl⟩) rfl (fun _=>rfl) | exact ObK.pure (fun env R hR=>by exact ⟨_,uF rfl rfl (te rfl) rfl (te rfl) (by decide),rfl⟩) rfl (fun _=>rfl) | exact ObK.pure (fun env R hR=>by exact ⟨_,uL rfl rfl (uO (te rfl) rfl (hR _ (qH _)) rfl),rfl⟩) rfl (fun _=>rfl) | exact ObK.pure (fun env R hR=>by exact ⟨_,uL rfl rfl (uO (te rfl) rfl (hR _ (qT _ (qT _ (qH _)))) rfl),rfl⟩) rfl (fun _=>rfl)|((refine ObK.pure (fun env S hS=>⟨.pointer (some ⟨b5,0 + ib * 24,none⟩),?_,rfl⟩) rfl (fun _=>rfl);exact EvF.indexArray (i:=(ib : Int)) (off:=0) (b:=b5) (T:=149) (e:=147) (len:=4) rfl rfl rfl (te rfl) (te rfl) (by omega) (by omega)))|((refine ObK.pure (fun env S hS=>⟨.pointer (some ⟨b5,0 + ib * 24 + x.month.toNat * 2,none⟩),?_,rfl⟩) rfl (fun _=>rfl);exact EvF.indexArray (i:=x.month) (off:=0 + ib * 24) (b:=b5) (T:=147) (e:=24) (len:=12) rfl rfl rfl (te rfl) (te rfl) (by omega) (by omega)))|(exact fun env S hS=>(OpF.call (uT rfl (Args.cons rfl (Args.cons rfl (Args.cons rfl Args.nil)))) (hn2 S)).mono (fun v H' ⟨hv,hH⟩=>⟨(0,0),fun _=>hv,by rw [hH];exact List.Perm.refl _⟩))|(exact ObK.pure (fun env S hS=>⟨_,EvF.sub64 rfl rfl rfl (by omega) (by omega),rfl⟩) rfl (fun _=>rfl)))))))
      intro env t ha2 hv;refine ⟨_,ha2.cons (hv 17 139 (Nat.le_of_ble_eq_true rfl) rfl),?_⟩;clear hv ha2
      show X _ _ _ [(139,.bool w2),(1,.slice (some ⟨bm,om,none⟩) M.length cm),(3,.pointer (some ⟨b3,0,none⟩)),(5,.pointer (some ⟨b5,0,none⟩)),(6,.pointer (some ⟨b6,0,none⟩)),(7,.bool false),(8,.bool g1),(15,.pointer (some ⟨b15,0,none⟩)),(16,.int .i64 ia),(17,.int .i64 ib),(18,.pointer (some ⟨bu,0,none⟩)),(19,.pointer (some ⟨bv,0,none⟩)),(78,.slice (some ⟨bm,om,none⟩) M.length cm),(79,.int .i64 M.length),(80,.int .i64 k)] (⟨b5,0,l2.flatMap cSp,some 149,96⟩::⟨bu,0,cSp u,some 24,2⟩::⟨bv,0,cSp v,some 24,2⟩::⟨b15,0,cMt x,some 44,6⟩::⟨b6,0,zRc.flatMap cSp,some 149,96⟩::⟨b3,0,cRm R ⟨a1,c1,a2,c2,a3,c3⟩,some 32,5⟩::H) _
      clear env
      refine X.iteB rfl rfl (fun q=>?_) (fun q=>?_)
      ·have qg : g2 = true:=by rw [hg2,q];simp
       rw [qg]
       repeat' (first | (refine uP rfl ?_;(first | ((first | refine uN rfl ?_);(first | (refine uE (uA rfl rfl) rfl rfl ?_)))))|(refine uD rfl ?_;refine hK _ _ ?_;clear hK K) | refine uR rfl (fun K hK=>?_))
       exact ⟨rfl,(by repeat (first | exact uU _ | refine uV rfl ?_)),(by repeat (first | exact qR _ | apply qK | apply qC))⟩
      ·have qg : g2 = g1:=by rw [hg2,q];simp
       rw [qg]
       exact X.skip rfl ⟨rfl,(by repeat (first | exact uU _ | refine uV rfl ?_)),(by repeat (first | exact qR _ | apply qK | apply qC))⟩
     ·show X _ _ _ F' H' _
      refine X.weak q1 q2 ?_
      repeat' (first | (refine uP rfl ?_;(first | ((first | refine uN rfl ?_);(first | (refine uE (uM rfl rfl) rfl rfl ?_)|(refine uE (EvF.add64 rfl rfl rfl (by omega) (by omega)) rfl rfl ?_)))))|(refine uD rfl ?_;refine hK _ _ ?_;clear hK K) | refine uR rfl (fun K hK=>?_))
      exact ⟨_,_,⟨b5,0,l2.flatMap cSp,some 149,96⟩::⟨b6,0,zRc.flatMap cSp,some 149,96⟩::⟨b3,0,cRm R ⟨a1,c1,a2,c2,a3,c3⟩,some 32,5⟩::H,(by repeat (first | exact uU _ | refine uV rfl ?_)),(by repeat (first | exact qR _ | apply qK | apply qC)),⟨k + 1,l2,g2,rfl,by omega,hset,rfl,rfl⟩,by omega⟩
   ·-- the check
    have hk2 : k = M.length:=by omega
    clear h hk
    subst hk2
    refine X.lp rfl (fun q F' H' => ∃ (i : Nat),q = R.boxes.length - i∧i ≤ R.boxes.length∧Ch R cur i 0∧H' = ⟨b5,0,cur.flatMap cSp,some 149,96⟩::⟨b6,0,zRc.flatMap cSp,some 149,96⟩::⟨b3,0,cRm R ⟨a1,c1,a2,c2,a3,c3⟩,some 32,5⟩::H∧F' = [(1,.slice am M.length cm),(3,.pointer (some ⟨b3,0,none⟩)),(5,.pointer (some ⟨b5,0,none⟩)),(6,.pointer (some ⟨b6,0,none⟩)),(7,.bool false),(8,.bool ag),(142,.slice a2 R.boxes.length c2),(143,.int .i64 R.boxes.length),(144,.int .i64 i)])
     R.boxes.length [(1,.slice am M.length cm),(3,.pointer (some ⟨b3,0,none⟩)),(5,.pointer (some ⟨b5,0,none⟩)),(6,.pointer (some ⟨b6,0,none⟩)),(7,.bool false),(8,.bool ag),(142,.slice a2 R.boxes.length c2),(143,.int .i64 R.boxes.length),(144,.int .i64 (0 : Nat))] _ (by repeat (first | exact uU _ | refine uV rfl ?_)) (qR _) ⟨0,by omega,by omega,Ch.zero ok0,rfl,rfl⟩ ?_
    rintro _ _ _ ⟨i,rfl,hi,hCh,rfl,rfl⟩
    repeat' (first | (refine uP rfl ?_;(first | ((first | refine uN rfl ?_);(first | (refine uE (uM rfl rfl) rfl rfl ?_)|(refine uE (uQ rfl rfl rfl rfl) rfl rfl ?_)))))|(refine uD rfl ?_;refine hK _ _ ?_;clear hK K) | refine uS rfl ?_ | refine uR rfl (fun K hK=>?_) | refine X.block rfl ?_ | (refine X.brk rfl ?_;repeat (first | refine blockX_hit rfl ?_ | refine blockX_miss (by decide) ?_)) | refine X.skip rfl ?_ | (refine X.ite rfl rfl (fun hc=>?_);(first | (with_reducible refine Xb.case hc (fun h=>?_) (fun h=>?_))) <;> clear hc))
    ·obtain ⟨b0,off,e,rfl,he⟩:=hR.boxes.elem (i:=i) (by omega)
     have hmem:=List.mem_of_getElem? he
     have hbx:=okBoxes_mem _ _ _ hr.bx e hmem
     obtain ⟨m0,hm0⟩ : ∃ m0 : Nat,(m0 : Int)=e.made:=⟨e.made.toNat,by omega⟩
     repeat' (first | (refine uP rfl ?_;(first | ((first | refine uN rfl ?_);(first | (refine uE (uL rfl rfl (LoadV.elA0 (hR.boxes.sub (fun _ h=>by repeat (first | exact h | apply qT))) he (te rfl) rfl (fun _ hm=>hm) rfl)) rfl rfl ?_)|(refine uE (uA rfl rfl) rfl rfl ?_)|(refine uE (uF rfl rfl (te rfl) rfl (te rfl) (by decide)) rfl rfl ?_)|(refine uE (EvF.indexSlice rfl rfl rfl (te rfl) (te rfl) (by omega) (by omega)) rfl rfl ?_)|(refine uE (uL rfl rfl (uO (te rfl) rfl (qH _) rfl)) rfl rfl ?_)|(refine Xg.st (StF.alloc rfl Tryz.zeroValue24 rfl) rfl rfl ?_;rintro _ _ ⟨bx,rfl,rfl⟩)|(refine Xg.st0 (StF.storeAll (i:=0) rfl rfl rfl (te rfl) rfl rfl rfl rfl) rfl ?_;rintro _ _ ⟨rfl,rfl⟩;dsimp only [List.set])))))|(refine uD rfl ?_;refine hK _ _ ?_;clear hK K) | refine uS rfl ?_ | refine uR rfl (fun K hK=>?_) | refine X.block rfl ?_)
     rename Nat=>b10
     refine X.permH (H' := ⟨b5,0,cur.flatMap cSp,some 149,96⟩::⟨b10,0,cBx e,some 47,2⟩::⟨b6,0,zRc.flatMap cSp,some 149,96⟩::⟨b3,0,cRm R ⟨a1,c1,some ⟨b0,off,none⟩,c2,a3,c3⟩,some 32,5⟩::H) (List.Perm.swap _ _ _) ?_
     refine X.lp rfl (fun q F' H' => ∃ (m : Nat),q = R.months.toNat - m∧(m : Int)≤R.months∧e.made ≤ m∧Ch R cur i m∧H' = ⟨b5,0,cur.flatMap cSp,some 149,96⟩::⟨b10,0,cBx e,some 47,2⟩::⟨b6,0,zRc.flatMap cSp,some 149,96⟩::⟨b3,0,cRm R ⟨a1,c1,some ⟨b0,off,none⟩,c2,a3,c3⟩,some 32,5⟩::H∧F' = [(1,.slice am M.length cm),(3,.pointer (some ⟨b3,0,none⟩)),(5,.pointer (some ⟨b5,0,none⟩)),(6,.pointer (some ⟨b6,0,none⟩)),(7,.bool false),(8,.bool ag),(20,.int .i64 i),(21,.pointer (some ⟨b10,0,none⟩)),(22,.int .i64 m),(142,.slice (some ⟨b0,off,none⟩) R.boxes.length c2),(143,.int .i64 R.boxes.length),(144,.int .i64 i)])
      (R.months.toNat - m0) [(1,.slice am M.length cm),(3,.pointer (some ⟨b3,0,none⟩)),(5,.pointer (some ⟨b5,0,none⟩)),(6,.pointer (some ⟨b6,0,none⟩)),(7,.bool false),(8,.bool ag),(20,.int .i64 i),(21,.pointer (some ⟨b10,0,none⟩)),(22,.int .i64 m0),(142,.slice (some ⟨b0,off,none⟩) R.boxes.length c2),(143,.int .i64 R.boxes.length),(144,.int .i64 i)] _ (by rw [hm0];exact (by repeat (first | exact uU _ | refine uV rfl ?_))) (qR _) ⟨m0,rfl,by omega,by omega,by rw [hm0];exact hCh.start he (by omega),rfl,rfl⟩ ?_
     clear hCh
     rintro _ _ _ ⟨m,rfl,hm1,hme,hCh,rfl,rfl⟩
     repeat' (first | (refine uP rfl ?_;(first | ((first | refine uN rfl ?_);(first | (refine uE (uM rfl rfl) rfl rfl ?_)|(refine uE (uQ rfl rfl rfl rfl) rfl rfl ?_)|(refine uE (EvF.add64 rfl rfl rfl (by omega) (by omega)) rfl rfl ?_)|(refine uE (uF rfl rfl (te rfl) rfl (te rfl) (by decide)) rfl rfl ?_)|(refine uE (uL rfl rfl (uO (te rfl) rfl (qT _ (qT _ (qT _ (qH _)))) rfl)) rfl rfl ?_)))))|(refine uD rfl ?_;refine hK _ _ ?_;clear hK K) | refine uS rfl ?_ | refine uR rfl (fun K hK=>?_) | refine X.block rfl ?_ | (refine X.brk rfl ?_;repeat (first | refine blockX_hit rfl ?_ | refine blockX_miss (by decide) ?_)) | refine X.skip rfl ?_ | (refine X.ite rfl rfl (fun hc=>?_);(first | (with_reducible refine Xb.case hc (fun h=>?_) (fun h=>?_))) <;> clear hc))
     ·have hm2 : (m : Int)<R.months:=by omega
      have hil : i < R.boxes.length:=(List.getElem?_eq_some_iff.1 he).1
      have ht : there R e m:=⟨hmem,hme,by omega⟩
      have hcl2 : cur.length = 48:=by obtain ⟨n,_,h⟩:=hMa.nv;exact h.len
      obtain ⟨s,hs⟩ : ∃ s,s = sat cur (i * 12 + m):=⟨_,rfl⟩
      obtain ⟨w,hw⟩ : ∃ w,w = decide (s.lo > s.hi):=⟨_,rfl⟩
      obtain ⟨_,hlo,hhi⟩:=sp_cells cur (i * 12 + m) (by omega)
      rw [← hs,show (i * 12 + m) * 2 = 0 + i * 24 + m * 2 by omega] at hlo hhi
      refine X.regionOb tsCh9 [1,3,5,6,7,8,20,21,22,142,143,144] [(1,(.slice am M.length cm)),(3,.pointer (some ⟨b3,0,none⟩)),(5,.pointer (some ⟨b5,0,none⟩)),(6,.pointer (some ⟨b6,0,none⟩)),(7,.bool false),(8,.bool ag),(20,.int .i64 (i : Nat)),(21,.pointer (some ⟨b10,0,none⟩)),(22,.int .i64 (m : Nat)),(142,(.slice (some ⟨b0,off,none⟩) R.boxes.length c2)),(143,(.int .i64 R.boxes.length)),(144,(.int .i64 i))] (valCh9 b3 b5 b6 b10 i m s w ag (.slice am M.length cm) (.slice (some ⟨b0,off,none⟩) R.boxes.length c2) (.int .i64 R.boxes.length) (.int .i64 i)) (rowsCh9 b3 b5 b6 b10 i m s w ag (.slice am M.length cm) (.slice (some ⟨b0,off,none⟩) R.boxes.length c2) (.int .i64 R.boxes.length) (.int .i64 i)) (fun _=>(0,0)) (⟨b5,0,cur.flatMap cSp,some 149,96⟩::⟨b10,0,cBx e,some 47,2⟩::⟨b6,0,zRc.flatMap cSp,some 149,96⟩::⟨b3,0,cRm R ⟨a1,c1,some ⟨b0,off,none⟩,c2,a3,c3⟩,some 32,5⟩::H) rfl mixed (by repeat (first | exact uU _ | refine uV rfl ?_)) rfl (by kernel_rfl) (locCh9 b3 b5 b6 b10 i m s w ag (.slice am M.length cm) (.slice (some ⟨b0,off,none⟩) R.boxes.length c2) (.int .i64 R.boxes.length) (.int .i64 i)) (qR _) ?_ ?_
      ·repeat' (first | exact AllF.done rfl | (refine AllF.step rfl ?_ ?_;·(first | fail | ((first | refine Ob.ng rfl ?_);(first | exact ObK.pure (fun env R hR=>by exact ⟨_,uM rfl rfl,rfl⟩) rfl (fun _=>rfl) | exact ObK.pure (fun env R hR=>by exact ⟨_,uF rfl rfl (te rfl) rfl (te rfl) (by decide),rfl⟩) rfl (fun _=>rfl)|((refine ObK.pure (fun env S hS=>⟨.pointer (some ⟨b5,0 + i * 24,none⟩),?_,rfl⟩) rfl (fun _=>rfl);exact EvF.indexArray (i:=(i : Int)) (off:=0) (b:=b5) (T:=149) (e:=147) (len:=4) rfl rfl rfl (te rfl) (te rfl) (by omega) (by omega)))|((refine ObK.pure (fun env S hS=>⟨.pointer (some ⟨b5,0 + i * 24 + m * 2,none⟩),?_,rfl⟩) rfl (fun _=>rfl);exact EvF.indexArray (i:=(m : Int)) (off:=0 + i * 24) (b:=b5) (T:=147) (e:=24) (len:=12) rfl rfl rfl (te rfl) (te rfl) (by omega) (by omega)))|(exact ObK.pure (fun env S hS=>⟨_,uL rfl rfl (uO (te rfl) rfl (hS _ (qH _)) hlo),rfl⟩) rfl (fun _=>rfl))|(exact ObK.pure (fun env S hS=>⟨_,uL rfl rfl (uO (te rfl) rfl (hS _ (qH _)) hhi),rfl⟩) rfl (fun _=>rfl))|(exact ObK.pure (fun env S hS=>⟨_,uQ (b:=w) rfl rfl rfl (congrArg some hw.symm),rfl⟩) rfl (fun _=>rfl)))))))
      intro env t ha2 hv;refine ⟨_,ha2.cons (hv 12 169 (Nat.le_of_ble_eq_true rfl) rfl),?_⟩;clear hv ha2
      show X _ _ _ [(169,.bool w),(1,.slice am M.length cm),(3,.pointer (some ⟨b3,0,none⟩)),(5,.pointer (some ⟨b5,0,none⟩)),(6,.pointer (some ⟨b6,0,none⟩)),(7,.bool false),(8,.bool ag),(20,.int .i64 i),(21,.pointer (some ⟨b10,0,none⟩)),(22,.int .i64 m),(142,.slice (some ⟨b0,off,none⟩) R.boxes.length c2),(143,.int .i64 R.boxes.length),(144,.int .i64 i)] (⟨b5,0,cur.flatMap cSp,some 149,96⟩::⟨b10,0,cBx e,some 47,2⟩::⟨b6,0,zRc.flatMap cSp,some 149,96⟩::⟨b3,0,cRm R ⟨a1,c1,some ⟨b0,off,none⟩,c2,a3,c3⟩,some 32,5⟩::H) _
      clear env
      cases w with
      | true =>
       have hf:=hCl.fail hMa ht (by rw [cel_box hr.bx he,show (m : Int).toNat = m from rfl, ← hs];exact of_decide_eq_true hw.symm)
       have hll : (cur.flatMap cSp).length = 96:=by rw [sp_len,hcl2]
       repeat' (first | (refine uP rfl ?_;(first | ((first | refine uN rfl ?_);(first | (refine uE (uL rfl rfl (uW (te rfl) rfl (qH _) hll)) rfl rfl ?_)|(refine Xg.st0 (StF.storeAll (i:=2) (vs:=cur.flatMap cSp) (cs:=zRc.flatMap cSp) rfl rfl rfl (te rfl) rfl hll (sp_one cur) (by rw [hll,sp_len];rfl)) rfl ?_;rintro _ _ ⟨rfl,rfl⟩;dsimp only [List.set])|(refine uE (uA rfl rfl) rfl rfl ?_)))))|(refine uD rfl ?_;refine hK _ _ ?_;clear hK K) | refine uS rfl ?_ | refine uR rfl (fun K hK=>?_) | refine X.ret rfl ?_ | (refine X.ite rfl rfl (fun hc=>?_);(first | (with_reducible refine Xb.t hc ?_)) <;> clear hc))
       exact ret_two (v := .agg (cur.flatMap cSp).toArray) (by simp) Tryz.results124 ⟨_,rfl,uW (te rfl) rfl (qT _ (qT _ (qH _))) hll⟩ rfl (H' := H) (by repeat (first | exact qR _ | apply qK | apply qC)) ⟨cur,rfl,.inr ⟨hf.1,hf.2,rfl⟩⟩
      | false =>
       have hns:=of_decide_eq_false hw.symm
       repeat' (first | (refine uP rfl ?_;(first | ((first | refine uN rfl ?_);(first | (refine uE (uM rfl rfl) rfl rfl ?_)|(refine uE (uA rfl rfl) rfl rfl ?_)|(refine uE (EvF.add64 rfl rfl rfl (by omega) (by omega)) rfl rfl ?_)))))|(refine uD rfl ?_;refine hK _ _ ?_;clear hK K) | refine uR rfl (fun K hK=>?_) | refine X.skip rfl ?_ | (refine X.ite rfl rfl (fun hc=>?_);(first | (with_reducible refine Xb.f hc ?_)) <;> clear hc))
       exact ⟨_,_,⟨b5,0,cur.flatMap cSp,some 149,96⟩::⟨b10,0,cBx e,some 47,2⟩::⟨b6,0,zRc.flatMap cSp,some 149,96⟩::⟨b3,0,cRm R ⟨a1,c1,some ⟨b0,off,none⟩,c2,a3,c3⟩,some 32,5⟩::H,(by repeat (first | exact uU _ | refine uV rfl ?_)),(by repeat (first | exact qR _ | apply qK | apply qC)),⟨m + 1,rfl,by omega,by omega,hCh.set (by rw [← hs];omega),rfl,rfl⟩,by omega⟩
     ·exact ⟨_,_,⟨b5,0,cur.flatMap cSp,some 149,96⟩::⟨b6,0,zRc.flatMap cSp,some 149,96⟩::⟨b3,0,cRm R ⟨a1,c1,some ⟨b0,off,none⟩,c2,a3,c3⟩,some 32,5⟩::H,(by repeat (first | exact uU _ | refine uV rfl ?_)),(by repeat (first | exact qR _ | apply qK | apply qC)),⟨i + 1,rfl,by omega,hCh.next hr (by omega),rfl,rfl⟩,by omega⟩
    ·have hi2 : i = R.boxes.length:=by omega
     subst hi2
     obtain ⟨hn,hw0,hw1⟩:=hCl.next hr hMa (hCh.done hr)
     refine ⟨_,_,⟨b5,0,cur.flatMap cSp,some 149,96⟩::⟨b6,0,zRc.flatMap cSp,some 149,96⟩::⟨b3,0,cRm R ⟨a1,c1,a2,c2,a3,c3⟩,some 32,5⟩::H,(by repeat (first | exact uU _ | refine uV rfl ?_)),(by repeat (first | exact qR _ | apply qK | apply qC)),⟨cur,ag,rfl,hn,rfl,rfl⟩,?_⟩
     cases ag with
     | true=>have:=hw1 rfl;simp only [if_true];omega
     | false=>simp
 ·-- the end
  cases a with
  | true=>exact absurd h (by decide)
  | false =>
   have hll : (l0.flatMap cSp).length = 96:=by rw [sp_len,hCl.len]
   repeat' (first | (refine uP rfl ?_;(first | ((first | refine uN rfl ?_);(first | (refine uE (uL rfl rfl (uW (te rfl) rfl (qH _) hll)) rfl rfl ?_)|(refine Xg.st0 (StF.storeAll (i:=1) (vs:=l0.flatMap cSp) (cs:=zRc.flatMap cSp) rfl rfl rfl (te rfl) rfl hll (sp_one l0) (by rw [hll,sp_len];rfl)) rfl ?_;rintro _ _ ⟨rfl,rfl⟩;dsimp only [List.set])|(refine uE (uA rfl rfl) rfl rfl ?_)))))|(refine uD rfl ?_;refine hK _ _ ?_;clear hK K) | refine X.ret rfl ?_)
   exact ret_two (v := .agg (l0.flatMap cSp).toArray) (by simp) Tryz.results124 ⟨_,rfl,uW (te rfl) rfl (qT _ (qH _)) hll⟩ rfl (H' := H) (by repeat (first | exact qR _ | apply qK | apply qC)) ⟨l0,rfl,.inl ⟨hCl.done,rfl⟩⟩
end Go.Proofs.YtmfppdpkalelhaaGreat
end
section
set_option linter.unusedVariables false
set_option linter.unusedSimpArgs false
namespace Go.Proofs.YtmfppdpkalelhaaGreat
open Go Go.Fw
set_option maxRecDepth 10000
def bnd (B : Int) (l : List Int) : Prop := ∀ i,i < l.length → -B ≤ gt0 l i∧gt0 l i ≤ 1048576
theorem bnd.mono {B C : Int} {l : List Int} (h : bnd B l) (hc : B ≤ C) : bnd C l:=fun i hi=>by have:=h i hi;omega
theorem bnd_rlx {B : Int} {l : List Int} {e : Ed} (h : bnd B l) (ha : e.a < l.length) (hb : e.b < l.length) (hw : -60 ≤ e.w∧e.w ≤ 60) : bnd (B + 60) (rlx l e):=by
 intro i hi
 rw [rlx_len] at hi
 rw [gt0_rlx l e i ha]
 have h1:=h e.a ha
 have h2:=h e.b hb
 have h3:=h i hi
 split <;> omega
theorem bnd_rnd : ∀ (es : List Ed) (l : List Int) (B : Int),bnd B l → inE l.length es → (∀ e ∈ es, -60 ≤ e.w∧e.w ≤ 60) → bnd (B + 60 * es.length) (rnd es l)
 | [],l,B,h,_,_=>by
  have : B + 60 * (([] : List Ed).length : Int)=B:=by simp
  rw [this];exact h
 | e::es,l,B,h,hi,hw=>by
  have h1:=hi e List.mem_cons_self
  have h2:=bnd_rnd es (rlx l e) (B + 60) (bnd_rlx h h1.1 h1.2 (hw e List.mem_cons_self)) (by rw [rlx_len];exact fun f hf=>hi f (List.mem_cons_of_mem _ hf)) (fun f hf=>hw f (List.mem_cons_of_mem _ hf))
  refine h2.mono ?_
  simp only [List.length_cons]
  omega
theorem bds_w {R : Rm} {M : List Mt} (hr : okRm R) (hm : matsThere R M) : ∀ d ∈ bds R M, -60 ≤ d.s.lo∧d.s.lo ≤ 60 ∧ -60 ≤ d.s.hi∧d.s.hi ≤ 60:=by
 intro d hd
 unfold bds at hd
 rcases List.mem_append.1 hd with hd | hd
 ·rcases List.mem_append.1 hd with hd | hd
  ·obtain ⟨b,hb,hd⟩:=List.mem_flatMap.1 hd
   obtain ⟨k,hk,rfl⟩:=List.mem_map.1 hd
   have hk:=List.mem_range.1 hk
   have ht : there R b (b.made + k):=⟨hb,by omega,by unfold nAge at hk;omega⟩
   have:=hr.age ht
   rw [show (b.made + (k : Int) - b.made).toNat = k by omega] at this
   dsimp only
   omega
  ·obtain ⟨i,hi,hd⟩:=List.mem_flatMap.1 hd
   unfold bdS1 at hd
   split at hd
   ·simp only [List.mem_cons,List.not_mem_nil,or_false] at hd
    subst hd
    have:=hr.s0
    have:=hr.s60
    dsimp only;omega
   ·exact absurd hd List.not_mem_nil
 ·obtain ⟨x,hx,rfl⟩:=List.mem_map.1 hd
  have:=(hm x hx).2.2
  dsimp only
  omega
theorem edges_w {B : List Bd} (h : ∀ d ∈ B, -60 ≤ d.s.lo∧d.s.lo ≤ 60 ∧ -60 ≤ d.s.hi∧d.s.hi ≤ 60) : ∀ e ∈ edges B, -60 ≤ e.w∧e.w ≤ 60:=by
 intro e he
 obtain ⟨d,hd,he⟩:=List.mem_flatMap.1 he
 have:=h d hd
 simp only [List.mem_cons,List.not_mem_nil,or_false] at he
 rcases he with rfl | rfl <;> dsimp only <;> omega
theorem edges_len (B : List Bd) : (edges B).length = 2 * B.length:=by
 unfold edges
 induction B with
 | nil=>rfl
 | cons d B ih=>rw [List.flatMap_cons,List.length_append,ih];simp only [List.length_cons,List.length_nil];omega
theorem flat_le {α β : Type} (f : α → List β) (n : Nat) : ∀ l : List α,(∀ a ∈ l,(f a).length ≤ n) → (l.flatMap f).length ≤ n * l.length
 | [],_=>by simp
 | a::l,h=>by
  have h1:=flat_le f n l (fun b hb=>h b (List.mem_cons_of_mem _ hb))
  have h2:=h a List.mem_cons_self
  rw [List.flatMap_cons,List.length_append,List.length_cons,Nat.mul_succ]
  omega
theorem nAge_le {R : Rm} (hr : okRm R) {b : Bx} (hb : b ∈ R.boxes) : nAge R b ≤ 12:=by
 have:=okBoxes_mem _ _ _ hr.bx b hb
 have:=hr.m12
 unfold nAge
 omega
theorem plcs_len {R : Rm} (hr : okRm R) : (plcs R).length ≤ 49:=by
 have h1:=flat_le (agesOf R) 12 R.boxes (fun b hb=>by unfold agesOf;rw [List.length_map,List.length_range];exact nAge_le hr hb)
 have h2:=hr.b4
 unfold plcs
 rw [List.length_cons]
 omega
theorem bds_len {R : Rm} {M : List Mt} (hr : okRm R) (hM : M.length ≤ 1000) : (bds R M).length ≤ 1096:=by
 have h1 : (bdA R).length ≤ 12 * R.boxes.length:=flat_le _ 12 R.boxes (fun b hb=>by rw [List.length_map,List.length_range];exact nAge_le hr hb)
 have h2 : (bdS R).length ≤ 1 * (List.range ((plcs R).length - 1)).length:=flat_le (bdS1 R) 1 _ (fun i _=>by unfold bdS1;split <;> simp)
 have h3:=plcs_len hr
 have h4:=hr.b4
 rw [List.length_range] at h2
 unfold bds bdM
 rw [List.length_append,List.length_append,List.length_map]
 omega
end Go.Proofs.YtmfppdpkalelhaaGreat
end
section
set_option linter.unusedVariables false
namespace Go.Fw
open Go Go.RowKit
section
variable {P : Program} {H : List Row} {F : FS} {n : Nat} {o : Oper}
theorem wrap_u64 {q : Int} (h1 : 0 ≤ q) (h2 : q < 18446744073709551616) : IntKind.u64.wrap q = q:=by
 simp only [IntKind.wrap,IntKind.bits,IntKind.signed]
 have : q % 2 ^ 64 = q:=Int.emod_eq_of_lt h1 (by omega)
 simp;omega
/-- a mask of 32 bits -/
theorem EvF.mask32 {T T' : TypeId} {x y : Operand} {p : Int} (h : o.op = .binOp .and T x y T') (hx : evF F x = some (.int .u64 p)) (hy : evF F y = some (.int .u64 4294967295))
  (h0 : 0 ≤ p) (h1 : p < 4294967296) : EvF P n H F o (.int .u64 p):=by
 unfold EvF EvOp
 intro t ha B w0 w hS
 have e : (BitVec.ofInt 64 p &&& BitVec.ofInt 64 4294967295).toNat = p.toNat:=by
  rw [BitVec.toNat_and]
  have h2 : (BitVec.ofInt 64 p).toNat = p.toNat:=by
   rw [BitVec.toNat_ofInt]
   rw [Int.emod_eq_of_lt h0 (by omega)]
  have h3 : (BitVec.ofInt 64 4294967295).toNat = 2 ^ 32 - 1:=by decide
  rw [h2,h3,Nat.and_two_pow_sub_one_eq_mod,Nat.mod_eq_of_lt (by omega)]
 have hw : IntKind.u64.wrap ((p.toNat : Nat) : Int)=p:=by rw [wrap_u64 (by omega) (by omega)];omega
 have e' : (BitVec.ofInt 64 p &&& 4294967295#64).toNat = p.toNat:=e
 simp only [execOp,h,ha.ev hx,ha.ev hy,eqGuard,binOp,Op.intBits]
 simp [IntKind.bits,Sem.run_pure]
 exact (congrArg (fun (q : Nat)=>IntKind.u64.wrap (q : Int)) e').trans hw
/-- what is shifted out by 32 bits -/
theorem EvF.shr32 {T T' : TypeId} {x y : Operand} {p : Int} (h : o.op = .binOp .shr T x y T') (hx : evF F x = some (.int .u64 p)) (hy : evF F y = some (.int .u64 32))
  (h0 : 0 ≤ p) (h1 : p < 4294967296) : EvF P n H F o (.int .u64 0):=by
 unfold EvF EvOp
 intro t ha B w0 w hS
 have e : p.fdiv (2 ^ 32)=0:=by
  rw [Int.fdiv_eq_ediv_of_nonneg _ (by decide)]
  exact Int.ediv_eq_zero_of_lt h0 (by omega)
 have e2 : p.fdiv 4294967296 = 0:=e
 simp [execOp,h,ha.ev hx,ha.ev hy,eqGuard,binOp,Op.shift,IntKind.bits,e2]
theorem EvF.convU {S D : TypeId} {x : Operand} {k : IntKind} {q : Int} (h : o.op = .convert S D x) (hx : evF F x = some (.int k q)) (hs : (P.underlying S).isSome = true) (hd : P.underlying D = some (.int .u64)) (h1 : 0 ≤ q) (h2 : q < 18446744073709551616) : EvF P n H F o (.int .u64 q):=by
 unfold EvF EvOp
 intro t ha B w0 w hS
 have hw:=wrap_u64 h1 h2
 have e:=ha.ev hx
 obtain ⟨d,hd'⟩:=Option.isSome_iff_exists.mp hs
 simp [execOp,h,e,convert,run_underlying hd',run_underlying hd,Conv.intToInt,hw]
theorem EvF.mulU {T T' : TypeId} {x y : Operand} {p q : Int} (h : o.op = .binOp .mul T x y T') (hx : evF F x = some (.int .u64 p)) (hy : evF F y = some (.int .u64 q))
  (h1 : 0 ≤ p * q) (h2 : p * q < 18446744073709551616) : EvF P n H F o (.int .u64 (p * q)):=by
 have:=EvF.arith (P:=P) (n:=n) (H:=H) h hx hy rfl
 rwa [wrap_u64 h1 h2] at this
theorem EvF.addU {T T' : TypeId} {x y : Operand} {p q : Int} (h : o.op = .binOp .add T x y T') (hx : evF F x = some (.int .u64 p)) (hy : evF F y = some (.int .u64 q))
  (h1 : 0 ≤ p + q) (h2 : p + q < 18446744073709551616) : EvF P n H F o (.int .u64 (p + q)):=by
 have:=EvF.arith (P:=P) (n:=n) (H:=H) h hx hy rfl
 rwa [wrap_u64 h1 h2] at this
theorem zeros_rep (z : Value) (m : Nat) : ((Array.range (m * 1)).map ((#[z] : Array Value)[·% (#[z] : Array Value).size]!)).toList = List.replicate m z:=by
 apply List.ext_getElem
 ·simp
 ·intro i h1 h2
  simp [Nat.mod_one]
end
end Go.Fw
end
section
set_option linter.unusedVariables false
set_option linter.unusedSimpArgs false
namespace Go.Proofs.YtmfppdpkalelhaaGreat
open Go Go.Fw
set_option maxRecDepth 10000
def cPk (p : Pk) : List Value:=[.int .i64 p.box,.int .i64 p.month]
theorem lenPk (l : List Pk) : (l.flatMap cPk).length = l.length * 2:=flat_len (fun _ _=>rfl)
theorem elPk : ElT Tryz.prog 77 86 2 16:=⟨Tryz.underlying77,Tryz.t86,.agg #[.int .i64 0,.int .i64 0],by kernel_rfl,by kernel_rfl,by kernel_rfl,by kernel_rfl,rfl⟩
theorem eqPk (d : Nat) (e f : Pk) (w : World) : (Op.equalIn (d + 2) 86 (.agg (cPk e).toArray) (.agg (cPk f).toArray)).run Tryz.prog w = .ok (decide (e = f)) w:=by
 have hS : Tryz.prog.underlying 86 = some (.struct (Tryz.prog.fieldsOf 86)):=by kernel_rfl
 rw [run_equalIn_agg w (d + 1) 86 _ _ hS (by kernel_rfl)]
 simp only [Program.fieldsOf,Tryz.underlying86]
 go_simp
 obtain ⟨e1,e2⟩:=e
 obtain ⟨f1,f2⟩:=f
 by_cases h1 : e1 = f1 <;> by_cases h2 : e2 = f2 <;> simp [cPk,eqI,Result.andThen,h1,h2]
theorem indexPk_spec (l : List Pk) (a : Option Addr) (c : Nat) (x : Pk) (H : List Row) (hl : SlE H a cPk 2 l) (hb : l.length ≤ 9223372036854775807) :
  Fc Tryz.prog 116 [.slice a l.length c,.agg (cPk x).toArray] H (fun v H' => (∃ z,v = .int .i64 z∧IdxR (fun n=>decide (x = n)) l z)∧H' = H):=by
 refine Fc.mk (callable Tryz.call116) Tryz.func116 rfl Tryz.ntmps116 rfl ?_;dsimp only [fr]
 repeat' (first | (refine uP rfl ?_;(first | ((first | refine uN rfl ?_);(first | (refine uE (uM rfl rfl) rfl rfl ?_)|(refine uE (uA rfl rfl) rfl rfl ?_)|(refine uE (uQ rfl rfl rfl rfl) rfl rfl ?_)|(refine uE (EvF.lenSlice rfl rfl (te rfl)) rfl rfl ?_)|(refine Xg.st (StF.boxAgg rfl rfl) rfl rfl ?_;rintro _ _ ⟨bx,rfl,rfl⟩)))))|(refine uD rfl ?_;refine hK _ _ ?_;clear hK K)|(refine XQ.op rfl ?_;(first | ((first | refine Yo.ng rfl ?_);(first | (refine Yg.ev (uM rfl rfl) rfl rfl ?_)|(refine Yg.ev (uL rfl rfl (uW (te rfl) rfl (qH _) rfl)) rfl rfl ?_))))) | refine uS rfl ?_ | refine uR rfl (fun K hK=>?_) | refine X.regionD rfl mixed (by kernel_rfl) (fun K hK=>?_) | refine X.block rfl ?_ | (refine X.brk rfl ?_;repeat (first | refine blockX_hit rfl ?_ | refine blockX_miss (by decide) ?_)) | refine X.skip rfl ?_ | refine X.ret rfl ?_ | (refine X.ite rfl rfl (fun hc=>?_);(first | (with_reducible refine Xb.case hc (fun h=>?_) (fun h=>?_))) <;> clear hc))
 refine X.lp rfl (fun q F' H' => ∃ k : Nat,q = l.length - k∧k ≤ l.length∧(∀ i e,i < k → l[i]? = some e → x ≠ e)∧⟨bx,0,cPk x,some 86,2⟩::H = H' ∧
   F' = [(0,.slice a l.length c),(3,.pointer (some ⟨bx,0,none⟩)),(7,.int .i64 l.length),(8,.int .i64 k)])
  l.length [(0,.slice a l.length c),(3,.pointer (some ⟨bx,0,none⟩)),(7,.int .i64 l.length),(8,.int .i64 (0 : Nat))] _ (by repeat (first | exact uU _ | refine uV rfl ?_)) (by repeat (first | exact qR _ | apply qK | apply qC)) ⟨0,by omega,by omega,(fun i e hi=>absurd hi (by omega)),rfl,rfl⟩ ?_
 rintro _ _ H2 ⟨k,rfl,hk,hn,hH,rfl⟩
 subst hH
 repeat' (first | (refine uP rfl ?_;(first | ((first | refine uN rfl ?_);(first | (refine uE (uM rfl rfl) rfl rfl ?_)|(refine uE (uA rfl rfl) rfl rfl ?_)|(refine uE (uQ rfl rfl rfl rfl) rfl rfl ?_)|(refine uE (EvF.lenSlice rfl rfl (te rfl)) rfl rfl ?_)|(refine Xg.st (StF.boxAgg rfl rfl) rfl rfl ?_;rintro _ _ ⟨bx,rfl,rfl⟩)))))|(refine uD rfl ?_;refine hK _ _ ?_;clear hK K)|(refine XQ.op rfl ?_;(first | ((first | refine Yo.ng rfl ?_);(first | (refine Yg.ev (uM rfl rfl) rfl rfl ?_)|(refine Yg.ev (uL rfl rfl (uW (te rfl) rfl (qH _) rfl)) rfl rfl ?_))))) | refine uS rfl ?_ | refine uR rfl (fun K hK=>?_) | refine X.regionD rfl mixed (by kernel_rfl) (fun K hK=>?_) | refine X.block rfl ?_ | (refine X.brk rfl ?_;repeat (first | refine blockX_hit rfl ?_ | refine blockX_miss (by decide) ?_)) | refine X.skip rfl ?_ | refine X.ret rfl ?_ | (refine X.ite rfl rfl (fun hc=>?_);(first | (with_reducible refine Xb.case hc (fun h=>?_) (fun h=>?_))) <;> clear hc))
 ·obtain ⟨b,off,e,rfl,he⟩:=hl.elem (i:=k) (by omega)
  have hl1 : ∀ r,SlE (r::H) (some ⟨b,off,none⟩) cPk 2 l:=fun r=>hl.sub (fun _ h=>List.mem_cons_of_mem _ h)
  repeat' (first | (refine uP rfl ?_;(first | ((first | refine uN rfl ?_);(first | (refine uE (uM rfl rfl) rfl rfl ?_)|(refine uE (uA rfl rfl) rfl rfl ?_)|(refine uE (EvF.add64 rfl rfl rfl (by omega) (by omega)) rfl rfl ?_)))))|(refine uD rfl ?_;refine hK _ _ ?_;clear hK K)|(refine XQ.op rfl ?_;(first | ((first | refine Yo.ng rfl ?_);(first | (refine Yg.ev (uL rfl rfl (LoadV.elA0 (hl1 _) he (te rfl) rfl (fun _ hm=>hm) rfl)) rfl rfl ?_)|(refine Yg.ev (EvF.eqSt rfl rfl rfl (by kernel_rfl) (fun w=>eqPk 9998 x e w) rfl) rfl rfl ?_)|(refine Yg.ev (EvF.indexSlice rfl rfl rfl (te rfl) (te rfl) (by omega) (by omega)) rfl rfl ?_)))))|(refine XQ.done rfl ?_;refine hK _ ?_;clear hK K) | refine uS rfl ?_ | refine uR rfl (fun K hK=>?_) | refine X.skip rfl ?_ | refine X.ret rfl ?_ | (refine X.ite rfl rfl (fun hc=>?_);(first | (with_reducible refine Xb.case hc (fun h=>?_) (fun h=>?_))) <;> clear hc))
  ·refine ret_one (by simp) Tryz.results116 rfl (H' := H) (by (repeat (first | exact qR _ | apply qC));done) ?_;simp only [and_true,true_and]
   refine ⟨_,rfl,.inr ⟨k,e,rfl,he,decide_eq_true (by assumption),fun i e hi he=>decide_eq_false (hn i e hi he)⟩⟩
  ·refine ⟨_,_,_,(by repeat (first | exact uU _ | refine uV rfl ?_)),(by repeat (first | exact qR _ | apply qK | apply qC)),⟨k + 1,rfl,by omega,(fun i e' hi he' => ?_),rfl,rfl⟩,by omega⟩
   rcases Nat.lt_or_ge i k with h1 | h1
   ·exact hn i e' h1 he'
   ·obtain rfl : i = k:=by omega
    rw [he] at he';cases he';assumption
 ·refine ret_one (by simp) Tryz.results116 rfl (H' := H) (by (repeat (first | exact qR _ | apply qC));done) ?_;simp only [and_true,true_and]
  refine ⟨_,rfl,.inl ⟨rfl,fun e he=>?_⟩⟩
  obtain ⟨i,hi,rfl⟩:=List.mem_iff_getElem.1 he
  exact decide_eq_false (hn i _ (by omega) (List.getElem?_eq_getElem hi))
/-- a chart: a room with its places -/
def cCt (R : Rm) (p : Pl) (a : Option Addr) (c : Nat) : List Value:=cRm R p++[.slice a (plcs R).length c]
structure CtOk (H : List Row) (R : Rm) (p : Pl) (a : Option Addr) : Prop where
 rm : RmOk H R p
 pl : SlE H a cPk 2 (plcs R)
theorem CtOk.sub {H H' : List Row} {R : Rm} {p : Pl} {a : Option Addr} (h : CtOk H R p a) (hs : ∀ r ∈ H,r ∈ H') : CtOk H' R p a:=⟨h.rm.sub hs,h.pl.sub hs⟩
open Classical in
noncomputable def atZ (R : Rm) (q : Pk) : Int:=if q ∈ plcs R then (pidx R q : Int) else -1
theorem atZ_idx {R : Rm} {q : Pk} {z : Int} (hb : okBoxes R.months 0 R.boxes) (h : IdxR (fun n=>decide (q = n)) (plcs R) z) : z = atZ R q:=by
 unfold atZ
 rcases h with ⟨rfl,h⟩ | ⟨k,e,rfl,he,hp,_⟩
 ·rw [if_neg (fun hm=>by have:=h q hm;simp at this)]
 ·have:=of_decide_eq_true hp
  subst this
  rw [if_pos (List.mem_of_getElem? he),pidx_eq hb he]
theorem at_spec (R : Rm) (p : Pl) (a : Option Addr) (c : Nat) (b m : Int) (H : List Row) (hr : okRm R) (hC : CtOk H R p a) :
  Fc Tryz.prog 84 [.agg (cCt R p a c).toArray,.int .i64 b,.int .i64 m] H (fun v H' => v = .int .i64 (atZ R ⟨b,m⟩)∧H' = H):=by
 have hpl:=plcs_len hr
 obtain ⟨a1,c1,a2,c2,a3,c3⟩:=p
 refine Fc.mk (callable Tryz.call84) Tryz.func84 rfl Tryz.ntmps84 rfl ?_;dsimp only [fr]
 repeat' (first | (refine uP rfl ?_;(first | ((first | refine uN rfl ?_);(first | (refine uE (EvF.build (cs:=cPk ⟨b,m⟩) rfl (ArgsP.cons rfl (ArgsP.cons rfl ArgsP.nil)) (te rfl) (Places.cons (te rfl) (Places.cons (te rfl) Places.nil)) Tryz.zeroValue86 rfl) rfl rfl ?_)|(refine uC (uT rfl (Args.cons rfl (Args.cons rfl Args.nil))) rfl rfl (indexPk_spec (plcs R) a c ⟨b,m⟩ _ (hC.pl.sub (fun _ h=>by repeat (first | exact h | apply qT))) (by omega)) ?_;rintro _ H9 ⟨⟨z,rfl,hz⟩,hH9⟩;subst H9)|(refine uE (uM rfl rfl) rfl rfl ?_)|(refine uE (uA rfl rfl) rfl rfl ?_)|(refine uE (uF rfl rfl (te rfl) rfl (te rfl) (by decide)) rfl rfl ?_)|(refine uE (uL rfl rfl (uO (te rfl) rfl (qH _) rfl)) rfl rfl ?_)|(refine Xg.st (StF.boxAgg rfl rfl) rfl rfl ?_;rintro _ _ ⟨bx,rfl,rfl⟩)))))|(refine uD rfl ?_;refine hK _ _ ?_;clear hK K) | refine uS rfl ?_ | refine uR rfl (fun K hK=>?_) | refine X.ret rfl ?_)
 refine ret_one (by simp) Tryz.results84 rfl (H' := H) (by (repeat (first | exact qR _ | apply qC));done) ?_;simp only [and_true,true_and]
 rw [atZ_idx hr.bx hz]
end Go.Proofs.YtmfppdpkalelhaaGreat
end
