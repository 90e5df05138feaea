/- Own work: contracts of functions, from rows of what is known of the memory; contracts of functions, from rows of what is known of the memory; contracts of functions, from rows of what is known of the memory; contracts of functions, from rows of what is known of the memory; contracts of functions, from rows of what is known of the memory; contracts of functions, from rows of what is known of the memory; contracts of functions, from rows of what is known of the memory; contracts of functions, from rows of what is known of the memory; contracts of functions, from rows of what is known of the memory; contracts of functions, from rows of what is known of the memory; contracts of functions, from rows of what is known of the memory -/
import Derived.Test.YtcjlegjchllgjaaGreatW04
import Derived.Maps.RangeRun
section
set_option linter.unusedVariables false
namespace Go.Fw
open Go Go.RowKit
def okOp3 (sm : List Nat) (ts : List TOp) (dom : List Nat) (n m : Nat) (i : Nat) (o : Oper) : Bool :=
  let T := tAt ts i
  (match o.guard with | some (j, _) => T.sup.contains j | none => true) && (o.dst == T.dst) &&
  (match T.dst with | some d => decide (d < n) && (!dom.contains d || sm.contains i) && (List.range i).all (fun j => (tAt ts j).dst != some d) | none => true) &&
  o.after.toList.all (fun e => !Region.binds .any e || decide (e.on < i)) &&
  T.sup.all (fun j => decide (j < i) && o.after.toList.any (fun e => Region.binds .any e && (e.on == j || (tAt ts e.on).sup.contains j))) &&
  T.deps.all (fun j => T.sup.contains j) && T.kills.all (fun k => T.sup.contains k || decide (m ≤ k ∧ k < ts.length))
def okReg3 (sm : List Nat) (ops : Array Oper) (ts : List TOp) (dom : List Nat) (n : Nat) : Bool :=
  decide (ops.size ≤ ts.length) && ops.toList.zipIdx.all (fun p => okOp3 sm ts dom n ops.size p.2 p.1) && decide ((ts.flatMap (·.kills)).Nodup) && (ts.drop ops.size).all (fun T => T.kills.isEmpty && T.sup.isEmpty)


theorem wpAny_ob3 {P : Program} {n : Nat} {ops : Array Oper} {ts : List TOp} {dom : List Nat} {F0 : FS} {sm : List Nat} (hd : F0.map (·.1) = dom) (hok : okReg3 sm ops ts dom n = true) (rd : Nat → List Nat) (hrd : okRd ts rd ops.size = true) (val : Nat → Env → Value) (rows : Nat → Env → List Row)
    (hloc : ∀ k env i p, i ≠ k → (tAt ts k).sup.contains i = false → val k (upd env i p) = val k env ∧ rows k (upd env i p) = rows k env)
    (hsm : ∀ i d, sm.contains i = true → (tAt ts i).dst = some d → ∀ env v, lk F0 d = some v → val i env = v)
    (R0 : List Row) (hob : ∀ i o, opAt ops.toList i = some o → ObR P n ts rd val rows F0 R0 i o)
    {Q : QT} (hQ : ∀ env t, Ag n F0 t → (∀ i d, i < ops.size → (tAt ts i).dst = some d → t[d]? = some (val i env)) → Q .normal t ((alive ts).flatMap (fun k => rows k env) ++ R0))
    {ρ : Option Nat} {ds : List Deferred} {B : Nat} {w0 : World} :
    ∀ (fuel : Nat) (listed : Array Bool) (U A : List Nat) (t : List Value) (H : List Row) (w : World) (env : Env), listed.size = ops.size → U.length = fuel → U.Nodup → (∀ k, k ∈ U ↔ k < ops.size ∧ listed.getD k true = false) →
      (∀ k, k < ops.size → listed.getD k true = true → ∀ j, (tAt ts k).sup.contains j = true → listed.getD j true = true) →
      A.Nodup → (∀ k, k ∈ A ↔ k < ts.length ∧ listed.getD k true = true ∧ ∀ j, j < ops.size → listed.getD j true = true → k ∉ (tAt ts j).kills) →
      Ag n F0 t → (∀ k d, k < ops.size → listed.getD k true = true → (tAt ts k).dst = some d → t[d]? = some (val k env)) →
      St B w0 H w → H.Perm (R0 ++ A.flatMap (fun k => rows k env)) → wpAnyIn (wf ρ) 0 P .any ops (lift ds B w0 Q) fuel listed ⟨t.toArray, ds⟩ w := by
  unfold okReg3 at hok
  simp only [Bool.and_eq_true, decide_eq_true_eq] at hok
  obtain ⟨⟨⟨hlen, hops⟩, hkn⟩, hps⟩ := hok
  have hopAt : ∀ i o, ops[i]? = some o → okOp3 sm ts dom n ops.size i o = true := by
    intro i o hi
    have := List.all_eq_true.1 hops (o, i) (by
      rw [List.mem_zipIdx_iff_getElem?]; simpa using hi)
    exact this
  intro fuel
  induction fuel with
  | zero =>
    intro listed U A t H w env hls hUl hUn hU hcl hAn hA hag hv hS hH
    have hU0 : U = [] := List.eq_nil_of_length_eq_zero hUl
    subst hU0
    have hall : ∀ k, listed.getD k true = true := by
      intro k
      cases hk : listed.getD k true with
      | true => rfl
      | false =>
        by_cases h1 : k < ops.size
        · exact absurd ((hU k).2 ⟨h1, hk⟩) (by simp)
        · rw [Array.getD_eq_getD_getElem?, Array.getElem?_eq_none (by omega)] at hk; cases hk
    refine ⟨?_, rfl, _, ?_, hS.perm (H' := (alive ts).flatMap (fun k => rows k env) ++ R0) ?_⟩
    · unfold Region.ready
      rw [List.filter_eq_nil_iff]
      intro k _
      rw [hall]; simp
    · have := hQ env t hag (fun i d hi hd => hv i d hi (hall i) hd)
      simpa using this
    · refine List.perm_append_comm.trans ((List.Perm.append_left R0 (List.Perm.flatMap_right _ ?_)).trans hH.symm)
      refine perm_of_mem ((List.nodup_range).sublist List.filter_sublist) hAn fun k => ?_
      rw [hA, alive, List.mem_filter, List.mem_range]
      simp only [hall, true_and, Bool.not_eq_true', List.contains_eq_mem, decide_eq_false_iff_not, true_implies]
      refine and_congr_right fun _ => ⟨fun h j _ hj => h (tAt_mem hj), fun h hm => ?_⟩
      obtain ⟨T, hT, hk⟩ := List.mem_flatMap.1 hm
      obtain ⟨j, hj, rfl⟩ := List.mem_iff_getElem.1 hT
      by_cases hj' : j < ops.size
      · exact h j hj' (by unfold tAt; simp [List.getD, hj, hk])
      · have := List.all_eq_true.1 hps ts[j] (by
          rw [List.mem_iff_getElem?]
          exact ⟨j - ops.size, by rw [List.getElem?_drop, show ops.size + (j - ops.size) = j by omega, List.getElem?_eq_getElem hj]⟩)
        simp only [Bool.and_eq_true, List.isEmpty_iff] at this
        rw [this.1] at hk; cases hk
  | succ fuel ih =>
    intro listed U A t H w env hls hUl hUn hU hcl hAn hA hag hv hS hH
    have hge : ∀ k, ops.size ≤ k → listed.getD k true = true := fun k hk => by rw [Array.getD_eq_getD_getElem?, Array.getElem?_eq_none (by omega)]; rfl
    have hgd : ∀ k, k < ops.size → listed.getD k false = listed.getD k true := fun k hk => by
      rw [Array.getD_eq_getD_getElem?, Array.getD_eq_getD_getElem?, Array.getElem?_eq_getElem (by omega)]; rfl
    refine ⟨fun h0 => ?_, fun i hi => ?_⟩
    · exfalso
      have key : ∀ m, m ∈ U → False := by
        intro m
        induction m using Nat.strongRecOn with
        | _ m ihm =>
          intro hm
          obtain ⟨hms, hml⟩ := (hU m).1 hm
          obtain ⟨o, ho⟩ : ∃ o, ops[m]? = some o := ⟨ops[m], Array.getElem?_eq_getElem hms⟩
          have hc := hopAt m o ho
          unfold okOp3 at hc
          simp only [Bool.and_eq_true] at hc
          obtain ⟨⟨⟨⟨_, haf⟩, _⟩, _⟩, _⟩ := hc
          by_cases hal : o.after.all (fun e => !Region.binds .any e || listed.getD e.on false) = true
          · have : m ∈ Region.ready .any ops listed := by
              unfold Region.ready
              rw [List.mem_filter]
              refine ⟨List.mem_range.2 hms, ?_⟩
              rw [hml, ho]
              simp only [Option.map_some, Option.getD_some, Bool.not_false, Bool.true_and]
              exact hal
            rw [h0] at this; cases this
          · have : ∃ e ∈ o.after, ¬ ((!Region.binds .any e || listed.getD e.on false) = true) := by
              rw [Array.all_eq_true_iff_forall_mem] at hal
              simpa using hal
            obtain ⟨e, he, hne⟩ := this
            have h1 := List.all_eq_true.1 haf e (Array.mem_toList_iff.2 he)
            simp only [Bool.or_eq_true, Bool.not_eq_true', not_or, Bool.not_eq_false, Bool.not_eq_true] at hne h1
            have h2 : e.on < m := by
              rcases h1 with h1 | h1
              · rw [hne.1] at h1; cases h1
              · simpa using h1
            refine ihm e.on h2 ((hU e.on).2 ⟨by omega, ?_⟩)
            rw [← hgd e.on (by omega)]; exact hne.2
      cases U with
      | nil => simp at hUl
      | cons u U => exact key u (List.mem_cons_self ..)
    · unfold Region.ready at hi
      rw [List.mem_filter, List.mem_range] at hi
      obtain ⟨his, hi2⟩ := hi
      obtain ⟨o, ho⟩ : ∃ o, ops[i]? = some o := ⟨ops[i], Array.getElem?_eq_getElem his⟩
      simp only [ho, Option.map_some, Option.getD_some, Bool.and_eq_true, Bool.not_eq_true'] at hi2
      obtain ⟨hil, hia⟩ := hi2
      have hc := hopAt i o ho
      unfold okOp3 at hc
      simp only [Bool.and_eq_true] at hc
      obtain ⟨⟨⟨⟨⟨⟨hgu, hdst⟩, hds⟩, haf⟩, hsup⟩, hdeps⟩, hkil⟩ := hc
      have hdst' : o.dst = (tAt ts i).dst := by simpa using hdst
      rw [Array.all_eq_true_iff_forall_mem] at hia
      have hson : ∀ j, (tAt ts i).sup.contains j = true → j < i ∧ listed.getD j true = true := by
        intro j hj
        have h1 := List.all_eq_true.1 hsup j (by simpa using hj)
        simp only [Bool.and_eq_true, decide_eq_true_eq, List.any_eq_true] at h1
        obtain ⟨hji, e, he', hb, h2⟩ := h1
        have he := Array.mem_toList_iff.1 he'
        refine ⟨hji, ?_⟩
        have h3 := hia e he
        rw [hb] at h3
        have h4 := List.all_eq_true.1 haf e he'
        rw [hb] at h4
        simp only [Bool.not_true, Bool.false_or, decide_eq_true_eq] at h3 h4
        rw [hgd e.on (by omega)] at h3
        simp only [Bool.or_eq_true, beq_iff_eq] at h2
        rcases h2 with h2 | h2
        · rw [← h2]; exact h3
        · exact hcl e.on (by omega) h3 j h2
      have hks : ∀ k ∈ (tAt ts i).kills, k ∈ A := by
        intro k hk
        rw [hA]
        have h1 := List.all_eq_true.1 hkil k hk
        simp only [Bool.or_eq_true, decide_eq_true_eq] at h1
        refine ⟨?_, ?_, fun j hj hjl hkj => ?_⟩
        · rcases h1 with h1 | h1
          · have := (hson k h1).1; omega
          · omega
        · rcases h1 with h1 | h1
          · exact (hson k h1).2
          · exact hge k h1.1
        · have := kills_once hkn hk hkj
          subst this
          rw [hil] at hjl; cases hjl
      have hkin : (tAt ts i).kills.Nodup := by
        unfold tAt List.getD
        cases hti : ts[i]? with
        | none => simp
        | some T =>
          simp only [Option.getD_some]
          exact kills_nodup hkn (List.mem_of_getElem? hti)
      obtain ⟨A', hp, hA'n, hA'm⟩ := take_out _ A hkin hAn hks
      have hH1 : ((tAt ts i).kills.flatMap (fun k => rows k env) ++ (R0 ++ A'.flatMap (fun k => rows k env))).Perm H := by
        refine List.Perm.trans ?_ hH.symm
        refine List.Perm.trans ?_ (List.Perm.append_left R0 (List.Perm.flatMap_right _ hp.symm))
        rw [List.flatMap_append, ← List.append_assoc, ← List.append_assoc]
        exact List.Perm.append_right _ List.perm_append_comm
      have hdp : ∀ k ∈ (tAt ts i).deps, ∀ d, (tAt ts k).dst = some d → t[d]? = some (val k env) := by
        intro k hk d hd
        have h1 := List.all_eq_true.1 hdeps k hk
        obtain ⟨h2, h3⟩ := hson k h1
        exact hv k d (by omega) h3 hd
      have hst := hob i o (by rw [opAt_eq]; simpa using ho)
      have hreads : ∀ k ∈ rd i, ∀ r ∈ rows k env, r ∈ R0 ++ A'.flatMap (fun k => rows k env) := by
        intro k hk r hr
        refine List.mem_append_right _ (List.mem_flatMap.2 ⟨k, ?_, hr⟩)
        have h1 := List.all_eq_true.1 (List.all_eq_true.1 hrd i (List.mem_range.2 his)) k hk
        simp only [Bool.and_eq_true, Bool.or_eq_true, decide_eq_true_eq, Bool.not_eq_true'] at h1
        obtain ⟨⟨h1, h2⟩, h3⟩ := h1
        rw [hA'm, hA]
        refine ⟨⟨?_, ?_, fun j hj hjl hkj => ?_⟩, by simpa using h2⟩
        · rcases h1 with h1 | h1
          · have := (hson k h1).1; omega
          · omega
        · rcases h1 with h1 | h1
          · exact (hson k h1).2
          · exact hge k h1.1
        · have h4 := List.all_eq_true.1 h3 j (List.mem_range.2 hj)
          simp only [Bool.or_eq_true, Bool.not_eq_true'] at h4
          rcases h4 with h4 | h4
          · rw [List.contains_iff_mem.2 hkj] at h4; cases h4
          · have := hcl j hj hjl i h4
            rw [hil] at this; cases this
      have hyv : ∀ j ww, o.guard = some (j, ww) → (tAt ts j).dst ≠ none → yielded ops t.toArray j = bv (val j env) := by
        intro j ww hg hj
        rw [hg] at hgu
        obtain ⟨h1, h2⟩ := hson j hgu
        obtain ⟨d, hd'⟩ := Option.ne_none_iff_exists'.1 hj
        have hoj : ops[j]? = some ops[j] := Array.getElem?_eq_getElem (by omega)
        have hcj := hopAt j _ hoj
        unfold okOp3 at hcj
        simp only [Bool.and_eq_true] at hcj
        have hdj : (ops[j]).dst = (tAt ts j).dst := by simpa using hcj.1.1.1.1.1.2
        exact yielded_bv hoj (by rw [hdj, hd']) (hv j d (by omega) h2 hd')
      have hnext : ∀ (v : Value) (w' : World) (H' : List Row), St B w0 H' w' → (∃ p, ((tAt ts i).dst ≠ none → v = val i (upd env i p)) ∧ H'.Perm (rows i (upd env i p) ++ (R0 ++ A'.flatMap (fun k => rows k env)))) → wpAnyIn (wf ρ) 0 P .any ops (lift ds B w0 Q) fuel (listed.setIfInBounds i true) ⟨(put t o.dst v).toArray, ds⟩ w' := by
        rintro v w' H' hS' ⟨p, hval, hH'⟩
        have hl' : ∀ k, (listed.setIfInBounds i true).getD k true = if k = i then true else listed.getD k true := by
          intro k
          rw [Array.getD_eq_getD_getElem?, Array.getD_eq_getD_getElem?, Array.getElem?_setIfInBounds]
          by_cases hki : k = i
          · subst hki; simp; split <;> rfl
          · rw [if_neg (fun e => hki e.symm), if_neg hki]
        have hnot : ∀ k, listed.getD k true = true → (tAt ts k).sup.contains i = false := by
          intro k hk
          by_cases hks' : k < ops.size
          · cases hcs : (tAt ts k).sup.contains i with
            | false => rfl
            | true => have := hcl k hks' hk i hcs; rw [hil] at this; cases this
          · by_cases hkt : k < ts.length
            · have := List.all_eq_true.1 hps ts[k] (by
                rw [List.mem_iff_getElem?]
                exact ⟨k - ops.size, by rw [List.getElem?_drop, show ops.size + (k - ops.size) = k by omega, List.getElem?_eq_getElem hkt]⟩)
              simp only [Bool.and_eq_true, List.isEmpty_iff] at this
              have e : tAt ts k = ts[k] := by unfold tAt; simp [List.getD, hkt]
              rw [e, this.2]; rfl
            · have e : tAt ts k = ⟨none, [], [], []⟩ := by unfold tAt; simp [List.getD, List.getElem?_eq_none (by omega : ts.length ≤ k)]
              rw [e]; rfl
        have hiA : i ∉ A := fun h => by have := ((hA i).1 h).2.1; rw [hil] at this; cases this
        refine ih (listed.setIfInBounds i true) (U.erase i) (i :: A') (put t o.dst v) H' w' (upd env i p) (by simpa using hls) ?_ (hUn.sublist List.erase_sublist) ?_ ?_ ?_ ?_ ?_ ?_ hS' ?_
        · rw [List.length_erase_of_mem ((hU i).2 ⟨his, hil⟩)]; omega
        · intro k
          rw [hUn.mem_erase_iff, hU, hl']
          by_cases hki : k = i
          · simp [hki]
          · simp [hki]
        · intro k hk hkl j hj
          rw [hl'] at hkl ⊢
          split
          · rfl
          · by_cases hki : k = i
            · subst hki; exact (hson j hj).2
            · rw [if_neg hki] at hkl; exact hcl k hk hkl j hj
        · exact List.nodup_cons.2 ⟨fun h => hiA ((hA'm i).1 h).1, hA'n⟩
        · intro k
          rw [List.mem_cons, hA'm, hA, hl']
          by_cases hki : k = i
          · subst hki
            simp only [true_or, if_true, true_and, true_iff]
            refine ⟨by omega, fun j hj hjl hkj => ?_⟩
            have h1 : ops[j]? = some ops[j] := Array.getElem?_eq_getElem hj
            have hcj := hopAt j _ h1
            unfold okOp3 at hcj
            simp only [Bool.and_eq_true] at hcj
            have h2 := List.all_eq_true.1 hcj.2 k hkj
            simp only [Bool.or_eq_true, decide_eq_true_eq] at h2
            rw [hl'] at hjl
            rcases h2 with h2 | h2
            · by_cases hjk : j = k
              · subst hjk; have := (hson j h2).1; omega
              · rw [if_neg hjk] at hjl
                have := hcl j hj hjl k h2
                rw [hil] at this; cases this
            · omega
          · simp only [hki, false_or, if_false]
            constructor
            · rintro ⟨⟨h1, h2, h3⟩, h4⟩
              refine ⟨h1, h2, fun j hj hjl => ?_⟩
              rw [hl'] at hjl
              by_cases hji : j = i
              · subst hji; exact h4
              · rw [if_neg hji] at hjl; exact h3 j hj hjl
            · rintro ⟨h1, h2, h3⟩
              exact ⟨⟨h1, h2, fun j hj hjl => h3 j hj (by rw [hl']; split; rfl; exact hjl)⟩, h3 i his (by rw [hl', if_pos rfl])⟩
        · cases hdd : o.dst with
          | none => exact hag
          | some d =>
            rw [hdst'] at hdd
            rw [hdd] at hds
            simp only [Bool.and_eq_true, decide_eq_true_eq] at hds
            refine ⟨by simpa [put] using hag.1, fun s u hs => ?_⟩
            have h1 := hag.2 s u hs
            simp only [put, List.getElem?_set]
            by_cases hsd : d = s
            · subst hsd
              have : d ∈ dom := by
                rw [← hd]
                exact lk_mem hs
              have h2 := hds.1.2
              have hsi : sm.contains i = true := by simpa [this] using h2
              have e : v = u := (hval (by rw [hdd]; simp)).trans (hsm i d hsi hdd _ u hs)
              rw [if_pos rfl, e]
              exact if_pos (by rw [hag.1]; exact hds.1.1)
            · rw [if_neg hsd]
              exact h1
        · intro k d hk hkl hkd
          rw [hl'] at hkl
          by_cases hki : k = i
          · subst hki
            rw [hdst', hkd]
            rw [hkd] at hds
            simp only [Bool.and_eq_true, decide_eq_true_eq] at hds
            simp only [put, List.getElem?_set, if_true]
            rw [if_pos (by rw [hag.1]; exact hds.1.1), hval (by rw [hkd]; simp)]
          · rw [if_neg hki] at hkl
            rw [(hloc k env i p (fun e => hki e.symm) (hnot k hkl)).1]
            have h1 := hv k d hk hkl hkd
            cases hdd : o.dst with
            | none => exact h1
            | some d' =>
              simp only [put, List.getElem?_set]
              rw [if_neg]
              · exact h1
              · rintro rfl
                rw [hdst'] at hdd
                rcases Nat.lt_or_gt_of_ne hki with hlt | hlt
                · rw [hdd] at hds
                  simp only [Bool.and_eq_true] at hds
                  have := List.all_eq_true.1 hds.2 k (List.mem_range.2 hlt)
                  simp [hkd] at this
                · have hck := hopAt k _ (Array.getElem?_eq_getElem hk)
                  unfold okOp3 at hck
                  simp only [Bool.and_eq_true] at hck
                  have hdk := hck.1.1.1.1.2
                  rw [hkd] at hdk
                  simp only [Bool.and_eq_true] at hdk
                  have := List.all_eq_true.1 hdk.2 i (List.mem_range.2 hlt)
                  simp [hdd] at this
        · refine hH'.trans ?_
          have e : A'.flatMap (fun k => rows k (upd env i p)) = A'.flatMap (fun k => rows k env) := by
            have : ∀ k ∈ A', rows k (upd env i p) = rows k env := fun k hk => by
              have h1 := (hA'm k).1 hk
              have h2 := ((hA k).1 h1.1).2.1
              exact (hloc k env i p (fun e => hiA (e ▸ h1.1)) (hnot k h2)).2
            exact flatMap_congr' this
          rw [List.flatMap_cons, e, ← List.append_assoc, ← List.append_assoc]
          exact List.Perm.append_right _ List.perm_append_comm
      unfold wpOpIn
      simp only [ho]
      rcases hst with ⟨hgr, hst⟩ | ⟨j, ww, hg, hj, hbv, hki, hvi, hri⟩
      · have hwant : Region.wanted o (yielded ops t.toArray) = true := by
          unfold Region.wanted
          rcases hgr with hgr | ⟨j, ww, hg, hj, hb⟩
          · rw [hgr]
          · rw [hg]; simp only [hyv j ww hg hj, hb]; simp
        simp only [hwant, if_true]
        exact hst env (R0 ++ A'.flatMap (fun k => rows k env)) (fun r hr => List.mem_append_left _ hr) hreads t (ag_fdeps hag _ hdp) ρ ds B w0 w (hS.perm hH1) _ _ hnext
      · have hwant : Region.wanted o (yielded ops t.toArray) = false := by
          unfold Region.wanted
          rw [hg]; simp only [hyv j ww hg hj]
          simpa using hbv env
        simp only [hwant, Bool.false_eq_true, if_false]
        rw [put_act]
        refine ⟨fun _ _ => trivial, hnext undef w _ hS ⟨(0, 0), fun _ => (hvi _).symm, ?_⟩⟩
        --, fun _ => (hvi _).symm, ?_⟩
        rw [hri, List.nil_append]
        rw [hki] at hH1
        simpa using hH1.symm

theorem X.regionSm {P : Program} {n : Nat} {c : Code} {F : FS} {H : List Row} {Q : QX} (sm : List Nat) (ts : List TOp) (rd : Nat → List Nat) (dom : List Nat) (F0 : FS) (val : Nat → Env → Value) (rows : Nat → Env → List Row) (env0 : Env) (R0 : List Row)
    (h : c = .region (cid c) (cops c) true) (hm : P.follows .mixedOrders = true) (hsub : Sub F0 F) (hd : F0.map (·.1) = dom) (hok : okReg3 sm (cops c) ts dom n = true) (hrd : okRd ts rd (cops c).size = true)
    (hloc : ∀ k env i p, i ≠ k → (tAt ts k).sup.contains i = false → val k (upd env i p) = val k env ∧ rows k (upd env i p) = rows k env)
    (hsm : ∀ i d, sm.contains i = true → (tAt ts i).dst = some d → ∀ env v, lk F0 d = some v → val i env = v)
    (hH : (((List.range ts.length).drop (cops c).size).flatMap (fun k => rows k env0) ++ R0).Sublist H)
    (hob' : AllF (cops c).toList 0 fun i o => ObR P n ts rd val rows F0 R0 i o)
    (hQ : ∀ env t, Ag n F0 t → (∀ i d, i < (cops c).size → (tAt ts i).dst = some d → t[d]? = some (val i env)) → exQ n Q .normal t ((alive ts).flatMap (fun k => rows k env) ++ R0)) : X P n c F H Q := by
  have hob := fun i o ho => hob' i o (Nat.zero_le i) ho
  unfold X W
  intro t ha ρ ds B w0 w hS
  rw [h]
  refine wpIn_region_any hm ?_
  have hlen : (cops c).size ≤ ts.length := by
    have := hok
    unfold okReg3 at this
    simp only [Bool.and_eq_true, decide_eq_true_eq] at this
    exact this.1.1.1
  have hl : ∀ k d, (Array.replicate (cops c).size false).getD k d = if k < (cops c).size then false else d := by
    intro k d
    rw [Array.getD_eq_getD_getElem?, Array.getElem?_replicate]
    split <;> rfl
  have hdm : ∀ k, k ∈ (List.range ts.length).drop (cops c).size ↔ (cops c).size ≤ k ∧ k < ts.length := by
    intro k
    rw [List.mem_iff_getElem?]
    constructor
    · rintro ⟨j, hj⟩
      rw [List.getElem?_drop] at hj
      have := List.getElem?_eq_some_iff.1 hj
      obtain ⟨h1, h2⟩ := this
      simp at h1 h2
      omega
    · rintro ⟨h1, h2⟩
      exact ⟨k - (cops c).size, by rw [List.getElem?_drop, show (cops c).size + (k - (cops c).size) = k by omega, List.getElem?_range h2]⟩
  refine wpAny_ob3 hd hok rd hrd val rows hloc hsm R0 hob hQ (cops c).size _ (List.range (cops c).size) ((List.range ts.length).drop (cops c).size) t _ _ env0 (by simp) (by simp) List.nodup_range ?_ ?_ ((List.nodup_range).sublist (List.drop_sublist _ _)) ?_ (ha.sub hsub) ?_ ((hS.drewN 1).sub hH) List.perm_append_comm
  · intro k
    rw [List.mem_range, hl]
    by_cases hk : k < (cops c).size <;> simp [hk]
  · intro k hk hkl
    rw [hl, if_pos hk] at hkl
    cases hkl
  · intro k
    rw [hdm, hl]
    constructor
    · rintro ⟨h1, h2⟩
      refine ⟨h2, by rw [if_neg (by omega)], fun j hj hjl => ?_⟩
      rw [hl, if_pos hj] at hjl
      cases hjl
    · rintro ⟨h1, h2, _⟩
      refine ⟨?_, h1⟩
      by_cases hk : k < (cops c).size
      · rw [if_pos hk] at h2; cases h2
      · omega
  · intro k d hk hkl
    rw [hl, if_pos hk] at hkl
    cases hkl

end Go.Fw
end
section
set_option linter.unusedVariables false
set_option linter.unusedSimpArgs false
namespace Go.Proofs.YtcjlegjchllgjaaGreat
open Go Go.Fw
set_option maxRecDepth 10000
def lstN (T : Tm) (d : Dy) : Int := coF T d (chp T d)
/-- the month, the class and what it costs, of the first days -/
def mst (T : Tm) (l : List Dy) : Nat → Int × Cl × Int
  | 0 => (0, ⟨0, 0⟩, 0)
  | k + 1 => match l[k]? with
    | some d => if k = 0 ∨ lstN T d < (mst T l k).2.2 then (T.dl + k, chp T d, lstN T d) else mst T l k
    | none => mst T l k
theorem mst_step {T : Tm} {l : List Dy} {k : Nat} {d : Dy} (h : l[k]? = some d) : mst T l (k + 1) = if k = 0 ∨ lstN T d < (mst T l k).2.2 then (T.dl + k, chp T d, lstN T d) else mst T l k := by
  show (match l[k]? with | some d => _ | none => _) = _
  rw [h]
def allD (l : List Dy) : Prop := ∀ d ∈ l, dayOk d
noncomputable instance (l : List Dy) : Decidable (allD l) := Classical.propDecidable _
noncomputable def monE (T : Tm) (l : List Dy) : Int := if tmOk T then (if (l.length : Int) = T.dh - T.dl + 1 then (if allD l then 0 else 43) else 2) else 40
noncomputable def monR (T : Tm) (l : List Dy) : Int × Cl × Int := if monE T l = 0 then mst T l l.length else (0, ⟨0, 0⟩, 0)
def abM (l : List Dy) : Ab := ⟨l, [], [], []⟩
structure DsOk (H : List Row) (l : List Dy) (a : Option Addr) : Prop where
  sl : SlE H a cDy 3 l
  each : ∀ d ∈ l, DyOk H d
theorem DsOk.sub {H H' : List Row} {l : List Dy} {a : Option Addr} (h : DsOk H l a) (hs : ∀ r ∈ H, r ∈ H') : DsOk H' l a := ⟨h.sl.sub hs, fun d hd => (h.each d hd).sub hs⟩
theorem tripT {T : Tm} {l : List Dy} {e : Int} (h : monE T l = e) (h0 : e ≠ 0) : monR T l = (0, ⟨0, 0⟩, 0) := by unfold monR; rw [h, if_neg h0]
def MonRes (T : Tm) (l : List Dy) (v : Value) : Prop := v = .tuple #[.int .i64 (monR T l).1, .agg (cCl (monR T l).2.1).toArray, .int .i64 (monR T l).2.2, .int .i64 (monE T l)]
def tsMa : List TOp := [⟨some 49, [], [], []⟩, ⟨some 50, [], [], []⟩, ⟨some 51, [], [], []⟩, ⟨some 52, [], [], []⟩, ⟨some 53, [2, 3], [2, 3], []⟩, ⟨some 54, [2, 3, 4], [4], []⟩, ⟨some 55, [1, 2, 3, 4, 5], [1, 5], []⟩, ⟨some 56, [1, 2, 3, 4, 5, 6], [6], []⟩, ⟨some 57, [0, 1, 2, 3, 4, 5, 6, 7], [0, 7], []⟩, ⟨some 48, [0, 1, 2, 3, 4, 5, 6, 7, 8], [8], []⟩, ⟨some 58, [0, 1, 2, 3, 4, 5, 6, 7, 8, 9], [9], []⟩, ⟨some 59, [0, 1, 2, 3, 4, 5, 6, 7, 8, 9], [9], []⟩, ⟨some 11, [], [], []⟩, ⟨none, [0, 1, 2, 3, 4, 5, 6, 7, 8, 9, 10, 12], [12, 10], [12]⟩, ⟨some 12, [0, 1, 2, 3, 4, 5, 6, 7, 8, 9, 10, 11, 12, 13], [11], []⟩]
def valMa (b2 b5 b8 lb lo n cc kk : Nat) (mo nk m : Int) (T : Tm) (p : Pt) (d : Dy) (x : Cl) (k : Nat) (env : Env) : Value :=
  match k with
  | 0 => .agg (cTm T p).toArray
  | 1 => .agg (cTm T p).toArray
  | 2 => .slice (some ⟨lb, lo, none⟩) n cc
  | 3 => .int .i64 (kk : Nat)
  | 4 => .pointer (some ⟨lb, lo + kk * 3, none⟩)
  | 5 => .agg (cDy d).toArray
  | 6 => .agg (cMk T p d).toArray
  | 7 => fMk T p d
  | 8 => .tuple #[.agg (cCl x).toArray, .int .i64 m]
  | 9 => .tuple #[.agg (cCl x).toArray, .int .i64 m]
  | 10 => .agg (cCl x).toArray
  | 11 => .int .i64 m
  | 12 => .pointer (some ⟨(env 12).1, 0, none⟩)
  | 13 => undef
  | 14 => .int .i64 m
  | _ => undef
def rowsMa (b2 b5 b8 lb lo n cc kk : Nat) (mo nk m : Int) (T : Tm) (p : Pt) (d : Dy) (x : Cl) (k : Nat) (env : Env) : List Row :=
  match k with
  | 12 => [⟨(env 12).1, 0, cCl ⟨0, 0⟩, some 27, 2⟩]
  | 13 => [⟨(env 12).1, 0, cCl x, some 27, 2⟩]
  | _ => []
theorem locMa (b2 b5 b8 lb lo n cc kk : Nat) (mo nk m : Int) (T : Tm) (p : Pt) (d : Dy) (x : Cl) : ∀ k env i q9, i ≠ k → (tAt tsMa k).sup.contains i = false → valMa b2 b5 b8 lb lo n cc kk mo nk m T p d x k (upd env i q9) = valMa b2 b5 b8 lb lo n cc kk mo nk m T p d x k env ∧ rowsMa b2 b5 b8 lb lo n cc kk mo nk m T p d x k (upd env i q9) = rowsMa b2 b5 b8 lb lo n cc kk mo nk m T p d x k env := by
  intro k env i q hk hs
  have hu : ∀ j, j ≠ i → upd env i q j = env j := fun j hj => by unfold upd; rw [if_neg hj]
  match k, hk, hs with
  | 0, _, _ => exact ⟨rfl, rfl⟩
  | 1, _, _ => exact ⟨rfl, rfl⟩
  | 2, _, _ => exact ⟨rfl, rfl⟩
  | 3, _, _ => exact ⟨rfl, rfl⟩
  | 4, _, _ => exact ⟨rfl, rfl⟩
  | 5, _, _ => exact ⟨rfl, rfl⟩
  | 6, _, _ => exact ⟨rfl, rfl⟩
  | 7, _, _ => exact ⟨rfl, rfl⟩
  | 8, _, _ => exact ⟨rfl, rfl⟩
  | 9, _, _ => exact ⟨rfl, rfl⟩
  | 10, _, _ => exact ⟨rfl, rfl⟩
  | 11, _, _ => exact ⟨rfl, rfl⟩
  | 12, hk, hs => exact ⟨by simp only [valMa, hu 12 (fun e => hk e.symm)], by simp only [rowsMa, hu 12 (fun e => hk e.symm)]⟩
  | 13, hk, hs => exact ⟨by simp only [valMa, hu 12 (by rintro rfl; cases hs)], by simp only [rowsMa, hu 12 (by rintro rfl; cases hs)]⟩
  | 14, _, _ => exact ⟨rfl, rfl⟩
  | _ + 15, _, _ => exact ⟨rfl, rfl⟩
def tsMb : List TOp := [⟨some 67, [], [], []⟩, ⟨some 68, [0], [0], []⟩, ⟨some 69, [0, 1], [1], []⟩, ⟨some 70, [0, 1, 2], [2], []⟩, ⟨some 71, [], [], []⟩, ⟨some 72, [0, 1, 2, 3, 4], [3, 4], []⟩, ⟨some 73, [], [], []⟩, ⟨some 74, [], [], []⟩, ⟨some 4, [0, 1, 2, 3, 4, 5], [5], []⟩, ⟨none, [0, 1, 2, 3, 4, 5, 6, 8], [6], [11]⟩, ⟨some 6, [0, 1, 2, 3, 4, 5, 6, 7, 8, 9], [7], []⟩, ⟨none, [], [], []⟩]
def valMb (b2 b5 b8 b11 lb lo n cc kk : Nat) (m : Int) (T : Tm) (y x : Cl) (k : Nat) (env : Env) : Value :=
  match k with
  | 0 => .pointer (some ⟨b8, 0, none⟩)
  | 1 => .pointer (some ⟨b8, 7, none⟩)
  | 2 => .pointer (some ⟨b8, 7, none⟩)
  | 3 => .int .i64 T.dl
  | 4 => .int .i64 (kk : Nat)
  | 5 => .int .i64 (T.dl + kk)
  | 6 => .agg (cCl x).toArray
  | 7 => .int .i64 m
  | 8 => .int .i64 (T.dl + kk)
  | 9 => undef
  | 10 => .int .i64 m
  | _ => undef
def rowsMb (b2 b5 b8 b11 lb lo n cc kk : Nat) (m : Int) (T : Tm) (y x : Cl) (k : Nat) (env : Env) : List Row :=
  match k with
  | 9 => [⟨b5, 0, cCl x, some 27, 2⟩]
  | 11 => [⟨b5, 0, cCl y, some 27, 2⟩]
  | _ => []
theorem locMb (b2 b5 b8 b11 lb lo n cc kk : Nat) (m : Int) (T : Tm) (y x : Cl) : ∀ k env i q9, i ≠ k → (tAt tsMb k).sup.contains i = false → valMb b2 b5 b8 b11 lb lo n cc kk m T y x k (upd env i q9) = valMb b2 b5 b8 b11 lb lo n cc kk m T y x k env ∧ rowsMb b2 b5 b8 b11 lb lo n cc kk m T y x k (upd env i q9) = rowsMb b2 b5 b8 b11 lb lo n cc kk m T y x k env := by
  intro k env i q hk hs
  have hu : ∀ j, j ≠ i → upd env i q j = env j := fun j hj => by unfold upd; rw [if_neg hj]
  match k, hk, hs with
  | 0, _, _ => exact ⟨rfl, rfl⟩
  | 1, _, _ => exact ⟨rfl, rfl⟩
  | 2, _, _ => exact ⟨rfl, rfl⟩
  | 3, _, _ => exact ⟨rfl, rfl⟩
  | 4, _, _ => exact ⟨rfl, rfl⟩
  | 5, _, _ => exact ⟨rfl, rfl⟩
  | 6, _, _ => exact ⟨rfl, rfl⟩
  | 7, _, _ => exact ⟨rfl, rfl⟩
  | 8, _, _ => exact ⟨rfl, rfl⟩
  | 9, _, _ => exact ⟨rfl, rfl⟩
  | 10, _, _ => exact ⟨rfl, rfl⟩
  | 11, _, _ => exact ⟨rfl, rfl⟩
  | _ + 12, _, _ => exact ⟨rfl, rfl⟩
def tsMc : List TOp := [⟨some 76, [], [], []⟩, ⟨some 77, [], [], []⟩, ⟨some 78, [], [], []⟩, ⟨some 4, [0], [0], []⟩, ⟨none, [0, 1, 3], [1], [7]⟩, ⟨some 6, [0, 1, 2, 3, 4], [2], []⟩, ⟨some 7, [0, 1, 2, 3, 4, 5], [], []⟩, ⟨none, [], [], []⟩]
def valMc (b5 : Nat) (mo nk : Int) (y : Cl) (k : Nat) (env : Env) : Value :=
  match k with
  | 0 => .int .i64 mo
  | 1 => .agg (cCl y).toArray
  | 2 => .int .i64 nk
  | 3 => .int .i64 mo
  | 4 => undef
  | 5 => .int .i64 nk
  | 6 => .int .i64 0
  | _ => undef
def rowsMc (b5 : Nat) (mo nk : Int) (y : Cl) (k : Nat) (env : Env) : List Row :=
  match k with
  | 4 => [⟨b5, 0, cCl y, some 27, 2⟩]
  | 7 => [⟨b5, 0, cCl y, some 27, 2⟩]
  | _ => []
theorem locMc (b5 : Nat) (mo nk : Int) (y : Cl) : ∀ k env i q9, i ≠ k → (tAt tsMc k).sup.contains i = false → valMc b5 mo nk y k (upd env i q9) = valMc b5 mo nk y k env ∧ rowsMc b5 mo nk y k (upd env i q9) = rowsMc b5 mo nk y k env := by
  intro k env i q hk hs
  have hu : ∀ j, j ≠ i → upd env i q j = env j := fun j hj => by unfold upd; rw [if_neg hj]
  match k, hk, hs with
  | 0, _, _ => exact ⟨rfl, rfl⟩
  | 1, _, _ => exact ⟨rfl, rfl⟩
  | 2, _, _ => exact ⟨rfl, rfl⟩
  | 3, _, _ => exact ⟨rfl, rfl⟩
  | 4, _, _ => exact ⟨rfl, rfl⟩
  | 5, _, _ => exact ⟨rfl, rfl⟩
  | 6, _, _ => exact ⟨rfl, rfl⟩
  | 7, _, _ => exact ⟨rfl, rfl⟩
  | _ + 8, _, _ => exact ⟨rfl, rfl⟩
def rdMc (k : Nat) : List Nat := match k with
  | 1 => [7]
  | _ => []
set_option maxHeartbeats 16000000 in
theorem kMonth_spec (T : Tm) (p : Pt) (l : List Dy) (a : Option Addr) (cc : Nat) (H : List Row) (hT : TmOk H T p) (hl : DsOk H l a) (hb : l.length ≤ 1000) :
    Fc Tryz.prog 28 [.agg (cTm T p).toArray, .slice a l.length cc] H (fun v H' => MonRes T l v ∧ H' = H) := by
  have hT1 : ∀ Z : List Row, TmOk (Z ++ H) T p := fun Z => hT.sub (fun _ h => List.mem_append_right _ h)
  have hl1 : ∀ Z : List Row, DsOk (Z ++ H) l a := fun Z => hl.sub (fun _ h => List.mem_append_right _ h)
  unfold MonRes
  by_cases hok : tmOk T
  · have hnum := hok.num
    have had : ∀ (Z : List Row), Fc Tryz.prog 77 [.agg (cTm T p).toArray, .agg (cAb (abM l) ⟨a, cc, none, 0, none, 0, none, 0⟩).toArray] (Z ++ H) (fun v H' => v = .bool (decide (allD l)) ∧ H' = Z ++ H) := fun Z =>
      areDays_spec T p (abM l) ⟨a, cc, none, 0, none, 0, none, 0⟩ (Z ++ H) ⟨(hl1 Z).sl, sleNil, sleNil, sleNil, (hl1 Z).each, (by show l.length ≤ _; omega), Nat.zero_le _, Nat.zero_le _, Nat.zero_le _⟩ (HDall _)
    by_cases hlen : (l.length : Int) = T.dh - T.dl + 1
    · by_cases hd : allD l
      · have hE : monE T l = 0 := by unfold monE; rw [if_pos hok, if_pos hlen, if_pos hd]
        have hR : monR T l = mst T l l.length := by unfold monR; rw [if_pos hE]
        rw [hE, hR]
        simp only [decide_eq_true hd] at had
        have had3 : ∀ r1 r2 r3 : Row, Fc Tryz.prog 77 [.agg (cTm T p).toArray, .agg (cAb (abM l) ⟨a, cc, none, 0, none, 0, none, 0⟩).toArray] (r1 :: r2 :: r3 :: H) (fun v H' => v = .bool true ∧ H' = r1 :: r2 :: r3 :: H) := fun r1 r2 r3 => had [r1, r2, r3]
        refine Fc.mk (callable Tryz.call28) Tryz.func28 rfl Tryz.ntmps28 rfl ?_; dsimp only [fr]
        repeat' (first | (refine XO.op rfl ?_; (first | ((first | refine Xo.ng rfl ?_); (first | (refine Xg.ev (EvF.build (cs := cAb abO ⟨none, 0, none, 0, none, 0, none, 0⟩) rfl ArgsP.nil (te rfl) (Places.cons (te rfl) (Places.cons (te rfl) (Places.cons (te rfl) (Places.cons (te rfl) Places.nil)))) Tryz.zeroValue97 rfl) rfl rfl ?_) | (refine Xg.call (EnF.st rfl (Args.cons rfl (Args.cons rfl Args.nil))) rfl rfl (openOk T p _ (hT1 [_, _]) hok) ?_; rintro _ H9 ⟨rfl, hH9⟩; subst H9) | (refine Xg.ev (EvF.build (cs := cAb (abM l) ⟨a, cc, none, 0, none, 0, none, 0⟩) rfl (ArgsP.cons rfl ArgsP.nil) (te rfl) (Places.cons (te rfl) (Places.cons (te rfl) (Places.cons (te rfl) (Places.cons (te rfl) Places.nil)))) Tryz.zeroValue97 rfl) rfl rfl ?_) | (refine Xg.call (EnF.st rfl (Args.cons rfl (Args.cons rfl Args.nil))) rfl rfl (had3 _ _ _) ?_; rintro _ H9 ⟨rfl, hH9⟩; subst H9) | (refine Xg.ev (EvF.move rfl rfl) rfl rfl ?_) | (refine Xg.ev (EvF.assign rfl rfl) rfl rfl ?_) | (refine Xg.ev (EvF.cmp rfl rfl rfl rfl) rfl rfl ?_) | (refine Xg.ev (EvF.add64 rfl rfl rfl (by omega) (by omega)) rfl rfl ?_) | (refine Xg.ev (EvF.sub64 rfl rfl rfl (by omega) (by omega)) rfl rfl ?_) | (refine Xg.ev (EvF.not rfl rfl) rfl rfl ?_) | (refine Xg.ev (EvF.fieldAddr rfl rfl (te rfl) rfl (te rfl) (by decide)) rfl rfl ?_) | (refine Xg.ev (EvF.lenSlice rfl rfl (te rfl)) rfl rfl ?_) | (refine Xg.ev (EvF.loadV rfl rfl (LoadV.own (te rfl) rfl (List.Mem.head _) rfl)) rfl rfl ?_) | (refine Xg.ev (EvF.loadV rfl rfl (LoadV.whole (te rfl) rfl (List.Mem.tail _ (List.Mem.head _)) rfl)) rfl rfl ?_) | (refine Xg.ev (EvF.loadV rfl rfl (LoadV.whole (te rfl) rfl (List.Mem.tail _ (List.Mem.tail _ (List.Mem.head _))) rfl)) rfl rfl ?_) | (refine Xg.ev (EvF.extract rfl rfl rfl) rfl rfl ?_) | (refine Xg.st (StF.boxAgg rfl rfl) rfl rfl ?_; rintro _ _ ⟨bx, rfl, rfl⟩) | (refine Xg.st (StF.alloc rfl Tryz.zeroValue30 rfl) rfl rfl ?_; rintro _ _ ⟨bx, rfl, rfl⟩) | (refine Xg.st (StF.alloc rfl Tryz.zeroValue32 rfl) rfl rfl ?_; rintro _ _ ⟨bx, rfl, rfl⟩) | (refine Xg.st0 (StF.storeAll (i := 0) rfl rfl rfl (te rfl) rfl rfl rfl rfl) rfl ?_; rintro _ _ ⟨rfl, rfl⟩; dsimp only [List.set]))))) | (refine XO.done rfl ?_; refine hK _ _ ?_; clear hK K) | refine X.seq rfl ?_ | refine X.region rfl (fun K hK => ?_) | refine X.block rfl ?_ | refine X.skip rfl ?_ | (refine X.ite rfl rfl (fun hc => ?_); (first | (with_reducible refine Xb.caseN hc (fun h => ?_) (fun h => ?_)) | (with_reducible refine Xb.caseB hc (fun h => ?_) (fun h => ?_))) <;> clear hc))
        all_goals try (exfalso; first | contradiction | omega)
        rename_i b2 b5 h00 h01
        clear h00 h01 h
        obtain ⟨b8, hb8⟩ : ∃ b, b = bx := ⟨_, rfl⟩
        rw [← hb8]
        clear hb8
        refine X.weakR (H' := ⟨b8, 0, cTm T p, some 99, 11⟩ :: ⟨b5, 0, cCl ⟨0, 0⟩, some 27, 2⟩ :: ⟨b2, 0, cTm T p, some 32, 11⟩ :: H) (by (repeat (first | exact List.Sublist.refl _ | apply List.Sublist.cons_cons | apply List.Sublist.cons)); done) ?_
        refine X.permH (H' := ⟨b5, 0, cCl ⟨0, 0⟩, some 27, 2⟩ :: ⟨b8, 0, cTm T p, some 99, 11⟩ :: ⟨b2, 0, cTm T p, some 32, 11⟩ :: H) (List.Perm.swap _ _ _) ?_
        refine X.lp rfl (fun w F' H' => ∃ k : Nat, w = l.length - k ∧ k ≤ l.length ∧ H' = ⟨b5, 0, cCl (mst T l k).2.1, some 27, 2⟩ :: ⟨b8, 0, cTm T p, some 99, 11⟩ :: ⟨b2, 0, cTm T p, some 32, 11⟩ :: H ∧ F' = [(1, .slice a l.length cc), (2, .pointer (some ⟨b2, 0, none⟩)), (4, .int .i64 (mst T l k).1), (5, .pointer (some ⟨b5, 0, none⟩)), (6, .int .i64 (mst T l k).2.2), (8, .pointer (some ⟨b8, 0, none⟩)), (44, .int .i64 l.length), (45, .int .i64 k)])
          l.length [(1, .slice a l.length cc), (2, .pointer (some ⟨b2, 0, none⟩)), (4, .int .i64 (mst T l 0).1), (5, .pointer (some ⟨b5, 0, none⟩)), (6, .int .i64 (mst T l 0).2.2), (8, .pointer (some ⟨b8, 0, none⟩)), (44, .int .i64 l.length), (45, .int .i64 (0 : Nat))] _ (by rw [hlen]; exact (by (repeat (first | exact Sub.nil _ | refine Sub.cons rfl ?_)); done)) (List.Sublist.refl _) ⟨0, rfl, by omega, rfl, rfl⟩ ?_
        rintro _ _ _ ⟨k, rfl, hk, rfl, rfl⟩
        repeat' (first | (refine XO.op rfl ?_; (first | ((first | refine Xo.ng rfl ?_); (first | (refine Xg.ev (EvF.move rfl rfl) rfl rfl ?_) | (refine Xg.ev (EvF.assign rfl rfl) rfl rfl ?_) | (refine Xg.ev (EvF.cmp rfl rfl rfl rfl) rfl rfl ?_))))) | (refine XO.done rfl ?_; refine hK _ _ ?_; clear hK K) | refine X.seq rfl ?_ | refine X.region rfl (fun K hK => ?_) | refine X.block rfl ?_ | (refine X.brk rfl ?_; repeat (first | refine blockX_hit rfl ?_ | refine blockX_miss (by decide) ?_)) | refine X.skip rfl ?_ | (refine X.ite rfl rfl (fun hc => ?_); (first | (with_reducible refine Xb.case hc (fun h => ?_) (fun h => ?_))) <;> clear hc))
        · obtain ⟨lb, lo, d, rfl, he⟩ := hl.sl.elem (i := k) (by omega)
          have hdd := hd d (List.mem_of_getElem? he)
          have hDd := hl.each d (List.mem_of_getElem? he)
          have hst := mst_step (T := T) he
          obtain ⟨⟨mo, y, nk⟩, hm⟩ : ∃ m, mst T l k = m := ⟨_, rfl⟩
          rw [hm] at hst ⊢
          dsimp only at hst ⊢
          refine X.regionOb tsMa [1, 2, 4, 5, 6, 8, 10, 44, 45] [(1, .slice (some ⟨lb, lo, none⟩) l.length cc), (2, .pointer (some ⟨b2, 0, none⟩)), (4, .int .i64 mo), (5, .pointer (some ⟨b5, 0, none⟩)), (6, .int .i64 nk), (8, .pointer (some ⟨b8, 0, none⟩)), (10, .int .i64 (k : Nat)), (44, .int .i64 (l.length : Nat)), (45, .int .i64 (k : Nat))] (valMa b2 b5 b8 lb lo l.length cc k mo nk (lstN T d) T p d (chp T d)) (rowsMa b2 b5 b8 lb lo l.length cc k mo nk (lstN T d) T p d (chp T d)) (fun _ => (0, 0)) (⟨b5, 0, cCl y, some 27, 2⟩ :: ⟨b8, 0, cTm T p, some 99, 11⟩ :: ⟨b2, 0, cTm T p, some 32, 11⟩ :: H) rfl mixed (by (repeat (first | exact Sub.nil _ | refine Sub.cons rfl ?_)); done) rfl (by kernel_rfl) (locMa b2 b5 b8 lb lo l.length cc k mo nk (lstN T d) T p d (chp T d)) (List.Sublist.refl _) ?_ ?_
          · have hs : ∀ (Y : List Row), (∀ r ∈ ⟨b5, 0, cCl y, some 27, 2⟩ :: ⟨b8, 0, cTm T p, some 99, 11⟩ :: ⟨b2, 0, cTm T p, some 32, 11⟩ :: H, r ∈ Y) → TmOk Y T p := fun S hS => hT.sub (fun r hr => hS r (List.mem_append_right [_, _, _] hr))
            have hs2 : ∀ (Y : List Row), (∀ r ∈ ⟨b5, 0, cCl y, some 27, 2⟩ :: ⟨b8, 0, cTm T p, some 99, 11⟩ :: ⟨b2, 0, cTm T p, some 32, 11⟩ :: H, r ∈ Y) → DyOk Y d := fun S hS => hDd.sub (fun r hr => hS r (List.mem_append_right [_, _, _] hr))
            repeat' (first | exact AllF.done rfl | (refine AllF.step rfl ?_ ?_; · (first | fail | ((first | refine Ob.ng rfl ?_); (first | exact ObK.pure (fun env R hR => by exact ⟨_, EvF.move rfl rfl, rfl⟩) rfl (fun _ => rfl) | exact ObK.pure (fun env R hR => by exact ⟨_, EvF.assign rfl rfl, rfl⟩) rfl (fun _ => rfl) | exact ObK.pure (fun env R hR => by exact ⟨_, EvF.loadV rfl rfl (LoadV.whole (te rfl) rfl (hR _ (List.Mem.tail _ (List.Mem.head _))) rfl), rfl⟩) rfl (fun _ => rfl) | ((refine fun env S hS => (StF.ofEv (v := .pointer (some ⟨lb, lo + k * 3, none⟩)) ?_).op.mono (fun v H' ⟨hv, hH⟩ => ⟨(0, 0), fun _ => hv, by rw [hH]; exact List.Perm.refl _⟩); exact EvF.indexSlice (i := (k : Int)) (off := lo) (b := lb) (T := 57) (e := 48) (len := l.length) (ti := ⟨.st [(0, 3), (1, 28), (2, 28)], 3, 56⟩) rfl rfl rfl (te rfl) (te rfl) (by omega) (by omega))) | (exact ObK.pure (fun env S hS => ⟨.agg (cDy d).toArray, EvF.loadV rfl rfl (LoadV.elA0 (n := k) hl.sl he (te rfl) rfl (fun _ h => hS _ (List.mem_append_right [_, _, _] h)) rfl), rfl⟩) rfl (fun _ => rfl)) | (exact ObK.pure (fun env S hS => ⟨_, EvF.build (cs := cMk T p d) rfl (ArgsP.cons rfl (ArgsP.cons rfl ArgsP.nil)) (te rfl) (Places.cons (te rfl) (Places.cons (te rfl) Places.nil)) Tryz.zeroValue137 rfl, rfl⟩) rfl (fun _ => rfl)) | (exact ObK.pure (fun env S hS => ⟨_, EvF.makeFunc (fl := [_]) rfl (Args.cons rfl Args.nil) Args.nil, rfl⟩) rfl (fun _ => rfl)) | (exact ObK.pure (fun env S hS => ⟨_, EvF.extract rfl rfl rfl, rfl⟩) rfl (fun _ => rfl)) | (exact fun env S hS => OpF.callV (Z := []) (EnF.st rfl (Args.cons rfl (Args.cons rfl Args.nil))) (kcheap_spec T p d _ (hs S hS) hok (hs2 S hS) hdd) rfl rfl) | (exact fun env S hS => (StF.alloc rfl Tryz.zeroValue27 rfl).op.mono (fun v H' ⟨b, hv, hH⟩ => ⟨(b, 0), fun _ => hv, by rw [hH]; exact List.Perm.refl _⟩)) | (exact fun env S hS => (StF.storeAll (i := 0) (vs := cCl (chp T d)) (cs := cCl ⟨0, 0⟩) rfl rfl rfl (te rfl) rfl rfl rfl rfl).op.mono (fun v H' ⟨hv, hH⟩ => ⟨(0, 0), fun h => absurd rfl h, by rw [hH]; exact List.Perm.refl _⟩)))))))
          intro env t ha hv
          refine ⟨_, (ha.cons (hv 12 11 (Nat.le_of_ble_eq_true rfl) rfl)).cons (hv 14 12 (Nat.le_of_ble_eq_true rfl) rfl), ?_⟩
          clear hv ha
          show X _ _ _ ((12, .int .i64 (lstN T d)) :: (11, .pointer (some ⟨(env 12).1, 0, none⟩)) :: _) (⟨(env 12).1, 0, cCl (chp T d), some 27, 2⟩ :: ⟨b5, 0, cCl y, some 27, 2⟩ :: ⟨b8, 0, cTm T p, some 99, 11⟩ :: ⟨b2, 0, cTm T p, some 32, 11⟩ :: H) _
          obtain ⟨b11, hb11⟩ : ∃ b, b = (env 12).1 := ⟨_, rfl⟩
          rw [← hb11]
          clear hb11 env t
          refine X.permH (H' := ⟨b5, 0, cCl y, some 27, 2⟩ :: ⟨b11, 0, cCl (chp T d), some 27, 2⟩ :: ⟨b8, 0, cTm T p, some 99, 11⟩ :: ⟨b2, 0, cTm T p, some 32, 11⟩ :: H) (List.Perm.swap _ _ _) ?_
          by_cases hc : k = 0
          · rw [if_pos (.inl hc)] at hst
            repeat' (first | (refine XO.op rfl ?_; (first | ((first | refine Xo.ng rfl ?_); (first | (refine Xg.ev (EvF.cmp (b := true) rfl rfl rfl (congrArg some (decide_eq_true (by omega)))) rfl rfl ?_) | (refine Xg.ev (EvF.move rfl rfl) rfl rfl ?_) | (refine Xg.ev (EvF.pickT rfl rfl rfl) rfl rfl ?_))) | (refine Xo.g rfl rfl ?_; (first | (with_reducible refine Xw.tf rfl rfl ?_))))) | (refine XO.done rfl ?_; refine hK _ _ ?_; clear hK K) | refine X.seq rfl ?_ | refine X.region rfl (fun K hK => ?_) | (refine X.ite rfl rfl (fun hc => ?_); (first | (with_reducible refine Xb.t hc ?_)) <;> clear hc))
            all_goals try (exfalso; omega)
            refine X.regionOb tsMb [1, 2, 5, 8, 10, 11, 12, 44, 45] [(1, .slice (some ⟨lb, lo, none⟩) l.length cc), (2, .pointer (some ⟨b2, 0, none⟩)), (5, .pointer (some ⟨b5, 0, none⟩)), (8, .pointer (some ⟨b8, 0, none⟩)), (10, .int .i64 (k : Nat)), (11, .pointer (some ⟨b11, 0, none⟩)), (12, .int .i64 (lstN T d)), (44, .int .i64 (l.length : Nat)), (45, .int .i64 (k : Nat))] (valMb b2 b5 b8 b11 lb lo l.length cc k (lstN T d) T y (chp T d)) (rowsMb b2 b5 b8 b11 lb lo l.length cc k (lstN T d) T y (chp T d)) (fun _ => (0, 0)) (⟨b11, 0, cCl (chp T d), some 27, 2⟩ :: ⟨b8, 0, cTm T p, some 99, 11⟩ :: ⟨b2, 0, cTm T p, some 32, 11⟩ :: H) rfl mixed (by (repeat (first | exact Sub.nil _ | refine Sub.cons rfl ?_)); done) rfl (by kernel_rfl) (locMb b2 b5 b8 b11 lb lo l.length cc k (lstN T d) T y (chp T d)) (List.Sublist.refl _) ?_ ?_
            · repeat' (first | exact AllF.done rfl | (refine AllF.step rfl ?_ ?_; · (first | fail | ((first | refine Ob.ng rfl ?_); (first | exact ObK.pure (fun env R hR => by exact ⟨_, EvF.move rfl rfl, rfl⟩) rfl (fun _ => rfl) | exact ObK.pure (fun env R hR => by exact ⟨_, EvF.assign rfl rfl, rfl⟩) rfl (fun _ => rfl) | exact ObK.pure (fun env R hR => by exact ⟨_, EvF.fieldAddr rfl rfl (te rfl) rfl (te rfl) (by decide), rfl⟩) rfl (fun _ => rfl) | exact ObK.pure (fun env R hR => by exact ⟨_, EvF.loadV rfl rfl (LoadV.own (te rfl) rfl (hR _ (List.Mem.tail _ (List.Mem.head _))) rfl), rfl⟩) rfl (fun _ => rfl) | exact ObK.pure (fun env R hR => by exact ⟨_, EvF.loadV rfl rfl (LoadV.whole (te rfl) rfl (hR _ (List.Mem.head _)) rfl), rfl⟩) rfl (fun _ => rfl) | (exact ObK.pure (fun env S hS => ⟨_, EvF.add64 rfl rfl rfl (by omega) (by omega), rfl⟩) rfl (fun _ => rfl)) | (exact fun env S hS => (StF.storeAll (i := 0) (vs := cCl (chp T d)) (cs := cCl y) rfl rfl rfl (te rfl) rfl rfl rfl rfl).op.mono (fun v H' ⟨hv, hH⟩ => ⟨(0, 0), fun h => absurd rfl h, by rw [hH]; exact List.Perm.refl _⟩)))))))
            intro env t ha hv
            refine ⟨_, (ha.cons (hv 8 4 (Nat.le_of_ble_eq_true rfl) rfl)).cons (hv 10 6 (Nat.le_of_ble_eq_true rfl) rfl), ?_⟩
            clear hv ha
            show X _ _ _ ((6, .int .i64 (lstN T d)) :: (4, .int .i64 (T.dl + k)) :: _) (⟨b5, 0, cCl (chp T d), some 27, 2⟩ :: ⟨b11, 0, cCl (chp T d), some 27, 2⟩ :: ⟨b8, 0, cTm T p, some 99, 11⟩ :: ⟨b2, 0, cTm T p, some 32, 11⟩ :: H) _
            repeat' (first | (refine XO.op rfl ?_; (first | ((first | refine Xo.ng rfl ?_); (first | (refine Xg.ev (EvF.move rfl rfl) rfl rfl ?_) | (refine Xg.ev (EvF.add64 rfl rfl rfl (by omega) (by omega)) rfl rfl ?_))))) | (refine XO.done rfl ?_; refine hK _ _ ?_; clear hK K) | refine X.region rfl (fun K hK => ?_))
            refine ⟨_, [(1, .slice (some ⟨lb, lo, none⟩) l.length cc), (2, .pointer (some ⟨b2, 0, none⟩)), (4, .int .i64 (T.dl + k)), (5, .pointer (some ⟨b5, 0, none⟩)), (6, .int .i64 (lstN T d)), (8, .pointer (some ⟨b8, 0, none⟩)), (44, .int .i64 l.length), (45, .int .i64 (k + 1 : Nat))], ⟨b5, 0, cCl (chp T d), some 27, 2⟩ :: ⟨b8, 0, cTm T p, some 99, 11⟩ :: ⟨b2, 0, cTm T p, some 32, 11⟩ :: H, (by (repeat (first | exact Sub.nil _ | refine Sub.cons rfl ?_)); done), (by (repeat (first | exact List.Sublist.refl _ | apply List.Sublist.cons_cons | apply List.Sublist.cons)); done), ⟨k + 1, rfl, by omega, by rw [hst], by rw [hst]⟩, by omega⟩
          · by_cases hc2 : lstN T d < nk
            · rw [if_pos (.inr hc2)] at hst
              repeat' (first | (refine XO.op rfl ?_; (first | ((first | refine Xo.ng rfl ?_ | (refine Xo.g rfl rfl ?_; with_reducible refine Xw.ff ?_)); (first | (refine Xg.ev (EvF.cmp (b := true) rfl rfl rfl (congrArg some (decide_eq_true (by omega)))) rfl rfl ?_) | (refine Xg.ev (EvF.cmp (b := false) rfl rfl rfl (congrArg some (decide_eq_false (by omega)))) rfl rfl ?_) | (refine Xg.ev (EvF.move rfl rfl) rfl rfl ?_) | (refine Xg.ev (EvF.pickF rfl rfl rfl) rfl rfl ?_))))) | (refine XO.done rfl ?_; refine hK _ _ ?_; clear hK K) | refine X.seq rfl ?_ | refine X.region rfl (fun K hK => ?_) | (refine X.ite rfl rfl (fun hc => ?_); (first | (with_reducible refine Xb.t hc ?_)) <;> clear hc))
              all_goals try (exfalso; omega)
              refine X.regionOb tsMb [1, 2, 5, 8, 10, 11, 12, 44, 45] [(1, .slice (some ⟨lb, lo, none⟩) l.length cc), (2, .pointer (some ⟨b2, 0, none⟩)), (5, .pointer (some ⟨b5, 0, none⟩)), (8, .pointer (some ⟨b8, 0, none⟩)), (10, .int .i64 (k : Nat)), (11, .pointer (some ⟨b11, 0, none⟩)), (12, .int .i64 (lstN T d)), (44, .int .i64 (l.length : Nat)), (45, .int .i64 (k : Nat))] (valMb b2 b5 b8 b11 lb lo l.length cc k (lstN T d) T y (chp T d)) (rowsMb b2 b5 b8 b11 lb lo l.length cc k (lstN T d) T y (chp T d)) (fun _ => (0, 0)) (⟨b11, 0, cCl (chp T d), some 27, 2⟩ :: ⟨b8, 0, cTm T p, some 99, 11⟩ :: ⟨b2, 0, cTm T p, some 32, 11⟩ :: H) rfl mixed (by (repeat (first | exact Sub.nil _ | refine Sub.cons rfl ?_)); done) rfl (by kernel_rfl) (locMb b2 b5 b8 b11 lb lo l.length cc k (lstN T d) T y (chp T d)) (List.Sublist.refl _) ?_ ?_
              · repeat' (first | exact AllF.done rfl | (refine AllF.step rfl ?_ ?_; · (first | fail | ((first | refine Ob.ng rfl ?_); (first | exact ObK.pure (fun env R hR => by exact ⟨_, EvF.move rfl rfl, rfl⟩) rfl (fun _ => rfl) | exact ObK.pure (fun env R hR => by exact ⟨_, EvF.assign rfl rfl, rfl⟩) rfl (fun _ => rfl) | exact ObK.pure (fun env R hR => by exact ⟨_, EvF.fieldAddr rfl rfl (te rfl) rfl (te rfl) (by decide), rfl⟩) rfl (fun _ => rfl) | exact ObK.pure (fun env R hR => by exact ⟨_, EvF.loadV rfl rfl (LoadV.own (te rfl) rfl (hR _ (List.Mem.tail _ (List.Mem.head _))) rfl), rfl⟩) rfl (fun _ => rfl) | exact ObK.pure (fun env R hR => by exact ⟨_, EvF.loadV rfl rfl (LoadV.whole (te rfl) rfl (hR _ (List.Mem.head _)) rfl), rfl⟩) rfl (fun _ => rfl) | (exact ObK.pure (fun env S hS => ⟨_, EvF.add64 rfl rfl rfl (by omega) (by omega), rfl⟩) rfl (fun _ => rfl)) | (exact fun env S hS => (StF.storeAll (i := 0) (vs := cCl (chp T d)) (cs := cCl y) rfl rfl rfl (te rfl) rfl rfl rfl rfl).op.mono (fun v H' ⟨hv, hH⟩ => ⟨(0, 0), fun h => absurd rfl h, by rw [hH]; exact List.Perm.refl _⟩)))))))
              intro env t ha hv
              refine ⟨_, (ha.cons (hv 8 4 (Nat.le_of_ble_eq_true rfl) rfl)).cons (hv 10 6 (Nat.le_of_ble_eq_true rfl) rfl), ?_⟩
              clear hv ha
              show X _ _ _ ((6, .int .i64 (lstN T d)) :: (4, .int .i64 (T.dl + k)) :: _) (⟨b5, 0, cCl (chp T d), some 27, 2⟩ :: ⟨b11, 0, cCl (chp T d), some 27, 2⟩ :: ⟨b8, 0, cTm T p, some 99, 11⟩ :: ⟨b2, 0, cTm T p, some 32, 11⟩ :: H) _
              repeat' (first | (refine XO.op rfl ?_; (first | ((first | refine Xo.ng rfl ?_); (first | (refine Xg.ev (EvF.move rfl rfl) rfl rfl ?_) | (refine Xg.ev (EvF.add64 rfl rfl rfl (by omega) (by omega)) rfl rfl ?_))))) | (refine XO.done rfl ?_; refine hK _ _ ?_; clear hK K) | refine X.region rfl (fun K hK => ?_))
              refine ⟨_, [(1, .slice (some ⟨lb, lo, none⟩) l.length cc), (2, .pointer (some ⟨b2, 0, none⟩)), (4, .int .i64 (T.dl + k)), (5, .pointer (some ⟨b5, 0, none⟩)), (6, .int .i64 (lstN T d)), (8, .pointer (some ⟨b8, 0, none⟩)), (44, .int .i64 l.length), (45, .int .i64 (k + 1 : Nat))], ⟨b5, 0, cCl (chp T d), some 27, 2⟩ :: ⟨b8, 0, cTm T p, some 99, 11⟩ :: ⟨b2, 0, cTm T p, some 32, 11⟩ :: H, (by (repeat (first | exact Sub.nil _ | refine Sub.cons rfl ?_)); done), (by (repeat (first | exact List.Sublist.refl _ | apply List.Sublist.cons_cons | apply List.Sublist.cons)); done), ⟨k + 1, rfl, by omega, by rw [hst], by rw [hst]⟩, by omega⟩
            · rw [if_neg (fun q => q.elim hc hc2)] at hst
              repeat' (first | (refine XO.op rfl ?_; (first | ((first | refine Xo.ng rfl ?_ | (refine Xo.g rfl rfl ?_; with_reducible refine Xw.ff ?_)); (first | (refine Xg.ev (EvF.cmp (b := false) rfl rfl rfl (congrArg some (decide_eq_false (by omega)))) rfl rfl ?_) | (refine Xg.ev (EvF.move rfl rfl) rfl rfl ?_) | (refine Xg.ev (EvF.pickF rfl rfl rfl) rfl rfl ?_) | (refine Xg.ev (EvF.add64 rfl rfl rfl (by omega) (by omega)) rfl rfl ?_))))) | (refine XO.done rfl ?_; refine hK _ _ ?_; clear hK K) | refine X.seq rfl ?_ | refine X.region rfl (fun K hK => ?_) | refine X.skip rfl ?_ | (refine X.ite rfl rfl (fun hc => ?_); (first | (with_reducible refine Xb.f hc ?_)) <;> clear hc))
              all_goals try (exfalso; omega)
              refine ⟨_, [(1, .slice (some ⟨lb, lo, none⟩) l.length cc), (2, .pointer (some ⟨b2, 0, none⟩)), (4, .int .i64 mo), (5, .pointer (some ⟨b5, 0, none⟩)), (6, .int .i64 nk), (8, .pointer (some ⟨b8, 0, none⟩)), (44, .int .i64 l.length), (45, .int .i64 (k + 1 : Nat))], ⟨b5, 0, cCl y, some 27, 2⟩ :: ⟨b8, 0, cTm T p, some 99, 11⟩ :: ⟨b2, 0, cTm T p, some 32, 11⟩ :: H, (by (repeat (first | exact Sub.nil _ | refine Sub.cons rfl ?_)); done), (by (repeat (first | exact List.Sublist.refl _ | apply List.Sublist.cons_cons | apply List.Sublist.cons)); done), ⟨k + 1, rfl, by omega, by rw [hst], by rw [hst]⟩, by omega⟩
        · obtain rfl : k = l.length := by omega
          obtain ⟨⟨mo, y, nk⟩, hm⟩ : ∃ m, mst T l l.length = m := ⟨_, rfl⟩
          rw [hm]
          dsimp only
          repeat' (first | fail)
          have hsm : ∀ i d, [3, 5].contains i = true → (tAt tsMc i).dst = some d → ∀ (env : Env) (v : Value), lk [(4, .int .i64 mo), (5, .pointer (some ⟨b5, 0, none⟩)), (6, .int .i64 nk)] d = some v → valMc b5 mo nk y i env = v := by
            intro i d hi hd env v hv
            have hh : i = 3 ∨ i = 5 := by simpa using hi
            rcases hh with rfl | rfl <;> (cases hd; cases hv; rfl)
          refine X.regionSm [3, 5] tsMc rdMc [4, 5, 6] [(4, .int .i64 mo), (5, .pointer (some ⟨b5, 0, none⟩)), (6, .int .i64 nk)] (valMc b5 mo nk y) (rowsMc b5 mo nk y) (fun _ => (0, 0)) (⟨b8, 0, cTm T p, some 99, 11⟩ :: ⟨b2, 0, cTm T p, some 32, 11⟩ :: H) rfl mixed (by (repeat (first | exact Sub.nil _ | refine Sub.cons rfl ?_)); done) rfl (by kernel_rfl) (by kernel_rfl) (locMc b5 mo nk y) hsm (List.Sublist.refl _) ?_ ?_
          · repeat' (first | exact AllF.done rfl | (refine AllF.step rfl ?_ ?_; · (first | exact (Ob.ng rfl (ObK.pure (fun env R hR => by exact ⟨_, EvF.move rfl rfl, rfl⟩) rfl (fun _ => rfl))).toR | exact (Ob.ng rfl (ObK.pure (fun env R hR => by exact ⟨_, EvF.assign rfl rfl, rfl⟩) rfl (fun _ => rfl))).toR | (refine ObR.ng rfl ?_; (first | (exact fun env S hS hrd => (StF.ofEv (EvF.loadV rfl rfl (LoadV.whole (te rfl) rfl (hrd 7 (List.Mem.head _) _ (List.Mem.head _)) rfl))).op.mono (fun v H' ⟨hv, hH⟩ => ⟨(0, 0), fun _ => hv, by rw [hH]; exact List.Perm.refl _⟩)) | (exact fun env S hS hrd => (StF.storeAll (i := 0) (vs := cCl y) (cs := cCl y) rfl rfl rfl (te rfl) rfl rfl rfl rfl).op.mono (fun v H' ⟨hv, hH⟩ => ⟨(0, 0), fun h => absurd rfl h, by rw [hH]; exact List.Perm.refl _⟩)))))))
          intro env t ha hv
          refine ⟨_, ((ha.cons (hv 3 4 (Nat.le_of_ble_eq_true rfl) rfl)).cons (hv 5 6 (Nat.le_of_ble_eq_true rfl) rfl)).cons (hv 6 7 (Nat.le_of_ble_eq_true rfl) rfl), ?_⟩
          clear hv ha
          show X _ _ _ ((7, .int .i64 0) :: (6, .int .i64 nk) :: (4, .int .i64 mo) :: _) (⟨b5, 0, cCl y, some 27, 2⟩ :: ⟨b8, 0, cTm T p, some 99, 11⟩ :: ⟨b2, 0, cTm T p, some 32, 11⟩ :: H) _
          repeat' (first | refine X.ret rfl ?_)
          exact ret_four (v' := .agg (cCl y).toArray) (by first | exact .inr rfl | exact .inl rfl) Tryz.results28 rfl ⟨_, rfl, LoadV.whole (te rfl) rfl (List.Mem.head _) rfl⟩ rfl rfl (H' := H) (by (repeat (first | exact List.Sublist.refl _ | apply List.Sublist.cons)); done) ⟨rfl, rfl⟩
      · have hE : monE T l = 43 := by unfold monE; rw [if_pos hok, if_pos hlen, if_neg hd]
        rw [hE, tripT hE (by decide)]
        simp only [decide_eq_false hd] at had
        have had3 : ∀ r1 r2 r3 : Row, Fc Tryz.prog 77 [.agg (cTm T p).toArray, .agg (cAb (abM l) ⟨a, cc, none, 0, none, 0, none, 0⟩).toArray] (r1 :: r2 :: r3 :: H) (fun v H' => v = .bool false ∧ H' = r1 :: r2 :: r3 :: H) := fun r1 r2 r3 => had [r1, r2, r3]
        refine Fc.mk (callable Tryz.call28) Tryz.func28 rfl Tryz.ntmps28 rfl ?_; dsimp only [fr]
        repeat' (first | (refine XO.op rfl ?_; (first | ((first | refine Xo.ng rfl ?_); (first | (refine Xg.ev (EvF.build (cs := cAb abO ⟨none, 0, none, 0, none, 0, none, 0⟩) rfl ArgsP.nil (te rfl) (Places.cons (te rfl) (Places.cons (te rfl) (Places.cons (te rfl) (Places.cons (te rfl) Places.nil)))) Tryz.zeroValue97 rfl) rfl rfl ?_) | (refine Xg.call (EnF.st rfl (Args.cons rfl (Args.cons rfl Args.nil))) rfl rfl (openOk T p _ (hT1 [_, _]) hok) ?_; rintro _ H9 ⟨rfl, hH9⟩; subst H9) | (refine Xg.ev (EvF.build (cs := cAb (abM l) ⟨a, cc, none, 0, none, 0, none, 0⟩) rfl (ArgsP.cons rfl ArgsP.nil) (te rfl) (Places.cons (te rfl) (Places.cons (te rfl) (Places.cons (te rfl) (Places.cons (te rfl) Places.nil)))) Tryz.zeroValue97 rfl) rfl rfl ?_) | (refine Xg.call (EnF.st rfl (Args.cons rfl (Args.cons rfl Args.nil))) rfl rfl (had3 _ _ _) ?_; rintro _ H9 ⟨rfl, hH9⟩; subst H9) | (refine Xg.ev (EvF.build (cs := cCl ⟨0, 0⟩) rfl ArgsP.nil (te rfl) (Places.cons (te rfl) (Places.cons (te rfl) Places.nil)) Tryz.zeroValue27 rfl) rfl rfl ?_) | (refine Xg.ev (EvF.move rfl rfl) rfl rfl ?_) | (refine Xg.ev (EvF.assign rfl rfl) rfl rfl ?_) | (refine Xg.ev (EvF.cmp rfl rfl rfl rfl) rfl rfl ?_) | (refine Xg.ev (EvF.add64 rfl rfl rfl (by omega) (by omega)) rfl rfl ?_) | (refine Xg.ev (EvF.sub64 rfl rfl rfl (by omega) (by omega)) rfl rfl ?_) | (refine Xg.ev (EvF.not rfl rfl) rfl rfl ?_) | (refine Xg.ev (EvF.fieldAddr rfl rfl (te rfl) rfl (te rfl) (by decide)) rfl rfl ?_) | (refine Xg.ev (EvF.lenSlice rfl rfl (te rfl)) rfl rfl ?_) | (refine Xg.ev (EvF.loadV rfl rfl (LoadV.own (te rfl) rfl (List.Mem.head _) rfl)) rfl rfl ?_) | (refine Xg.ev (EvF.loadV rfl rfl (LoadV.whole (te rfl) rfl (List.Mem.tail _ (List.Mem.head _)) rfl)) rfl rfl ?_) | (refine Xg.ev (EvF.loadV rfl rfl (LoadV.whole (te rfl) rfl (List.Mem.tail _ (List.Mem.tail _ (List.Mem.head _))) rfl)) rfl rfl ?_) | (refine Xg.ev (EvF.extract rfl rfl rfl) rfl rfl ?_) | (refine Xg.st (StF.boxAgg rfl rfl) rfl rfl ?_; rintro _ _ ⟨bx, rfl, rfl⟩) | (refine Xg.st (StF.alloc rfl Tryz.zeroValue30 rfl) rfl rfl ?_; rintro _ _ ⟨bx, rfl, rfl⟩) | (refine Xg.st (StF.alloc rfl Tryz.zeroValue32 rfl) rfl rfl ?_; rintro _ _ ⟨bx, rfl, rfl⟩) | (refine Xg.st0 (StF.storeAll (i := 0) rfl rfl rfl (te rfl) rfl rfl rfl rfl) rfl ?_; rintro _ _ ⟨rfl, rfl⟩; dsimp only [List.set]) | (refine Xg.st0 (StF.storeAll (i := 1) rfl rfl rfl (te rfl) rfl rfl rfl rfl) rfl ?_; rintro _ _ ⟨rfl, rfl⟩; dsimp only [List.set]))))) | (refine XO.done rfl ?_; refine hK _ _ ?_; clear hK K) | refine X.seq rfl ?_ | refine X.region rfl (fun K hK => ?_) | refine X.block rfl ?_ | refine X.skip rfl ?_ | refine X.ret rfl ?_ | (refine X.ite rfl rfl (fun hc => ?_); (first | (with_reducible refine Xb.caseN hc (fun h => ?_) (fun h => ?_)) | (with_reducible refine Xb.caseB hc (fun h => ?_) (fun h => ?_))) <;> clear hc))
        all_goals try (exfalso; first | contradiction | omega)
        exact ret_four (v' := .agg (cCl ⟨0, 0⟩).toArray) (by first | exact .inr rfl | exact .inl rfl) Tryz.results28 rfl ⟨_, rfl, LoadV.whole (te rfl) rfl (List.Mem.tail _ (List.Mem.head _)) rfl⟩ rfl rfl (H' := H) (by (repeat (first | exact List.Sublist.refl _ | apply List.Sublist.cons)); done) ⟨rfl, rfl⟩
    · have hE : monE T l = 2 := by unfold monE; rw [if_pos hok, if_neg hlen]
      rw [hE, tripT hE (by decide)]
      refine Fc.mk (callable Tryz.call28) Tryz.func28 rfl Tryz.ntmps28 rfl ?_; dsimp only [fr]
      repeat' (first | (refine XO.op rfl ?_; (first | ((first | refine Xo.ng rfl ?_); (first | (refine Xg.ev (EvF.build (cs := cAb abO ⟨none, 0, none, 0, none, 0, none, 0⟩) rfl ArgsP.nil (te rfl) (Places.cons (te rfl) (Places.cons (te rfl) (Places.cons (te rfl) (Places.cons (te rfl) Places.nil)))) Tryz.zeroValue97 rfl) rfl rfl ?_) | (refine Xg.call (EnF.st rfl (Args.cons rfl (Args.cons rfl Args.nil))) rfl rfl (openOk T p _ (hT1 [_, _]) hok) ?_; rintro _ H9 ⟨rfl, hH9⟩; subst H9) | (refine Xg.ev (EvF.build (cs := cCl ⟨0, 0⟩) rfl ArgsP.nil (te rfl) (Places.cons (te rfl) (Places.cons (te rfl) Places.nil)) Tryz.zeroValue27 rfl) rfl rfl ?_) | (refine Xg.ev (EvF.move rfl rfl) rfl rfl ?_) | (refine Xg.ev (EvF.assign rfl rfl) rfl rfl ?_) | (refine Xg.ev (EvF.cmp rfl rfl rfl rfl) rfl rfl ?_) | (refine Xg.ev (EvF.add64 rfl rfl rfl (by omega) (by omega)) rfl rfl ?_) | (refine Xg.ev (EvF.sub64 rfl rfl rfl (by omega) (by omega)) rfl rfl ?_) | (refine Xg.ev (EvF.fieldAddr rfl rfl (te rfl) rfl (te rfl) (by decide)) rfl rfl ?_) | (refine Xg.ev (EvF.lenSlice rfl rfl (te rfl)) rfl rfl ?_) | (refine Xg.ev (EvF.loadV rfl rfl (LoadV.own (te rfl) rfl (List.Mem.head _) rfl)) rfl rfl ?_) | (refine Xg.ev (EvF.loadV rfl rfl (LoadV.whole (te rfl) rfl (List.Mem.tail _ (List.Mem.head _)) rfl)) rfl rfl ?_) | (refine Xg.ev (EvF.loadV rfl rfl (LoadV.whole (te rfl) rfl (List.Mem.tail _ (List.Mem.tail _ (List.Mem.head _))) rfl)) rfl rfl ?_) | (refine Xg.ev (EvF.extract rfl rfl rfl) rfl rfl ?_) | (refine Xg.st (StF.boxAgg rfl rfl) rfl rfl ?_; rintro _ _ ⟨bx, rfl, rfl⟩) | (refine Xg.st (StF.alloc rfl Tryz.zeroValue30 rfl) rfl rfl ?_; rintro _ _ ⟨bx, rfl, rfl⟩) | (refine Xg.st (StF.alloc rfl Tryz.zeroValue32 rfl) rfl rfl ?_; rintro _ _ ⟨bx, rfl, rfl⟩) | (refine Xg.st0 (StF.storeAll (i := 0) rfl rfl rfl (te rfl) rfl rfl rfl rfl) rfl ?_; rintro _ _ ⟨rfl, rfl⟩; dsimp only [List.set]) | (refine Xg.st0 (StF.storeAll (i := 1) rfl rfl rfl (te rfl) rfl rfl rfl rfl) rfl ?_; rintro _ _ ⟨rfl, rfl⟩; dsimp only [List.set]))))) | (refine XO.done rfl ?_; refine hK _ _ ?_; clear hK K) | refine X.seq rfl ?_ | refine X.region rfl (fun K hK => ?_) | refine X.skip rfl ?_ | refine X.ret rfl ?_ | (refine X.ite rfl rfl (fun hc => ?_); (first | (with_reducible refine Xb.caseN hc (fun h => ?_) (fun h => ?_))) <;> clear hc))
      all_goals try (exfalso; first | contradiction | omega)
      exact ret_four (v' := .agg (cCl ⟨0, 0⟩).toArray) (by first | exact .inr rfl | exact .inl rfl) Tryz.results28 rfl ⟨_, rfl, LoadV.whole (te rfl) rfl (List.Mem.tail _ (List.Mem.head _)) rfl⟩ rfl rfl (H' := H) (by (repeat (first | exact List.Sublist.refl _ | apply List.Sublist.cons)); done) ⟨rfl, rfl⟩
  · have hE : monE T l = 40 := by unfold monE; rw [if_neg hok]
    rw [hE, tripT hE (by decide)]
    refine Fc.mk (callable Tryz.call28) Tryz.func28 rfl Tryz.ntmps28 rfl ?_; dsimp only [fr]
    repeat' (first | (refine XO.op rfl ?_; (first | ((first | refine Xo.ng rfl ?_); (first | (refine Xg.ev (EvF.build (cs := cAb abO ⟨none, 0, none, 0, none, 0, none, 0⟩) rfl ArgsP.nil (te rfl) (Places.cons (te rfl) (Places.cons (te rfl) (Places.cons (te rfl) (Places.cons (te rfl) Places.nil)))) Tryz.zeroValue97 rfl) rfl rfl ?_) | (refine Xg.call (EnF.st rfl (Args.cons rfl (Args.cons rfl Args.nil))) rfl rfl (openNo T p _ (hT1 [_, _]) hok) ?_; rintro _ H9 ⟨rfl, hH9⟩; subst H9) | (refine Xg.ev (EvF.build (cs := cCl ⟨0, 0⟩) rfl ArgsP.nil (te rfl) (Places.cons (te rfl) (Places.cons (te rfl) Places.nil)) Tryz.zeroValue27 rfl) rfl rfl ?_) | (refine Xg.ev (EvF.move rfl rfl) rfl rfl ?_) | (refine Xg.ev (EvF.assign rfl rfl) rfl rfl ?_) | (refine Xg.ev (EvF.cmp rfl rfl rfl rfl) rfl rfl ?_) | (refine Xg.ev (EvF.add64 rfl rfl rfl (by omega) (by omega)) rfl rfl ?_) | (refine Xg.ev (EvF.sub64 rfl rfl rfl (by omega) (by omega)) rfl rfl ?_) | (refine Xg.ev (EvF.fieldAddr rfl rfl (te rfl) rfl (te rfl) (by decide)) rfl rfl ?_) | (refine Xg.ev (EvF.lenSlice rfl rfl (te rfl)) rfl rfl ?_) | (refine Xg.ev (EvF.loadV rfl rfl (LoadV.own (te rfl) rfl (List.Mem.head _) rfl)) rfl rfl ?_) | (refine Xg.ev (EvF.loadV rfl rfl (LoadV.whole (te rfl) rfl (List.Mem.tail _ (List.Mem.head _)) rfl)) rfl rfl ?_) | (refine Xg.ev (EvF.loadV rfl rfl (LoadV.whole (te rfl) rfl (List.Mem.tail _ (List.Mem.tail _ (List.Mem.head _))) rfl)) rfl rfl ?_) | (refine Xg.ev (EvF.extract rfl rfl rfl) rfl rfl ?_) | (refine Xg.st (StF.boxAgg rfl rfl) rfl rfl ?_; rintro _ _ ⟨bx, rfl, rfl⟩) | (refine Xg.st (StF.alloc rfl Tryz.zeroValue30 rfl) rfl rfl ?_; rintro _ _ ⟨bx, rfl, rfl⟩) | (refine Xg.st (StF.alloc rfl Tryz.zeroValue32 rfl) rfl rfl ?_; rintro _ _ ⟨bx, rfl, rfl⟩) | (refine Xg.st0 (StF.storeAll (i := 0) rfl rfl rfl (te rfl) rfl rfl rfl rfl) rfl ?_; rintro _ _ ⟨rfl, rfl⟩; dsimp only [List.set]) | (refine Xg.st0 (StF.storeAll (i := 1) rfl rfl rfl (te rfl) rfl rfl rfl rfl) rfl ?_; rintro _ _ ⟨rfl, rfl⟩; dsimp only [List.set]))))) | (refine XO.done rfl ?_; refine hK _ _ ?_; clear hK K) | refine X.seq rfl ?_ | refine X.region rfl (fun K hK => ?_) | refine X.skip rfl ?_ | refine X.ret rfl ?_ | (refine X.ite rfl rfl (fun hc => ?_); (first | (with_reducible refine Xb.caseN hc (fun h => ?_) (fun h => ?_))) <;> clear hc))
    all_goals try (exfalso; first | contradiction | omega)
    exact ret_four (v' := .agg (cCl ⟨0, 0⟩).toArray) (by first | exact .inr rfl | exact .inl rfl) Tryz.results28 rfl ⟨_, rfl, LoadV.whole (te rfl) rfl (List.Mem.tail _ (List.Mem.head _)) rfl⟩ rfl rfl (H' := H) (by (repeat (first | exact List.Sublist.refl _ | apply List.Sublist.cons)); done) ⟨rfl, rfl⟩
end Go.Proofs.YtcjlegjchllgjaaGreat
end
section
set_option linter.unusedVariables false
namespace Go.Fw
open Go Go.RowKit
def reF (ts : List TOp) (F0 : FS) (i0 d0 : Nat) (u0 : Value) (i : Nat) : FS := match (tAt ts i0).sup.contains i with | true => (d0, u0) :: F0 | false => F0
theorem wpAny_ob4 {P : Program} {n : Nat} {ops : Array Oper} {ts : List TOp} {dom : List Nat} {F0 : FS} {sm : List Nat} (hd : F0.map (·.1) = dom) (hok : okReg3 sm ops ts dom n = true) (rd : Nat → List Nat) (hrd : okRd ts rd ops.size = true) (val : Nat → Env → Value) (rows : Nat → Env → List Row)
    (hloc : ∀ k env i p, i ≠ k → (tAt ts k).sup.contains i = false → val k (upd env i p) = val k env ∧ rows k (upd env i p) = rows k env)
    (hsm : ∀ i d, sm.contains i = true → (tAt ts i).dst = some d → ∀ env v, lk F0 d = some v → val i env = v)
    {d0 i0 : Nat} {u0 : Value} (hre : (tAt ts i0).dst = some d0) (hi0 : i0 < ops.size)
    (R0 : List Row) (hob : ∀ i o, opAt ops.toList i = some o → ObR P n ts rd val rows (reF ts F0 i0 d0 u0 i) R0 i o)
    {Q : QT} (hQ : ∀ env t, Ag n F0 t → (∀ i d, i < ops.size → (tAt ts i).dst = some d → t[d]? = some (val i env)) → Q .normal t ((alive ts).flatMap (fun k => rows k env) ++ R0))
    {ρ : Option Nat} {ds : List Deferred} {B : Nat} {w0 : World} :
    ∀ (fuel : Nat) (listed : Array Bool) (U A : List Nat) (t : List Value) (H : List Row) (w : World) (env : Env), listed.size = ops.size → U.length = fuel → U.Nodup → (∀ k, k ∈ U ↔ k < ops.size ∧ listed.getD k true = false) →
      (∀ k, k < ops.size → listed.getD k true = true → ∀ j, (tAt ts k).sup.contains j = true → listed.getD j true = true) →
      A.Nodup → (∀ k, k ∈ A ↔ k < ts.length ∧ listed.getD k true = true ∧ ∀ j, j < ops.size → listed.getD j true = true → k ∉ (tAt ts j).kills) →
      Ag n F0 t → (listed.getD i0 true = false → t[d0]? = some u0) → (∀ k d, k < ops.size → listed.getD k true = true → (tAt ts k).dst = some d → t[d]? = some (val k env)) →
      St B w0 H w → H.Perm (R0 ++ A.flatMap (fun k => rows k env)) → wpAnyIn (wf ρ) 0 P .any ops (lift ds B w0 Q) fuel listed ⟨t.toArray, ds⟩ w := by
  unfold okReg3 at hok
  simp only [Bool.and_eq_true, decide_eq_true_eq] at hok
  obtain ⟨⟨⟨hlen, hops⟩, hkn⟩, hps⟩ := hok
  have hopAt : ∀ i o, ops[i]? = some o → okOp3 sm ts dom n ops.size i o = true := by
    intro i o hi
    have := List.all_eq_true.1 hops (o, i) (by
      rw [List.mem_zipIdx_iff_getElem?]; simpa using hi)
    exact this
  intro fuel
  induction fuel with
  | zero =>
    intro listed U A t H w env hls hUl hUn hU hcl hAn hA hag hr0 hv hS hH
    have hU0 : U = [] := List.eq_nil_of_length_eq_zero hUl
    subst hU0
    have hall : ∀ k, listed.getD k true = true := by
      intro k
      cases hk : listed.getD k true with
      | true => rfl
      | false =>
        by_cases h1 : k < ops.size
        · exact absurd ((hU k).2 ⟨h1, hk⟩) (by simp)
        · rw [Array.getD_eq_getD_getElem?, Array.getElem?_eq_none (by omega)] at hk; cases hk
    refine ⟨?_, rfl, _, ?_, hS.perm (H' := (alive ts).flatMap (fun k => rows k env) ++ R0) ?_⟩
    · unfold Region.ready
      rw [List.filter_eq_nil_iff]
      intro k _
      rw [hall]; simp
    · have := hQ env t hag (fun i d hi hd => hv i d hi (hall i) hd)
      simpa using this
    · refine List.perm_append_comm.trans ((List.Perm.append_left R0 (List.Perm.flatMap_right _ ?_)).trans hH.symm)
      refine perm_of_mem ((List.nodup_range).sublist List.filter_sublist) hAn fun k => ?_
      rw [hA, alive, List.mem_filter, List.mem_range]
      simp only [hall, true_and, Bool.not_eq_true', List.contains_eq_mem, decide_eq_false_iff_not, true_implies]
      refine and_congr_right fun _ => ⟨fun h j _ hj => h (tAt_mem hj), fun h hm => ?_⟩
      obtain ⟨T, hT, hk⟩ := List.mem_flatMap.1 hm
      obtain ⟨j, hj, rfl⟩ := List.mem_iff_getElem.1 hT
      by_cases hj' : j < ops.size
      · exact h j hj' (by unfold tAt; simp [List.getD, hj, hk])
      · have := List.all_eq_true.1 hps ts[j] (by
          rw [List.mem_iff_getElem?]
          exact ⟨j - ops.size, by rw [List.getElem?_drop, show ops.size + (j - ops.size) = j by omega, List.getElem?_eq_getElem hj]⟩)
        simp only [Bool.and_eq_true, List.isEmpty_iff] at this
        rw [this.1] at hk; cases hk
  | succ fuel ih =>
    intro listed U A t H w env hls hUl hUn hU hcl hAn hA hag hr0 hv hS hH
    have hge : ∀ k, ops.size ≤ k → listed.getD k true = true := fun k hk => by rw [Array.getD_eq_getD_getElem?, Array.getElem?_eq_none (by omega)]; rfl
    have hgd : ∀ k, k < ops.size → listed.getD k false = listed.getD k true := fun k hk => by
      rw [Array.getD_eq_getD_getElem?, Array.getD_eq_getD_getElem?, Array.getElem?_eq_getElem (by omega)]; rfl
    refine ⟨fun h0 => ?_, fun i hi => ?_⟩
    · exfalso
      have key : ∀ m, m ∈ U → False := by
        intro m
        induction m using Nat.strongRecOn with
        | _ m ihm =>
          intro hm
          obtain ⟨hms, hml⟩ := (hU m).1 hm
          obtain ⟨o, ho⟩ : ∃ o, ops[m]? = some o := ⟨ops[m], Array.getElem?_eq_getElem hms⟩
          have hc := hopAt m o ho
          unfold okOp3 at hc
          simp only [Bool.and_eq_true] at hc
          obtain ⟨⟨⟨⟨_, haf⟩, _⟩, _⟩, _⟩ := hc
          by_cases hal : o.after.all (fun e => !Region.binds .any e || listed.getD e.on false) = true
          · have : m ∈ Region.ready .any ops listed := by
              unfold Region.ready
              rw [List.mem_filter]
              refine ⟨List.mem_range.2 hms, ?_⟩
              rw [hml, ho]
              simp only [Option.map_some, Option.getD_some, Bool.not_false, Bool.true_and]
              exact hal
            rw [h0] at this; cases this
          · have : ∃ e ∈ o.after, ¬ ((!Region.binds .any e || listed.getD e.on false) = true) := by
              rw [Array.all_eq_true_iff_forall_mem] at hal
              simpa using hal
            obtain ⟨e, he, hne⟩ := this
            have h1 := List.all_eq_true.1 haf e (Array.mem_toList_iff.2 he)
            simp only [Bool.or_eq_true, Bool.not_eq_true', not_or, Bool.not_eq_false, Bool.not_eq_true] at hne h1
            have h2 : e.on < m := by
              rcases h1 with h1 | h1
              · rw [hne.1] at h1; cases h1
              · simpa using h1
            refine ihm e.on h2 ((hU e.on).2 ⟨by omega, ?_⟩)
            rw [← hgd e.on (by omega)]; exact hne.2
      cases U with
      | nil => simp at hUl
      | cons u U => exact key u (List.mem_cons_self ..)
    · unfold Region.ready at hi
      rw [List.mem_filter, List.mem_range] at hi
      obtain ⟨his, hi2⟩ := hi
      obtain ⟨o, ho⟩ : ∃ o, ops[i]? = some o := ⟨ops[i], Array.getElem?_eq_getElem his⟩
      simp only [ho, Option.map_some, Option.getD_some, Bool.and_eq_true, Bool.not_eq_true'] at hi2
      obtain ⟨hil, hia⟩ := hi2
      have hc := hopAt i o ho
      unfold okOp3 at hc
      simp only [Bool.and_eq_true] at hc
      obtain ⟨⟨⟨⟨⟨⟨hgu, hdst⟩, hds⟩, haf⟩, hsup⟩, hdeps⟩, hkil⟩ := hc
      have hdst' : o.dst = (tAt ts i).dst := by simpa using hdst
      rw [Array.all_eq_true_iff_forall_mem] at hia
      have hson : ∀ j, (tAt ts i).sup.contains j = true → j < i ∧ listed.getD j true = true := by
        intro j hj
        have h1 := List.all_eq_true.1 hsup j (by simpa using hj)
        simp only [Bool.and_eq_true, decide_eq_true_eq, List.any_eq_true] at h1
        obtain ⟨hji, e, he', hb, h2⟩ := h1
        have he := Array.mem_toList_iff.1 he'
        refine ⟨hji, ?_⟩
        have h3 := hia e he
        rw [hb] at h3
        have h4 := List.all_eq_true.1 haf e he'
        rw [hb] at h4
        simp only [Bool.not_true, Bool.false_or, decide_eq_true_eq] at h3 h4
        rw [hgd e.on (by omega)] at h3
        simp only [Bool.or_eq_true, beq_iff_eq] at h2
        rcases h2 with h2 | h2
        · rw [← h2]; exact h3
        · exact hcl e.on (by omega) h3 j h2
      have hks : ∀ k ∈ (tAt ts i).kills, k ∈ A := by
        intro k hk
        rw [hA]
        have h1 := List.all_eq_true.1 hkil k hk
        simp only [Bool.or_eq_true, decide_eq_true_eq] at h1
        refine ⟨?_, ?_, fun j hj hjl hkj => ?_⟩
        · rcases h1 with h1 | h1
          · have := (hson k h1).1; omega
          · omega
        · rcases h1 with h1 | h1
          · exact (hson k h1).2
          · exact hge k h1.1
        · have := kills_once hkn hk hkj
          subst this
          rw [hil] at hjl; cases hjl
      have hkin : (tAt ts i).kills.Nodup := by
        unfold tAt List.getD
        cases hti : ts[i]? with
        | none => simp
        | some T =>
          simp only [Option.getD_some]
          exact kills_nodup hkn (List.mem_of_getElem? hti)
      obtain ⟨A', hp, hA'n, hA'm⟩ := take_out _ A hkin hAn hks
      have hH1 : ((tAt ts i).kills.flatMap (fun k => rows k env) ++ (R0 ++ A'.flatMap (fun k => rows k env))).Perm H := by
        refine List.Perm.trans ?_ hH.symm
        refine List.Perm.trans ?_ (List.Perm.append_left R0 (List.Perm.flatMap_right _ hp.symm))
        rw [List.flatMap_append, ← List.append_assoc, ← List.append_assoc]
        exact List.Perm.append_right _ List.perm_append_comm
      have hdp : ∀ k ∈ (tAt ts i).deps, ∀ d, (tAt ts k).dst = some d → t[d]? = some (val k env) := by
        intro k hk d hd
        have h1 := List.all_eq_true.1 hdeps k hk
        obtain ⟨h2, h3⟩ := hson k h1
        exact hv k d (by omega) h3 hd
      have hag' : Ag n (reF ts F0 i0 d0 u0 i) t := by
        unfold reF
        cases hci : (tAt ts i0).sup.contains i with
        | false => exact hag
        | true =>
          refine hag.cons (hr0 ?_)
          cases hx : listed.getD i0 true with
          | false => rfl
          | true => have := hcl i0 hi0 hx i hci; rw [hil] at this; cases this
      have hst := hob i o (by rw [opAt_eq]; simpa using ho)
      have hreads : ∀ k ∈ rd i, ∀ r ∈ rows k env, r ∈ R0 ++ A'.flatMap (fun k => rows k env) := by
        intro k hk r hr
        refine List.mem_append_right _ (List.mem_flatMap.2 ⟨k, ?_, hr⟩)
        have h1 := List.all_eq_true.1 (List.all_eq_true.1 hrd i (List.mem_range.2 his)) k hk
        simp only [Bool.and_eq_true, Bool.or_eq_true, decide_eq_true_eq, Bool.not_eq_true'] at h1
        obtain ⟨⟨h1, h2⟩, h3⟩ := h1
        rw [hA'm, hA]
        refine ⟨⟨?_, ?_, fun j hj hjl hkj => ?_⟩, by simpa using h2⟩
        · rcases h1 with h1 | h1
          · have := (hson k h1).1; omega
          · omega
        · rcases h1 with h1 | h1
          · exact (hson k h1).2
          · exact hge k h1.1
        · have h4 := List.all_eq_true.1 h3 j (List.mem_range.2 hj)
          simp only [Bool.or_eq_true, Bool.not_eq_true'] at h4
          rcases h4 with h4 | h4
          · rw [List.contains_iff_mem.2 hkj] at h4; cases h4
          · have := hcl j hj hjl i h4
            rw [hil] at this; cases this
      have hyv : ∀ j ww, o.guard = some (j, ww) → (tAt ts j).dst ≠ none → yielded ops t.toArray j = bv (val j env) := by
        intro j ww hg hj
        rw [hg] at hgu
        obtain ⟨h1, h2⟩ := hson j hgu
        obtain ⟨d, hd'⟩ := Option.ne_none_iff_exists'.1 hj
        have hoj : ops[j]? = some ops[j] := Array.getElem?_eq_getElem (by omega)
        have hcj := hopAt j _ hoj
        unfold okOp3 at hcj
        simp only [Bool.and_eq_true] at hcj
        have hdj : (ops[j]).dst = (tAt ts j).dst := by simpa using hcj.1.1.1.1.1.2
        exact yielded_bv hoj (by rw [hdj, hd']) (hv j d (by omega) h2 hd')
      have hnext : ∀ (v : Value) (w' : World) (H' : List Row), St B w0 H' w' → (∃ p, ((tAt ts i).dst ≠ none → v = val i (upd env i p)) ∧ H'.Perm (rows i (upd env i p) ++ (R0 ++ A'.flatMap (fun k => rows k env)))) → wpAnyIn (wf ρ) 0 P .any ops (lift ds B w0 Q) fuel (listed.setIfInBounds i true) ⟨(put t o.dst v).toArray, ds⟩ w' := by
        rintro v w' H' hS' ⟨p, hval, hH'⟩
        have hl' : ∀ k, (listed.setIfInBounds i true).getD k true = if k = i then true else listed.getD k true := by
          intro k
          rw [Array.getD_eq_getD_getElem?, Array.getD_eq_getD_getElem?, Array.getElem?_setIfInBounds]
          by_cases hki : k = i
          · subst hki; simp; split <;> rfl
          · rw [if_neg (fun e => hki e.symm), if_neg hki]
        have hnot : ∀ k, listed.getD k true = true → (tAt ts k).sup.contains i = false := by
          intro k hk
          by_cases hks' : k < ops.size
          · cases hcs : (tAt ts k).sup.contains i with
            | false => rfl
            | true => have := hcl k hks' hk i hcs; rw [hil] at this; cases this
          · by_cases hkt : k < ts.length
            · have := List.all_eq_true.1 hps ts[k] (by
                rw [List.mem_iff_getElem?]
                exact ⟨k - ops.size, by rw [List.getElem?_drop, show ops.size + (k - ops.size) = k by omega, List.getElem?_eq_getElem hkt]⟩)
              simp only [Bool.and_eq_true, List.isEmpty_iff] at this
              have e : tAt ts k = ts[k] := by unfold tAt; simp [List.getD, hkt]
              rw [e, this.2]; rfl
            · have e : tAt ts k = ⟨none, [], [], []⟩ := by unfold tAt; simp [List.getD, List.getElem?_eq_none (by omega : ts.length ≤ k)]
              rw [e]; rfl
        have hiA : i ∉ A := fun h => by have := ((hA i).1 h).2.1; rw [hil] at this; cases this
        refine ih (listed.setIfInBounds i true) (U.erase i) (i :: A') (put t o.dst v) H' w' (upd env i p) (by simpa using hls) ?_ (hUn.sublist List.erase_sublist) ?_ ?_ ?_ ?_ ?_ ?_ ?_ hS' ?_
        · rw [List.length_erase_of_mem ((hU i).2 ⟨his, hil⟩)]; omega
        · intro k
          rw [hUn.mem_erase_iff, hU, hl']
          by_cases hki : k = i
          · simp [hki]
          · simp [hki]
        · intro k hk hkl j hj
          rw [hl'] at hkl ⊢
          split
          · rfl
          · by_cases hki : k = i
            · subst hki; exact (hson j hj).2
            · rw [if_neg hki] at hkl; exact hcl k hk hkl j hj
        · exact List.nodup_cons.2 ⟨fun h => hiA ((hA'm i).1 h).1, hA'n⟩
        · intro k
          rw [List.mem_cons, hA'm, hA, hl']
          by_cases hki : k = i
          · subst hki
            simp only [true_or, if_true, true_and, true_iff]
            refine ⟨by omega, fun j hj hjl hkj => ?_⟩
            have h1 : ops[j]? = some ops[j] := Array.getElem?_eq_getElem hj
            have hcj := hopAt j _ h1
            unfold okOp3 at hcj
            simp only [Bool.and_eq_true] at hcj
            have h2 := List.all_eq_true.1 hcj.2 k hkj
            simp only [Bool.or_eq_true, decide_eq_true_eq] at h2
            rw [hl'] at hjl
            rcases h2 with h2 | h2
            · by_cases hjk : j = k
              · subst hjk; have := (hson j h2).1; omega
              · rw [if_neg hjk] at hjl
                have := hcl j hj hjl k h2
                rw [hil] at this; cases this
            · omega
          · simp only [hki, false_or, if_false]
            constructor
            · rintro ⟨⟨h1, h2, h3⟩, h4⟩
              refine ⟨h1, h2, fun j hj hjl => ?_⟩
              rw [hl'] at hjl
              by_cases hji : j = i
              · subst hji; exact h4
              · rw [if_neg hji] at hjl; exact h3 j hj hjl
            · rintro ⟨h1, h2, h3⟩
              exact ⟨⟨h1, h2, fun j hj hjl => h3 j hj (by rw [hl']; split; rfl; exact hjl)⟩, h3 i his (by rw [hl', if_pos rfl])⟩
        · cases hdd : o.dst with
          | none => exact hag
          | some d =>
            rw [hdst'] at hdd
            rw [hdd] at hds
            simp only [Bool.and_eq_true, decide_eq_true_eq] at hds
            refine ⟨by simpa [put] using hag.1, fun s u hs => ?_⟩
            have h1 := hag.2 s u hs
            simp only [put, List.getElem?_set]
            by_cases hsd : d = s
            · subst hsd
              have : d ∈ dom := by
                rw [← hd]
                exact lk_mem hs
              have h2 := hds.1.2
              have hsi : sm.contains i = true := by simpa [this] using h2
              have e : v = u := (hval (by rw [hdd]; simp)).trans (hsm i d hsi hdd _ u hs)
              rw [if_pos rfl, e]
              exact if_pos (by rw [hag.1]; exact hds.1.1)
            · rw [if_neg hsd]
              exact h1
        · intro hl0
          rw [hl'] at hl0
          by_cases hii : i0 = i
          · rw [if_pos hii] at hl0; cases hl0
          · rw [if_neg hii] at hl0
            have h1 := hr0 hl0
            cases hdd : o.dst with
            | none => exact h1
            | some d' =>
              simp only [put, List.getElem?_set]
              rw [if_neg]
              · exact h1
              · rintro rfl
                rw [hdst'] at hdd
                rcases Nat.lt_or_gt_of_ne hii with hlt | hlt
                · rw [hdd] at hds
                  simp only [Bool.and_eq_true] at hds
                  have := List.all_eq_true.1 hds.2 i0 (List.mem_range.2 hlt)
                  simp [hre] at this
                · have hck := hopAt i0 _ (Array.getElem?_eq_getElem hi0)
                  unfold okOp3 at hck
                  simp only [Bool.and_eq_true] at hck
                  have hdk := hck.1.1.1.1.2
                  rw [hre] at hdk
                  simp only [Bool.and_eq_true] at hdk
                  have := List.all_eq_true.1 hdk.2 i (List.mem_range.2 hlt)
                  simp [hdd] at this
        · intro k d hk hkl hkd
          rw [hl'] at hkl
          by_cases hki : k = i
          · subst hki
            rw [hdst', hkd]
            rw [hkd] at hds
            simp only [Bool.and_eq_true, decide_eq_true_eq] at hds
            simp only [put, List.getElem?_set, if_true]
            rw [if_pos (by rw [hag.1]; exact hds.1.1), hval (by rw [hkd]; simp)]
          · rw [if_neg hki] at hkl
            rw [(hloc k env i p (fun e => hki e.symm) (hnot k hkl)).1]
            have h1 := hv k d hk hkl hkd
            cases hdd : o.dst with
            | none => exact h1
            | some d' =>
              simp only [put, List.getElem?_set]
              rw [if_neg]
              · exact h1
              · rintro rfl
                rw [hdst'] at hdd
                rcases Nat.lt_or_gt_of_ne hki with hlt | hlt
                · rw [hdd] at hds
                  simp only [Bool.and_eq_true] at hds
                  have := List.all_eq_true.1 hds.2 k (List.mem_range.2 hlt)
                  simp [hkd] at this
                · have hck := hopAt k _ (Array.getElem?_eq_getElem hk)
                  unfold okOp3 at hck
                  simp only [Bool.and_eq_true] at hck
                  have hdk := hck.1.1.1.1.2
                  rw [hkd] at hdk
                  simp only [Bool.and_eq_true] at hdk
                  have := List.all_eq_true.1 hdk.2 i (List.mem_range.2 hlt)
                  simp [hdd] at this
        · refine hH'.trans ?_
          have e : A'.flatMap (fun k => rows k (upd env i p)) = A'.flatMap (fun k => rows k env) := by
            have : ∀ k ∈ A', rows k (upd env i p) = rows k env := fun k hk => by
              have h1 := (hA'm k).1 hk
              have h2 := ((hA k).1 h1.1).2.1
              exact (hloc k env i p (fun e => hiA (e ▸ h1.1)) (hnot k h2)).2
            exact flatMap_congr' this
          rw [List.flatMap_cons, e, ← List.append_assoc, ← List.append_assoc]
          exact List.Perm.append_right _ List.perm_append_comm
      unfold wpOpIn
      simp only [ho]
      rcases hst with ⟨hgr, hst⟩ | ⟨j, ww, hg, hj, hbv, hki, hvi, hri⟩
      · have hwant : Region.wanted o (yielded ops t.toArray) = true := by
          unfold Region.wanted
          rcases hgr with hgr | ⟨j, ww, hg, hj, hb⟩
          · rw [hgr]
          · rw [hg]; simp only [hyv j ww hg hj, hb]; simp
        simp only [hwant, if_true]
        exact hst env (R0 ++ A'.flatMap (fun k => rows k env)) (fun r hr => List.mem_append_left _ hr) hreads t (ag_fdeps hag' _ hdp) ρ ds B w0 w (hS.perm hH1) _ _ hnext
      · have hwant : Region.wanted o (yielded ops t.toArray) = false := by
          unfold Region.wanted
          rw [hg]; simp only [hyv j ww hg hj]
          simpa using hbv env
        simp only [hwant, Bool.false_eq_true, if_false]
        rw [put_act]
        refine ⟨fun _ _ => trivial, hnext undef w _ hS ⟨(0, 0), fun _ => (hvi _).symm, ?_⟩⟩
        --, fun _ => (hvi _).symm, ?_⟩
        rw [hri, List.nil_append]
        rw [hki] at hH1
        simpa using hH1.symm

theorem X.regionRe {P : Program} {n : Nat} {c : Code} {F : FS} {H : List Row} {Q : QX} (sm : List Nat) (ts : List TOp) (rd : Nat → List Nat) (dom : List Nat) (F0 : FS) (val : Nat → Env → Value) (rows : Nat → Env → List Row) (env0 : Env) (R0 : List Row)
    (h : c = .region (cid c) (cops c) true) (hm : P.follows .mixedOrders = true) (hsub : Sub F0 F) (hd : F0.map (·.1) = dom) (hok : okReg3 sm (cops c) ts dom n = true) (hrd : okRd ts rd (cops c).size = true)
    (hloc : ∀ k env i p, i ≠ k → (tAt ts k).sup.contains i = false → val k (upd env i p) = val k env ∧ rows k (upd env i p) = rows k env)
    (hsm : ∀ i d, sm.contains i = true → (tAt ts i).dst = some d → ∀ env v, lk F0 d = some v → val i env = v)
    (hH : (((List.range ts.length).drop (cops c).size).flatMap (fun k => rows k env0) ++ R0).Sublist H)
    {d0 : Nat} (i0 : Nat) (u0 : Value) (hre : (tAt ts i0).dst = some d0) (hi0 : i0 < (cops c).size) (h0 : lk F d0 = some u0)
    (hob' : AllF (cops c).toList 0 fun i o => ObR P n ts rd val rows (reF ts F0 i0 d0 u0 i) R0 i o)
    (hQ : ∀ env t, Ag n F0 t → (∀ i d, i < (cops c).size → (tAt ts i).dst = some d → t[d]? = some (val i env)) → exQ n Q .normal t ((alive ts).flatMap (fun k => rows k env) ++ R0)) : X P n c F H Q := by
  have hob := fun i o ho => hob' i o (Nat.zero_le i) ho
  unfold X W
  intro t ha ρ ds B w0 w hS
  rw [h]
  refine wpIn_region_any hm ?_
  have hlen : (cops c).size ≤ ts.length := by
    have := hok
    unfold okReg3 at this
    simp only [Bool.and_eq_true, decide_eq_true_eq] at this
    exact this.1.1.1
  have hl : ∀ k d, (Array.replicate (cops c).size false).getD k d = if k < (cops c).size then false else d := by
    intro k d
    rw [Array.getD_eq_getD_getElem?, Array.getElem?_replicate]
    split <;> rfl
  have hdm : ∀ k, k ∈ (List.range ts.length).drop (cops c).size ↔ (cops c).size ≤ k ∧ k < ts.length := by
    intro k
    rw [List.mem_iff_getElem?]
    constructor
    · rintro ⟨j, hj⟩
      rw [List.getElem?_drop] at hj
      have := List.getElem?_eq_some_iff.1 hj
      obtain ⟨h1, h2⟩ := this
      simp at h1 h2
      omega
    · rintro ⟨h1, h2⟩
      exact ⟨k - (cops c).size, by rw [List.getElem?_drop, show (cops c).size + (k - (cops c).size) = k by omega, List.getElem?_range h2]⟩
  refine wpAny_ob4 hd hok rd hrd val rows hloc hsm hre hi0 R0 hob hQ (cops c).size _ (List.range (cops c).size) ((List.range ts.length).drop (cops c).size) t _ _ env0 (by simp) (by simp) List.nodup_range ?_ ?_ ((List.nodup_range).sublist (List.drop_sublist _ _)) ?_ (ha.sub hsub) (fun _ => ha.2 d0 u0 h0) ?_ ((hS.drewN 1).sub hH) List.perm_append_comm
  · intro k
    rw [List.mem_range, hl]
    by_cases hk : k < (cops c).size <;> simp [hk]
  · intro k hk hkl
    rw [hl, if_pos hk] at hkl
    cases hkl
  · intro k
    rw [hdm, hl]
    constructor
    · rintro ⟨h1, h2⟩
      refine ⟨h2, by rw [if_neg (by omega)], fun j hj hjl => ?_⟩
      rw [hl, if_pos hj] at hjl
      cases hjl
    · rintro ⟨h1, h2, _⟩
      refine ⟨?_, h1⟩
      by_cases hk : k < (cops c).size
      · rw [if_pos hk] at h2; cases h2
      · omega
  · intro k d hk hkl
    rw [hl, if_pos hk] at hkl
    cases hkl

end Go.Fw
end
section
set_option linter.unusedVariables false
namespace Go.Fw
open Go Go.RowKit
/-- an entry: its key, its value, its stamp -/
abbrev Ent := Int × Value × Nat
def mE (kd : IntKind) (e : Ent) : MapEntry := ⟨.int kd e.1, e.2.1, e.2.2⟩
def mEs (kd : IntKind) (l : List Ent) : Array MapEntry := (l.map (mE kd)).toArray
def mRow (b : Nat) (kd : IntKind) (l : List Ent) (clock : Nat) : Row := oRow b (.map (mEs kd l) clock)
/-- a loop's iterator over the map in block m: what it has handed out -/
def iRow (r m since : Nat) (pre : List Ent) : Row := oRow r (.mapIter (some m) since (pre.map (·.2.2)).toArray since)

theorem St.putAt {B : Nat} {w0 w : World} {H : List Row} {i b : Nat} {o : Obj} (h : St B w0 H w) (hi : H[i]? = some (oRow b o)) (o' : Obj) : St B w0 (H.set i (oRow b o')) (w.putObj b o') := by
  have hr := h.ok _ (List.mem_of_getElem? hi)
  obtain ⟨hB, _, hb⟩ := hr
  have hlt := (Array.getElem?_eq_some_iff.1 hb).1
  have hbel : Below B w (w.putObj b o') := ⟨rfl, rfl, rfl, by simp, fun k hk => World.putObj_heap_other (by simp only [oRow] at hB; omega)⟩
  refine ⟨h.below.trans hbel, by simpa using h.size, fun r hm => ?_, pairwise_set H i _ _ hi (fun s q ho => q (.inl rfl)) (fun s q ho => q (.inr rfl)) h.sep⟩
  obtain ⟨k, hk, hke⟩ := List.mem_iff_getElem.1 hm
  by_cases hki : k = i
  · subst hki
    have : r = oRow b o' := by rw [← hke]; simp
    subst this
    exact ⟨hB, rfl, World.putObj_heap_same hlt⟩
  · have hk' : H[k]? = some r := by
      rw [List.length_set] at hk
      rw [List.getElem_set_ne (by omega)] at hke
      rw [List.getElem?_eq_getElem hk, hke]
    have hne := sep_other h.sep hi hk' (fun e => hki e.symm) rfl
    exact Row.ok_of_block (h.ok r (List.mem_of_getElem? hk')) (by simp) (World.putObj_heap_other (fun e => hne (by simpa [oRow] using e)))

/-- what storing makes of the entries -/
def insM (l : List Ent) (clock : Nat) (k : Int) (v : Value) : List Ent := if l.any (fun e => e.1 == k) then l.map (fun e => if e.1 = k then (e.1, v, e.2.2) else e) else l ++ [(k, v, clock)]
def clkM (l : List Ent) (clock : Nat) (k : Int) : Nat := if l.any (fun e => e.1 == k) then clock else clock + 1
def keysM (l : List Ent) : Prop := (l.map (·.1)).Nodup
theorem findNow_mem {kd : IntKind} {k : Int} : ∀ (l : List Ent) (i : Nat),
    Instr.findNow (.int kd) (.int kd k) (l.map (mE kd)) i = some (match l.findIdx? (fun e => e.1 == k) with | some j => some (i + j, (l.getD j (0, undef, 0)).2.1) | none => none)
  | [], _ => rfl
  | e :: l, i => by
    rw [List.map_cons]
    unfold Instr.findNow
    have h1 : Instr.sameNow (.int kd) (.int kd k) (mE kd e).key = some (k == e.1) := by simp [Instr.sameNow, mE]
    rw [h1, List.findIdx?_cons]
    by_cases h : e.1 = k
    · have h2 : (k == e.1) = true := by simp [h]
      have h3 : (e.1 == k) = true := by simp [h]
      rw [h2, h3]
      simp [mE]
    · have h2 : (k == e.1) = false := by simp; exact fun q => h q.symm
      have h3 : (e.1 == k) = false := by simp [h]
      rw [h2, h3]
      simp only [Bool.false_eq_true, if_false]
      rw [findNow_mem l (i + 1)]
      cases hf : l.findIdx? (fun e => e.1 == k) with
      | none => simp
      | some j => simp [Nat.add_assoc, Nat.add_comm 1 j]
section
variable {P : Program} {H : List Row} {F : FS} {n : Nat} {o : Oper}
theorem run_findM {w : World} {kt : TypeId} {kd : IntKind} (hk : P.underlying kt = some (.int kd)) (l : List Ent) (k : Int) :
    (Instr.findKey kt (.int kd k) (mEs kd l).toList).run P w = .ok (match l.findIdx? (fun e => e.1 == k) with | some j => some (j, (l.getD j (0, undef, 0)).2.1) | none => none) w := by
  have h := findNow_mem (kd := kd) (k := k) l 0
  have : (mEs kd l).toList = l.map (mE kd) := by simp [mEs]
  rw [this]
  simp only [Nat.zero_add] at h
  exact MapKept.run_findKey hk h
theorem any_none {l : List Ent} {k : Int} (h : l.findIdx? (fun e => e.1 == k) = none) : l.any (fun e => e.1 == k) = false := by
  rw [List.findIdx?_eq_none_iff] at h
  rw [List.any_eq_false]
  intro e he
  have := h e he
  simpa using this
theorem any_some {l : List Ent} {k : Int} {j : Nat} (h : l.findIdx? (fun e => e.1 == k) = some j) : l.any (fun e => e.1 == k) = true ∧ ∃ e, l[j]? = some e ∧ e.1 = k := by
  obtain ⟨hj, he, _⟩ := List.findIdx?_eq_some_iff_getElem.1 h
  exact ⟨List.any_eq_true.2 ⟨_, List.getElem_mem hj, he⟩, _, List.getElem?_eq_getElem hj, by simpa using he⟩

theorem StF.makeMap {T : TypeId} (kd : IntKind) (h : o.op = .makeMap T none) : StF P n H F o (fun v H' => ∃ b, v = .map (some b) ∧ H' = mRow b kd [] 0 :: H) := by
  unfold StF StepOp
  intro t ha B w0 w hS
  refine ⟨_, _, _, .inl ?_, hS.allocObj (.map #[] 0), _, rfl, rfl⟩
  simp [execOp, h, Instr.makeMap, newObj, Sem.run, World.alloc_eq]
theorem modify_list {α : Type} (f : α → α) : ∀ (l : List α) (j : Nat), (l.toArray.modify j f) = (l.modify j f).toArray := by
  intro l j
  apply Array.ext'
  simp
theorem keys_inj {l : List Ent} (hl : keysM l) {i j : Nat} {a b : Ent} (ha : l[i]? = some a) (hb : l[j]? = some b) (h : a.1 = b.1) : i = j := by
  obtain ⟨hi, he⟩ := List.getElem?_eq_some_iff.1 ha
  obtain ⟨hj, hf⟩ := List.getElem?_eq_some_iff.1 hb
  have := (List.nodup_iff_pairwise_ne.1 hl)
  rw [List.pairwise_map] at this
  rcases Nat.lt_trichotomy i j with q | q | q
  · exact absurd (by rw [he, hf]; exact h) (List.pairwise_iff_getElem.1 this i j hi hj q)
  · exact q
  · exact absurd (by rw [he, hf]; exact h.symm) (List.pairwise_iff_getElem.1 this j i hj hi q)
theorem StF.mapUpdate {T kt e : TypeId} {m key val : Operand} {kd : IntKind} {i b clock : Nat} {l : List Ent} {k : Int} {v : Value} (h : o.op = .mapUpdate T m key val) (hT : P.underlying T = some (.map kt e)) (hk : P.underlying kt = some (.int kd))
    (hm : evF F m = some (.map (some b))) (hx : evF F key = some (.int kd k)) (hv : evF F val = some v) (hi : H[i]? = some (mRow b kd l clock)) (hl : keysM l) :
    StF P n H F o (fun u H' => u = undef ∧ H' = H.set i (mRow b kd (insM l clock k v) (clkM l clock k))) := by
  unfold StF StepOp
  intro t ha B w0 w hS
  have hb : w.heap[b]? = some (.map (mEs kd l) clock) := (hS.ok _ (List.mem_of_getElem? hi)).2.2
  have e1 := ha.ev hm
  have e2 := ha.ev hx
  have e3 := ha.ev hv
  have hkey : MapKept.IsKey (.int kd) (.int kd k) := rfl
  refine ⟨undef, w.putObj b (.map (mEs kd (insM l clock k v)) (clkM l clock k)), _, .inr ⟨?_, rfl⟩, hS.putAt hi _, rfl, rfl⟩
  have hf := run_findM (P := P) (w := w) hk l k
  cases hj : l.findIdx? (fun e => e.1 == k) with
  | none =>
    have ha := any_none hj
    rw [hj] at hf
    have hi1 : insM l clock k v = l ++ [(k, v, clock)] := by unfold insM; rw [if_neg (by simp [ha])]
    have hi2 : clkM l clock k = clock + 1 := by unfold clkM; rw [if_neg (by simp [ha])]
    rw [hi1, hi2]
    have he : (mEs kd l).push ⟨.int kd k, v, clock⟩ = mEs kd (l ++ [(k, v, clock)]) := by simp [mEs, mE]
    simp [execOp, h, Instr.mapUpdate, e1, e2, e3, run_underlying hT, MapKept.run_getObj_map hb, MapKept.run_checkKey hk hkey, hf, MapKept.run_setObj_map _ hb, he, World.putObj]
  | some j =>
    obtain ⟨ha, e, hje, hek⟩ := any_some hj
    rw [hj] at hf
    have hi1 : insM l clock k v = l.map (fun e => if e.1 = k then (e.1, v, e.2.2) else e) := by unfold insM; rw [if_pos ha]
    have hi2 : clkM l clock k = clock := by unfold clkM; rw [if_pos ha]
    rw [hi1, hi2]
    have hkj : ((mEs kd l)[j]?.map (·.key)).getD (.int kd k) = .int kd k := by simp [mEs, hje, mE, hek]
    have he : (mEs kd l).modify j (fun e => { e with key := .int kd k, val := v }) = mEs kd (l.map (fun e => if e.1 = k then (e.1, v, e.2.2) else e)) := by
      unfold mEs
      rw [modify_list]
      congr 1
      apply List.ext_getElem?
      intro x
      rw [List.getElem?_modify, List.getElem?_map, List.getElem?_map, List.getElem?_map]
      cases hx : l[x]? with
      | none => simp
      | some a =>
        by_cases hxj : j = x
        · subst hxj
          rw [hje] at hx
          obtain rfl := Option.some.inj hx
          simp [mE, hek]
        · have hne : a.1 ≠ k := fun q => hxj (keys_inj hl hje hx (by rw [hek, q]))
          simp [hxj, hne]
    simp [execOp, h, Instr.mapUpdate, e1, e2, e3, run_underlying hT, MapKept.run_getObj_map hb, MapKept.run_checkKey hk hkey, hf, hkj, MapKept.run_keyThatStays hkey, MapKept.run_setObj_map _ hb, he, World.putObj]
/-- what is left when a key is struck out -/
def delM (l : List Ent) (k : Int) : List Ent := l.filter (fun e => !(e.1 == k))
theorem del_eraseIdx {l : List Ent} {k : Int} (hl : keysM l) {j : Nat} {e : Ent} (hj : l[j]? = some e) (he : e.1 = k) : l.eraseIdx j = delM l k := by
  induction l generalizing j with
  | nil => cases hj
  | cons a l ih =>
    have hl' := List.nodup_cons.1 hl
    cases j with
    | zero =>
      simp only [List.getElem?_cons_zero, Option.some.injEq] at hj
      subst hj
      rw [List.eraseIdx_cons_zero]
      unfold delM
      rw [List.filter_cons, if_neg (by simp [he])]
      refine (List.filter_eq_self.2 fun x hx => ?_).symm
      have : x.1 ≠ k := fun q => hl'.1 (List.mem_map.2 ⟨x, hx, q.trans he.symm⟩)
      simp [this]
    | succ j =>
      rw [List.getElem?_cons_succ] at hj
      rw [List.eraseIdx_cons_succ, ih hl'.2 hj]
      have : a.1 ≠ k := fun q => hl'.1 (List.mem_map.2 ⟨e, List.mem_of_getElem? hj, by rw [he]; exact q.symm⟩)
      unfold delM
      rw [List.filter_cons, if_pos (by simp [this])]
theorem StF.delete {T T' kt e : TypeId} {m key : Operand} {kd : IntKind} {i b clock : Nat} {l : List Ent} {k : Int} (h : o.op = .call { callee := .builtin .delete, args := #[m, key], argTypes := #[T, T'] }) (hT : P.underlying T = some (.map kt e)) (hk : P.underlying kt = some (.int kd))
    (hm : evF F m = some (.map (some b))) (hx : evF F key = some (.int kd k)) (hi : H[i]? = some (mRow b kd l clock)) (hl : keysM l) :
    StF P n H F o (fun u H' => u = .tuple #[] ∧ H' = H.set i (mRow b kd (delM l k) clock)) := by
  unfold StF StepOp
  intro t ha B w0 w hS
  have hb : w.heap[b]? = some (.map (mEs kd l) clock) := (hS.ok _ (List.mem_of_getElem? hi)).2.2
  have e1 := ha.ev hm
  have e2 := ha.ev hx
  have hkey : MapKept.IsKey (.int kd) (.int kd k) := rfl
  refine ⟨.tuple #[], w.putObj b (.map (mEs kd (delM l k)) clock), _, .inl ?_, hS.putAt hi _, rfl, rfl⟩
  have hf := run_findM (P := P) (w := w) hk l k
  cases hj : l.findIdx? (fun e => e.1 == k) with
  | none =>
    rw [hj] at hf
    have hd : delM l k = l := by
      refine List.filter_eq_self.2 fun x hx => ?_
      have := (List.findIdx?_eq_none_iff.1 hj) x hx
      simpa using this
    rw [hd]
    simp [execOp, h, resolve, invoke, builtin, Builtin.delete_, e1, e2, run_underlying hT, MapKept.run_getObj_map hb, MapKept.run_checkKey hk hkey, hf, MapKept.run_setObj_map _ hb, World.putObj]
  | some j =>
    obtain ⟨ha, e, hje, hek⟩ := any_some hj
    rw [hj] at hf
    have he : (mEs kd l).eraseIdxIfInBounds j = mEs kd (delM l k) := by
      rw [← del_eraseIdx hl hje hek]
      apply Array.ext'
      have hm : ∀ (q : List Ent) (j : Nat), (q.map (mE kd)).eraseIdx j = (q.eraseIdx j).map (mE kd) := by
        intro q
        induction q with
        | nil => intro j; rfl
        | cons a q ih => intro j; cases j with
          | zero => rfl
          | succ j => rw [List.map_cons, List.eraseIdx_cons_succ, List.eraseIdx_cons_succ, List.map_cons, ih]
      simp [mEs, hm]
    simp [execOp, h, resolve, invoke, builtin, Builtin.delete_, e1, e2, run_underlying hT, MapKept.run_getObj_map hb, MapKept.run_checkKey hk hkey, hf, he, MapKept.run_setObj_map _ hb, World.putObj]
theorem StF.rangeMap {T kt e : TypeId} {m : Operand} {kd : IntKind} {b clock : Nat} {l : List Ent} (h : o.op = .range T m) (hT : P.underlying T = some (.map kt e)) (hm : evF F m = some (.map (some b))) (hi : mRow b kd l clock ∈ H) :
    StF P n H F o (fun v H' => ∃ r, v = .pointer (some ⟨r, 0, none⟩) ∧ H' = iRow r b clock [] :: H) := by
  unfold StF StepOp
  intro t ha B w0 w hS
  have hb : w.heap[b]? = some (.map (mEs kd l) clock) := (hS.ok _ hi).2.2
  have e1 := ha.ev hm
  refine ⟨_, _, _, .inl ?_, hS.allocObj (.mapIter (some b) clock #[] clock), _, rfl, rfl⟩
  simp [execOp, h, e1, run_range_map w T kt e b (mEs kd l) clock hT hb]
/-- the next entry: none is left, or any one that is left -/
theorem StF.nextMap {it : Operand} {kd : IntKind} {i r b clock : Nat} {l pre : List Ent} (h : o.op = .next it false) (hx : evF F it = some (.pointer (some ⟨r, 0, none⟩))) (hi : H[i]? = some (iRow r b clock pre)) (hb : mRow b kd l clock ∈ H) (hc : ∀ e ∈ l, e.2.2 < clock) :
    StF P n H F o (fun v H' => (v = .tuple #[.bool false] ∧ H' = H ∧ ∀ e ∈ l, e.2.2 ∈ pre.map (·.2.2)) ∨
      ∃ e ∈ l, e.2.2 ∉ pre.map (·.2.2) ∧ v = .tuple #[.bool true, .int kd e.1, e.2.1] ∧ H' = H.set i (iRow r b clock (pre ++ [e]))) := by
  unfold StF StepOp
  intro t ha B w0 w hS
  have hr : w.heap[r]? = some (.mapIter (some b) clock (pre.map (·.2.2)).toArray clock) := (hS.ok _ (List.mem_of_getElem? hi)).2.2
  have hm : w.heap[b]? = some (.map (mEs kd l) clock) := (hS.ok _ hb).2.2
  have e1 := ha.ev hx
  rcases run_next_at (P := P) w o.type r b clock clock (pre.map (·.2.2)).toArray (mEs kd l) clock hr hm (fun x hx => by
      obtain ⟨e, he, rfl⟩ := List.mem_map.1 (show x ∈ l.map (mE kd) by unfold mEs at hx; exact hx)
      exact hc e he) (Nat.le_refl _) with ⟨h0, hrun⟩ | ⟨e, he, w1, hw1, hrun⟩
  · refine ⟨_, w, H, .inl ?_, hS, .inl ⟨rfl, rfl, fun e he => ?_⟩⟩
    · simp [execOp, h, e1, hrun]
    · have := all_seen (mEs kd l) (pre.map (·.2.2)).toArray h0 (mE kd e) (by simpa [mEs] using List.mem_map_of_mem he)
      simpa [mE] using this
  · obtain ⟨hel, hes⟩ := mem_left he
    obtain ⟨x, hxl, rfl⟩ := List.mem_map.1 (show e ∈ l.map (mE kd) by unfold mEs at hel; exact hel)
    have hS1 : St B w0 H w1 := by rcases hw1 with rfl | rfl; exact hS; exact hS.drew
    refine ⟨_, _, _, .inl ?_, hS1.putAt hi (.mapIter (some b) clock ((pre ++ [x]).map (·.2.2)).toArray clock), .inr ⟨x, hxl, ?_, rfl, rfl⟩⟩
    · have hp : (pre.map (·.2.2)).toArray.push (mE kd x).born = ((pre ++ [x]).map (·.2.2)).toArray := by simp [mE]
      rw [hp] at hrun
      simp [execOp, h, e1, hrun, World.putObj, ChangeMaps.setBlock, mE]
    · have : ((pre.map (·.2.2)).toArray.contains x.2.2) = false := hes
      simpa using this
theorem EvF.entry {it : Operand} {kd : IntKind} {r b clock : Nat} {l pre : List Ent} {e : Ent} (h : o.op = .entry it) (hx : evF F it = some (.pointer (some ⟨r, 0, none⟩))) (hi : iRow r b clock (pre ++ [e]) ∈ H) (hb : mRow b kd l clock ∈ H) (he : e ∈ l) (hn : (l.map (·.2.2)).Nodup) :
    EvF P n H F o (.tuple #[.int kd e.1, e.2.1]) := by
  unfold EvF EvOp
  intro t ha B w0 w hS
  have hr : w.heap[r]? = some (.mapIter (some b) clock ((pre ++ [e]).map (·.2.2)).toArray clock) := (hS.ok _ hi).2.2
  have hm : w.heap[b]? = some (.map (mEs kd l) clock) := (hS.ok _ hb).2.2
  have e1 := ha.ev hx
  have hp : ((pre ++ [e]).map (·.2.2)).toArray = (pre.map (·.2.2)).toArray.push (mE kd e).born := by simp [mE]
  rw [hp] at hr
  have hrun := run_entry_at (P := P) w r b clock (pre.map (·.2.2)).toArray (mEs kd l) clock (mE kd e) hr hm (by simpa [mEs] using List.mem_map_of_mem he) (by simpa [mEs, mE, Function.comp_def] using hn)
  simp [execOp, h, e1, hrun, mE]
end
end Go.Fw
end
section
set_option linter.unusedVariables false
set_option linter.unusedSimpArgs false
namespace Go.Proofs.YtcjlegjchllgjaaGreat
open Go Go.Fw
set_option maxRecDepth 10000
theorem it_more {l pre rest : List Ent} (hp : (pre ++ rest).Perm l) {e : Ent} (he : e ∈ l) (hs : e.2.2 ∉ pre.map (·.2.2)) : ∃ rest', ((pre ++ [e]) ++ rest').Perm l := by
  have hm : e ∈ pre ++ rest := hp.mem_iff.2 he
  rcases List.mem_append.1 hm with h | h
  · exact absurd (List.mem_map.2 ⟨e, h, rfl⟩) hs
  · obtain ⟨a, b, rfl⟩ := List.append_of_mem h
    refine ⟨a ++ b, List.Perm.trans ?_ hp⟩
    rw [List.append_assoc]
    exact List.Perm.append_left _ (List.perm_middle (l₁ := a)).symm
theorem it_done {l pre rest : List Ent} (hn : (l.map (·.2.2)).Nodup) (hp : (pre ++ rest).Perm l) (h : ∀ e ∈ l, e.2.2 ∈ pre.map (·.2.2)) : pre.Perm l := by
  cases rest with
  | nil => rwa [List.append_nil] at hp
  | cons x rest =>
    exfalso
    have hx : x ∈ l := hp.mem_iff.1 (List.mem_append_right _ List.mem_cons_self)
    have h1 := h x hx
    have h2 : ((pre ++ x :: rest).map (·.2.2)).Nodup := (hp.map _).nodup_iff.2 hn
    rw [List.map_append, List.map_cons] at h2
    exact (List.nodup_append.1 h2).2.2 _ h1 _ List.mem_cons_self rfl
theorem it_len {l pre rest : List Ent} (hp : (pre ++ rest).Perm l) : pre.length ≤ l.length := by
  have := hp.length_eq
  rw [List.length_append] at this
  omega
theorem maps_und : Tryz.prog.underlying 155 = some (.map 3 3) := by kernel_rfl
theorem int_und : Tryz.prog.underlying 3 = some (.int .i64) := by kernel_rfl
def GdM (l : List Ent) (pre : List Ent) : Prop := ∃ rest, (pre ++ rest).Perm l
def DnM (l : List Ent) (ys : List Ent) : Prop := ys.Perm l
set_option maxHeartbeats 4000000 in
theorem values1_it (bm bb clock : Nat) (ow : Option Kd) (cap : Nat) (l : List Ent) (E : List Row) (hb : ⟨bb, 0, [.map (some bm)], ow, cap⟩ ∈ E) (hm : mRow bm .i64 l clock ∈ E) (hn : (l.map (·.2.2)).Nodup) (hc : ∀ e ∈ l, e.2.2 < clock) :
    ItfG Tryz.prog 132 [.pointer (some ⟨bb, 0, none⟩)] E (GdM l) (DnM l) (fun e => [e.2.1]) := by
  refine ⟨callable Tryz.call132, fun y J Jx Hc h0 hY => ?_⟩
  have hb0 : ∀ Z : List Row, (⟨bb, 0, [.map (some bm)], ow, cap⟩ : Row) ∈ Z ++ E := fun Z => List.mem_append_right _ hb
  have hm0 : ∀ Z : List Row, mRow bm .i64 l clock ∈ Z ++ E := fun Z => List.mem_append_right _ hm
  refine Fc.mk (callable Tryz.call132) Tryz.func132 rfl Tryz.ntmps132 rfl ?_; dsimp only [fr]
  repeat' (first | (refine XO.op rfl ?_; (first | ((first | refine Xo.ng rfl ?_); (first | (refine Xg.ev (EvF.loadV rfl rfl (LoadV.own (te rfl) rfl (hb0 _) rfl)) rfl rfl ?_) | (refine Xg.st (StF.rangeMap (kd := .i64) rfl maps_und rfl (hm0 _)) rfl rfl ?_; rintro _ _ ⟨r, rfl, rfl⟩))))) | (refine XO.done rfl ?_; refine hK _ _ ?_; clear hK K) | refine X.seq rfl ?_ | refine X.region rfl (fun K hK => ?_) | refine X.block rfl ?_)
  refine X.permH (H' := Hc ++ (iRow r bm clock [] :: E)) List.perm_middle ?_
  refine X.lp rfl (fun m F' H' => ∃ (pre rest : List Ent) (Hc : List Row), m = l.length - pre.length ∧ (pre ++ rest).Perm l ∧ J pre Hc ∧ H' = Hc ++ (iRow r bm clock pre :: E) ∧
      F' = [(0, .func (.yield y) #[] #[]), (6, .pointer (some ⟨r, 0, none⟩))])
    _ [(0, .func (.yield y) #[] #[]), (6, .pointer (some ⟨r, 0, none⟩))] (Hc ++ (iRow r bm clock [] :: E)) (by (repeat (first | exact Sub.nil _ | refine Sub.cons rfl ?_)); done) (List.Sublist.refl _) ⟨[], l, Hc, rfl, List.Perm.refl _, h0, rfl, rfl⟩ ?_
  rintro _ _ _ ⟨pre, rest, Hc, rfl, hp, hJ, rfl, rfl⟩
  have hle := it_len hp
  refine X.permH (H' := iRow r bm clock pre :: (Hc ++ E)) List.perm_middle.symm ?_
  repeat' (first | (refine XO.op rfl ?_; (first | ((first | refine Xo.ng rfl ?_); (first | (refine Xg.st (StF.nextMap (i := 0) (kd := .i64) rfl rfl rfl (List.Mem.tail _ (hm0 _)) hc) rfl rfl ?_; rintro _ _ (⟨rfl, rfl, hx⟩ | ⟨e, he, hs, rfl, rfl⟩); all_goals try dsimp only [List.set]) | (refine Xg.ev (EvF.entry (pre := pre) rfl rfl (List.Mem.head _) (List.Mem.tail _ (hm0 _)) he hn) rfl rfl ?_) | (refine Xg.yield rfl rfl (Args.cons rfl Args.nil) rfl rfl ((hY _ e Hc (it_more hp he hs) hJ _).permR List.perm_middle.symm) ?_; rintro _ _ ⟨Hc', rfl, ⟨rfl, hJ'⟩ | ⟨rfl, hJ'⟩⟩) | (refine Xg.ev (EvF.move rfl rfl) rfl rfl ?_) | (refine Xg.ev (EvF.assign rfl rfl) rfl rfl ?_) | (refine Xg.ev (EvF.not rfl rfl) rfl rfl ?_) | (refine Xg.ev (EvF.extract rfl rfl rfl) rfl rfl ?_))))) | (refine XO.done rfl ?_; refine hK _ _ ?_; clear hK K) | refine X.seq rfl ?_ | refine X.region rfl (fun K hK => ?_) | refine X.block rfl ?_ | (refine X.brk rfl ?_; repeat (first | refine blockX_hit rfl ?_ | refine blockX_miss (by decide) ?_)) | refine X.skip rfl ?_ | refine X.ret rfl ?_ | (refine X.ite rfl rfl (fun hc => ?_); (first | (with_reducible refine Xb.t hc ?_) | (with_reducible refine Xb.f hc ?_) | (with_reducible refine Xb.caseB hc (fun h => ?_) (fun h => ?_))) <;> clear hc))
  all_goals try (exfalso; contradiction)
  · refine ret_none (by first | exact .inr rfl | exact .inl rfl) Tryz.results132 (H' := Hc ++ E) (List.sublist_cons_self _ _) ⟨Hc, rfl, .inl ⟨pre, it_done hn hp hx, hJ⟩⟩
  · obtain ⟨rest', hp'⟩ := it_more hp he hs
    have hl' := it_len hp'
    rw [List.length_append] at hl'
    exact ⟨_, [(0, .func (.yield y) #[] #[]), (6, .pointer (some ⟨r, 0, none⟩))], _, (by (repeat (first | exact Sub.nil _ | refine Sub.cons rfl ?_)); done), List.Sublist.refl _, ⟨pre ++ [e], rest', Hc', rfl, hp', hJ', rfl, rfl⟩, by simp only [List.length_append, List.length_cons, List.length_nil] at hl' ⊢; omega⟩
  · exact ret_none (by first | exact .inr rfl | exact .inl rfl) Tryz.results132 (H' := Hc' ++ E) (List.Sublist.append (List.Sublist.refl _) (List.sublist_cons_self _ _)) ⟨Hc', rfl, .inr ⟨_, it_more hp he hs, hJ'⟩⟩
theorem values_spec (bm : Nat) (H : List Row) : Fc Tryz.prog 98 [.map (some bm)] H (fun v H' => ∃ bb, v = .func (.func 132) #[] #[.pointer (some ⟨bb, 0, none⟩)] ∧ H' = ⟨bb, 0, [.map (some bm)], some 155, 1⟩ :: H) := by
  refine Fc.mk (callable Tryz.call98) Tryz.func98 rfl Tryz.ntmps98 rfl ?_; dsimp only [fr]
  repeat' (first | (refine XO.op rfl ?_; (first | ((first | refine Xo.ng rfl ?_); (first | (refine Xg.ev (EvF.makeFunc (fl := []) rfl Args.nil (Args.cons rfl Args.nil)) rfl rfl ?_) | (refine Xg.ev (EvF.assign rfl rfl) rfl rfl ?_) | (refine Xg.st (StF.boxOne rfl rfl rfl) rfl rfl ?_; rintro _ _ ⟨bx, rfl, rfl⟩))))) | (refine XO.done rfl ?_; refine hK _ _ ?_; clear hK K) | refine X.seq rfl ?_ | refine X.region rfl (fun K hK => ?_) | refine X.ret rfl ?_)
  exact ret_one (by first | exact .inr rfl | exact .inl rfl) Tryz.results98 rfl (List.Sublist.refl _) ⟨_, rfl, rfl⟩
set_option maxHeartbeats 4000000 in
theorem keys1_it (bm bb clock : Nat) (ow : Option Kd) (cap : Nat) (l : List Ent) (E : List Row) (hb : ⟨bb, 0, [.map (some bm)], ow, cap⟩ ∈ E) (hm : mRow bm .i64 l clock ∈ E) (hn : (l.map (·.2.2)).Nodup) (hc : ∀ e ∈ l, e.2.2 < clock) :
    ItfG Tryz.prog 133 [.pointer (some ⟨bb, 0, none⟩)] E (GdM l) (DnM l) (fun e => [.int .i64 e.1]) := by
  refine ⟨callable Tryz.call133, fun y J Jx Hc h0 hY => ?_⟩
  have hb0 : ∀ Z : List Row, (⟨bb, 0, [.map (some bm)], ow, cap⟩ : Row) ∈ Z ++ E := fun Z => List.mem_append_right _ hb
  have hm0 : ∀ Z : List Row, mRow bm .i64 l clock ∈ Z ++ E := fun Z => List.mem_append_right _ hm
  refine Fc.mk (callable Tryz.call133) Tryz.func133 rfl Tryz.ntmps133 rfl ?_; dsimp only [fr]
  repeat' (first | (refine XO.op rfl ?_; (first | ((first | refine Xo.ng rfl ?_); (first | (refine Xg.ev (EvF.loadV rfl rfl (LoadV.own (te rfl) rfl (hb0 _) rfl)) rfl rfl ?_) | (refine Xg.st (StF.rangeMap (kd := .i64) rfl maps_und rfl (hm0 _)) rfl rfl ?_; rintro _ _ ⟨r, rfl, rfl⟩))))) | (refine XO.done rfl ?_; refine hK _ _ ?_; clear hK K) | refine X.seq rfl ?_ | refine X.region rfl (fun K hK => ?_) | refine X.block rfl ?_)
  refine X.permH (H' := Hc ++ (iRow r bm clock [] :: E)) List.perm_middle ?_
  refine X.lp rfl (fun m F' H' => ∃ (pre rest : List Ent) (Hc : List Row), m = l.length - pre.length ∧ (pre ++ rest).Perm l ∧ J pre Hc ∧ H' = Hc ++ (iRow r bm clock pre :: E) ∧
      F' = [(0, .func (.yield y) #[] #[]), (5, .pointer (some ⟨r, 0, none⟩))])
    _ [(0, .func (.yield y) #[] #[]), (5, .pointer (some ⟨r, 0, none⟩))] (Hc ++ (iRow r bm clock [] :: E)) (by (repeat (first | exact Sub.nil _ | refine Sub.cons rfl ?_)); done) (List.Sublist.refl _) ⟨[], l, Hc, rfl, List.Perm.refl _, h0, rfl, rfl⟩ ?_
  rintro _ _ _ ⟨pre, rest, Hc, rfl, hp, hJ, rfl, rfl⟩
  have hle := it_len hp
  refine X.permH (H' := iRow r bm clock pre :: (Hc ++ E)) List.perm_middle.symm ?_
  repeat' (first | (refine XO.op rfl ?_; (first | ((first | refine Xo.ng rfl ?_); (first | (refine Xg.st (StF.nextMap (i := 0) (kd := .i64) rfl rfl rfl (List.Mem.tail _ (hm0 _)) hc) rfl rfl ?_; rintro _ _ (⟨rfl, rfl, hx⟩ | ⟨e, he, hs, rfl, rfl⟩); all_goals try dsimp only [List.set]) | (refine Xg.ev (EvF.entry (pre := pre) rfl rfl (List.Mem.head _) (List.Mem.tail _ (hm0 _)) he hn) rfl rfl ?_) | (refine Xg.yield rfl rfl (Args.cons rfl Args.nil) rfl rfl ((hY _ e Hc (it_more hp he hs) hJ _).permR List.perm_middle.symm) ?_; rintro _ _ ⟨Hc', rfl, ⟨rfl, hJ'⟩ | ⟨rfl, hJ'⟩⟩) | (refine Xg.ev (EvF.move rfl rfl) rfl rfl ?_) | (refine Xg.ev (EvF.assign rfl rfl) rfl rfl ?_) | (refine Xg.ev (EvF.not rfl rfl) rfl rfl ?_) | (refine Xg.ev (EvF.extract rfl rfl rfl) rfl rfl ?_))))) | (refine XO.done rfl ?_; refine hK _ _ ?_; clear hK K) | refine X.seq rfl ?_ | refine X.region rfl (fun K hK => ?_) | refine X.block rfl ?_ | (refine X.brk rfl ?_; repeat (first | refine blockX_hit rfl ?_ | refine blockX_miss (by decide) ?_)) | refine X.skip rfl ?_ | refine X.ret rfl ?_ | (refine X.ite rfl rfl (fun hc => ?_); (first | (with_reducible refine Xb.t hc ?_) | (with_reducible refine Xb.f hc ?_) | (with_reducible refine Xb.caseB hc (fun h => ?_) (fun h => ?_))) <;> clear hc))
  all_goals try (exfalso; contradiction)
  · refine ret_none (by first | exact .inr rfl | exact .inl rfl) Tryz.results133 (H' := Hc ++ E) (List.sublist_cons_self _ _) ⟨Hc, rfl, .inl ⟨pre, it_done hn hp hx, hJ⟩⟩
  · obtain ⟨rest', hp'⟩ := it_more hp he hs
    have hl' := it_len hp'
    rw [List.length_append] at hl'
    exact ⟨_, [(0, .func (.yield y) #[] #[]), (5, .pointer (some ⟨r, 0, none⟩))], _, (by (repeat (first | exact Sub.nil _ | refine Sub.cons rfl ?_)); done), List.Sublist.refl _, ⟨pre ++ [e], rest', Hc', rfl, hp', hJ', rfl, rfl⟩, by simp only [List.length_append, List.length_cons, List.length_nil] at hl' ⊢; omega⟩
  · exact ret_none (by first | exact .inr rfl | exact .inl rfl) Tryz.results133 (H' := Hc' ++ E) (List.Sublist.append (List.Sublist.refl _) (List.sublist_cons_self _ _)) ⟨Hc', rfl, .inr ⟨_, it_more hp he hs, hJ'⟩⟩
theorem keys_spec (bm : Nat) (H : List Row) : Fc Tryz.prog 100 [.map (some bm)] H (fun v H' => ∃ bb, v = .func (.func 133) #[] #[.pointer (some ⟨bb, 0, none⟩)] ∧ H' = ⟨bb, 0, [.map (some bm)], some 155, 1⟩ :: H) := by
  refine Fc.mk (callable Tryz.call100) Tryz.func100 rfl Tryz.ntmps100 rfl ?_; dsimp only [fr]
  repeat' (first | (refine XO.op rfl ?_; (first | ((first | refine Xo.ng rfl ?_); (first | (refine Xg.ev (EvF.makeFunc (fl := []) rfl Args.nil (Args.cons rfl Args.nil)) rfl rfl ?_) | (refine Xg.ev (EvF.assign rfl rfl) rfl rfl ?_) | (refine Xg.st (StF.boxOne rfl rfl rfl) rfl rfl ?_; rintro _ _ ⟨bx, rfl, rfl⟩))))) | (refine XO.done rfl ?_; refine hK _ _ ?_; clear hK K) | refine X.seq rfl ?_ | refine X.region rfl (fun K hK => ?_) | refine X.ret rfl ?_)
  exact ret_one (by first | exact .inr rfl | exact .inl rfl) Tryz.results100 rfl (List.Sublist.refl _) ⟨_, rfl, rfl⟩
end Go.Proofs.YtcjlegjchllgjaaGreat
end
section
set_option linter.unusedVariables false
set_option linter.unusedSimpArgs false
namespace Go.Proofs.YtcjlegjchllgjaaGreat
open Go Go.Fw
set_option maxRecDepth 10000
set_option maxHeartbeats 4000000 in
theorem appendSeqI_spec {α : Type} (f : Nat) (cap : List Value) (E : List Row) (Gd Dn : List α → Prop) (g : α → Int) (hI : ItfG Tryz.prog f cap E Gd Dn (fun e => [.int .i64 (g e)])) (hb : ∀ pre, Gd pre → pre.length ≤ 1000000) :
    Fc Tryz.prog 131 [.slice none 0 0, .func (.func f) #[] cap.toArray] E (fun v H' => ∃ ys Z, Dn ys ∧ OutI (ys.map g) v Z ∧ H' = Z ++ E) := by
  refine Fc.mkT (callable Tryz.call131) Tryz.func131 rfl Tryz.ntmps131 rfl ?_
  dsimp only [fr]
  refine XT.seq rfl (XT.of0 ?_)
  repeat' (first | (refine XO.op rfl ?_; (first | ((first | refine Xo.ng rfl ?_ | (refine Xo.g rfl rfl ?_; with_reducible refine Xw.ff ?_)); (first | (refine Xg.ev (EvF.move rfl rfl) rfl rfl ?_) | (refine Xg.ev (EvF.assign rfl rfl) rfl rfl ?_) | (refine Xg.ev (EvF.pickT rfl rfl rfl) rfl rfl ?_) | (refine Xg.ev (EvF.not rfl rfl) rfl rfl ?_) | (refine Xg.ev (EvF.loadV rfl rfl (LoadV.own (te rfl) rfl (List.Mem.head _) rfl)) rfl rfl ?_) | (refine Xg.ev (EvF.loadV rfl rfl (LoadV.own (te rfl) rfl (List.Mem.tail _ (List.Mem.head _)) rfl)) rfl rfl ?_) | (refine Xg.ev (EvF.loadV rfl rfl (LoadV.own (te rfl) rfl (List.Mem.tail _ (List.Mem.tail _ (List.Mem.head _))) rfl)) rfl rfl ?_) | (refine Xg.st (StF.boxOne rfl rfl rfl) rfl rfl ?_; rintro _ _ ⟨bx, rfl, rfl⟩) | (refine Xg.st (StF.alloc rfl Tryz.zeroValue3 rfl) rfl rfl ?_; rintro _ _ ⟨bx, rfl, rfl⟩) | (refine Xg.st (StF.alloc rfl Tryz.zeroValue4 rfl) rfl rfl ?_; rintro _ _ ⟨bx, rfl, rfl⟩) | (refine Xg.st0 (StF.storeOne (i := 0) rfl rfl rfl rfl (te rfl) rfl rfl (Nat.le_of_ble_eq_true rfl)) rfl ?_; rintro _ _ ⟨rfl, rfl⟩; dsimp only [List.set]) | (refine Xg.st0 (StF.storeOne (i := 1) rfl rfl rfl rfl (te rfl) rfl rfl (Nat.le_of_ble_eq_true rfl)) rfl ?_; rintro _ _ ⟨rfl, rfl⟩; dsimp only [List.set]))) | (refine Xo.g rfl rfl ?_; (first | (with_reducible refine Xw.tf rfl rfl ?_) | (with_reducible refine Xw.caseB (fun h => ?_) (fun h => ?_) <;> simp only [h, decide_true, decide_false, Bool.not_true, Bool.not_false, and_self, and_true, true_and, and_false, false_and]))))) | (refine XO.done rfl ?_; refine hK _ _ ?_; clear hK K) | (refine XQ.op rfl ?_; (first | ((first | refine Yo.ng rfl ?_); (first | (refine Yg.ev (EvF.assign rfl rfl) rfl rfl ?_) | (refine Yg.ev (EvF.loadV rfl rfl (LoadV.own (te rfl) rfl (List.Mem.head _) rfl)) rfl rfl ?_) | (refine Yg.ev (EvF.loadV rfl rfl (LoadV.own (te rfl) rfl (List.Mem.tail _ (List.Mem.head _)) rfl)) rfl rfl ?_))))) | (refine XQ.done rfl ?_; refine hK _ ?_; clear hK K) | refine X.seq rfl ?_ | refine X.region rfl (fun K hK => ?_) | refine X.regionD rfl mixed (by kernel_rfl) (fun K hK => ?_) | refine X.block rfl ?_ | refine X.ret rfl ?_ | (refine X.ite rfl rfl (fun hc => ?_); (first | (with_reducible refine Xb.t hc ?_)) <;> clear hc))
  refine XT.seq rfl (XT.seq rfl (XT.of0 ?_))
  repeat' (first | (refine XO.op rfl ?_; (first | ((first | refine Xo.ng rfl ?_ | (refine Xo.g rfl rfl ?_; with_reducible refine Xw.ff ?_)); (first | (refine Xg.ev (EvF.move rfl rfl) rfl rfl ?_) | (refine Xg.ev (EvF.assign rfl rfl) rfl rfl ?_) | (refine Xg.ev (EvF.pickT rfl rfl rfl) rfl rfl ?_) | (refine Xg.ev (EvF.not rfl rfl) rfl rfl ?_) | (refine Xg.ev (EvF.loadV rfl rfl (LoadV.own (te rfl) rfl (List.Mem.head _) rfl)) rfl rfl ?_) | (refine Xg.ev (EvF.loadV rfl rfl (LoadV.own (te rfl) rfl (List.Mem.tail _ (List.Mem.head _)) rfl)) rfl rfl ?_) | (refine Xg.ev (EvF.loadV rfl rfl (LoadV.own (te rfl) rfl (List.Mem.tail _ (List.Mem.tail _ (List.Mem.head _))) rfl)) rfl rfl ?_) | (refine Xg.st (StF.boxOne rfl rfl rfl) rfl rfl ?_; rintro _ _ ⟨bx, rfl, rfl⟩) | (refine Xg.st (StF.alloc rfl Tryz.zeroValue3 rfl) rfl rfl ?_; rintro _ _ ⟨bx, rfl, rfl⟩) | (refine Xg.st (StF.alloc rfl Tryz.zeroValue4 rfl) rfl rfl ?_; rintro _ _ ⟨bx, rfl, rfl⟩) | (refine Xg.st0 (StF.storeOne (i := 0) rfl rfl rfl rfl (te rfl) rfl rfl (Nat.le_of_ble_eq_true rfl)) rfl ?_; rintro _ _ ⟨rfl, rfl⟩; dsimp only [List.set]) | (refine Xg.st0 (StF.storeOne (i := 1) rfl rfl rfl rfl (te rfl) rfl rfl (Nat.le_of_ble_eq_true rfl)) rfl ?_; rintro _ _ ⟨rfl, rfl⟩; dsimp only [List.set]))) | (refine Xo.g rfl rfl ?_; (first | (with_reducible refine Xw.tf rfl rfl ?_) | (with_reducible refine Xw.caseB (fun h => ?_) (fun h => ?_) <;> simp only [h, decide_true, decide_false, Bool.not_true, Bool.not_false, and_self, and_true, true_and, and_false, false_and]))))) | (refine XO.done rfl ?_; refine hK _ _ ?_; clear hK K) | (refine XQ.op rfl ?_; (first | ((first | refine Yo.ng rfl ?_); (first | (refine Yg.ev (EvF.assign rfl rfl) rfl rfl ?_) | (refine Yg.ev (EvF.loadV rfl rfl (LoadV.own (te rfl) rfl (List.Mem.head _) rfl)) rfl rfl ?_) | (refine Yg.ev (EvF.loadV rfl rfl (LoadV.own (te rfl) rfl (List.Mem.tail _ (List.Mem.head _)) rfl)) rfl rfl ?_))))) | (refine XQ.done rfl ?_; refine hK _ ?_; clear hK K) | refine X.seq rfl ?_ | refine X.region rfl (fun K hK => ?_) | refine X.regionD rfl mixed (by kernel_rfl) (fun K hK => ?_) | refine X.block rfl ?_ | refine X.ret rfl ?_ | (refine X.ite rfl rfl (fun hc => ?_); (first | (with_reducible refine Xb.t hc ?_)) <;> clear hc))
  refine XT.block rfl ?_
  refine XT.weak (F' := [(2, .pointer (some ⟨bx, 0, none⟩)), (6, .func (.func f) #[] cap.toArray)]) (H' := ⟨bx, 0, [.slice none 0 0], some 28, 1⟩ :: E) (by (repeat (first | exact Sub.nil _ | refine Sub.cons rfl ?_)); done) (by (repeat (first | exact List.Sublist.refl _ | apply List.Sublist.cons_cons | apply List.Sublist.cons)); done) ?_
  refine XT.rangeG (ps := [7]) rfl rfl hI rfl (fun _ => rfl) (fun pre Hb => ∃ out Z, OutI (pre.map g) out Z ∧ Hb = Z ++ [⟨bx, 0, [out], some 28, 1⟩]) (fun _ _ => False) [⟨bx, 0, [.slice none 0 0], some 28, 1⟩] rfl ⟨_, [], OutI.nil, rfl⟩ ?_ ?_ (fun _ _ h => h.elim) (fun _ _ _ h => h.elim) (fun _ _ h => h.elim)
  · rintro pre x _ hpre ⟨out, Z0, ho, rfl⟩ Z
    have hlen := hb _ hpre
    rw [List.length_append] at hlen
    obtain ⟨pm, hpm⟩ : ∃ q, pre.map g = q := ⟨_, rfl⟩
    have hpl : pm.length = pre.length := by rw [← hpm, List.length_map]
    rw [List.map_append]
    rw [hpm] at ho ⊢
    rcases ho with ⟨rfl, rfl, rfl⟩ | ⟨bo, qo, rfl, rfl⟩
    · simp only [List.cons_append, List.nil_append]
      repeat' (first | (refine XO.op rfl ?_; (first | ((first | refine Xo.ng rfl ?_ | (refine Xo.g rfl rfl ?_; with_reducible refine Xw.ff ?_)); (first | (refine Xg.ev (EvF.move rfl rfl) rfl rfl ?_) | (refine Xg.ev (EvF.assign rfl rfl) rfl rfl ?_) | (refine Xg.ev (EvF.pickT rfl rfl rfl) rfl rfl ?_) | (refine Xg.ev (EvF.not rfl rfl) rfl rfl ?_) | (refine Xg.ev (EvF.loadV rfl rfl (LoadV.own (te rfl) rfl (List.Mem.head _) rfl)) rfl rfl ?_) | (refine Xg.ev (EvF.loadV rfl rfl (LoadV.own (te rfl) rfl (List.Mem.tail _ (List.Mem.head _)) rfl)) rfl rfl ?_) | (refine Xg.ev (EvF.loadV rfl rfl (LoadV.own (te rfl) rfl (List.Mem.tail _ (List.Mem.tail _ (List.Mem.head _))) rfl)) rfl rfl ?_) | (refine Xg.st (StF.boxOne rfl rfl rfl) rfl rfl ?_; rintro _ _ ⟨bx, rfl, rfl⟩) | (refine Xg.st (StF.alloc rfl Tryz.zeroValue3 rfl) rfl rfl ?_; rintro _ _ ⟨bx, rfl, rfl⟩) | (refine Xg.st (StF.alloc rfl Tryz.zeroValue4 rfl) rfl rfl ?_; rintro _ _ ⟨bx, rfl, rfl⟩) | (refine Xg.st0 (StF.storeOne (i := 0) rfl rfl rfl rfl (te rfl) rfl rfl (Nat.le_of_ble_eq_true rfl)) rfl ?_; rintro _ _ ⟨rfl, rfl⟩; dsimp only [List.set]) | (refine Xg.st0 (StF.storeOne (i := 1) rfl rfl rfl rfl (te rfl) rfl rfl (Nat.le_of_ble_eq_true rfl)) rfl ?_; rintro _ _ ⟨rfl, rfl⟩; dsimp only [List.set]))) | (refine Xo.g rfl rfl ?_; (first | (with_reducible refine Xw.tf rfl rfl ?_) | (with_reducible refine Xw.caseB (fun h => ?_) (fun h => ?_) <;> simp only [h, decide_true, decide_false, Bool.not_true, Bool.not_false, and_self, and_true, true_and, and_false, false_and]))))) | (refine XO.done rfl ?_; refine hK _ _ ?_; clear hK K) | (refine XQ.op rfl ?_; (first | ((first | refine Yo.ng rfl ?_); (first | (refine Yg.ev (EvF.assign rfl rfl) rfl rfl ?_) | (refine Yg.ev (EvF.loadV rfl rfl (LoadV.own (te rfl) rfl (List.Mem.head _) rfl)) rfl rfl ?_) | (refine Yg.ev (EvF.loadV rfl rfl (LoadV.own (te rfl) rfl (List.Mem.tail _ (List.Mem.head _)) rfl)) rfl rfl ?_))))) | (refine XQ.done rfl ?_; refine hK _ ?_; clear hK K) | refine X.seq rfl ?_ | refine X.region rfl (fun K hK => ?_) | refine X.regionD rfl mixed (by kernel_rfl) (fun K hK => ?_) | refine X.block rfl ?_ | refine X.ret rfl ?_ | (refine X.ite rfl rfl (fun hc => ?_); (first | (with_reducible refine Xb.t hc ?_)) <;> clear hc))
      refine ⟨rfl, [_], List.Sublist.refl _, fun Z' => ?_⟩
      simp only [List.cons_append, List.nil_append]
      repeat' (first | (refine XO.op rfl ?_; (first | ((first | refine Xo.ng rfl ?_); (first | (refine Xg.st (StF.buildOne rfl elI rfl rfl rfl (by decide) (by decide)) rfl rfl ?_; rintro _ _ ⟨bs, rfl, rfl⟩) | (refine Xg.st (StF.appendNew rfl elI rfl rfl (by decide) rfl (Rd.own (List.Mem.head _)) (by decide)) rfl rfl ?_; rintro _ _ ⟨bn, kn, rfl, rfl⟩) | (refine Xg.ev (EvF.move rfl rfl) rfl rfl ?_) | (refine Xg.ev (EvF.loadV rfl rfl (LoadV.own (te rfl) rfl (List.Mem.head _) rfl)) rfl rfl ?_) | (refine Xg.st0 (StF.storeOne (i := 2) rfl rfl rfl rfl (te rfl) rfl rfl (Nat.le_of_ble_eq_true rfl)) rfl ?_; rintro _ _ ⟨rfl, rfl⟩; dsimp only [List.set]))))) | (refine XO.done rfl ?_; refine hK _ _ ?_; clear hK K) | refine X.region rfl (fun K hK => ?_) | refine X.block rfl ?_)
      exact ⟨[⟨bn, 0, cI (g x), some 3, kn * 1⟩, _], List.Sublist.cons_cons _ (List.Sublist.cons _ (List.Sublist.refl _)), _, [⟨bn, 0, cI (g x), some 3, kn * 1⟩], .inr ⟨bn, kn, rfl, rfl⟩, rfl⟩
    · have hlc := lenI pm
      simp only [List.cons_append, List.nil_append]
      repeat' (first | (refine XO.op rfl ?_; (first | ((first | refine Xo.ng rfl ?_ | (refine Xo.g rfl rfl ?_; with_reducible refine Xw.ff ?_)); (first | (refine Xg.ev (EvF.move rfl rfl) rfl rfl ?_) | (refine Xg.ev (EvF.assign rfl rfl) rfl rfl ?_) | (refine Xg.ev (EvF.pickT rfl rfl rfl) rfl rfl ?_) | (refine Xg.ev (EvF.not rfl rfl) rfl rfl ?_) | (refine Xg.ev (EvF.loadV rfl rfl (LoadV.own (te rfl) rfl (List.Mem.head _) rfl)) rfl rfl ?_) | (refine Xg.ev (EvF.loadV rfl rfl (LoadV.own (te rfl) rfl (List.Mem.tail _ (List.Mem.head _)) rfl)) rfl rfl ?_) | (refine Xg.ev (EvF.loadV rfl rfl (LoadV.own (te rfl) rfl (List.Mem.tail _ (List.Mem.tail _ (List.Mem.head _))) rfl)) rfl rfl ?_) | (refine Xg.st (StF.boxOne rfl rfl rfl) rfl rfl ?_; rintro _ _ ⟨bx, rfl, rfl⟩) | (refine Xg.st (StF.alloc rfl Tryz.zeroValue3 rfl) rfl rfl ?_; rintro _ _ ⟨bx, rfl, rfl⟩) | (refine Xg.st (StF.alloc rfl Tryz.zeroValue4 rfl) rfl rfl ?_; rintro _ _ ⟨bx, rfl, rfl⟩) | (refine Xg.st0 (StF.storeOne (i := 0) rfl rfl rfl rfl (te rfl) rfl rfl (Nat.le_of_ble_eq_true rfl)) rfl ?_; rintro _ _ ⟨rfl, rfl⟩; dsimp only [List.set]) | (refine Xg.st0 (StF.storeOne (i := 1) rfl rfl rfl rfl (te rfl) rfl rfl (Nat.le_of_ble_eq_true rfl)) rfl ?_; rintro _ _ ⟨rfl, rfl⟩; dsimp only [List.set]))) | (refine Xo.g rfl rfl ?_; (first | (with_reducible refine Xw.tf rfl rfl ?_) | (with_reducible refine Xw.caseB (fun h => ?_) (fun h => ?_) <;> simp only [h, decide_true, decide_false, Bool.not_true, Bool.not_false, and_self, and_true, true_and, and_false, false_and]))))) | (refine XO.done rfl ?_; refine hK _ _ ?_; clear hK K) | (refine XQ.op rfl ?_; (first | ((first | refine Yo.ng rfl ?_); (first | (refine Yg.ev (EvF.assign rfl rfl) rfl rfl ?_) | (refine Yg.ev (EvF.loadV rfl rfl (LoadV.own (te rfl) rfl (List.Mem.head _) rfl)) rfl rfl ?_) | (refine Yg.ev (EvF.loadV rfl rfl (LoadV.own (te rfl) rfl (List.Mem.tail _ (List.Mem.head _)) rfl)) rfl rfl ?_))))) | (refine XQ.done rfl ?_; refine hK _ ?_; clear hK K) | refine X.seq rfl ?_ | refine X.region rfl (fun K hK => ?_) | refine X.regionD rfl mixed (by kernel_rfl) (fun K hK => ?_) | refine X.block rfl ?_ | refine X.ret rfl ?_ | (refine X.ite rfl rfl (fun hc => ?_); (first | (with_reducible refine Xb.t hc ?_)) <;> clear hc))
      refine ⟨rfl, [_, _], List.Sublist.refl _, fun Z' => ?_⟩
      simp only [List.cons_append, List.nil_append]
      repeat' (first | (refine XO.op rfl ?_; (first | ((first | refine Xo.ng rfl ?_); (first | (refine Xg.st (StF.buildOne rfl elI rfl rfl rfl (by decide) (by decide)) rfl rfl ?_; rintro _ _ ⟨bs, rfl, rfl⟩) | (refine Xg.st (StF.appendOwn (i := 1) rfl elI rfl rfl rfl hlc rfl (Rd.own (List.Mem.head _)) rfl (by omega)) rfl rfl ?_; rintro _ _ ⟨bn, kn, rfl, rfl⟩; dsimp only [List.eraseIdx]) | (refine Xg.ev (EvF.move rfl rfl) rfl rfl ?_) | (refine Xg.ev (EvF.loadV rfl rfl (LoadV.own (te rfl) rfl (List.Mem.tail _ (List.Mem.head _)) rfl)) rfl rfl ?_) | (refine Xg.st0 (StF.storeOne (i := 2) rfl rfl rfl rfl (te rfl) rfl rfl (Nat.le_of_ble_eq_true rfl)) rfl ?_; rintro _ _ ⟨rfl, rfl⟩; dsimp only [List.set]))))) | (refine XO.done rfl ?_; refine hK _ _ ?_; clear hK K) | refine X.region rfl (fun K hK => ?_) | refine X.block rfl ?_)
      exact ⟨[⟨bn, 0, pm.flatMap cI ++ cI (g x), some 3, kn * 1⟩, _], List.Sublist.cons_cons _ (List.Sublist.cons _ (List.Sublist.refl _)), _, [⟨bn, 0, pm.flatMap cI ++ cI (g x), some 3, kn * 1⟩], .inr ⟨bn, kn, by rw [List.length_append]; rfl, by rw [List.flatMap_append]; rfl⟩, rfl⟩
  · rintro D ys _ hys ⟨out, Z0, ho, rfl⟩
    obtain ⟨pm, hpm⟩ : ∃ q, ys.map g = q := ⟨_, rfl⟩
    have hO := ho
    rw [hpm] at ho
    rcases ho with ⟨rfl, rfl, rfl⟩ | ⟨bo, qo, rfl, rfl⟩
    · refine XT.seq rfl (XT.of1 ?_)
      simp only [List.cons_append, List.nil_append]
      repeat' (first | (refine XO.op rfl ?_; (first | ((first | refine Xo.ng rfl ?_ | (refine Xo.g rfl rfl ?_; with_reducible refine Xw.ff ?_)); (first | (refine Xg.ev (EvF.move rfl rfl) rfl rfl ?_) | (refine Xg.ev (EvF.assign rfl rfl) rfl rfl ?_) | (refine Xg.ev (EvF.pickT rfl rfl rfl) rfl rfl ?_) | (refine Xg.ev (EvF.not rfl rfl) rfl rfl ?_) | (refine Xg.ev (EvF.loadV rfl rfl (LoadV.own (te rfl) rfl (List.Mem.head _) rfl)) rfl rfl ?_) | (refine Xg.ev (EvF.loadV rfl rfl (LoadV.own (te rfl) rfl (List.Mem.tail _ (List.Mem.head _)) rfl)) rfl rfl ?_) | (refine Xg.ev (EvF.loadV rfl rfl (LoadV.own (te rfl) rfl (List.Mem.tail _ (List.Mem.tail _ (List.Mem.head _))) rfl)) rfl rfl ?_) | (refine Xg.st (StF.boxOne rfl rfl rfl) rfl rfl ?_; rintro _ _ ⟨bx, rfl, rfl⟩) | (refine Xg.st (StF.alloc rfl Tryz.zeroValue3 rfl) rfl rfl ?_; rintro _ _ ⟨bx, rfl, rfl⟩) | (refine Xg.st (StF.alloc rfl Tryz.zeroValue4 rfl) rfl rfl ?_; rintro _ _ ⟨bx, rfl, rfl⟩) | (refine Xg.st0 (StF.storeOne (i := 0) rfl rfl rfl rfl (te rfl) rfl rfl (Nat.le_of_ble_eq_true rfl)) rfl ?_; rintro _ _ ⟨rfl, rfl⟩; dsimp only [List.set]) | (refine Xg.st0 (StF.storeOne (i := 1) rfl rfl rfl rfl (te rfl) rfl rfl (Nat.le_of_ble_eq_true rfl)) rfl ?_; rintro _ _ ⟨rfl, rfl⟩; dsimp only [List.set]))) | (refine Xo.g rfl rfl ?_; (first | (with_reducible refine Xw.tf rfl rfl ?_) | (with_reducible refine Xw.caseB (fun h => ?_) (fun h => ?_) <;> simp only [h, decide_true, decide_false, Bool.not_true, Bool.not_false, and_self, and_true, true_and, and_false, false_and]))))) | (refine XO.done rfl ?_; refine hK _ _ ?_; clear hK K) | (refine XQ.op rfl ?_; (first | ((first | refine Yo.ng rfl ?_); (first | (refine Yg.ev (EvF.assign rfl rfl) rfl rfl ?_) | (refine Yg.ev (EvF.loadV rfl rfl (LoadV.own (te rfl) rfl (List.Mem.head _) rfl)) rfl rfl ?_) | (refine Yg.ev (EvF.loadV rfl rfl (LoadV.own (te rfl) rfl (List.Mem.tail _ (List.Mem.head _)) rfl)) rfl rfl ?_))))) | (refine XQ.done rfl ?_; refine hK _ ?_; clear hK K) | refine X.seq rfl ?_ | refine X.region rfl (fun K hK => ?_) | refine X.regionD rfl mixed (by kernel_rfl) (fun K hK => ?_) | refine X.block rfl ?_ | refine X.ret rfl ?_ | (refine X.ite rfl rfl (fun hc => ?_); (first | (with_reducible refine Xb.t hc ?_)) <;> clear hc))
      refine ⟨⟨bx, 0, [.slice none 0 0], some 28, 1⟩ :: E, List.Sublist.refl _, XT.of1 ?_⟩
      repeat' (first | (refine XO.op rfl ?_; (first | ((first | refine Xo.ng rfl ?_ | (refine Xo.g rfl rfl ?_; with_reducible refine Xw.ff ?_)); (first | (refine Xg.ev (EvF.move rfl rfl) rfl rfl ?_) | (refine Xg.ev (EvF.assign rfl rfl) rfl rfl ?_) | (refine Xg.ev (EvF.pickT rfl rfl rfl) rfl rfl ?_) | (refine Xg.ev (EvF.not rfl rfl) rfl rfl ?_) | (refine Xg.ev (EvF.loadV rfl rfl (LoadV.own (te rfl) rfl (List.Mem.head _) rfl)) rfl rfl ?_) | (refine Xg.ev (EvF.loadV rfl rfl (LoadV.own (te rfl) rfl (List.Mem.tail _ (List.Mem.head _)) rfl)) rfl rfl ?_) | (refine Xg.ev (EvF.loadV rfl rfl (LoadV.own (te rfl) rfl (List.Mem.tail _ (List.Mem.tail _ (List.Mem.head _))) rfl)) rfl rfl ?_) | (refine Xg.st (StF.boxOne rfl rfl rfl) rfl rfl ?_; rintro _ _ ⟨bx, rfl, rfl⟩) | (refine Xg.st (StF.alloc rfl Tryz.zeroValue3 rfl) rfl rfl ?_; rintro _ _ ⟨bx, rfl, rfl⟩) | (refine Xg.st (StF.alloc rfl Tryz.zeroValue4 rfl) rfl rfl ?_; rintro _ _ ⟨bx, rfl, rfl⟩) | (refine Xg.st0 (StF.storeOne (i := 0) rfl rfl rfl rfl (te rfl) rfl rfl (Nat.le_of_ble_eq_true rfl)) rfl ?_; rintro _ _ ⟨rfl, rfl⟩; dsimp only [List.set]) | (refine Xg.st0 (StF.storeOne (i := 1) rfl rfl rfl rfl (te rfl) rfl rfl (Nat.le_of_ble_eq_true rfl)) rfl ?_; rintro _ _ ⟨rfl, rfl⟩; dsimp only [List.set]))) | (refine Xo.g rfl rfl ?_; (first | (with_reducible refine Xw.tf rfl rfl ?_) | (with_reducible refine Xw.caseB (fun h => ?_) (fun h => ?_) <;> simp only [h, decide_true, decide_false, Bool.not_true, Bool.not_false, and_self, and_true, true_and, and_false, false_and]))))) | (refine XO.done rfl ?_; refine hK _ _ ?_; clear hK K) | (refine XQ.op rfl ?_; (first | ((first | refine Yo.ng rfl ?_); (first | (refine Yg.ev (EvF.assign rfl rfl) rfl rfl ?_) | (refine Yg.ev (EvF.loadV rfl rfl (LoadV.own (te rfl) rfl (List.Mem.head _) rfl)) rfl rfl ?_) | (refine Yg.ev (EvF.loadV rfl rfl (LoadV.own (te rfl) rfl (List.Mem.tail _ (List.Mem.head _)) rfl)) rfl rfl ?_))))) | (refine XQ.done rfl ?_; refine hK _ ?_; clear hK K) | refine X.seq rfl ?_ | refine X.region rfl (fun K hK => ?_) | refine X.regionD rfl mixed (by kernel_rfl) (fun K hK => ?_) | refine X.block rfl ?_ | refine X.ret rfl ?_ | (refine X.ite rfl rfl (fun hc => ?_); (first | (with_reducible refine Xb.t hc ?_)) <;> clear hc))
      exact ⟨E, (by (repeat (first | exact List.Sublist.refl _ | apply List.Sublist.cons_cons | apply List.Sublist.cons)); done), retT_one (by first | exact .inr rfl | exact .inl rfl) Tryz.results131 rfl (List.Sublist.refl _) ⟨ys, [], hys, hO, rfl⟩⟩
    · refine XT.seq rfl (XT.of1 ?_)
      simp only [List.cons_append, List.nil_append]
      repeat' (first | (refine XO.op rfl ?_; (first | ((first | refine Xo.ng rfl ?_ | (refine Xo.g rfl rfl ?_; with_reducible refine Xw.ff ?_)); (first | (refine Xg.ev (EvF.move rfl rfl) rfl rfl ?_) | (refine Xg.ev (EvF.assign rfl rfl) rfl rfl ?_) | (refine Xg.ev (EvF.pickT rfl rfl rfl) rfl rfl ?_) | (refine Xg.ev (EvF.not rfl rfl) rfl rfl ?_) | (refine Xg.ev (EvF.loadV rfl rfl (LoadV.own (te rfl) rfl (List.Mem.head _) rfl)) rfl rfl ?_) | (refine Xg.ev (EvF.loadV rfl rfl (LoadV.own (te rfl) rfl (List.Mem.tail _ (List.Mem.head _)) rfl)) rfl rfl ?_) | (refine Xg.ev (EvF.loadV rfl rfl (LoadV.own (te rfl) rfl (List.Mem.tail _ (List.Mem.tail _ (List.Mem.head _))) rfl)) rfl rfl ?_) | (refine Xg.st (StF.boxOne rfl rfl rfl) rfl rfl ?_; rintro _ _ ⟨bx, rfl, rfl⟩) | (refine Xg.st (StF.alloc rfl Tryz.zeroValue3 rfl) rfl rfl ?_; rintro _ _ ⟨bx, rfl, rfl⟩) | (refine Xg.st (StF.alloc rfl Tryz.zeroValue4 rfl) rfl rfl ?_; rintro _ _ ⟨bx, rfl, rfl⟩) | (refine Xg.st0 (StF.storeOne (i := 0) rfl rfl rfl rfl (te rfl) rfl rfl (Nat.le_of_ble_eq_true rfl)) rfl ?_; rintro _ _ ⟨rfl, rfl⟩; dsimp only [List.set]) | (refine Xg.st0 (StF.storeOne (i := 1) rfl rfl rfl rfl (te rfl) rfl rfl (Nat.le_of_ble_eq_true rfl)) rfl ?_; rintro _ _ ⟨rfl, rfl⟩; dsimp only [List.set]))) | (refine Xo.g rfl rfl ?_; (first | (with_reducible refine Xw.tf rfl rfl ?_) | (with_reducible refine Xw.caseB (fun h => ?_) (fun h => ?_) <;> simp only [h, decide_true, decide_false, Bool.not_true, Bool.not_false, and_self, and_true, true_and, and_false, false_and]))))) | (refine XO.done rfl ?_; refine hK _ _ ?_; clear hK K) | (refine XQ.op rfl ?_; (first | ((first | refine Yo.ng rfl ?_); (first | (refine Yg.ev (EvF.assign rfl rfl) rfl rfl ?_) | (refine Yg.ev (EvF.loadV rfl rfl (LoadV.own (te rfl) rfl (List.Mem.head _) rfl)) rfl rfl ?_) | (refine Yg.ev (EvF.loadV rfl rfl (LoadV.own (te rfl) rfl (List.Mem.tail _ (List.Mem.head _)) rfl)) rfl rfl ?_))))) | (refine XQ.done rfl ?_; refine hK _ ?_; clear hK K) | refine X.seq rfl ?_ | refine X.region rfl (fun K hK => ?_) | refine X.regionD rfl mixed (by kernel_rfl) (fun K hK => ?_) | refine X.block rfl ?_ | refine X.ret rfl ?_ | (refine X.ite rfl rfl (fun hc => ?_); (first | (with_reducible refine Xb.t hc ?_)) <;> clear hc))
      refine ⟨⟨bo, 0, pm.flatMap cI, some 3, qo * 1⟩ :: ⟨bx, 0, [.slice (some ⟨bo, 0, none⟩) pm.length qo], some 28, 1⟩ :: E, List.Sublist.refl _, XT.of1 ?_⟩
      repeat' (first | (refine XO.op rfl ?_; (first | ((first | refine Xo.ng rfl ?_ | (refine Xo.g rfl rfl ?_; with_reducible refine Xw.ff ?_)); (first | (refine Xg.ev (EvF.move rfl rfl) rfl rfl ?_) | (refine Xg.ev (EvF.assign rfl rfl) rfl rfl ?_) | (refine Xg.ev (EvF.pickT rfl rfl rfl) rfl rfl ?_) | (refine Xg.ev (EvF.not rfl rfl) rfl rfl ?_) | (refine Xg.ev (EvF.loadV rfl rfl (LoadV.own (te rfl) rfl (List.Mem.head _) rfl)) rfl rfl ?_) | (refine Xg.ev (EvF.loadV rfl rfl (LoadV.own (te rfl) rfl (List.Mem.tail _ (List.Mem.head _)) rfl)) rfl rfl ?_) | (refine Xg.ev (EvF.loadV rfl rfl (LoadV.own (te rfl) rfl (List.Mem.tail _ (List.Mem.tail _ (List.Mem.head _))) rfl)) rfl rfl ?_) | (refine Xg.st (StF.boxOne rfl rfl rfl) rfl rfl ?_; rintro _ _ ⟨bx, rfl, rfl⟩) | (refine Xg.st (StF.alloc rfl Tryz.zeroValue3 rfl) rfl rfl ?_; rintro _ _ ⟨bx, rfl, rfl⟩) | (refine Xg.st (StF.alloc rfl Tryz.zeroValue4 rfl) rfl rfl ?_; rintro _ _ ⟨bx, rfl, rfl⟩) | (refine Xg.st0 (StF.storeOne (i := 0) rfl rfl rfl rfl (te rfl) rfl rfl (Nat.le_of_ble_eq_true rfl)) rfl ?_; rintro _ _ ⟨rfl, rfl⟩; dsimp only [List.set]) | (refine Xg.st0 (StF.storeOne (i := 1) rfl rfl rfl rfl (te rfl) rfl rfl (Nat.le_of_ble_eq_true rfl)) rfl ?_; rintro _ _ ⟨rfl, rfl⟩; dsimp only [List.set]))) | (refine Xo.g rfl rfl ?_; (first | (with_reducible refine Xw.tf rfl rfl ?_) | (with_reducible refine Xw.caseB (fun h => ?_) (fun h => ?_) <;> simp only [h, decide_true, decide_false, Bool.not_true, Bool.not_false, and_self, and_true, true_and, and_false, false_and]))))) | (refine XO.done rfl ?_; refine hK _ _ ?_; clear hK K) | (refine XQ.op rfl ?_; (first | ((first | refine Yo.ng rfl ?_); (first | (refine Yg.ev (EvF.assign rfl rfl) rfl rfl ?_) | (refine Yg.ev (EvF.loadV rfl rfl (LoadV.own (te rfl) rfl (List.Mem.head _) rfl)) rfl rfl ?_) | (refine Yg.ev (EvF.loadV rfl rfl (LoadV.own (te rfl) rfl (List.Mem.tail _ (List.Mem.head _)) rfl)) rfl rfl ?_))))) | (refine XQ.done rfl ?_; refine hK _ ?_; clear hK K) | refine X.seq rfl ?_ | refine X.region rfl (fun K hK => ?_) | refine X.regionD rfl mixed (by kernel_rfl) (fun K hK => ?_) | refine X.block rfl ?_ | refine X.ret rfl ?_ | (refine X.ite rfl rfl (fun hc => ?_); (first | (with_reducible refine Xb.t hc ?_)) <;> clear hc))
      exact ⟨⟨bo, 0, pm.flatMap cI, some 3, qo * 1⟩ :: E, (by (repeat (first | exact List.Sublist.refl _ | apply List.Sublist.cons_cons | apply List.Sublist.cons)); done), retT_one (by first | exact .inr rfl | exact .inl rfl) Tryz.results131 rfl (List.Sublist.refl _) ⟨ys, [⟨bo, 0, pm.flatMap cI, some 3, qo * 1⟩], hys, hO, rfl⟩⟩
theorem collectI_spec {α : Type} (f : Nat) (cap : List Value) (E : List Row) (Gd Dn : List α → Prop) (g : α → Int) (hI : ItfG Tryz.prog f cap E Gd Dn (fun e => [.int .i64 (g e)])) (hb : ∀ pre, Gd pre → pre.length ≤ 1000000) :
    Fc Tryz.prog 97 [.func (.func f) #[] cap.toArray] E (fun v H' => ∃ ys Z, Dn ys ∧ OutI (ys.map g) v Z ∧ H' = Z ++ E) := by
  refine Fc.mk (callable Tryz.call97) Tryz.func97 rfl Tryz.ntmps97 rfl ?_; dsimp only [fr]
  repeat' (first | (refine XO.op rfl ?_; (first | ((first | refine Xo.ng rfl ?_); (first | (refine Xg.call (EnF.st rfl (Args.cons rfl (Args.cons rfl Args.nil))) rfl rfl (appendSeqI_spec f cap E Gd Dn g hI hb) ?_; rintro v _ ⟨ys, Z, hy, hO, rfl⟩) | (refine Xg.ev (EvF.move rfl rfl) rfl rfl ?_) | (refine Xg.ev (EvF.assign rfl rfl) rfl rfl ?_))))) | (refine XO.done rfl ?_; refine hK _ _ ?_; clear hK K) | refine X.seq rfl ?_ | refine X.region rfl (fun K hK => ?_) | refine X.ret rfl ?_)
  exact ret_one (by first | exact .inr rfl | exact .inl rfl) Tryz.results97 rfl (List.Sublist.refl _) ⟨ys, Z, hy, hO, rfl⟩
/-- the least of the numbers that came -/
def fndI (l : List Int) : Bool := match l with | [] => false | _ => true
theorem fndI_snoc (l : List Int) (x : Int) : fndI (l ++ [x]) = true := by cases l <;> rfl
theorem fndI_pos {l : List Int} (h : fndI l = true) : 0 < l.length := by cases l with | nil => cases h | cons => exact Nat.succ_pos _
theorem fndI_nil {l : List Int} (h : fndI l = false) : l = [] := by cases l with | nil => rfl | cons => cases h
set_option maxHeartbeats 8000000 in
theorem firstI_spec {α : Type} (f : Nat) (cap : List Value) (E : List Row) (Gd Dn : List α → Prop) (k : α → Int) (hI : ItfG Tryz.prog f cap E Gd Dn (fun e => [.int .i64 (k e)])) :
    Fc Tryz.prog 99 [.func (.func f) #[] cap.toArray, .func (.func 101) #[] #[]] E (fun v H' => ∃ ys, Dn ys ∧ v = .tuple #[.int .i64 (minL (ys.map k)), .bool (fndI (ys.map k))] ∧ H' = E) := by
  refine Fc.mkT (callable Tryz.call99) Tryz.func99 rfl Tryz.ntmps99 rfl ?_
  dsimp only [fr]
  refine XT.seq rfl (XT.of0 ?_)
  repeat' (first | (refine XO.op rfl ?_; (first | ((first | refine Xo.ng rfl ?_ | (refine Xo.g rfl rfl ?_; with_reducible refine Xw.ff ?_)); (first | (refine Xg.ev (EvF.move rfl rfl) rfl rfl ?_) | (refine Xg.ev (EvF.assign rfl rfl) rfl rfl ?_) | (refine Xg.ev (EvF.pickT rfl rfl rfl) rfl rfl ?_) | (refine Xg.ev (EvF.not rfl rfl) rfl rfl ?_) | (refine Xg.ev (EvF.loadV rfl rfl (LoadV.own (te rfl) rfl (List.Mem.head _) rfl)) rfl rfl ?_) | (refine Xg.ev (EvF.loadV rfl rfl (LoadV.own (te rfl) rfl (List.Mem.tail _ (List.Mem.head _)) rfl)) rfl rfl ?_) | (refine Xg.ev (EvF.loadV rfl rfl (LoadV.own (te rfl) rfl (List.Mem.tail _ (List.Mem.tail _ (List.Mem.head _))) rfl)) rfl rfl ?_) | (refine Xg.st (StF.boxOne rfl rfl rfl) rfl rfl ?_; rintro _ _ ⟨bx, rfl, rfl⟩) | (refine Xg.st (StF.alloc rfl Tryz.zeroValue3 rfl) rfl rfl ?_; rintro _ _ ⟨bx, rfl, rfl⟩) | (refine Xg.st (StF.alloc rfl Tryz.zeroValue4 rfl) rfl rfl ?_; rintro _ _ ⟨bx, rfl, rfl⟩) | (refine Xg.st0 (StF.storeOne (i := 0) rfl rfl rfl rfl (te rfl) rfl rfl (Nat.le_of_ble_eq_true rfl)) rfl ?_; rintro _ _ ⟨rfl, rfl⟩; dsimp only [List.set]) | (refine Xg.st0 (StF.storeOne (i := 1) rfl rfl rfl rfl (te rfl) rfl rfl (Nat.le_of_ble_eq_true rfl)) rfl ?_; rintro _ _ ⟨rfl, rfl⟩; dsimp only [List.set]))) | (refine Xo.g rfl rfl ?_; (first | (with_reducible refine Xw.tf rfl rfl ?_) | (with_reducible refine Xw.caseB (fun h => ?_) (fun h => ?_) <;> simp only [h, decide_true, decide_false, Bool.not_true, Bool.not_false, and_self, and_true, true_and, and_false, false_and]))))) | (refine XO.done rfl ?_; refine hK _ _ ?_; clear hK K) | (refine XQ.op rfl ?_; (first | ((first | refine Yo.ng rfl ?_); (first | (refine Yg.ev (EvF.assign rfl rfl) rfl rfl ?_) | (refine Yg.ev (EvF.loadV rfl rfl (LoadV.own (te rfl) rfl (List.Mem.head _) rfl)) rfl rfl ?_) | (refine Yg.ev (EvF.loadV rfl rfl (LoadV.own (te rfl) rfl (List.Mem.tail _ (List.Mem.head _)) rfl)) rfl rfl ?_))))) | (refine XQ.done rfl ?_; refine hK _ ?_; clear hK K) | refine X.seq rfl ?_ | refine X.region rfl (fun K hK => ?_) | refine X.regionD rfl mixed (by kernel_rfl) (fun K hK => ?_) | refine X.block rfl ?_ | refine X.ret rfl ?_ | (refine X.ite rfl rfl (fun hc => ?_); (first | (with_reducible refine Xb.t hc ?_)) <;> clear hc))
  refine XT.seq rfl (XT.of0 ?_)
  repeat' (first | (refine XO.op rfl ?_; (first | ((first | refine Xo.ng rfl ?_ | (refine Xo.g rfl rfl ?_; with_reducible refine Xw.ff ?_)); (first | (refine Xg.ev (EvF.move rfl rfl) rfl rfl ?_) | (refine Xg.ev (EvF.assign rfl rfl) rfl rfl ?_) | (refine Xg.ev (EvF.pickT rfl rfl rfl) rfl rfl ?_) | (refine Xg.ev (EvF.not rfl rfl) rfl rfl ?_) | (refine Xg.ev (EvF.loadV rfl rfl (LoadV.own (te rfl) rfl (List.Mem.head _) rfl)) rfl rfl ?_) | (refine Xg.ev (EvF.loadV rfl rfl (LoadV.own (te rfl) rfl (List.Mem.tail _ (List.Mem.head _)) rfl)) rfl rfl ?_) | (refine Xg.ev (EvF.loadV rfl rfl (LoadV.own (te rfl) rfl (List.Mem.tail _ (List.Mem.tail _ (List.Mem.head _))) rfl)) rfl rfl ?_) | (refine Xg.st (StF.boxOne rfl rfl rfl) rfl rfl ?_; rintro _ _ ⟨bx, rfl, rfl⟩) | (refine Xg.st (StF.alloc rfl Tryz.zeroValue3 rfl) rfl rfl ?_; rintro _ _ ⟨bx, rfl, rfl⟩) | (refine Xg.st (StF.alloc rfl Tryz.zeroValue4 rfl) rfl rfl ?_; rintro _ _ ⟨bx, rfl, rfl⟩) | (refine Xg.st0 (StF.storeOne (i := 0) rfl rfl rfl rfl (te rfl) rfl rfl (Nat.le_of_ble_eq_true rfl)) rfl ?_; rintro _ _ ⟨rfl, rfl⟩; dsimp only [List.set]) | (refine Xg.st0 (StF.storeOne (i := 1) rfl rfl rfl rfl (te rfl) rfl rfl (Nat.le_of_ble_eq_true rfl)) rfl ?_; rintro _ _ ⟨rfl, rfl⟩; dsimp only [List.set]))) | (refine Xo.g rfl rfl ?_; (first | (with_reducible refine Xw.tf rfl rfl ?_) | (with_reducible refine Xw.caseB (fun h => ?_) (fun h => ?_) <;> simp only [h, decide_true, decide_false, Bool.not_true, Bool.not_false, and_self, and_true, true_and, and_false, false_and]))))) | (refine XO.done rfl ?_; refine hK _ _ ?_; clear hK K) | (refine XQ.op rfl ?_; (first | ((first | refine Yo.ng rfl ?_); (first | (refine Yg.ev (EvF.assign rfl rfl) rfl rfl ?_) | (refine Yg.ev (EvF.loadV rfl rfl (LoadV.own (te rfl) rfl (List.Mem.head _) rfl)) rfl rfl ?_) | (refine Yg.ev (EvF.loadV rfl rfl (LoadV.own (te rfl) rfl (List.Mem.tail _ (List.Mem.head _)) rfl)) rfl rfl ?_))))) | (refine XQ.done rfl ?_; refine hK _ ?_; clear hK K) | refine X.seq rfl ?_ | refine X.region rfl (fun K hK => ?_) | refine X.regionD rfl mixed (by kernel_rfl) (fun K hK => ?_) | refine X.block rfl ?_ | refine X.ret rfl ?_ | (refine X.ite rfl rfl (fun hc => ?_); (first | (with_reducible refine Xb.t hc ?_)) <;> clear hc))
  refine XT.seq rfl (XT.of0 ?_)
  repeat' (first | (refine XO.op rfl ?_; (first | ((first | refine Xo.ng rfl ?_ | (refine Xo.g rfl rfl ?_; with_reducible refine Xw.ff ?_)); (first | (refine Xg.ev (EvF.move rfl rfl) rfl rfl ?_) | (refine Xg.ev (EvF.assign rfl rfl) rfl rfl ?_) | (refine Xg.ev (EvF.pickT rfl rfl rfl) rfl rfl ?_) | (refine Xg.ev (EvF.not rfl rfl) rfl rfl ?_) | (refine Xg.ev (EvF.loadV rfl rfl (LoadV.own (te rfl) rfl (List.Mem.head _) rfl)) rfl rfl ?_) | (refine Xg.ev (EvF.loadV rfl rfl (LoadV.own (te rfl) rfl (List.Mem.tail _ (List.Mem.head _)) rfl)) rfl rfl ?_) | (refine Xg.ev (EvF.loadV rfl rfl (LoadV.own (te rfl) rfl (List.Mem.tail _ (List.Mem.tail _ (List.Mem.head _))) rfl)) rfl rfl ?_) | (refine Xg.st (StF.boxOne rfl rfl rfl) rfl rfl ?_; rintro _ _ ⟨bx, rfl, rfl⟩) | (refine Xg.st (StF.alloc rfl Tryz.zeroValue3 rfl) rfl rfl ?_; rintro _ _ ⟨bx, rfl, rfl⟩) | (refine Xg.st (StF.alloc rfl Tryz.zeroValue4 rfl) rfl rfl ?_; rintro _ _ ⟨bx, rfl, rfl⟩) | (refine Xg.st0 (StF.storeOne (i := 0) rfl rfl rfl rfl (te rfl) rfl rfl (Nat.le_of_ble_eq_true rfl)) rfl ?_; rintro _ _ ⟨rfl, rfl⟩; dsimp only [List.set]) | (refine Xg.st0 (StF.storeOne (i := 1) rfl rfl rfl rfl (te rfl) rfl rfl (Nat.le_of_ble_eq_true rfl)) rfl ?_; rintro _ _ ⟨rfl, rfl⟩; dsimp only [List.set]))) | (refine Xo.g rfl rfl ?_; (first | (with_reducible refine Xw.tf rfl rfl ?_) | (with_reducible refine Xw.caseB (fun h => ?_) (fun h => ?_) <;> simp only [h, decide_true, decide_false, Bool.not_true, Bool.not_false, and_self, and_true, true_and, and_false, false_and]))))) | (refine XO.done rfl ?_; refine hK _ _ ?_; clear hK K) | (refine XQ.op rfl ?_; (first | ((first | refine Yo.ng rfl ?_); (first | (refine Yg.ev (EvF.assign rfl rfl) rfl rfl ?_) | (refine Yg.ev (EvF.loadV rfl rfl (LoadV.own (te rfl) rfl (List.Mem.head _) rfl)) rfl rfl ?_) | (refine Yg.ev (EvF.loadV rfl rfl (LoadV.own (te rfl) rfl (List.Mem.tail _ (List.Mem.head _)) rfl)) rfl rfl ?_))))) | (refine XQ.done rfl ?_; refine hK _ ?_; clear hK K) | refine X.seq rfl ?_ | refine X.region rfl (fun K hK => ?_) | refine X.regionD rfl mixed (by kernel_rfl) (fun K hK => ?_) | refine X.block rfl ?_ | refine X.ret rfl ?_ | (refine X.ite rfl rfl (fun hc => ?_); (first | (with_reducible refine Xb.t hc ?_)) <;> clear hc))
  refine XT.seq rfl (XT.seq rfl (XT.of0 ?_))
  repeat' (first | (refine XO.op rfl ?_; (first | ((first | refine Xo.ng rfl ?_ | (refine Xo.g rfl rfl ?_; with_reducible refine Xw.ff ?_)); (first | (refine Xg.ev (EvF.move rfl rfl) rfl rfl ?_) | (refine Xg.ev (EvF.assign rfl rfl) rfl rfl ?_) | (refine Xg.ev (EvF.pickT rfl rfl rfl) rfl rfl ?_) | (refine Xg.ev (EvF.not rfl rfl) rfl rfl ?_) | (refine Xg.ev (EvF.loadV rfl rfl (LoadV.own (te rfl) rfl (List.Mem.head _) rfl)) rfl rfl ?_) | (refine Xg.ev (EvF.loadV rfl rfl (LoadV.own (te rfl) rfl (List.Mem.tail _ (List.Mem.head _)) rfl)) rfl rfl ?_) | (refine Xg.ev (EvF.loadV rfl rfl (LoadV.own (te rfl) rfl (List.Mem.tail _ (List.Mem.tail _ (List.Mem.head _))) rfl)) rfl rfl ?_) | (refine Xg.st (StF.boxOne rfl rfl rfl) rfl rfl ?_; rintro _ _ ⟨bx, rfl, rfl⟩) | (refine Xg.st (StF.alloc rfl Tryz.zeroValue3 rfl) rfl rfl ?_; rintro _ _ ⟨bx, rfl, rfl⟩) | (refine Xg.st (StF.alloc rfl Tryz.zeroValue4 rfl) rfl rfl ?_; rintro _ _ ⟨bx, rfl, rfl⟩) | (refine Xg.st0 (StF.storeOne (i := 0) rfl rfl rfl rfl (te rfl) rfl rfl (Nat.le_of_ble_eq_true rfl)) rfl ?_; rintro _ _ ⟨rfl, rfl⟩; dsimp only [List.set]) | (refine Xg.st0 (StF.storeOne (i := 1) rfl rfl rfl rfl (te rfl) rfl rfl (Nat.le_of_ble_eq_true rfl)) rfl ?_; rintro _ _ ⟨rfl, rfl⟩; dsimp only [List.set]))) | (refine Xo.g rfl rfl ?_; (first | (with_reducible refine Xw.tf rfl rfl ?_) | (with_reducible refine Xw.caseB (fun h => ?_) (fun h => ?_) <;> simp only [h, decide_true, decide_false, Bool.not_true, Bool.not_false, and_self, and_true, true_and, and_false, false_and]))))) | (refine XO.done rfl ?_; refine hK _ _ ?_; clear hK K) | (refine XQ.op rfl ?_; (first | ((first | refine Yo.ng rfl ?_); (first | (refine Yg.ev (EvF.assign rfl rfl) rfl rfl ?_) | (refine Yg.ev (EvF.loadV rfl rfl (LoadV.own (te rfl) rfl (List.Mem.head _) rfl)) rfl rfl ?_) | (refine Yg.ev (EvF.loadV rfl rfl (LoadV.own (te rfl) rfl (List.Mem.tail _ (List.Mem.head _)) rfl)) rfl rfl ?_))))) | (refine XQ.done rfl ?_; refine hK _ ?_; clear hK K) | refine X.seq rfl ?_ | refine X.region rfl (fun K hK => ?_) | refine X.regionD rfl mixed (by kernel_rfl) (fun K hK => ?_) | refine X.block rfl ?_ | refine X.ret rfl ?_ | (refine X.ite rfl rfl (fun hc => ?_); (first | (with_reducible refine Xb.t hc ?_)) <;> clear hc))
  refine XT.block rfl ?_
  rename_i b3 b6
  obtain ⟨b7, hb7⟩ : ∃ b, b = bx := ⟨_, rfl⟩
  rw [← hb7]
  clear hb7
  refine XT.weak (F' := [(3, .pointer (some ⟨b3, 0, none⟩)), (6, .pointer (some ⟨b6, 0, none⟩)), (7, .pointer (some ⟨b7, 0, none⟩)), (9, .func (.func f) #[] cap.toArray)]) (H' := ⟨b7, 0, [.bool false], some 4, 1⟩ :: ⟨b6, 0, [.int .i64 0], some 3, 1⟩ :: ⟨b3, 0, [.func (.func 101) #[] #[]], some 161, 1⟩ :: E) (by (repeat (first | exact Sub.nil _ | refine Sub.cons rfl ?_)); done) (by (repeat (first | exact List.Sublist.refl _ | apply List.Sublist.cons_cons | apply List.Sublist.cons)); done) ?_
  refine XT.rangeG (ps := [10]) rfl rfl hI rfl (fun _ => rfl) (fun pre Hb => Hb = ⟨b7, 0, [.bool (fndI (pre.map k))], some 4, 1⟩ :: ⟨b6, 0, [.int .i64 (minL (pre.map k))], some 3, 1⟩ :: ⟨b3, 0, [.func (.func 101) #[] #[]], some 161, 1⟩ :: []) (fun _ _ => False) _ rfl rfl ?_ ?_ (fun _ _ h => h.elim) (fun _ _ _ h => h.elim) (fun _ _ h => h.elim)
  · rintro pre x _ hpre rfl Z
    simp only [List.cons_append, List.nil_append]
    repeat' (first | (refine XO.op rfl ?_; (first | ((first | refine Xo.ng rfl ?_ | (refine Xo.g rfl rfl ?_; with_reducible refine Xw.ff ?_)); (first | (refine Xg.ev (EvF.move rfl rfl) rfl rfl ?_) | (refine Xg.ev (EvF.assign rfl rfl) rfl rfl ?_) | (refine Xg.ev (EvF.pickT rfl rfl rfl) rfl rfl ?_) | (refine Xg.ev (EvF.not rfl rfl) rfl rfl ?_) | (refine Xg.ev (EvF.loadV rfl rfl (LoadV.own (te rfl) rfl (List.Mem.head _) rfl)) rfl rfl ?_) | (refine Xg.ev (EvF.loadV rfl rfl (LoadV.own (te rfl) rfl (List.Mem.tail _ (List.Mem.head _)) rfl)) rfl rfl ?_) | (refine Xg.ev (EvF.loadV rfl rfl (LoadV.own (te rfl) rfl (List.Mem.tail _ (List.Mem.tail _ (List.Mem.head _))) rfl)) rfl rfl ?_) | (refine Xg.st (StF.boxOne rfl rfl rfl) rfl rfl ?_; rintro _ _ ⟨bx, rfl, rfl⟩) | (refine Xg.st (StF.alloc rfl Tryz.zeroValue3 rfl) rfl rfl ?_; rintro _ _ ⟨bx, rfl, rfl⟩) | (refine Xg.st (StF.alloc rfl Tryz.zeroValue4 rfl) rfl rfl ?_; rintro _ _ ⟨bx, rfl, rfl⟩) | (refine Xg.st0 (StF.storeOne (i := 0) rfl rfl rfl rfl (te rfl) rfl rfl (Nat.le_of_ble_eq_true rfl)) rfl ?_; rintro _ _ ⟨rfl, rfl⟩; dsimp only [List.set]) | (refine Xg.st0 (StF.storeOne (i := 1) rfl rfl rfl rfl (te rfl) rfl rfl (Nat.le_of_ble_eq_true rfl)) rfl ?_; rintro _ _ ⟨rfl, rfl⟩; dsimp only [List.set]))) | (refine Xo.g rfl rfl ?_; (first | (with_reducible refine Xw.tf rfl rfl ?_) | (with_reducible refine Xw.caseB (fun h => ?_) (fun h => ?_) <;> simp only [h, decide_true, decide_false, Bool.not_true, Bool.not_false, and_self, and_true, true_and, and_false, false_and]))))) | (refine XO.done rfl ?_; refine hK _ _ ?_; clear hK K) | (refine XQ.op rfl ?_; (first | ((first | refine Yo.ng rfl ?_); (first | (refine Yg.ev (EvF.assign rfl rfl) rfl rfl ?_) | (refine Yg.ev (EvF.loadV rfl rfl (LoadV.own (te rfl) rfl (List.Mem.head _) rfl)) rfl rfl ?_) | (refine Yg.ev (EvF.loadV rfl rfl (LoadV.own (te rfl) rfl (List.Mem.tail _ (List.Mem.head _)) rfl)) rfl rfl ?_))))) | (refine XQ.done rfl ?_; refine hK _ ?_; clear hK K) | refine X.seq rfl ?_ | refine X.region rfl (fun K hK => ?_) | refine X.regionD rfl mixed (by kernel_rfl) (fun K hK => ?_) | refine X.block rfl ?_ | refine X.ret rfl ?_ | (refine X.ite rfl rfl (fun hc => ?_); (first | (with_reducible refine Xb.t hc ?_)) <;> clear hc))
    refine ⟨rfl, ⟨b7, 0, [.bool (fndI (pre.map k))], some 4, 1⟩ :: ⟨b6, 0, [.int .i64 (minL (pre.map k))], some 3, 1⟩ :: ⟨b3, 0, [.func (.func 101) #[] #[]], some 161, 1⟩ :: [], List.Sublist.refl _, fun Z' => ?_⟩
    simp only [List.cons_append, List.nil_append, List.map_append, List.map_cons, List.map_nil]
    obtain ⟨pm, hpm⟩ : ∃ q, pre.map k = q := ⟨_, rfl⟩
    rw [hpm, fndI_snoc]
    obtain ⟨o, ho⟩ : ∃ o, fndI pm = o := ⟨_, rfl⟩
    rw [ho]
    cases o
    · obtain rfl := fndI_nil ho
      repeat' (first | (refine XO.op rfl ?_; (first | ((first | refine Xo.ng rfl ?_ | (refine Xo.g rfl rfl ?_; with_reducible refine Xw.ff ?_)); (first | (refine Xg.ev (EvF.move rfl rfl) rfl rfl ?_) | (refine Xg.ev (EvF.assign rfl rfl) rfl rfl ?_) | (refine Xg.ev (EvF.pickT rfl rfl rfl) rfl rfl ?_) | (refine Xg.ev (EvF.not rfl rfl) rfl rfl ?_) | (refine Xg.ev (EvF.loadV rfl rfl (LoadV.own (te rfl) rfl (List.Mem.head _) rfl)) rfl rfl ?_) | (refine Xg.ev (EvF.loadV rfl rfl (LoadV.own (te rfl) rfl (List.Mem.tail _ (List.Mem.head _)) rfl)) rfl rfl ?_) | (refine Xg.ev (EvF.loadV rfl rfl (LoadV.own (te rfl) rfl (List.Mem.tail _ (List.Mem.tail _ (List.Mem.head _))) rfl)) rfl rfl ?_) | (refine Xg.st (StF.boxOne rfl rfl rfl) rfl rfl ?_; rintro _ _ ⟨bx, rfl, rfl⟩) | (refine Xg.st (StF.alloc rfl Tryz.zeroValue3 rfl) rfl rfl ?_; rintro _ _ ⟨bx, rfl, rfl⟩) | (refine Xg.st (StF.alloc rfl Tryz.zeroValue4 rfl) rfl rfl ?_; rintro _ _ ⟨bx, rfl, rfl⟩) | (refine Xg.st0 (StF.storeOne (i := 0) rfl rfl rfl rfl (te rfl) rfl rfl (Nat.le_of_ble_eq_true rfl)) rfl ?_; rintro _ _ ⟨rfl, rfl⟩; dsimp only [List.set]) | (refine Xg.st0 (StF.storeOne (i := 1) rfl rfl rfl rfl (te rfl) rfl rfl (Nat.le_of_ble_eq_true rfl)) rfl ?_; rintro _ _ ⟨rfl, rfl⟩; dsimp only [List.set]))) | (refine Xo.g rfl rfl ?_; (first | (with_reducible refine Xw.tf rfl rfl ?_) | (with_reducible refine Xw.caseB (fun h => ?_) (fun h => ?_) <;> simp only [h, decide_true, decide_false, Bool.not_true, Bool.not_false, and_self, and_true, true_and, and_false, false_and]))))) | (refine XO.done rfl ?_; refine hK _ _ ?_; clear hK K) | (refine XQ.op rfl ?_; (first | ((first | refine Yo.ng rfl ?_); (first | (refine Yg.ev (EvF.assign rfl rfl) rfl rfl ?_) | (refine Yg.ev (EvF.loadV rfl rfl (LoadV.own (te rfl) rfl (List.Mem.head _) rfl)) rfl rfl ?_) | (refine Yg.ev (EvF.loadV rfl rfl (LoadV.own (te rfl) rfl (List.Mem.tail _ (List.Mem.head _)) rfl)) rfl rfl ?_))))) | (refine XQ.done rfl ?_; refine hK _ ?_; clear hK K) | refine X.seq rfl ?_ | refine X.region rfl (fun K hK => ?_) | refine X.regionD rfl mixed (by kernel_rfl) (fun K hK => ?_) | refine X.block rfl ?_ | refine X.ret rfl ?_ | (refine X.ite rfl rfl (fun hc => ?_); (first | (with_reducible refine Xb.t hc ?_)) <;> clear hc))
      all_goals try (exfalso; contradiction)
      exact ⟨⟨b7, 0, [.bool true], some 4, 1⟩ :: ⟨b6, 0, [.int .i64 (k x)], some 3, 1⟩ :: ⟨b3, 0, [.func (.func 101) #[] #[]], some 161, 1⟩ :: [], List.Sublist.refl _, rfl⟩
    · rw [minL_snoc (k x) (fndI_pos ho)]
      obtain ⟨m, hm⟩ : ∃ m, minL pm = m := ⟨_, rfl⟩
      rw [hm]
      have hcmp : ∀ Y : List Row, Fc Tryz.prog 101 ([.int .i64 (k x), .int .i64 m] ++ []) Y (fun v H' => v = .int .i64 (cmpI (k x) m) ∧ H' = Y) := fun Y => compare_spec (k x) m Y
      repeat' (first | (refine XO.op rfl ?_; (first | ((first | refine Xo.ng rfl ?_ | (refine Xo.g rfl rfl ?_; with_reducible refine Xw.ff ?_)); (first | (refine Xg.call (EnF.dyn0 rfl rfl (by (repeat (first | exact Args.nil | refine Args.cons rfl ?_)); done)) rfl rfl (hcmp _) ?_; rintro _ H9 ⟨rfl, hH9⟩; subst H9) | (refine Xg.ev (EvF.move rfl rfl) rfl rfl ?_) | (refine Xg.ev (EvF.pickT rfl rfl rfl) rfl rfl ?_) | (refine Xg.ev (EvF.pickF rfl rfl rfl) rfl rfl ?_) | (refine Xg.ev (EvF.cmp rfl rfl rfl rfl) rfl rfl ?_) | (refine Xg.ev (EvF.not rfl rfl) rfl rfl ?_) | (refine Xg.ev (EvF.loadV rfl rfl (LoadV.own (te rfl) rfl (List.Mem.head _) rfl)) rfl rfl ?_) | (refine Xg.ev (EvF.loadV rfl rfl (LoadV.own (te rfl) rfl (List.Mem.tail _ (List.Mem.head _)) rfl)) rfl rfl ?_) | (refine Xg.ev (EvF.loadV rfl rfl (LoadV.own (te rfl) rfl (List.Mem.tail _ (List.Mem.tail _ (List.Mem.head _))) rfl)) rfl rfl ?_) | (refine Xg.st0 (StF.storeOne (i := 0) rfl rfl rfl rfl (te rfl) rfl rfl (Nat.le_of_ble_eq_true rfl)) rfl ?_; rintro _ _ ⟨rfl, rfl⟩; dsimp only [List.set]) | (refine Xg.st0 (StF.storeOne (i := 1) rfl rfl rfl rfl (te rfl) rfl rfl (Nat.le_of_ble_eq_true rfl)) rfl ?_; rintro _ _ ⟨rfl, rfl⟩; dsimp only [List.set]))) | (refine Xo.g rfl rfl ?_; (first | (with_reducible refine Xw.tf rfl rfl ?_) | (with_reducible refine Xw.caseB (fun h => ?_) (fun h => ?_) <;> simp only [h, decide_true, decide_false, Bool.not_true, Bool.not_false, and_self, and_true, true_and, and_false, false_and]))))) | (refine XO.done rfl ?_; refine hK _ _ ?_; clear hK K) | refine X.seq rfl ?_ | refine X.region rfl (fun K hK => ?_) | refine X.block rfl ?_ | refine X.skip rfl ?_ | (refine X.ite rfl rfl (fun hc => ?_); (first | (with_reducible refine Xb.t hc ?_) | (with_reducible refine Xb.case hc (fun h => ?_) (fun h => ?_))) <;> clear hc))
      all_goals try (exfalso; contradiction)
      · exact ⟨⟨b7, 0, [.bool true], some 4, 1⟩ :: ⟨b6, 0, [.int .i64 (k x)], some 3, 1⟩ :: ⟨b3, 0, [.func (.func 101) #[] #[]], some 161, 1⟩ :: [], List.Sublist.refl _, by rw [show min m (k x) = k x by have := (cmpI_neg (k x) m).1 (by assumption); omega]⟩
      · exact ⟨⟨b7, 0, [.bool true], some 4, 1⟩ :: ⟨b6, 0, [.int .i64 m], some 3, 1⟩ :: ⟨b3, 0, [.func (.func 101) #[] #[]], some 161, 1⟩ :: [], List.Sublist.refl _, by rw [show min m (k x) = m by have := mt (cmpI_neg (k x) m).2 (by assumption); omega]⟩
  · rintro D ys _ hys rfl
    simp only [List.cons_append, List.nil_append]
    refine XT.seq rfl (XT.of1 ?_)
    simp only [List.cons_append, List.nil_append]
    repeat' (first | (refine XO.op rfl ?_; (first | ((first | refine Xo.ng rfl ?_ | (refine Xo.g rfl rfl ?_; with_reducible refine Xw.ff ?_)); (first | (refine Xg.ev (EvF.move rfl rfl) rfl rfl ?_) | (refine Xg.ev (EvF.assign rfl rfl) rfl rfl ?_) | (refine Xg.ev (EvF.pickT rfl rfl rfl) rfl rfl ?_) | (refine Xg.ev (EvF.not rfl rfl) rfl rfl ?_) | (refine Xg.ev (EvF.loadV rfl rfl (LoadV.own (te rfl) rfl (List.Mem.head _) rfl)) rfl rfl ?_) | (refine Xg.ev (EvF.loadV rfl rfl (LoadV.own (te rfl) rfl (List.Mem.tail _ (List.Mem.head _)) rfl)) rfl rfl ?_) | (refine Xg.ev (EvF.loadV rfl rfl (LoadV.own (te rfl) rfl (List.Mem.tail _ (List.Mem.tail _ (List.Mem.head _))) rfl)) rfl rfl ?_) | (refine Xg.st (StF.boxOne rfl rfl rfl) rfl rfl ?_; rintro _ _ ⟨bx, rfl, rfl⟩) | (refine Xg.st (StF.alloc rfl Tryz.zeroValue3 rfl) rfl rfl ?_; rintro _ _ ⟨bx, rfl, rfl⟩) | (refine Xg.st (StF.alloc rfl Tryz.zeroValue4 rfl) rfl rfl ?_; rintro _ _ ⟨bx, rfl, rfl⟩) | (refine Xg.st0 (StF.storeOne (i := 0) rfl rfl rfl rfl (te rfl) rfl rfl (Nat.le_of_ble_eq_true rfl)) rfl ?_; rintro _ _ ⟨rfl, rfl⟩; dsimp only [List.set]) | (refine Xg.st0 (StF.storeOne (i := 1) rfl rfl rfl rfl (te rfl) rfl rfl (Nat.le_of_ble_eq_true rfl)) rfl ?_; rintro _ _ ⟨rfl, rfl⟩; dsimp only [List.set]))) | (refine Xo.g rfl rfl ?_; (first | (with_reducible refine Xw.tf rfl rfl ?_) | (with_reducible refine Xw.caseB (fun h => ?_) (fun h => ?_) <;> simp only [h, decide_true, decide_false, Bool.not_true, Bool.not_false, and_self, and_true, true_and, and_false, false_and]))))) | (refine XO.done rfl ?_; refine hK _ _ ?_; clear hK K) | (refine XQ.op rfl ?_; (first | ((first | refine Yo.ng rfl ?_); (first | (refine Yg.ev (EvF.assign rfl rfl) rfl rfl ?_) | (refine Yg.ev (EvF.loadV rfl rfl (LoadV.own (te rfl) rfl (List.Mem.head _) rfl)) rfl rfl ?_) | (refine Yg.ev (EvF.loadV rfl rfl (LoadV.own (te rfl) rfl (List.Mem.tail _ (List.Mem.head _)) rfl)) rfl rfl ?_))))) | (refine XQ.done rfl ?_; refine hK _ ?_; clear hK K) | refine X.seq rfl ?_ | refine X.region rfl (fun K hK => ?_) | refine X.regionD rfl mixed (by kernel_rfl) (fun K hK => ?_) | refine X.block rfl ?_ | refine X.ret rfl ?_ | (refine X.ite rfl rfl (fun hc => ?_); (first | (with_reducible refine Xb.t hc ?_)) <;> clear hc))
    refine ⟨⟨b7, 0, [.bool (fndI (ys.map k))], some 4, 1⟩ :: ⟨b6, 0, [.int .i64 (minL (ys.map k))], some 3, 1⟩ :: ⟨b3, 0, [.func (.func 101) #[] #[]], some 161, 1⟩ :: E, List.Sublist.refl _, XT.of1 ?_⟩
    repeat' (first | (refine XO.op rfl ?_; (first | ((first | refine Xo.ng rfl ?_ | (refine Xo.g rfl rfl ?_; with_reducible refine Xw.ff ?_)); (first | (refine Xg.ev (EvF.move rfl rfl) rfl rfl ?_) | (refine Xg.ev (EvF.assign rfl rfl) rfl rfl ?_) | (refine Xg.ev (EvF.pickT rfl rfl rfl) rfl rfl ?_) | (refine Xg.ev (EvF.not rfl rfl) rfl rfl ?_) | (refine Xg.ev (EvF.loadV rfl rfl (LoadV.own (te rfl) rfl (List.Mem.head _) rfl)) rfl rfl ?_) | (refine Xg.ev (EvF.loadV rfl rfl (LoadV.own (te rfl) rfl (List.Mem.tail _ (List.Mem.head _)) rfl)) rfl rfl ?_) | (refine Xg.ev (EvF.loadV rfl rfl (LoadV.own (te rfl) rfl (List.Mem.tail _ (List.Mem.tail _ (List.Mem.head _))) rfl)) rfl rfl ?_) | (refine Xg.st (StF.boxOne rfl rfl rfl) rfl rfl ?_; rintro _ _ ⟨bx, rfl, rfl⟩) | (refine Xg.st (StF.alloc rfl Tryz.zeroValue3 rfl) rfl rfl ?_; rintro _ _ ⟨bx, rfl, rfl⟩) | (refine Xg.st (StF.alloc rfl Tryz.zeroValue4 rfl) rfl rfl ?_; rintro _ _ ⟨bx, rfl, rfl⟩) | (refine Xg.st0 (StF.storeOne (i := 0) rfl rfl rfl rfl (te rfl) rfl rfl (Nat.le_of_ble_eq_true rfl)) rfl ?_; rintro _ _ ⟨rfl, rfl⟩; dsimp only [List.set]) | (refine Xg.st0 (StF.storeOne (i := 1) rfl rfl rfl rfl (te rfl) rfl rfl (Nat.le_of_ble_eq_true rfl)) rfl ?_; rintro _ _ ⟨rfl, rfl⟩; dsimp only [List.set]))) | (refine Xo.g rfl rfl ?_; (first | (with_reducible refine Xw.tf rfl rfl ?_) | (with_reducible refine Xw.caseB (fun h => ?_) (fun h => ?_) <;> simp only [h, decide_true, decide_false, Bool.not_true, Bool.not_false, and_self, and_true, true_and, and_false, false_and]))))) | (refine XO.done rfl ?_; refine hK _ _ ?_; clear hK K) | (refine XQ.op rfl ?_; (first | ((first | refine Yo.ng rfl ?_); (first | (refine Yg.ev (EvF.assign rfl rfl) rfl rfl ?_) | (refine Yg.ev (EvF.loadV rfl rfl (LoadV.own (te rfl) rfl (List.Mem.head _) rfl)) rfl rfl ?_) | (refine Yg.ev (EvF.loadV rfl rfl (LoadV.own (te rfl) rfl (List.Mem.tail _ (List.Mem.head _)) rfl)) rfl rfl ?_))))) | (refine XQ.done rfl ?_; refine hK _ ?_; clear hK K) | refine X.seq rfl ?_ | refine X.region rfl (fun K hK => ?_) | refine X.regionD rfl mixed (by kernel_rfl) (fun K hK => ?_) | refine X.block rfl ?_ | refine X.ret rfl ?_ | (refine X.ite rfl rfl (fun hc => ?_); (first | (with_reducible refine Xb.t hc ?_)) <;> clear hc))
    exact ⟨E, (by (repeat (first | exact List.Sublist.refl _ | apply List.Sublist.cons_cons | apply List.Sublist.cons)); done), retT_two (by first | exact .inr rfl | exact .inl rfl) Tryz.results99 rfl rfl (List.Sublist.refl _) ⟨ys, hys, rfl, rfl⟩⟩
end Go.Proofs.YtcjlegjchllgjaaGreat
end
section
set_option linter.unusedVariables false
set_option linter.unusedSimpArgs false
namespace Go.Proofs.YtcjlegjchllgjaaGreat
open Go Go.Fw
set_option maxRecDepth 10000
/-- what who delivers gets, what the receiver pays, and the value that it has -/
structure Out where
  gets : Int
  pays : Int
  has : Int
def cOut (o : Out) : List Value := [.int .i64 o.gets, .int .i64 o.pays, .int .i64 o.has]
def stl (T : Tm) (s f : Cl) (ask : Bool) : Out :=
  if ask = false then ⟨val T s.g s.s, val T s.g s.s, val T f.g f.s⟩
  else if f.g ≤ s.g then ⟨val T s.g s.s, val T s.g s.s + T.fee, val T f.g f.s⟩
  else if f.g ≤ T.worst ∧ T.short ≤ f.s then ⟨val T f.g f.s - T.fee, val T f.g f.s, val T f.g f.s⟩
  else ⟨-T.fee, 0, 0⟩
theorem val_spec (T : Tm) (p : Pt) (c : Cl) (H : List Row) (hT : TmOk H T p) (hok : tmOk T) (hc : in9 c) :
    Fc Tryz.prog 48 [.agg (cTm T p).toArray, .agg (cCl c).toArray] H (fun v H' => v = .int .i64 (val T c.g c.s) ∧ H' = H) :=
  value_spec T p c H hT hok.gr hok.st (by have := hok.num.1; omega) hc.1 hc.2
set_option maxHeartbeats 4000000 in
theorem settle_spec (T : Tm) (p : Pt) (s f : Cl) (ask : Bool) (H : List Row) (hT : TmOk H T p) (hok : tmOk T) (hs : in9 s) (hf : in9 f) :
    Fc Tryz.prog 60 [.agg (cTm T p).toArray, .agg (cCl s).toArray, .agg (cCl f).toArray, .bool ask] H (fun v H' => v = .agg (cOut (stl T s f ask)).toArray ∧ H' = H) := by
  have hT1 : ∀ Z : List Row, TmOk (Z ++ H) T p := fun Z => hT.sub (fun _ h => List.mem_append_right _ h)
  have b1 := val_bd hok s.g s.s
  have b2 := val_bd hok f.g f.s
  have b3 := hok.num
  cases ask
  all_goals (
    refine Fc.mk (callable Tryz.call60) Tryz.func60 rfl Tryz.ntmps60 rfl ?_; dsimp only [fr]
    repeat' (first | (refine XO.op rfl ?_; (first | ((first | refine Xo.ng rfl ?_); (first | (refine Xg.call (EnF.st rfl (Args.cons rfl (Args.cons rfl Args.nil))) rfl rfl (allows_spec T p f _) ?_; rintro _ H9 ⟨rfl, hH9⟩; subst H9) | (refine Xg.ev (EvF.build (cs := cOut ⟨val T s.g s.s, val T s.g s.s, val T f.g f.s⟩) rfl (ArgsP.cons rfl (ArgsP.cons rfl (ArgsP.cons rfl ArgsP.nil))) (te rfl) (Places.cons (te rfl) (Places.cons (te rfl) (Places.cons (te rfl) Places.nil))) Tryz.zeroValue114 rfl) rfl rfl ?_) | (refine Xg.ev (EvF.build (cs := cOut ⟨val T s.g s.s, val T s.g s.s + T.fee, val T f.g f.s⟩) rfl (ArgsP.cons rfl (ArgsP.cons rfl (ArgsP.cons rfl ArgsP.nil))) (te rfl) (Places.cons (te rfl) (Places.cons (te rfl) (Places.cons (te rfl) Places.nil))) Tryz.zeroValue114 rfl) rfl rfl ?_) | (refine Xg.ev (EvF.build (cs := cOut ⟨val T f.g f.s - T.fee, val T f.g f.s, val T f.g f.s⟩) rfl (ArgsP.cons rfl (ArgsP.cons rfl (ArgsP.cons rfl ArgsP.nil))) (te rfl) (Places.cons (te rfl) (Places.cons (te rfl) (Places.cons (te rfl) Places.nil))) Tryz.zeroValue114 rfl) rfl rfl ?_) | (refine Xg.ev (EvF.build (cs := cOut ⟨-T.fee, 0, 0⟩) rfl (ArgsP.cons rfl (ArgsP.cons rfl (ArgsP.cons rfl ArgsP.nil))) (te rfl) (Places.cons (te rfl) (Places.cons (te rfl) (Places.cons (te rfl) Places.nil))) Tryz.zeroValue114 rfl) rfl rfl ?_) | (refine Xg.ev (EvF.move rfl rfl) rfl rfl ?_) | (refine Xg.ev (EvF.assign rfl rfl) rfl rfl ?_) | (refine Xg.ev (EvF.cmp rfl rfl rfl rfl) rfl rfl ?_) | (refine Xg.ev (EvF.add64 rfl rfl rfl (by omega) (by omega)) rfl rfl ?_) | (refine Xg.ev (EvF.sub64 rfl rfl rfl (by omega) (by omega)) rfl rfl ?_) | (refine Xg.ev (EvF.neg64 rfl rfl (by omega) (by omega)) rfl rfl ?_) | (refine Xg.ev (EvF.not rfl rfl) rfl rfl ?_) | (refine Xg.ev (EvF.fieldAddr rfl rfl (te rfl) rfl (te rfl) (by decide)) rfl rfl ?_) | (refine Xg.ev (EvF.loadV rfl rfl (LoadV.own (te rfl) rfl (List.Mem.tail _ (List.Mem.head _)) rfl)) rfl rfl ?_) | (refine Xg.ev (EvF.loadV rfl rfl (LoadV.own (te rfl) rfl (List.Mem.tail _ (List.Mem.tail _ (List.Mem.head _))) rfl)) rfl rfl ?_) | (refine Xg.ev (EvF.loadV rfl rfl (LoadV.own (te rfl) rfl (List.Mem.tail _ (List.Mem.tail _ (List.Mem.tail _ (List.Mem.head _)))) rfl)) rfl rfl ?_) | (refine Xg.ev (EvF.loadV rfl rfl (LoadV.whole (te rfl) rfl (List.Mem.tail _ (List.Mem.head _)) rfl)) rfl rfl ?_) | (refine Xg.ev (EvF.loadV rfl rfl (LoadV.whole (te rfl) rfl (List.Mem.tail _ (List.Mem.tail _ (List.Mem.tail _ (List.Mem.head _)))) rfl)) rfl rfl ?_) | (refine Xg.st (StF.boxAgg rfl rfl) rfl rfl ?_; rintro _ _ ⟨bx, rfl, rfl⟩) | (refine Xg.st (StF.alloc rfl Tryz.zeroValue114 rfl) rfl rfl ?_; rintro _ _ ⟨bx, rfl, rfl⟩) | (refine Xg.st0 (StF.storeAll (i := 0) rfl rfl rfl (te rfl) rfl rfl rfl rfl) rfl ?_; rintro _ _ ⟨rfl, rfl⟩; dsimp only [List.set]))))) | (refine XO.done rfl ?_; refine hK _ _ ?_; clear hK K) | (refine XQ.op rfl ?_; (first | ((first | refine Yo.ng rfl ?_); (first | (refine Yg.call (EnF.st rfl (Args.cons rfl (Args.cons rfl Args.nil))) rfl rfl (val_spec T p s _ (hT1 [_, _, _, _]) hok hs) ?_) | (refine Yg.call (EnF.st rfl (Args.cons rfl (Args.cons rfl Args.nil))) rfl rfl (val_spec T p f _ (hT1 [_, _, _, _]) hok hf) ?_) | (refine Yg.ev (EvF.assign rfl rfl) rfl rfl ?_) | (refine Yg.ev (EvF.loadV rfl rfl (LoadV.whole (te rfl) rfl (List.Mem.tail _ (List.Mem.head _)) rfl)) rfl rfl ?_) | (refine Yg.ev (EvF.loadV rfl rfl (LoadV.whole (te rfl) rfl (List.Mem.tail _ (List.Mem.tail _ (List.Mem.head _))) rfl)) rfl rfl ?_) | (refine Yg.ev (EvF.loadV rfl rfl (LoadV.whole (te rfl) rfl (List.Mem.tail _ (List.Mem.tail _ (List.Mem.tail _ (List.Mem.head _)))) rfl)) rfl rfl ?_))))) | (refine XQ.done rfl ?_; refine hK _ ?_; clear hK K) | refine X.seq rfl ?_ | refine X.region rfl (fun K hK => ?_) | refine X.regionD rfl mixed (by kernel_rfl) (fun K hK => ?_) | refine X.block rfl ?_ | refine X.skip rfl ?_ | refine X.ret rfl ?_ | (refine X.ite rfl rfl (fun hc => ?_); (first | (with_reducible refine Xb.case hc (fun h => ?_) (fun h => ?_)) | (with_reducible refine Xb.caseB hc (fun h => ?_) (fun h => ?_))) <;> clear hc)))
  all_goals try (exfalso; contradiction)
  all_goals exact ret_one (by first | exact .inr rfl | exact .inl rfl) Tryz.results60 ⟨_, rfl, LoadV.whole (te rfl) rfl (List.Mem.head _) rfl⟩ (H' := H) (by (repeat (first | exact List.Sublist.refl _ | apply List.Sublist.cons)); done) ⟨by unfold stl; first | rw [if_pos rfl] | rw [if_neg (by decide), if_pos (by assumption)] | rw [if_neg (by decide), if_neg (by assumption), if_pos (by assumption)] | rw [if_neg (by decide), if_neg (by assumption), if_neg (by assumption)], rfl⟩
theorem got_spec (o : Out) (H : List Row) : Fc Tryz.prog 130 [.agg (cOut o).toArray] H (fun v H' => v = .int .i64 o.gets ∧ H' = H) := by
  refine Fc.mk (callable Tryz.call130) Tryz.func130 rfl Tryz.ntmps130 rfl ?_; dsimp only [fr]
  repeat' (first | (refine XO.op rfl ?_; (first | ((first | refine Xo.ng rfl ?_); (first | (refine Xg.ev (EvF.assign rfl rfl) rfl rfl ?_) | (refine Xg.ev (EvF.sub64 rfl rfl rfl (by omega) (by omega)) rfl rfl ?_) | (refine Xg.ev (EvF.fieldAddr rfl rfl (te rfl) rfl (te rfl) (by decide)) rfl rfl ?_) | (refine Xg.ev (EvF.loadV rfl rfl (LoadV.own (te rfl) rfl (List.Mem.head _) rfl)) rfl rfl ?_) | (refine Xg.st (StF.boxAgg rfl rfl) rfl rfl ?_; rintro _ _ ⟨bx, rfl, rfl⟩))))) | (refine XO.done rfl ?_; refine hK _ _ ?_; clear hK K) | refine X.seq rfl ?_ | refine X.region rfl (fun K hK => ?_) | refine X.ret rfl ?_)
  refine ret_one (by first | exact .inr rfl | exact .inl rfl) Tryz.results130 rfl (H' := H) (by (repeat (first | exact List.Sublist.refl _ | apply List.Sublist.cons)); done) ?_; simp only [and_true, true_and]
theorem lost_spec (o : Out) (H : List Row) (h : -10000000 ≤ o.pays ∧ o.pays ≤ 10000000) (h' : -10000000 ≤ o.has ∧ o.has ≤ 10000000) : Fc Tryz.prog 129 [.agg (cOut o).toArray] H (fun v H' => v = .int .i64 (o.pays - o.has) ∧ H' = H) := by
  refine Fc.mk (callable Tryz.call129) Tryz.func129 rfl Tryz.ntmps129 rfl ?_; dsimp only [fr]
  repeat' (first | (refine XO.op rfl ?_; (first | ((first | refine Xo.ng rfl ?_); (first | (refine Xg.ev (EvF.assign rfl rfl) rfl rfl ?_) | (refine Xg.ev (EvF.sub64 rfl rfl rfl (by omega) (by omega)) rfl rfl ?_) | (refine Xg.ev (EvF.fieldAddr rfl rfl (te rfl) rfl (te rfl) (by decide)) rfl rfl ?_) | (refine Xg.ev (EvF.loadV rfl rfl (LoadV.own (te rfl) rfl (List.Mem.head _) rfl)) rfl rfl ?_) | (refine Xg.st (StF.boxAgg rfl rfl) rfl rfl ?_; rintro _ _ ⟨bx, rfl, rfl⟩))))) | (refine XO.done rfl ?_; refine hK _ _ ?_; clear hK K) | refine X.seq rfl ?_ | refine X.region rfl (fun K hK => ?_) | refine X.ret rfl ?_)
  refine ret_one (by first | exact .inr rfl | exact .inl rfl) Tryz.results129 rfl (H' := H) (by (repeat (first | exact List.Sublist.refl _ | apply List.Sublist.cons)); done) ?_; simp only [and_true, true_and]
theorem rval_spec (T : Tm) (p : Pt) (c : Cl) (H : List Row) (hT : TmOk H T p) (hok : tmOk T) (hc : in9 c) :
    Fc Tryz.prog 42 [.agg (cTm T p).toArray, .agg (cCl c).toArray] H (fun v H' => v = .int .i64 (val T c.g c.s) ∧ H' = H) :=
  rvalue_spec T p c H hT hok.gr hok.st (by have := hok.num.1; omega) hc.1 hc.2
end Go.Proofs.YtcjlegjchllgjaaGreat
end
section
set_option linter.unusedVariables false
set_option linter.unusedSimpArgs false
namespace Go.Proofs.YtcjlegjchllgjaaGreat
open Go Go.Fw
set_option maxRecDepth 10000
/-- what the receiver loses -/
def los (T : Tm) (sd s : Int) (ask : Bool) (g : Int) : Int := (stl T ⟨sd, s⟩ ⟨g, s⟩ ask).pays - (stl T ⟨sd, s⟩ ⟨g, s⟩ ask).has
theorem stl_bd {T : Tm} (hok : tmOk T) (s f : Cl) (ask : Bool) : (-3000 ≤ (stl T s f ask).gets ∧ (stl T s f ask).gets ≤ 1003000) ∧ (-3000 ≤ (stl T s f ask).pays ∧ (stl T s f ask).pays ≤ 1003000) ∧ (-3000 ≤ (stl T s f ask).has ∧ (stl T s f ask).has ≤ 1003000) := by
  have b1 := val_bd hok s.g s.s
  have b2 := val_bd hok f.g f.s
  have b3 := hok.num
  unfold stl
  by_cases h1 : ask = false
  · rw [if_pos h1]; dsimp only; omega
  · rw [if_neg h1]
    by_cases h2 : f.g ≤ s.g
    · rw [if_pos h2]; dsimp only; omega
    · rw [if_neg h2]
      by_cases h3 : f.g ≤ T.worst ∧ T.short ≤ f.s
      · rw [if_pos h3]; dsimp only; omega
      · rw [if_neg h3]; dsimp only; omega
theorem los_bd {T : Tm} (hok : tmOk T) (sd s : Int) (ask : Bool) (g : Int) : -1010000 ≤ los T sd s ask g ∧ los T sd s ask g ≤ 1010000 := by
  have := stl_bd hok ⟨sd, s⟩ ⟨g, s⟩ ask
  unfold los; omega
noncomputable def payE (T : Tm) (sd g s : Int) : Int := if tmOk T then (if (1 ≤ sd ∧ sd ≤ 9) ∧ (1 ≤ g ∧ g ≤ 9) then (if 1 ≤ s ∧ s ≤ 9 then (if may T ⟨sd, s⟩ = true then 0 else 6) else 42) else 41) else 40
noncomputable def payG (T : Tm) (sd g s : Int) (ask : Bool) : Int := if payE T sd g s = 0 then (stl T ⟨sd, s⟩ ⟨g, s⟩ ask).gets else 0
noncomputable def payP (T : Tm) (sd g s : Int) (ask : Bool) : Int := if payE T sd g s = 0 then (stl T ⟨sd, s⟩ ⟨g, s⟩ ask).pays else 0
/-- what the receiver loses at most -/
def lsL (T : Tm) (sd s : Int) (gs : Sp) (ask : Bool) : Int := maxL ((ir gs.lo gs.hi).map (los T sd s ask))
end Go.Proofs.YtcjlegjchllgjaaGreat
end
section
set_option linter.unusedVariables false
set_option linter.unusedSimpArgs false
namespace Go.Proofs.YtcjlegjchllgjaaGreat
open Go Go.Fw
set_option maxRecDepth 10000
/-- whether the receiver should ask, and what it loses then -/
def shA (T : Tm) (sd s : Int) (gs : Sp) : Bool := decide (lsL T sd s gs true < lsL T sd s gs false)
def shN (T : Tm) (sd s : Int) (gs : Sp) : Int := if lsL T sd s gs true < lsL T sd s gs false then lsL T sd s gs true else lsL T sd s gs false
noncomputable def askE (T : Tm) (sd s : Int) (gs : Sp) : Int := if tmOk T then (if (1 ≤ sd ∧ sd ≤ 9) ∧ partOk gs.lo gs.hi then (if 1 ≤ s ∧ s ≤ 9 then (if may T ⟨sd, s⟩ = true then 0 else 6) else 42) else 41) else 40
noncomputable def askA (T : Tm) (sd s : Int) (gs : Sp) : Bool := if askE T sd s gs = 0 then shA T sd s gs else false
noncomputable def askL (T : Tm) (sd s : Int) (gs : Sp) : Int := if askE T sd s gs = 0 then shN T sd s gs else 0
end Go.Proofs.YtcjlegjchllgjaaGreat
end
section
set_option linter.unusedVariables false
set_option linter.unusedSimpArgs false
namespace Go.Proofs.YtcjlegjchllgjaaGreat
open Go Go.Fw
set_option maxRecDepth 10000
def abP (sd g s : Int) : Ab := ⟨[], [lo1 ⟨sd, s⟩, lo1 ⟨g, s⟩], [], [lo1 ⟨sd, s⟩]⟩
theorem openPay (T : Tm) (sd g s : Int) : openE T (abP sd g s) = payE T sd g s := by
  unfold openE payE
  have h1 : askD (abP sd g s) := fun d hd => absurd hd List.not_mem_nil
  have h2 : askG (abP sd g s) ↔ (1 ≤ sd ∧ sd ≤ 9) ∧ (1 ≤ g ∧ g ≤ 9) := by simp [askG, abP, lo1, partOk]
  have h3 : askS (abP sd g s) ↔ 1 ≤ s ∧ s ≤ 9 := by simp [askS, abP, lo1, partOk]
  have h4 : askM (abP sd g s) := fun d hd => absurd hd List.not_mem_nil
  have h5 : askN T (abP sd g s) ↔ may T ⟨sd, s⟩ = true := by
    simp only [askN, abP, List.mem_cons, List.not_mem_nil, or_false, forall_eq, cls_lo1]
    split <;> simp_all
  simp only [h1, h2, h3, h4, h5, if_true]
theorem payE_zero {T : Tm} {sd g s : Int} (h : payE T sd g s = 0) : tmOk T ∧ in9 ⟨sd, s⟩ ∧ in9 ⟨g, s⟩ := by
  unfold payE at h
  by_cases h1 : tmOk T
  · by_cases h2 : (1 ≤ sd ∧ sd ≤ 9) ∧ (1 ≤ g ∧ g ≤ 9)
    · by_cases h3 : 1 ≤ s ∧ s ≤ 9
      · exact ⟨h1, ⟨h2.1, h3⟩, ⟨h2.2, h3⟩⟩
      · simp [h1, h2, h3] at h
    · simp [h1, h2] at h
  · simp [h1] at h
/-- what open gives -/
def tsPy : List TOp := [⟨some 24, [], [], []⟩, ⟨some 25, [], [], []⟩, ⟨some 26, [1], [1], []⟩, ⟨some 27, [], [], []⟩, ⟨some 28, [1, 2, 3], [3], []⟩, ⟨some 29, [1, 2, 3, 4], [2, 4], []⟩, ⟨some 30, [], [], []⟩, ⟨some 31, [1, 2, 3, 4, 6], [6], []⟩, ⟨some 32, [1, 2, 3, 4, 6, 7], [7], []⟩, ⟨some 33, [1, 2, 3, 4, 5, 6, 7, 8], [5, 8], []⟩, ⟨some 34, [0, 1, 2, 3, 4, 5, 6, 7, 8, 9], [0, 9], [5, 8]⟩, ⟨some 23, [0, 1, 2, 3, 4, 5, 6, 7, 8, 9, 10], [10], []⟩, ⟨some 35, [0, 1, 2, 3, 4, 5, 6, 7, 8, 9, 10, 11], [11], []⟩, ⟨some 36, [0, 1, 2, 3, 4, 5, 6, 7, 8, 9, 10, 11], [11], []⟩, ⟨some 15, [], [], []⟩, ⟨none, [0, 1, 2, 3, 4, 5, 6, 7, 8, 9, 10, 11, 12, 14], [14, 12], [14]⟩, ⟨some 12, [0, 1, 2, 3, 4, 5, 6, 7, 8, 9, 10, 11, 12, 13, 14, 15], [13], []⟩]
def valPy (b5 b13 b14 : Nat) (T TX : Tm) (p q : Pt) (sd g s e : Int) (ask : Bool) (k : Nat) (env : Env) : Value :=
  match k with
  | 0 => .agg (cTm T p).toArray
  | 1 => .agg (cCl ⟨sd, s⟩).toArray
  | 2 => .agg (cLo (lo1 ⟨sd, s⟩)).toArray
  | 3 => .agg (cCl ⟨g, s⟩).toArray
  | 4 => .agg (cLo (lo1 ⟨g, s⟩)).toArray
  | 5 => .slice (some ⟨(env 5).1, 0, none⟩) 2 2
  | 6 => .agg (cCl ⟨sd, s⟩).toArray
  | 7 => .agg (cLo (lo1 ⟨sd, s⟩)).toArray
  | 8 => .slice (some ⟨(env 8).1, 0, none⟩) 1 1
  | 9 => .agg (cAb (abP sd g s) ⟨none, 0, some ⟨(env 5).1, 0, none⟩, 2, none, 0, some ⟨(env 8).1, 0, none⟩, 1⟩).toArray
  | 10 => .tuple #[.agg (cTm TX q).toArray, .int .i64 e]
  | 11 => .tuple #[.agg (cTm TX q).toArray, .int .i64 e]
  | 12 => .agg (cTm TX q).toArray
  | 13 => .int .i64 e
  | 14 => .pointer (some ⟨(env 14).1, 0, none⟩)
  | 15 => undef
  | 16 => .int .i64 e
  | _ => undef
def rowsPy (b5 b13 b14 : Nat) (T TX : Tm) (p q : Pt) (sd g s e : Int) (ask : Bool) (k : Nat) (env : Env) : List Row :=
  match k with
  | 5 => [⟨(env 5).1, 0, (cLo (lo1 ⟨sd, s⟩) ++ cLo (lo1 ⟨g, s⟩)), some 92, 2 * 4⟩]
  | 8 => [⟨(env 8).1, 0, cLo (lo1 ⟨sd, s⟩), some 92, 1 * 4⟩]
  | 14 => [⟨(env 14).1, 0, cTm Tz pz, some 99, 11⟩]
  | 15 => [⟨(env 14).1, 0, cTm TX q, some 99, 11⟩]
  | _ => []
theorem locPy (b5 b13 b14 : Nat) (T TX : Tm) (p q : Pt) (sd g s e : Int) (ask : Bool) : ∀ k env i q9, i ≠ k → (tAt tsPy k).sup.contains i = false → valPy b5 b13 b14 T TX p q sd g s e ask k (upd env i q9) = valPy b5 b13 b14 T TX p q sd g s e ask k env ∧ rowsPy b5 b13 b14 T TX p q sd g s e ask k (upd env i q9) = rowsPy b5 b13 b14 T TX p q sd g s e ask k env := by
  intro k env i q hk hs
  have hu : ∀ j, j ≠ i → upd env i q j = env j := fun j hj => by unfold upd; rw [if_neg hj]
  match k, hk, hs with
  | 0, _, _ => exact ⟨rfl, rfl⟩
  | 1, _, _ => exact ⟨rfl, rfl⟩
  | 2, _, _ => exact ⟨rfl, rfl⟩
  | 3, _, _ => exact ⟨rfl, rfl⟩
  | 4, _, _ => exact ⟨rfl, rfl⟩
  | 5, hk, hs => exact ⟨by simp only [valPy, hu 5 (fun e => hk e.symm)], by simp only [rowsPy, hu 5 (fun e => hk e.symm)]⟩
  | 6, _, _ => exact ⟨rfl, rfl⟩
  | 7, _, _ => exact ⟨rfl, rfl⟩
  | 8, hk, hs => exact ⟨by simp only [valPy, hu 8 (fun e => hk e.symm)], by simp only [rowsPy, hu 8 (fun e => hk e.symm)]⟩
  | 9, hk, hs => exact ⟨by simp only [valPy, hu 5 (by rintro rfl; cases hs), hu 8 (by rintro rfl; cases hs)], by simp only [rowsPy, hu 5 (by rintro rfl; cases hs), hu 8 (by rintro rfl; cases hs)]⟩
  | 10, _, _ => exact ⟨rfl, rfl⟩
  | 11, _, _ => exact ⟨rfl, rfl⟩
  | 12, _, _ => exact ⟨rfl, rfl⟩
  | 13, _, _ => exact ⟨rfl, rfl⟩
  | 14, hk, hs => exact ⟨by simp only [valPy, hu 14 (fun e => hk e.symm)], by simp only [rowsPy, hu 14 (fun e => hk e.symm)]⟩
  | 15, hk, hs => exact ⟨by simp only [valPy, hu 14 (by rintro rfl; cases hs)], by simp only [rowsPy, hu 14 (by rintro rfl; cases hs)]⟩
  | 16, _, _ => exact ⟨rfl, rfl⟩
  | _ + 17, _, _ => exact ⟨rfl, rfl⟩
set_option maxHeartbeats 16000000 in
theorem kPays_spec (T : Tm) (p : Pt) (sd g s : Int) (ask : Bool) (H : List Row) (hT : TmOk H T p) :
    Fc Tryz.prog 20 [.agg (cTm T p).toArray, .int .i64 sd, .int .i64 g, .int .i64 s, .bool ask] H (fun v H' => v = .tuple #[.int .i64 (payG T sd g s ask), .int .i64 (payP T sd g s ask), .int .i64 (payE T sd g s)] ∧ H' = H) := by
  have hT1 : ∀ Z : List Row, TmOk (Z ++ H) T p := fun Z => hT.sub (fun _ h => List.mem_append_right _ h)
  obtain ⟨TX, q, hTX, hop⟩ := open_fn T p (abP sd g s) (fun d hd => absurd hd List.not_mem_nil) HI1
  rw [openPay] at hTX hop
  have hz := @payE_zero T sd g s
  unfold payG payP
  obtain ⟨e, he⟩ : ∃ e, payE T sd g s = e := ⟨_, rfl⟩
  rw [he] at hTX hop hz ⊢
  refine Fc.mk (callable Tryz.call20) Tryz.func20 rfl Tryz.ntmps20 rfl ?_; dsimp only [fr]
  repeat' (first | (refine XO.op rfl ?_; (first | ((first | refine Xo.ng rfl ?_); (first | (refine Xg.call (EnF.st rfl (Args.cons rfl (Args.cons rfl Args.nil))) rfl rfl (class_spec _ _ _) ?_; rintro _ H9 ⟨rfl, hH9⟩; subst H9) | (refine Xg.ev (EvF.move rfl rfl) rfl rfl ?_) | (refine Xg.ev (EvF.assign rfl rfl) rfl rfl ?_) | (refine Xg.st (StF.boxAgg rfl rfl) rfl rfl ?_; rintro _ _ ⟨bx, rfl, rfl⟩) | (refine Xg.st (StF.alloc rfl Tryz.zeroValue30 rfl) rfl rfl ?_; rintro _ _ ⟨bx, rfl, rfl⟩) | (refine Xg.st0 (StF.storeAll (i := 0) rfl rfl rfl (te rfl) rfl rfl rfl rfl) rfl ?_; rintro _ _ ⟨rfl, rfl⟩; dsimp only [List.set]) | (refine Xg.st0 (StF.storeAll (i := 1) rfl rfl rfl (te rfl) rfl rfl rfl rfl) rfl ?_; rintro _ _ ⟨rfl, rfl⟩; dsimp only [List.set]))))) | (refine XO.done rfl ?_; refine hK _ _ ?_; clear hK K) | refine X.seq rfl ?_ | refine X.region rfl (fun K hK => ?_))
  rename_i b5 b13
  obtain ⟨b14, hb14⟩ : ∃ b, b = bx := ⟨_, rfl⟩
  rw [← hb14]
  clear hb14
  refine X.weakR (H' := ⟨b14, 0, cCl ⟨g, s⟩, some 27, 2⟩ :: ⟨b13, 0, cCl ⟨sd, s⟩, some 27, 2⟩ :: ⟨b5, 0, cTm T p, some 32, 11⟩ :: H) (by (repeat (first | exact List.Sublist.refl _ | apply List.Sublist.cons_cons | apply List.Sublist.cons)); done) ?_
  refine X.regionOb tsPy [4, 5, 13, 14] [(4, .bool ask), (5, .pointer (some ⟨b5, 0, none⟩)), (13, .pointer (some ⟨b13, 0, none⟩)), (14, .pointer (some ⟨b14, 0, none⟩))] (valPy b5 b13 b14 T TX p q sd g s e ask) (rowsPy b5 b13 b14 T TX p q sd g s e ask) (fun _ => (0, 0)) (⟨b14, 0, cCl ⟨g, s⟩, some 27, 2⟩ :: ⟨b13, 0, cCl ⟨sd, s⟩, some 27, 2⟩ :: ⟨b5, 0, cTm T p, some 32, 11⟩ :: H) rfl mixed (by (repeat (first | exact Sub.nil _ | refine Sub.cons rfl ?_)); done) rfl (by kernel_rfl) (locPy b5 b13 b14 T TX p q sd g s e ask) (List.Sublist.refl _) ?_ ?_
  · have hs : ∀ (Y Z : List Row), (∀ r ∈ ⟨b14, 0, cCl ⟨g, s⟩, some 27, 2⟩ :: ⟨b13, 0, cCl ⟨sd, s⟩, some 27, 2⟩ :: ⟨b5, 0, cTm T p, some 32, 11⟩ :: H, r ∈ Y) → TmOk (Z ++ Y) T p := fun Y Z hS => hT.sub (fun r hr => List.mem_append_right _ (hS r (List.mem_append_right [_, _, _] hr)))
    repeat' (first | exact AllF.done rfl | (refine AllF.step rfl ?_ ?_; · (first | fail | ((first | refine Ob.ng rfl ?_); (first | exact ObK.pure (fun env R hR => by exact ⟨_, EvF.move rfl rfl, rfl⟩) rfl (fun _ => rfl) | exact ObK.pure (fun env R hR => by exact ⟨_, EvF.assign rfl rfl, rfl⟩) rfl (fun _ => rfl) | exact ObK.pure (fun env R hR => by exact ⟨_, EvF.loadV rfl rfl (LoadV.whole (te rfl) rfl (hR _ (List.Mem.head _)) rfl), rfl⟩) rfl (fun _ => rfl) | exact ObK.pure (fun env R hR => by exact ⟨_, EvF.loadV rfl rfl (LoadV.whole (te rfl) rfl (hR _ (List.Mem.tail _ (List.Mem.head _))) rfl), rfl⟩) rfl (fun _ => rfl) | exact ObK.pure (fun env R hR => by exact ⟨_, EvF.loadV rfl rfl (LoadV.whole (te rfl) rfl (hR _ (List.Mem.tail _ (List.Mem.tail _ (List.Mem.head _)))) rfl), rfl⟩) rfl (fun _ => rfl) | (exact fun env S hS => OpF.callV (Z := []) (EnF.st rfl (Args.cons rfl Args.nil)) (only_spec ⟨sd, s⟩ _) rfl rfl) | (exact fun env S hS => OpF.callV (Z := []) (EnF.st rfl (Args.cons rfl Args.nil)) (only_spec ⟨g, s⟩ _) rfl rfl) | (exact fun env S hS => (StF.buildTwo rfl elLo rfl rfl rfl rfl rfl rfl (by decide) (by decide)).op.mono (fun v H' ⟨b, hv, hH⟩ => ⟨(b, 0), fun _ => hv, by rw [hH]; exact List.Perm.refl _⟩)) | (exact fun env S hS => (StF.buildOne rfl elLo rfl rfl rfl (by decide) (by decide)).op.mono (fun v H' ⟨b, hv, hH⟩ => ⟨(b, 0), fun _ => hv, by rw [hH]; exact List.Perm.refl _⟩)) | (exact ObK.pure (fun env S hS => ⟨_, EvF.build (cs := cAb (abP sd g s) ⟨none, 0, some ⟨(env 5).1, 0, none⟩, 2, none, 0, some ⟨(env 8).1, 0, none⟩, 1⟩) rfl (ArgsP.cons rfl (ArgsP.cons rfl ArgsP.nil)) (te rfl) (Places.cons (te rfl) (Places.cons (te rfl) (Places.cons (te rfl) (Places.cons (te rfl) Places.nil)))) Tryz.zeroValue97 rfl, rfl⟩) rfl (fun _ => rfl)) | (exact fun env S hS => OpF.callV (Z := [_, _]) (EnF.st rfl (Args.cons rfl (Args.cons rfl Args.nil))) (hop ⟨none, 0, some ⟨(env 5).1, 0, none⟩, 2, none, 0, some ⟨(env 8).1, 0, none⟩, 1⟩ _ (hs S [_, _] hS) ⟨sleNil, SlE.ofRow (List.Mem.head _) (fun _ _ => rfl), sleNil, SlE.ofRow (List.Mem.tail _ (List.Mem.head _)) (fun _ _ => rfl), (fun d hd => absurd hd List.not_mem_nil), Nat.zero_le _, Nat.le_of_ble_eq_true rfl, Nat.zero_le _, Nat.le_of_ble_eq_true rfl⟩) rfl rfl) | (exact ObK.pure (fun env S hS => ⟨_, EvF.extract rfl rfl rfl, rfl⟩) rfl (fun _ => rfl)) | (exact fun env S hS => (StF.alloc rfl Tryz.zeroValue99 rfl).op.mono (fun v H' ⟨b, hv, hH⟩ => ⟨(b, 0), fun _ => hv, by rw [hH]; exact List.Perm.refl _⟩)) | (exact fun env S hS => (StF.storeAll (i := 0) (vs := cTm TX q) (cs := cTm Tz pz) rfl rfl rfl (te rfl) rfl rfl rfl rfl).op.mono (fun v H' ⟨hv, hH⟩ => ⟨(0, 0), fun h => absurd rfl h, by rw [hH]; exact List.Perm.refl _⟩)))))))
  intro env t ha hv
  refine ⟨_, (ha.cons (hv 14 15 (Nat.le_of_ble_eq_true rfl) rfl)).cons (hv 16 12 (Nat.le_of_ble_eq_true rfl) rfl), ?_⟩
  clear hv ha
  show X _ _ _ ((12, .int .i64 e) :: (15, .pointer (some ⟨(env 14).1, 0, none⟩)) :: _) (⟨(env 14).1, 0, cTm TX q, some 99, 11⟩ :: ⟨b14, 0, cCl ⟨g, s⟩, some 27, 2⟩ :: ⟨b13, 0, cCl ⟨sd, s⟩, some 27, 2⟩ :: ⟨b5, 0, cTm T p, some 32, 11⟩ :: H) _
  by_cases h0 : e = 0
  · obtain ⟨rfl, rfl⟩ := hTX h0
    obtain ⟨hok, h1, h2⟩ := hz h0
    subst h0
    rw [if_pos rfl, if_pos rfl]
    repeat' (first | (refine XO.op rfl ?_; (first | ((first | refine Xo.ng rfl ?_); (first | (refine Xg.call (EnF.st rfl (by (repeat (first | exact Args.nil | refine Args.cons rfl ?_)); done)) rfl rfl (settle_spec TX q ⟨sd, s⟩ ⟨g, s⟩ ask _ (hT1 [_, _, _, _]) hok h1 h2) ?_; rintro _ H9 ⟨rfl, hH9⟩; subst H9) | (refine Xg.ev (EvF.move rfl rfl) rfl rfl ?_) | (refine Xg.ev (EvF.assign rfl rfl) rfl rfl ?_) | (refine Xg.ev (EvF.cmp rfl rfl rfl rfl) rfl rfl ?_) | (refine Xg.ev (EvF.loadV rfl rfl (LoadV.whole (te rfl) rfl (List.Mem.head _) rfl)) rfl rfl ?_) | (refine Xg.ev (EvF.loadV rfl rfl (LoadV.whole (te rfl) rfl (List.Mem.tail _ (List.Mem.head _)) rfl)) rfl rfl ?_) | (refine Xg.ev (EvF.loadV rfl rfl (LoadV.whole (te rfl) rfl (List.Mem.tail _ (List.Mem.tail _ (List.Mem.head _))) rfl)) rfl rfl ?_) | (refine Xg.st (StF.alloc rfl Tryz.zeroValue114 rfl) rfl rfl ?_; rintro _ _ ⟨bx, rfl, rfl⟩) | (refine Xg.st0 (StF.storeAll (i := 0) rfl rfl rfl (te rfl) rfl rfl rfl rfl) rfl ?_; rintro _ _ ⟨rfl, rfl⟩; dsimp only [List.set]))))) | (refine XO.done rfl ?_; refine hK _ _ ?_; clear hK K) | (refine XQ.op rfl ?_; (first | ((first | refine Yo.ng rfl ?_); (first | (refine Yg.ev (EvF.assign rfl rfl) rfl rfl ?_) | (refine Yg.ev (EvF.fieldAddr rfl rfl (te rfl) rfl (te rfl) (by decide)) rfl rfl ?_) | (refine Yg.ev (EvF.loadV rfl rfl (LoadV.own (te rfl) rfl (List.Mem.head _) rfl)) rfl rfl ?_))))) | (refine XQ.done rfl ?_; refine hK _ ?_; clear hK K) | refine X.seq rfl ?_ | refine X.region rfl (fun K hK => ?_) | refine X.regionD rfl mixed (by kernel_rfl) (fun K hK => ?_) | refine X.skip rfl ?_ | refine X.ret rfl ?_ | (refine X.ite rfl rfl (fun hc => ?_); (first | (with_reducible refine Xb.caseN hc (fun h => ?_) (fun h => ?_))) <;> clear hc))
    all_goals try (exfalso; contradiction)
    exact ret_three (by first | exact .inr rfl | exact .inl rfl) Tryz.results20 rfl rfl rfl (H' := H) (by (repeat (first | exact List.Sublist.refl _ | apply List.Sublist.cons)); done) ⟨rfl, rfl⟩
  · rw [if_neg h0, if_neg h0]
    repeat' (first | (refine XO.op rfl ?_; (first | ((first | refine Xo.ng rfl ?_); (first | (refine Xg.ev (EvF.move rfl rfl) rfl rfl ?_) | (refine Xg.ev (EvF.assign rfl rfl) rfl rfl ?_) | (refine Xg.ev (EvF.cmp rfl rfl rfl rfl) rfl rfl ?_) | (refine Xg.ev (EvF.loadV rfl rfl (LoadV.whole (te rfl) rfl (List.Mem.head _) rfl)) rfl rfl ?_) | (refine Xg.ev (EvF.loadV rfl rfl (LoadV.whole (te rfl) rfl (List.Mem.tail _ (List.Mem.head _)) rfl)) rfl rfl ?_) | (refine Xg.ev (EvF.loadV rfl rfl (LoadV.whole (te rfl) rfl (List.Mem.tail _ (List.Mem.tail _ (List.Mem.head _))) rfl)) rfl rfl ?_))))) | (refine XO.done rfl ?_; refine hK _ _ ?_; clear hK K) | refine X.seq rfl ?_ | refine X.region rfl (fun K hK => ?_) | refine X.skip rfl ?_ | refine X.ret rfl ?_ | (refine X.ite rfl rfl (fun hc => ?_); (first | (with_reducible refine Xb.caseN hc (fun h => ?_) (fun h => ?_))) <;> clear hc))
    all_goals try (exfalso; contradiction)
    exact ret_three (by first | exact .inr rfl | exact .inl rfl) Tryz.results20 rfl rfl rfl (H' := H) (by (repeat (first | exact List.Sublist.refl _ | apply List.Sublist.cons)); done) ⟨rfl, rfl⟩
end Go.Proofs.YtcjlegjchllgjaaGreat
end
section
set_option linter.unusedVariables false
set_option linter.unusedSimpArgs false
namespace Go.Proofs.YtcjlegjchllgjaaGreat
open Go Go.Fw
set_option maxRecDepth 10000
set_option maxHeartbeats 4000000 in
theorem numbersOut_spec (g : Nat) (first cap : List Value) (f : Out → Int) (l : List Out) (a : Option Addr) (c : Nat) (H : List Row) (hl : SlE H a cOut 3 l) (hb : l.length ≤ 1000000) (h0 : 0 < l.length) (hg : ∀ e ∈ l, ∀ Z : List Row, Fc Tryz.prog g (first ++ [.agg (cOut e).toArray] ++ cap) (Z ++ H) (fun v H' => v = .int .i64 (f e) ∧ H' = Z ++ H)) :
    Fc Tryz.prog 127 [.slice a l.length c, .func (.func g) first.toArray cap.toArray] H (fun v H' => ∃ b k, v = .slice (some ⟨b, 0, none⟩) l.length k ∧ H' = ⟨b, 0, (l.map f).flatMap cI, some 3, k * 1⟩ :: H) := by
  refine Fc.mk (callable Tryz.call127) Tryz.func127 rfl Tryz.ntmps127 rfl ?_; dsimp only [fr]
  repeat' (first | (refine XO.op rfl ?_; (first | ((first | refine Xo.ng rfl ?_); (first | (refine Xg.ev (EvF.move rfl rfl) rfl rfl ?_) | (refine Xg.ev (EvF.assign rfl rfl) rfl rfl ?_) | (refine Xg.ev (EvF.lenSlice rfl rfl (te rfl)) rfl rfl ?_))))) | (refine XO.done rfl ?_; refine hK _ _ ?_; clear hK K) | refine X.seq rfl ?_ | refine X.region rfl (fun K hK => ?_) | refine X.block rfl ?_)
  refine X.lp rfl (fun q F' H' => ∃ (k : Nat) (out : Value) (Z : List Row), q = l.length - k ∧ k ≤ l.length ∧ ((k = 0 ∧ out = .slice none 0 0 ∧ Z = []) ∨ ∃ b q, out = .slice (some ⟨b, 0, none⟩) k q ∧ Z = [⟨b, 0, ((l.take k).map f).flatMap cI, some 3, q * 1⟩]) ∧ Z ++ H = H' ∧
      F' = [(1, .func (.func g) first.toArray cap.toArray), (5, out), (8, .slice a l.length c), (9, .int .i64 l.length), (10, .int .i64 k)])
    l.length [(1, .func (.func g) first.toArray cap.toArray), (5, .slice none 0 0), (8, .slice a l.length c), (9, .int .i64 l.length), (10, .int .i64 (0 : Nat))] _ (by (repeat (first | exact Sub.nil _ | refine Sub.cons rfl ?_)); done) (by (repeat (first | exact List.Sublist.refl _ | apply List.Sublist.cons_cons | apply List.Sublist.cons)); done) ⟨0, _, [], by omega, by omega, .inl ⟨rfl, rfl, rfl⟩, rfl, rfl⟩ ?_
  rintro _ _ H2 ⟨k, out, Z, rfl, hk, ⟨rfl, rfl, rfl⟩ | ⟨b0, q0, rfl, rfl⟩, hH, rfl⟩
  · rw [List.nil_append] at hH
    subst hH
    repeat' (first | (refine XO.op rfl ?_; (first | ((first | refine Xo.ng rfl ?_); (first | (refine Xg.ev (EvF.move rfl rfl) rfl rfl ?_) | (refine Xg.ev (EvF.assign rfl rfl) rfl rfl ?_) | (refine Xg.ev (EvF.cmp rfl rfl rfl rfl) rfl rfl ?_))))) | (refine XO.done rfl ?_; refine hK _ _ ?_; clear hK K) | refine X.seq rfl ?_ | refine X.region rfl (fun K hK => ?_) | refine X.block rfl ?_ | (refine X.brk rfl ?_; repeat (first | refine blockX_hit rfl ?_ | refine blockX_miss (by decide) ?_)) | refine X.skip rfl ?_ | refine X.ret rfl ?_ | (refine X.ite rfl rfl (fun hc => ?_); (first | (with_reducible refine Xb.case hc (fun h => ?_) (fun h => ?_))) <;> clear hc))
    · obtain ⟨b, off, e, rfl, he⟩ := hl.elem (i := 0) (by omega)
      have hge : ∀ r, Fc Tryz.prog g (first ++ [.agg (cOut e).toArray] ++ cap) (r :: H) (fun v H' => v = .int .i64 (f e) ∧ H' = r :: H) := fun r => hg e (List.mem_of_getElem? he) [r]
      repeat' (first | (refine XO.op rfl ?_; (first | ((first | refine Xo.ng rfl ?_); (first | (refine Xg.ev (EvF.loadV rfl rfl (LoadV.elA0 hl he (te rfl) rfl (fun _ hm => hm) rfl)) rfl rfl ?_) | (refine Xg.call (EnF.dyn (first := first) rfl rfl (Args.cons rfl Args.nil)) rfl rfl (hge _) ?_; rintro _ H9 ⟨rfl, hH9⟩; subst H9) | (refine Xg.st (StF.buildOne rfl elI rfl rfl rfl (by decide) (by decide)) rfl rfl ?_; rintro _ _ ⟨bs, rfl, rfl⟩) | (refine Xg.st (StF.appendNew rfl elI rfl rfl (by decide) rfl (Rd.own (List.Mem.head _)) (by decide)) rfl rfl ?_; rintro _ _ ⟨bn, kn, rfl, rfl⟩) | (refine Xg.ev (EvF.move rfl rfl) rfl rfl ?_) | (refine Xg.ev (EvF.assign rfl rfl) rfl rfl ?_) | (refine Xg.ev (EvF.add64 rfl rfl rfl (by omega) (by omega)) rfl rfl ?_) | (refine Xg.ev (EvF.indexSlice rfl rfl rfl (te rfl) (te rfl) (by omega) (by omega)) rfl rfl ?_) | (refine Xg.ev (EvF.loadV rfl rfl (LoadV.whole (te rfl) rfl (List.Mem.head _) rfl)) rfl rfl ?_) | (refine Xg.st (StF.alloc rfl Tryz.zeroValue114 rfl) rfl rfl ?_; rintro _ _ ⟨bx, rfl, rfl⟩) | (refine Xg.st0 (StF.storeAll (i := 0) rfl rfl rfl (te rfl) rfl rfl rfl rfl) rfl ?_; rintro _ _ ⟨rfl, rfl⟩; dsimp only [List.set]))))) | (refine XO.done rfl ?_; refine hK _ _ ?_; clear hK K) | refine X.region rfl (fun K hK => ?_))
      refine ⟨_, _, _, (by (repeat (first | exact Sub.nil _ | refine Sub.cons rfl ?_)); done), ?_, ⟨0 + 1, _, [⟨bn, 0, ((l.take (0 + 1)).map f).flatMap cI, some 3, kn * 1⟩], rfl, by omega, .inr ⟨_, _, rfl, rfl⟩, rfl, rfl⟩, by omega⟩
      rw [take_snoc he]
      exact (by (repeat (first | exact List.Sublist.refl _ | apply List.Sublist.cons_cons | apply List.Sublist.cons)); done)
    · exfalso; omega
  · have hlen : (((l.take k).map f).flatMap cI).length = k * 1 := by rw [lenI, List.length_map, List.length_take]; omega
    simp only [List.cons_append, List.nil_append] at hH
    subst hH
    repeat' (first | (refine XO.op rfl ?_; (first | ((first | refine Xo.ng rfl ?_); (first | (refine Xg.ev (EvF.move rfl rfl) rfl rfl ?_) | (refine Xg.ev (EvF.assign rfl rfl) rfl rfl ?_) | (refine Xg.ev (EvF.cmp rfl rfl rfl rfl) rfl rfl ?_))))) | (refine XO.done rfl ?_; refine hK _ _ ?_; clear hK K) | refine X.seq rfl ?_ | refine X.region rfl (fun K hK => ?_) | refine X.block rfl ?_ | (refine X.brk rfl ?_; repeat (first | refine blockX_hit rfl ?_ | refine blockX_miss (by decide) ?_)) | refine X.skip rfl ?_ | refine X.ret rfl ?_ | (refine X.ite rfl rfl (fun hc => ?_); (first | (with_reducible refine Xb.case hc (fun h => ?_) (fun h => ?_))) <;> clear hc))
    · obtain ⟨b, off, e, rfl, he⟩ := hl.elem (i := k) (by omega)
      have hl1 : ∀ r, SlE (r :: H) (some ⟨b, off, none⟩) cOut 3 l := fun r => hl.sub (fun _ h => List.mem_cons_of_mem _ h)
      have hge : ∀ r r', Fc Tryz.prog g (first ++ [.agg (cOut e).toArray] ++ cap) (r :: r' :: H) (fun v H' => v = .int .i64 (f e) ∧ H' = r :: r' :: H) := fun r r' => hg e (List.mem_of_getElem? he) [r, r']
      repeat' (first | (refine XO.op rfl ?_; (first | ((first | refine Xo.ng rfl ?_); (first | (refine Xg.ev (EvF.loadV rfl rfl (LoadV.elA0 (hl1 _) he (te rfl) rfl (fun _ hm => hm) rfl)) rfl rfl ?_) | (refine Xg.call (EnF.dyn (first := first) rfl rfl (Args.cons rfl Args.nil)) rfl rfl (hge _ _) ?_; rintro _ H9 ⟨rfl, hH9⟩; subst H9) | (refine Xg.st (StF.buildOne rfl elI rfl rfl rfl (by decide) (by decide)) rfl rfl ?_; rintro _ _ ⟨bs, rfl, rfl⟩) | (refine Xg.st (StF.appendOwn (i := 2) rfl elI rfl rfl rfl hlen rfl (Rd.own (List.Mem.head _)) rfl (by omega)) rfl rfl ?_; rintro _ _ ⟨bn, kn, rfl, rfl⟩; dsimp only [List.eraseIdx]) | (refine Xg.ev (EvF.move rfl rfl) rfl rfl ?_) | (refine Xg.ev (EvF.assign rfl rfl) rfl rfl ?_) | (refine Xg.ev (EvF.add64 rfl rfl rfl (by omega) (by omega)) rfl rfl ?_) | (refine Xg.ev (EvF.indexSlice rfl rfl rfl (te rfl) (te rfl) (by omega) (by omega)) rfl rfl ?_) | (refine Xg.ev (EvF.loadV rfl rfl (LoadV.whole (te rfl) rfl (List.Mem.head _) rfl)) rfl rfl ?_) | (refine Xg.st (StF.alloc rfl Tryz.zeroValue114 rfl) rfl rfl ?_; rintro _ _ ⟨bx, rfl, rfl⟩) | (refine Xg.st0 (StF.storeAll (i := 0) rfl rfl rfl (te rfl) rfl rfl rfl rfl) rfl ?_; rintro _ _ ⟨rfl, rfl⟩; dsimp only [List.set]))))) | (refine XO.done rfl ?_; refine hK _ _ ?_; clear hK K) | refine X.region rfl (fun K hK => ?_))
      refine ⟨_, _, _, (by (repeat (first | exact Sub.nil _ | refine Sub.cons rfl ?_)); done), ?_, ⟨k + 1, _, [⟨bn, 0, ((l.take (k + 1)).map f).flatMap cI, some 3, kn * 1⟩], rfl, by omega, .inr ⟨_, _, rfl, rfl⟩, rfl, rfl⟩, by omega⟩
      rw [take_snoc he, List.map_append, List.flatMap_append]
      exact (by (repeat (first | exact List.Sublist.refl _ | apply List.Sublist.cons_cons | apply List.Sublist.cons)); done)
    · obtain rfl : k = l.length := by omega
      rw [List.take_length]
      exact ret_one (by first | exact .inr rfl | exact .inl rfl) Tryz.results127 rfl (H' := ⟨b0, 0, (l.map f).flatMap cI, some 3, q0 * 1⟩ :: H) (by (repeat (first | exact List.Sublist.refl _ | apply List.Sublist.cons_cons | apply List.Sublist.cons)); done) ⟨b0, q0, rfl, rfl⟩
end Go.Proofs.YtcjlegjchllgjaaGreat
end
