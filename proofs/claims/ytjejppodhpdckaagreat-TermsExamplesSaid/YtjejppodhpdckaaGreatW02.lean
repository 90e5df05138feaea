/- Own work: Own work: regions that draw their order, with guards and calls. No condition.; Own work: copy, clear, append of a make, literals of two, slices held against nil. No condition.; Own work: slices of slices, rows in another order. No condition.; contracts of functions, from rows of what is known of the memory; contracts of functions, from rows of what is known of the memory; contracts of functions, from rows of what is known of the memory; Own work: what came in, opened as rows that are only read. No condition.; contracts of functions, from rows of what is known of the memory; contracts of functions, from rows of what is known of the memory; contracts of functions, from rows of what is known of the memory; contracts of functions, from rows of what is known of the memory; contracts of function -/
import Derived.Test.YtjejppodhpdckaaGreatW01
import Derived.Lib.Overlaps
import Derived.Lib.AppendZerosOnto
import Derived.Deep.Slices
import Derived.ChangeSame
section
set_option linter.unusedVariables false
namespace Go.Fw
open Go Go.RowKit
def bv : Value → Option Bool
  | .bool b => some b
  | _ => none
theorem yielded_bv {ops : Array Oper} {t : List Value} {j d : Nat} {o : Oper} {v : Value} (ho : ops[j]? = some o) (hd : o.dst = some d) (hv : t[d]? = some v) : yielded ops t.toArray j = bv v := by
  unfold yielded
  simp only [ho, Option.bind_some, hd, List.getElem?_toArray, hv]
  cases v <;> rfl
def okOp2 (ts : List TOp) (dom : List Nat) (n m : Nat) (i : Nat) (o : Oper) : Bool :=
  let T := tAt ts i
  (match o.guard with | some (j, _) => T.sup.contains j | none => true) && (o.dst == T.dst) &&
  (match T.dst with | some d => decide (d < n) && !dom.contains d && (List.range i).all (fun j => (tAt ts j).dst != some d) | none => true) &&
  o.after.toList.all (fun e => !Region.binds .any e || decide (e.on < i)) &&
  T.sup.all (fun j => decide (j < i) && o.after.toList.any (fun e => Region.binds .any e && (e.on == j || (tAt ts e.on).sup.contains j))) &&
  T.deps.all (fun j => T.sup.contains j) && T.kills.all (fun k => T.sup.contains k || decide (m ≤ k ∧ k < ts.length))
def okReg2 (ops : Array Oper) (ts : List TOp) (dom : List Nat) (n : Nat) : Bool :=
  decide (ops.size ≤ ts.length) && ops.toList.zipIdx.all (fun p => okOp2 ts dom n ops.size p.2 p.1) && decide ((ts.flatMap (·.kills)).Nodup) && (ts.drop ops.size).all (fun T => T.kills.isEmpty && T.sup.isEmpty)


/-- An operation, whatever it does: a value, a turn of the rows, or a call. -/
def OpF (P : Program) (n : Nat) (H : List Row) (F : FS) (o : Oper) (K : Value → List Row → Prop) : Prop := ∀ t, Ag n F t → ∀ ρ ds B w0 w, St B w0 H w → ∀ (k : Act → World → Prop) (Q : Exit → Act → World → Prop),
  (∀ v w' H', St B w0 H' w' → K v H' → k ⟨(put t o.dst v).toArray, ds⟩ w') → o.wpIn (wf ρ) 0 P ⟨t.toArray, ds⟩ w k Q
theorem StF.op {P : Program} {n : Nat} {H : List Row} {F : FS} {o : Oper} {K : Value → List Row → Prop} (h : StF P n H F o K) : OpF P n H F o K := by
  intro t ha ρ ds B w0 w hS k Q hk
  unfold StF StepOp at h
  obtain ⟨v, w', H', hrun, hS', hK⟩ := h t ha B w0 w hS
  unfold Oper.wpIn
  refine ⟨fun _ _ => trivial, ?_⟩
  rw [eval_ev]
  rcases hrun with hrun | ⟨hrun, rfl⟩
  · rw [sem_value hrun, Oper.uponIn_value, put_act]; exact hk v w' H' hS' hK
  · rw [sem_skip hrun, Oper.uponIn_skip, put_act]; exact hk undef w' H' hS' hK
theorem OpF.call {P : Program} {n : Nat} {H : List Row} {F : FS} {o : Oper} {f : FuncId} {args : List Value} {R : Value → List Row → Prop} (he : Callable P f → EnF P n H F o f args) (hf : Fc P f args H R) : OpF P n H F o R := by
  intro t ha ρ ds B w0 w hS k Q hk
  unfold Fc at hf
  have h1 := he hf.1
  unfold EnF EnOp at h1
  unfold Oper.wpIn
  refine ⟨fun _ _ => trivial, ?_⟩
  rw [eval_ev, sem_enter (h1 t ha B w0 w hS), Oper.uponIn_enter]
  refine ⟨(fun h => by cases h), wf_calls.2 ((hf.2 B w0 w hS).mono ?_)⟩
  rintro e w' ⟨v, H', rfl, hR, hS'⟩
  simp only [put_act]
  exact hk v w' H' hS' hR
theorem OpF.mono {P : Program} {n : Nat} {H : List Row} {F : FS} {o : Oper} {K K' : Value → List Row → Prop} (h : OpF P n H F o K) (hk : ∀ v H', K v H' → K' v H') : OpF P n H F o K' :=
  fun t ha ρ ds B w0 w hS k Q hQ => h t ha ρ ds B w0 w hS k Q (fun v w' H' hS' hK => hQ v w' H' hS' (hk v H' hK))
theorem OpF.drop {P : Program} {n : Nat} {H : List Row} {F : FS} {o : Oper} {K K' : Value → List Row → Prop} (h : OpF P n H F o K) (hk : ∀ v H', K v H' → ∃ H'', H''.Sublist H' ∧ K' v H'') : OpF P n H F o K' :=
  fun t ha ρ ds B w0 w hS k Q hQ => h t ha ρ ds B w0 w hS k Q (fun v w' H' hS' hK => let ⟨H'', hs, hK'⟩ := hk v H' hK; hQ v w' H'' (hS'.sub hs) hK')
/-- a call whose result alone is kept -/
theorem OpF.callV {P : Program} {n : Nat} {Z R : List Row} {F : FS} {o : Oper} {f : FuncId} {args : List Value} {v0 : Value} {g : Nat × Nat → Value} {q : Prop} {rw' : Nat × Nat → List Row} (he : Callable P f → EnF P n (Z ++ R) F o f args) (hf : Fc P f args (Z ++ R) (fun v H' => v = v0 ∧ H' = Z ++ R)) (hv : v0 = g (0, 0)) (hr : rw' (0, 0) = []) :
    OpF P n (Z ++ R) F o (fun u H' => ∃ p, (q → u = g p) ∧ H'.Perm (rw' p ++ R)) :=
  (OpF.call he hf).drop fun v H' ⟨h1, h2⟩ => ⟨R, by rw [h2]; exact List.sublist_append_right _ _, (0, 0), fun _ => h1.trans hv, by rw [hr]; exact List.Perm.refl _⟩
def gt (g : Bool) (v : Value) : Value := match g with | true => undef | false => v
def gr (g : Bool) (l : List Row) : List Row := match g with | true => [] | false => l
def Ob (P : Program) (n : Nat) (ts : List TOp) (val : Nat → Env → Value) (rows : Nat → Env → List Row) (F0 : FS) (R0 : List Row) (i : Nat) (o : Oper) : Prop :=
  ((o.guard = none ∨ ∃ j w, o.guard = some (j, w) ∧ (tAt ts j).dst ≠ none ∧ ∀ env, bv (val j env) = some w) ∧
    ∀ env R, (∀ r ∈ R0, r ∈ R) → OpF P n ((tAt ts i).kills.flatMap (fun k => rows k env) ++ R) (fdeps ts val env F0 (tAt ts i).deps) o
      (fun v H' => ∃ p, ((tAt ts i).dst ≠ none → v = val i (upd env i p)) ∧ H'.Perm (rows i (upd env i p) ++ R))) ∨
  (∃ j w, o.guard = some (j, w) ∧ (tAt ts j).dst ≠ none ∧ (∀ env, bv (val j env) ≠ some w) ∧ (∀ env, (tAt ts i).kills.flatMap (fun k => rows k env) = []) ∧ (∀ env, val i env = undef) ∧ ∀ env, rows i env = [])
def ObR (P : Program) (n : Nat) (ts : List TOp) (rd : Nat → List Nat) (val : Nat → Env → Value) (rows : Nat → Env → List Row) (F0 : FS) (R0 : List Row) (i : Nat) (o : Oper) : Prop :=
  ((o.guard = none ∨ ∃ j w, o.guard = some (j, w) ∧ (tAt ts j).dst ≠ none ∧ ∀ env, bv (val j env) = some w) ∧
    ∀ env R, (∀ r ∈ R0, r ∈ R) → (∀ k ∈ rd i, ∀ r ∈ rows k env, r ∈ R) → OpF P n ((tAt ts i).kills.flatMap (fun k => rows k env) ++ R) (fdeps ts val env F0 (tAt ts i).deps) o
      (fun v H' => ∃ p, ((tAt ts i).dst ≠ none → v = val i (upd env i p)) ∧ H'.Perm (rows i (upd env i p) ++ R))) ∨
  (∃ j w, o.guard = some (j, w) ∧ (tAt ts j).dst ≠ none ∧ (∀ env, bv (val j env) ≠ some w) ∧ (∀ env, (tAt ts i).kills.flatMap (fun k => rows k env) = []) ∧ (∀ env, val i env = undef) ∧ ∀ env, rows i env = [])
theorem Ob.toR {P : Program} {n : Nat} {ts : List TOp} {rd : Nat → List Nat} {val : Nat → Env → Value} {rows : Nat → Env → List Row} {F0 : FS} {R0 : List Row} {i : Nat} {o : Oper} (h : Ob P n ts val rows F0 R0 i o) : ObR P n ts rd val rows F0 R0 i o := by
  rcases h with ⟨h1, h2⟩ | h
  · exact .inl ⟨h1, fun env R hR _ => h2 env R hR⟩
  · exact .inr h
/-- what operations read, though others take it away: these come after -/
def okRd (ts : List TOp) (rd : Nat → List Nat) (m : Nat) : Bool :=
  (List.range m).all fun i => (rd i).all fun k => ((tAt ts i).sup.contains k || decide (m ≤ k ∧ k < ts.length)) && !(tAt ts i).kills.contains k && (List.range m).all fun j => !(tAt ts j).kills.contains k || (tAt ts j).sup.contains i
theorem wpAny_ob {P : Program} {n : Nat} {ops : Array Oper} {ts : List TOp} {dom : List Nat} {F0 : FS} (hd : F0.map (·.1) = dom) (hok : okReg2 ops ts dom n = true) (rd : Nat → List Nat) (hrd : okRd ts rd ops.size = true) (val : Nat → Env → Value) (rows : Nat → Env → List Row)
    (hloc : ∀ k env i p, i ≠ k → (tAt ts k).sup.contains i = false → val k (upd env i p) = val k env ∧ rows k (upd env i p) = rows k env)
    (R0 : List Row) (hob : ∀ i o, opAt ops.toList i = some o → ObR P n ts rd val rows F0 R0 i o)
    {Q : QT} (hQ : ∀ env t, Ag n F0 t → (∀ i d, i < ops.size → (tAt ts i).dst = some d → t[d]? = some (val i env)) → Q .normal t ((alive ts).flatMap (fun k => rows k env) ++ R0))
    {ρ : Option Nat} {ds : List Deferred} {B : Nat} {w0 : World} :
    ∀ (fuel : Nat) (listed : Array Bool) (U A : List Nat) (t : List Value) (H : List Row) (w : World) (env : Env), listed.size = ops.size → U.length = fuel → U.Nodup → (∀ k, k ∈ U ↔ k < ops.size ∧ listed.getD k true = false) →
      (∀ k, k < ops.size → listed.getD k true = true → ∀ j, (tAt ts k).sup.contains j = true → listed.getD j true = true) →
      A.Nodup → (∀ k, k ∈ A ↔ k < ts.length ∧ listed.getD k true = true ∧ ∀ j, j < ops.size → listed.getD j true = true → k ∉ (tAt ts j).kills) →
      Ag n F0 t → (∀ k d, k < ops.size → listed.getD k true = true → (tAt ts k).dst = some d → t[d]? = some (val k env)) →
      St B w0 H w → H.Perm (R0 ++ A.flatMap (fun k => rows k env)) → wpAnyIn (wf ρ) 0 P .any ops (lift ds B w0 Q) fuel listed ⟨t.toArray, ds⟩ w := by
  unfold okReg2 at hok
  simp only [Bool.and_eq_true, decide_eq_true_eq] at hok
  obtain ⟨⟨⟨hlen, hops⟩, hkn⟩, hps⟩ := hok
  have hopAt : ∀ i o, ops[i]? = some o → okOp2 ts dom n ops.size i o = true := by
    intro i o hi
    have := List.all_eq_true.1 hops (o, i) (by
      rw [List.mem_zipIdx_iff_getElem?]; simpa using hi)
    exact this
  intro fuel
  induction fuel with
  | zero =>
    intro listed U A t H w env hls hUl hUn hU hcl hAn hA hag hv hS hH
    have hU0 : U = [] := List.eq_nil_of_length_eq_zero hUl
    subst hU0
    have hall : ∀ k, listed.getD k true = true := by
      intro k
      cases hk : listed.getD k true with
      | true => rfl
      | false =>
        by_cases h1 : k < ops.size
        · exact absurd ((hU k).2 ⟨h1, hk⟩) (by simp)
        · rw [Array.getD_eq_getD_getElem?, Array.getElem?_eq_none (by omega)] at hk; cases hk
    refine ⟨?_, rfl, _, ?_, hS.perm (H' := (alive ts).flatMap (fun k => rows k env) ++ R0) ?_⟩
    · unfold Region.ready
      rw [List.filter_eq_nil_iff]
      intro k _
      rw [hall]; simp
    · have := hQ env t hag (fun i d hi hd => hv i d hi (hall i) hd)
      simpa using this
    · refine List.perm_append_comm.trans ((List.Perm.append_left R0 (List.Perm.flatMap_right _ ?_)).trans hH.symm)
      refine perm_of_mem ((List.nodup_range).sublist List.filter_sublist) hAn fun k => ?_
      rw [hA, alive, List.mem_filter, List.mem_range]
      simp only [hall, true_and, Bool.not_eq_true', List.contains_eq_mem, decide_eq_false_iff_not, true_implies]
      refine and_congr_right fun _ => ⟨fun h j _ hj => h (tAt_mem hj), fun h hm => ?_⟩
      obtain ⟨T, hT, hk⟩ := List.mem_flatMap.1 hm
      obtain ⟨j, hj, rfl⟩ := List.mem_iff_getElem.1 hT
      by_cases hj' : j < ops.size
      · exact h j hj' (by unfold tAt; simp [List.getD, hj, hk])
      · have := List.all_eq_true.1 hps ts[j] (by
          rw [List.mem_iff_getElem?]
          exact ⟨j - ops.size, by rw [List.getElem?_drop, show ops.size + (j - ops.size) = j by omega, List.getElem?_eq_getElem hj]⟩)
        simp only [Bool.and_eq_true, List.isEmpty_iff] at this
        rw [this.1] at hk; cases hk
  | succ fuel ih =>
    intro listed U A t H w env hls hUl hUn hU hcl hAn hA hag hv hS hH
    have hge : ∀ k, ops.size ≤ k → listed.getD k true = true := fun k hk => by rw [Array.getD_eq_getD_getElem?, Array.getElem?_eq_none (by omega)]; rfl
    have hgd : ∀ k, k < ops.size → listed.getD k false = listed.getD k true := fun k hk => by
      rw [Array.getD_eq_getD_getElem?, Array.getD_eq_getD_getElem?, Array.getElem?_eq_getElem (by omega)]; rfl
    refine ⟨fun h0 => ?_, fun i hi => ?_⟩
    · exfalso
      have key : ∀ m, m ∈ U → False := by
        intro m
        induction m using Nat.strongRecOn with
        | _ m ihm =>
          intro hm
          obtain ⟨hms, hml⟩ := (hU m).1 hm
          obtain ⟨o, ho⟩ : ∃ o, ops[m]? = some o := ⟨ops[m], Array.getElem?_eq_getElem hms⟩
          have hc := hopAt m o ho
          unfold okOp2 at hc
          simp only [Bool.and_eq_true] at hc
          obtain ⟨⟨⟨⟨_, haf⟩, _⟩, _⟩, _⟩ := hc
          by_cases hal : o.after.all (fun e => !Region.binds .any e || listed.getD e.on false) = true
          · have : m ∈ Region.ready .any ops listed := by
              unfold Region.ready
              rw [List.mem_filter]
              refine ⟨List.mem_range.2 hms, ?_⟩
              rw [hml, ho]
              simp only [Option.map_some, Option.getD_some, Bool.not_false, Bool.true_and]
              exact hal
            rw [h0] at this; cases this
          · have : ∃ e ∈ o.after, ¬ ((!Region.binds .any e || listed.getD e.on false) = true) := by
              rw [Array.all_eq_true_iff_forall_mem] at hal
              simpa using hal
            obtain ⟨e, he, hne⟩ := this
            have h1 := List.all_eq_true.1 haf e (Array.mem_toList_iff.2 he)
            simp only [Bool.or_eq_true, Bool.not_eq_true', not_or, Bool.not_eq_false, Bool.not_eq_true] at hne h1
            have h2 : e.on < m := by
              rcases h1 with h1 | h1
              · rw [hne.1] at h1; cases h1
              · simpa using h1
            refine ihm e.on h2 ((hU e.on).2 ⟨by omega, ?_⟩)
            rw [← hgd e.on (by omega)]; exact hne.2
      cases U with
      | nil => simp at hUl
      | cons u U => exact key u (List.mem_cons_self ..)
    · unfold Region.ready at hi
      rw [List.mem_filter, List.mem_range] at hi
      obtain ⟨his, hi2⟩ := hi
      obtain ⟨o, ho⟩ : ∃ o, ops[i]? = some o := ⟨ops[i], Array.getElem?_eq_getElem his⟩
      simp only [ho, Option.map_some, Option.getD_some, Bool.and_eq_true, Bool.not_eq_true'] at hi2
      obtain ⟨hil, hia⟩ := hi2
      have hc := hopAt i o ho
      unfold okOp2 at hc
      simp only [Bool.and_eq_true] at hc
      obtain ⟨⟨⟨⟨⟨⟨hgu, hdst⟩, hds⟩, haf⟩, hsup⟩, hdeps⟩, hkil⟩ := hc
      have hdst' : o.dst = (tAt ts i).dst := by simpa using hdst
      rw [Array.all_eq_true_iff_forall_mem] at hia
      have hson : ∀ j, (tAt ts i).sup.contains j = true → j < i ∧ listed.getD j true = true := by
        intro j hj
        have h1 := List.all_eq_true.1 hsup j (by simpa using hj)
        simp only [Bool.and_eq_true, decide_eq_true_eq, List.any_eq_true] at h1
        obtain ⟨hji, e, he', hb, h2⟩ := h1
        have he := Array.mem_toList_iff.1 he'
        refine ⟨hji, ?_⟩
        have h3 := hia e he
        rw [hb] at h3
        have h4 := List.all_eq_true.1 haf e he'
        rw [hb] at h4
        simp only [Bool.not_true, Bool.false_or, decide_eq_true_eq] at h3 h4
        rw [hgd e.on (by omega)] at h3
        simp only [Bool.or_eq_true, beq_iff_eq] at h2
        rcases h2 with h2 | h2
        · rw [← h2]; exact h3
        · exact hcl e.on (by omega) h3 j h2
      have hks : ∀ k ∈ (tAt ts i).kills, k ∈ A := by
        intro k hk
        rw [hA]
        have h1 := List.all_eq_true.1 hkil k hk
        simp only [Bool.or_eq_true, decide_eq_true_eq] at h1
        refine ⟨?_, ?_, fun j hj hjl hkj => ?_⟩
        · rcases h1 with h1 | h1
          · have := (hson k h1).1; omega
          · omega
        · rcases h1 with h1 | h1
          · exact (hson k h1).2
          · exact hge k h1.1
        · have := kills_once hkn hk hkj
          subst this
          rw [hil] at hjl; cases hjl
      have hkin : (tAt ts i).kills.Nodup := by
        unfold tAt List.getD
        cases hti : ts[i]? with
        | none => simp
        | some T =>
          simp only [Option.getD_some]
          exact kills_nodup hkn (List.mem_of_getElem? hti)
      obtain ⟨A', hp, hA'n, hA'm⟩ := take_out _ A hkin hAn hks
      have hH1 : ((tAt ts i).kills.flatMap (fun k => rows k env) ++ (R0 ++ A'.flatMap (fun k => rows k env))).Perm H := by
        refine List.Perm.trans ?_ hH.symm
        refine List.Perm.trans ?_ (List.Perm.append_left R0 (List.Perm.flatMap_right _ hp.symm))
        rw [List.flatMap_append, ← List.append_assoc, ← List.append_assoc]
        exact List.Perm.append_right _ List.perm_append_comm
      have hdp : ∀ k ∈ (tAt ts i).deps, ∀ d, (tAt ts k).dst = some d → t[d]? = some (val k env) := by
        intro k hk d hd
        have h1 := List.all_eq_true.1 hdeps k hk
        obtain ⟨h2, h3⟩ := hson k h1
        exact hv k d (by omega) h3 hd
      have hst := hob i o (by rw [opAt_eq]; simpa using ho)
      have hreads : ∀ k ∈ rd i, ∀ r ∈ rows k env, r ∈ R0 ++ A'.flatMap (fun k => rows k env) := by
        intro k hk r hr
        refine List.mem_append_right _ (List.mem_flatMap.2 ⟨k, ?_, hr⟩)
        have h1 := List.all_eq_true.1 (List.all_eq_true.1 hrd i (List.mem_range.2 his)) k hk
        simp only [Bool.and_eq_true, Bool.or_eq_true, decide_eq_true_eq, Bool.not_eq_true'] at h1
        obtain ⟨⟨h1, h2⟩, h3⟩ := h1
        rw [hA'm, hA]
        refine ⟨⟨?_, ?_, fun j hj hjl hkj => ?_⟩, by simpa using h2⟩
        · rcases h1 with h1 | h1
          · have := (hson k h1).1; omega
          · omega
        · rcases h1 with h1 | h1
          · exact (hson k h1).2
          · exact hge k h1.1
        · have h4 := List.all_eq_true.1 h3 j (List.mem_range.2 hj)
          simp only [Bool.or_eq_true, Bool.not_eq_true'] at h4
          rcases h4 with h4 | h4
          · rw [List.contains_iff_mem.2 hkj] at h4; cases h4
          · have := hcl j hj hjl i h4
            rw [hil] at this; cases this
      have hyv : ∀ j ww, o.guard = some (j, ww) → (tAt ts j).dst ≠ none → yielded ops t.toArray j = bv (val j env) := by
        intro j ww hg hj
        rw [hg] at hgu
        obtain ⟨h1, h2⟩ := hson j hgu
        obtain ⟨d, hd'⟩ := Option.ne_none_iff_exists'.1 hj
        have hoj : ops[j]? = some ops[j] := Array.getElem?_eq_getElem (by omega)
        have hcj := hopAt j _ hoj
        unfold okOp2 at hcj
        simp only [Bool.and_eq_true] at hcj
        have hdj : (ops[j]).dst = (tAt ts j).dst := by simpa using hcj.1.1.1.1.1.2
        exact yielded_bv hoj (by rw [hdj, hd']) (hv j d (by omega) h2 hd')
      have hnext : ∀ (v : Value) (w' : World) (H' : List Row), St B w0 H' w' → (∃ p, ((tAt ts i).dst ≠ none → v = val i (upd env i p)) ∧ H'.Perm (rows i (upd env i p) ++ (R0 ++ A'.flatMap (fun k => rows k env)))) → wpAnyIn (wf ρ) 0 P .any ops (lift ds B w0 Q) fuel (listed.setIfInBounds i true) ⟨(put t o.dst v).toArray, ds⟩ w' := by
        rintro v w' H' hS' ⟨p, hval, hH'⟩
        have hl' : ∀ k, (listed.setIfInBounds i true).getD k true = if k = i then true else listed.getD k true := by
          intro k
          rw [Array.getD_eq_getD_getElem?, Array.getD_eq_getD_getElem?, Array.getElem?_setIfInBounds]
          by_cases hki : k = i
          · subst hki; simp; split <;> rfl
          · rw [if_neg (fun e => hki e.symm), if_neg hki]
        have hnot : ∀ k, listed.getD k true = true → (tAt ts k).sup.contains i = false := by
          intro k hk
          by_cases hks' : k < ops.size
          · cases hcs : (tAt ts k).sup.contains i with
            | false => rfl
            | true => have := hcl k hks' hk i hcs; rw [hil] at this; cases this
          · by_cases hkt : k < ts.length
            · have := List.all_eq_true.1 hps ts[k] (by
                rw [List.mem_iff_getElem?]
                exact ⟨k - ops.size, by rw [List.getElem?_drop, show ops.size + (k - ops.size) = k by omega, List.getElem?_eq_getElem hkt]⟩)
              simp only [Bool.and_eq_true, List.isEmpty_iff] at this
              have e : tAt ts k = ts[k] := by unfold tAt; simp [List.getD, hkt]
              rw [e, this.2]; rfl
            · have e : tAt ts k = ⟨none, [], [], []⟩ := by unfold tAt; simp [List.getD, List.getElem?_eq_none (by omega : ts.length ≤ k)]
              rw [e]; rfl
        have hiA : i ∉ A := fun h => by have := ((hA i).1 h).2.1; rw [hil] at this; cases this
        refine ih (listed.setIfInBounds i true) (U.erase i) (i :: A') (put t o.dst v) H' w' (upd env i p) (by simpa using hls) ?_ (hUn.sublist List.erase_sublist) ?_ ?_ ?_ ?_ ?_ ?_ hS' ?_
        · rw [List.length_erase_of_mem ((hU i).2 ⟨his, hil⟩)]; omega
        · intro k
          rw [hUn.mem_erase_iff, hU, hl']
          by_cases hki : k = i
          · simp [hki]
          · simp [hki]
        · intro k hk hkl j hj
          rw [hl'] at hkl ⊢
          split
          · rfl
          · by_cases hki : k = i
            · subst hki; exact (hson j hj).2
            · rw [if_neg hki] at hkl; exact hcl k hk hkl j hj
        · exact List.nodup_cons.2 ⟨fun h => hiA ((hA'm i).1 h).1, hA'n⟩
        · intro k
          rw [List.mem_cons, hA'm, hA, hl']
          by_cases hki : k = i
          · subst hki
            simp only [true_or, if_true, true_and, true_iff]
            refine ⟨by omega, fun j hj hjl hkj => ?_⟩
            have h1 : ops[j]? = some ops[j] := Array.getElem?_eq_getElem hj
            have hcj := hopAt j _ h1
            unfold okOp2 at hcj
            simp only [Bool.and_eq_true] at hcj
            have h2 := List.all_eq_true.1 hcj.2 k hkj
            simp only [Bool.or_eq_true, decide_eq_true_eq] at h2
            rw [hl'] at hjl
            rcases h2 with h2 | h2
            · by_cases hjk : j = k
              · subst hjk; have := (hson j h2).1; omega
              · rw [if_neg hjk] at hjl
                have := hcl j hj hjl k h2
                rw [hil] at this; cases this
            · omega
          · simp only [hki, false_or, if_false]
            constructor
            · rintro ⟨⟨h1, h2, h3⟩, h4⟩
              refine ⟨h1, h2, fun j hj hjl => ?_⟩
              rw [hl'] at hjl
              by_cases hji : j = i
              · subst hji; exact h4
              · rw [if_neg hji] at hjl; exact h3 j hj hjl
            · rintro ⟨h1, h2, h3⟩
              exact ⟨⟨h1, h2, fun j hj hjl => h3 j hj (by rw [hl']; split; rfl; exact hjl)⟩, h3 i his (by rw [hl', if_pos rfl])⟩
        · cases hdd : o.dst with
          | none => exact hag
          | some d =>
            rw [hdst'] at hdd
            rw [hdd] at hds
            simp only [Bool.and_eq_true, decide_eq_true_eq, Bool.not_eq_true'] at hds
            refine ⟨by simpa [put] using hag.1, fun s u hs => ?_⟩
            have h1 := hag.2 s u hs
            simp only [put, List.getElem?_set]
            rw [if_neg]
            · exact h1
            · rintro rfl
              have : d ∈ dom := by
                rw [← hd]
                exact lk_mem hs
              have h2 := hds.1.2
              simp [this] at h2
        · intro k d hk hkl hkd
          rw [hl'] at hkl
          by_cases hki : k = i
          · subst hki
            rw [hdst', hkd]
            rw [hkd] at hds
            simp only [Bool.and_eq_true, decide_eq_true_eq] at hds
            simp only [put, List.getElem?_set, if_true]
            rw [if_pos (by rw [hag.1]; exact hds.1.1), hval (by rw [hkd]; simp)]
          · rw [if_neg hki] at hkl
            rw [(hloc k env i p (fun e => hki e.symm) (hnot k hkl)).1]
            have h1 := hv k d hk hkl hkd
            cases hdd : o.dst with
            | none => exact h1
            | some d' =>
              simp only [put, List.getElem?_set]
              rw [if_neg]
              · exact h1
              · rintro rfl
                rw [hdst'] at hdd
                rcases Nat.lt_or_gt_of_ne hki with hlt | hlt
                · rw [hdd] at hds
                  simp only [Bool.and_eq_true] at hds
                  have := List.all_eq_true.1 hds.2 k (List.mem_range.2 hlt)
                  simp [hkd] at this
                · have hck := hopAt k _ (Array.getElem?_eq_getElem hk)
                  unfold okOp2 at hck
                  simp only [Bool.and_eq_true] at hck
                  have hdk := hck.1.1.1.1.2
                  rw [hkd] at hdk
                  simp only [Bool.and_eq_true] at hdk
                  have := List.all_eq_true.1 hdk.2 i (List.mem_range.2 hlt)
                  simp [hdd] at this
        · refine hH'.trans ?_
          have e : A'.flatMap (fun k => rows k (upd env i p)) = A'.flatMap (fun k => rows k env) := by
            have : ∀ k ∈ A', rows k (upd env i p) = rows k env := fun k hk => by
              have h1 := (hA'm k).1 hk
              have h2 := ((hA k).1 h1.1).2.1
              exact (hloc k env i p (fun e => hiA (e ▸ h1.1)) (hnot k h2)).2
            exact flatMap_congr' this
          rw [List.flatMap_cons, e, ← List.append_assoc, ← List.append_assoc]
          exact List.Perm.append_right _ List.perm_append_comm
      unfold wpOpIn
      simp only [ho]
      rcases hst with ⟨hgr, hst⟩ | ⟨j, ww, hg, hj, hbv, hki, hvi, hri⟩
      · have hwant : Region.wanted o (yielded ops t.toArray) = true := by
          unfold Region.wanted
          rcases hgr with hgr | ⟨j, ww, hg, hj, hb⟩
          · rw [hgr]
          · rw [hg]; simp only [hyv j ww hg hj, hb]; simp
        simp only [hwant, if_true]
        exact hst env (R0 ++ A'.flatMap (fun k => rows k env)) (fun r hr => List.mem_append_left _ hr) hreads t (ag_fdeps hag _ hdp) ρ ds B w0 w (hS.perm hH1) _ _ hnext
      · have hwant : Region.wanted o (yielded ops t.toArray) = false := by
          unfold Region.wanted
          rw [hg]; simp only [hyv j ww hg hj]
          simpa using hbv env
        simp only [hwant, Bool.false_eq_true, if_false]
        rw [put_act]
        refine ⟨fun _ _ => trivial, hnext undef w _ hS ⟨(0, 0), fun _ => (hvi _).symm, ?_⟩⟩
        --, fun _ => (hvi _).symm, ?_⟩
        rw [hri, List.nil_append]
        rw [hki] at hH1
        simpa using hH1.symm

theorem X.regionRd {P : Program} {n : Nat} {c : Code} {F : FS} {H : List Row} {Q : QX} (ts : List TOp) (rd : Nat → List Nat) (dom : List Nat) (F0 : FS) (val : Nat → Env → Value) (rows : Nat → Env → List Row) (env0 : Env) (R0 : List Row)
    (h : c = .region (cid c) (cops c) true) (hm : P.follows .mixedOrders = true) (hsub : Sub F0 F) (hd : F0.map (·.1) = dom) (hok : okReg2 (cops c) ts dom n = true) (hrd : okRd ts rd (cops c).size = true)
    (hloc : ∀ k env i p, i ≠ k → (tAt ts k).sup.contains i = false → val k (upd env i p) = val k env ∧ rows k (upd env i p) = rows k env)
    (hH : (((List.range ts.length).drop (cops c).size).flatMap (fun k => rows k env0) ++ R0).Sublist H)
    (hob' : AllF (cops c).toList 0 fun i o => ObR P n ts rd val rows F0 R0 i o)
    (hQ : ∀ env t, Ag n F0 t → (∀ i d, i < (cops c).size → (tAt ts i).dst = some d → t[d]? = some (val i env)) → exQ n Q .normal t ((alive ts).flatMap (fun k => rows k env) ++ R0)) : X P n c F H Q := by
  have hob := fun i o ho => hob' i o (Nat.zero_le i) ho
  unfold X W
  intro t ha ρ ds B w0 w hS
  rw [h]
  refine wpIn_region_any hm ?_
  have hlen : (cops c).size ≤ ts.length := by
    have := hok
    unfold okReg2 at this
    simp only [Bool.and_eq_true, decide_eq_true_eq] at this
    exact this.1.1.1
  have hl : ∀ k d, (Array.replicate (cops c).size false).getD k d = if k < (cops c).size then false else d := by
    intro k d
    rw [Array.getD_eq_getD_getElem?, Array.getElem?_replicate]
    split <;> rfl
  have hdm : ∀ k, k ∈ (List.range ts.length).drop (cops c).size ↔ (cops c).size ≤ k ∧ k < ts.length := by
    intro k
    rw [List.mem_iff_getElem?]
    constructor
    · rintro ⟨j, hj⟩
      rw [List.getElem?_drop] at hj
      have := List.getElem?_eq_some_iff.1 hj
      obtain ⟨h1, h2⟩ := this
      simp at h1 h2
      omega
    · rintro ⟨h1, h2⟩
      exact ⟨k - (cops c).size, by rw [List.getElem?_drop, show (cops c).size + (k - (cops c).size) = k by omega, List.getElem?_range h2]⟩
  refine wpAny_ob hd hok rd hrd val rows hloc R0 hob hQ (cops c).size _ (List.range (cops c).size) ((List.range ts.length).drop (cops c).size) t _ _ env0 (by simp) (by simp) List.nodup_range ?_ ?_ ((List.nodup_range).sublist (List.drop_sublist _ _)) ?_ (ha.sub hsub) ?_ ((hS.drewN 1).sub hH) List.perm_append_comm
  · intro k
    rw [List.mem_range, hl]
    by_cases hk : k < (cops c).size <;> simp [hk]
  · intro k hk hkl
    rw [hl, if_pos hk] at hkl
    cases hkl
  · intro k
    rw [hdm, hl]
    constructor
    · rintro ⟨h1, h2⟩
      refine ⟨h2, by rw [if_neg (by omega)], fun j hj hjl => ?_⟩
      rw [hl, if_pos hj] at hjl
      cases hjl
    · rintro ⟨h1, h2, _⟩
      refine ⟨?_, h1⟩
      by_cases hk : k < (cops c).size
      · rw [if_pos hk] at h2; cases h2
      · omega
  · intro k d hk hkl
    rw [hl, if_pos hk] at hkl
    cases hkl

theorem X.regionOb {P : Program} {n : Nat} {c : Code} {F : FS} {H : List Row} {Q : QX} (ts : List TOp) (dom : List Nat) (F0 : FS) (val : Nat → Env → Value) (rows : Nat → Env → List Row) (env0 : Env) (R0 : List Row)
    (h : c = .region (cid c) (cops c) true) (hm : P.follows .mixedOrders = true) (hsub : Sub F0 F) (hd : F0.map (·.1) = dom) (hok : okReg2 (cops c) ts dom n = true)
    (hloc : ∀ k env i p, i ≠ k → (tAt ts k).sup.contains i = false → val k (upd env i p) = val k env ∧ rows k (upd env i p) = rows k env)
    (hH : (((List.range ts.length).drop (cops c).size).flatMap (fun k => rows k env0) ++ R0).Sublist H)
    (hob' : AllF (cops c).toList 0 fun i o => Ob P n ts val rows F0 R0 i o)
    (hQ : ∀ env t, Ag n F0 t → (∀ i d, i < (cops c).size → (tAt ts i).dst = some d → t[d]? = some (val i env)) → exQ n Q .normal t ((alive ts).flatMap (fun k => rows k env) ++ R0)) : X P n c F H Q := by
  refine X.regionRd ts (fun _ => []) dom F0 val rows env0 R0 h hm hsub hd hok (by unfold okRd; simp) hloc hH (fun j o hj ho => (hob' j o hj ho).toR) hQ

section
variable {P : Program} {n : Nat} {ts : List TOp} {val : Nat → Env → Value} {rows : Nat → Env → List Row} {F0 : FS} {R0 : List Row} {i : Nat} {o : Oper}
abbrev ObK (P : Program) (n : Nat) (ts : List TOp) (val : Nat → Env → Value) (rows : Nat → Env → List Row) (F0 : FS) (R0 : List Row) (i : Nat) (o : Oper) : Prop := ∀ env R, (∀ r ∈ R0, r ∈ R) → OpF P n ((tAt ts i).kills.flatMap (fun k => rows k env) ++ R) (fdeps ts val env F0 (tAt ts i).deps) o
      (fun v H' => ∃ p, ((tAt ts i).dst ≠ none → v = val i (upd env i p)) ∧ H'.Perm (rows i (upd env i p) ++ R))
abbrev ObKR (P : Program) (n : Nat) (ts : List TOp) (rd : Nat → List Nat) (val : Nat → Env → Value) (rows : Nat → Env → List Row) (F0 : FS) (R0 : List Row) (i : Nat) (o : Oper) : Prop := ∀ env R, (∀ r ∈ R0, r ∈ R) → (∀ k ∈ rd i, ∀ r ∈ rows k env, r ∈ R) → OpF P n ((tAt ts i).kills.flatMap (fun k => rows k env) ++ R) (fdeps ts val env F0 (tAt ts i).deps) o
      (fun v H' => ∃ p, ((tAt ts i).dst ≠ none → v = val i (upd env i p)) ∧ H'.Perm (rows i (upd env i p) ++ R))
theorem ObR.ng {rd : Nat → List Nat} (hg : o.guard = none) (h : ObKR P n ts rd val rows F0 R0 i o) : ObR P n ts rd val rows F0 R0 i o := .inl ⟨.inl hg, h⟩
theorem Ob.ng (hg : o.guard = none) (h : ObK P n ts val rows F0 R0 i o) : Ob P n ts val rows F0 R0 i o := .inl ⟨.inl hg, h⟩
theorem Ob.g {j : Nat} {w : Bool} (hg : o.guard = some (j, w)) (hj : (tAt ts j).dst.isSome = true) (hb : ∀ env, bv (val j env) = some w) (h : ObK P n ts val rows F0 R0 i o) : Ob P n ts val rows F0 R0 i o :=
  .inl ⟨.inr ⟨j, w, hg, (fun e => by rw [e] at hj; cases hj), hb⟩, h⟩
theorem Ob.sk {j : Nat} {w : Bool} (hg : o.guard = some (j, w)) (hj : (tAt ts j).dst.isSome = true) (hb : ∀ env, (bv (val j env) == some w) = false) (hk : ∀ env, (tAt ts i).kills.flatMap (fun k => rows k env) = []) (hv : ∀ env, val i env = undef) (hr : ∀ env, rows i env = []) : Ob P n ts val rows F0 R0 i o :=
  .inr ⟨j, w, hg, (fun e => by rw [e] at hj; cases hj), (fun env e => by have := hb env; rw [e] at this; simp at this), hk, hv, hr⟩
/-- what only reads -/
theorem ObK.pure (he : ∀ env R, (∀ r ∈ R0, r ∈ R) → ∃ v, EvF P n ((tAt ts i).kills.flatMap (fun k => rows k env) ++ R) (fdeps ts val env F0 (tAt ts i).deps) o v ∧ v = val i (upd env i (0, 0))) (hk : (tAt ts i).kills = []) (hr : ∀ env, rows i (upd env i (0, 0)) = []) : ObK P n ts val rows F0 R0 i o := by
  intro env R hR
  obtain ⟨v, hv, he'⟩ := he env R hR
  refine (StF.ofEv hv).op.mono ?_
  rintro u H' ⟨rfl, rfl⟩
  exact ⟨(0, 0), fun _ => he', by rw [hr, hk]; exact List.Perm.refl _⟩
end
end Go.Fw
end
section
set_option linter.unusedVariables false
namespace Go.Fw
open Go Go.RowKit
section
variable {P : Program} {n : Nat} {ops : Array Oper} {i : Nat} {o : Oper} {F : FS} {H : List Row}
/-- a slice that has an address, held against nil -/
theorem EvF.eqNil {T T' e : TypeId} {x : Operand} {ad : Addr} {len cap s y : Nat} (h : o.op = .binOp .eql T x (.const (.slice none 0 0)) T') (hx : evF F x = some (.slice (some ad) len cap)) (hT : tiOf P T = some ⟨.sl e, s, y⟩) : EvF P n H F o (.bool false) := by
  unfold EvF EvOp
  intro t ha B w0 w hS
  have hu := ti_slice hT
  have h1 : (binOp .eql T (.slice (some ad) len cap) (.slice none 0 0)).run P w = .ok (.bool false) w := by
    show Sem.run P (do pure (Value.bool (← Op.equalIn 10000 T (.slice (some ad) len cap) (.slice none 0 0)))) w = _
    rw [show (10000 : Nat) = 9999 + 1 from rfl]
    unfold Op.equalIn
    simp [underlying, hu]
  have hxv := ha.ev hx
  simp [execOp, h, hxv, show Fw.ev t (.const (.slice none 0 0)) = .slice none 0 0 from rfl, eqGuard, h1]
/-- a literal of two -/
theorem StF.buildTwo {T e : TypeId} {x y : Operand} {sz y' : Nat} {v0 v1 : Value} {cs ds : List Value} (h : o.op = .buildSlice T 2 #[(0, x), (1, y)]) (hT : ElT P T e sz y') (hx : evF F x = some v0) (hy : evF F y = some v1) (hc : v0.cells.toList = cs) (hd : v1.cells.toList = ds) (hl : cs.length = sz) (hl' : ds.length = sz) (hz : 0 < sz) (hz' : 2 * sz ≤ 16777216) :
    StF P n H F o (fun v H' => ∃ b, v = .slice (some ⟨b, 0, none⟩) 2 2 ∧ H' = ⟨b, 0, cs ++ ds, some e, 2 * sz⟩ :: H) := by
  unfold StF StepOp
  intro t ha B w0 w hS
  obtain ⟨z, hzs, hzr⟩ := hT.zero
  have hS' := hS.alloc (cs ++ ds) e
  refine ⟨.slice (some ⟨w.heap.size, 0, none⟩) 2 2, _, _, .inl ?_, hS', _, rfl, by rw [List.length_append, hl, hl']; congr 2; omega⟩
  have hf := fill_eq (fun i => some (i * sz, sz)) [(0, v0), (1, v1)] ((Array.range (2 * sz)).map (z.cells[· % z.cells.size]!)) (cs ++ ds) (by
    simp only [fillL, Nat.zero_mul, Nat.zero_add, Nat.one_mul, hc, hd, hl, hl', Nat.beq_refl, Array.length_toList, Array.size_map, Array.size_range]
    rw [show Nat.ble sz (2 * sz) = true by rw [Nat.ble_eq]; omega]
    simp only [splice, List.take_zero, List.nil_append, Nat.zero_add, hl]
    rw [show Nat.ble (sz + sz) (cs ++ List.drop sz (Array.map (fun x => z.cells[x % z.cells.size]!) (Array.range (2 * sz))).toList).length = true by
      rw [Nat.ble_eq]; simp [hl]; omega]
    simp only [Option.some.injEq]
    rw [show List.take sz (cs ++ List.drop sz (Array.map (fun x => z.cells[x % z.cells.size]!) (Array.range (2 * sz))).toList) = cs by rw [← hl, List.take_left]]
    rw [List.drop_eq_nil_of_le (by simp [hl, hl']; omega), List.append_nil])
  have h0 : ¬ (sz = 0) := by omega
  have h1 : ¬ (16777216 < 2 * sz) := by omega
  simp [execOp, h, Instr.buildSlice, hT.un, hT.sz, hzr, ha.ev hx, ha.ev hy, h1, hf, newRow, newObj, Sem.run, World.alloc_eq]
  intro h2; omega
theorem zero_one {z : Value} (h : z.cells.all (·.oneCell') = true) (m : Nat) : ∀ v ∈ (Builtin.zeroCells z.cells m).toList, v.oneCell' = true := by
  intro v hv
  unfold Builtin.zeroCells at hv
  simp only [Array.toList_map, List.mem_map, Array.toList_range, List.mem_range] at hv
  obtain ⟨k, hk, rfl⟩ := hv
  have h0 : 0 < z.cells.size := by
    rcases Nat.eq_zero_or_pos z.cells.size with h0 | h0
    · rw [h0, Nat.mul_zero] at hk; omega
    · exact h0
  have hlt : k % z.cells.size < z.cells.size := Nat.mod_lt _ h0
  rw [getElem!_pos z.cells _ hlt]
  exact Array.all_eq_true_iff_forall_mem.1 h _ (Array.getElem_mem hlt)
/-- clear of a part of a row of one's own -/
theorem StF.clear {T e : TypeId} {x : Operand} {sz by' q b j m c cap : Nat} {cs : List Value} (h : o.op = .call { callee := .builtin .clear, args := #[x], argTypes := #[T] }) (hT : ElT P T e sz by')
    (hx : evF F x = some (.slice (some ⟨b, j, none⟩) m c)) (hi : H[q]? = some ⟨b, 0, cs, some e, cap⟩) (hl : j + m * sz ≤ cs.length) (hone : ∀ (z : Value) (w : World), (zeroValue e).run P w = .ok z w → z.cells.all (·.oneCell') = true) :
    StF P n H F o (fun _ H' => ∃ zs, zs.length = m * sz ∧ H' = H.set q ⟨b, 0, splice cs j zs, some e, cap⟩) := by
  unfold StF StepOp
  intro t ha B w0 w hS
  obtain ⟨z, hzs, hzr⟩ := hT.zero
  have hz1 := zero_one (hone z w (hzr w)) m
  have hzl : (Builtin.zeroCells z.cells m).toList.length = m * sz := by rw [Array.length_toList, size_zeroCells, hzs]
  obtain ⟨w', hst, hS'⟩ := store_cells (P := P) (Builtin.zeroCells z.cells m).toList cs H w j 0 hS hi hz1 (by rw [hzl]; omega)
  have hxv := ha.ev hx
  refine ⟨.tuple #[], w', _, .inl ?_, hS', _, hzl, rfl⟩
  cases m with
  | zero =>
    have h0 : (Builtin.zeroCells z.cells 0).toList = [] := List.eq_nil_of_length_eq_zero (by rw [hzl, Nat.zero_mul])
    rw [h0] at hst
    simp [storeCells] at hst
    subst hst
    simp [execOp, h, hxv, resolve, invoke, builtin, Builtin.clear_, hT.un]
  | succ m =>
    simp [execOp, h, hxv, resolve, invoke, builtin, Builtin.clear_, hT.un, hzr, hst]
/-- a struct is stored in a row of one's own -/
theorem StF.storeAt {T : TypeId} {a x : Operand} {q b j cap : Nat} {el : TypeId} {cs vs : List Value} {ti : TI} (h : o.op = .store T a x) (hx : evF F a = some (.pointer (some ⟨b, j, none⟩))) (hv : evF F x = some (.agg vs.toArray)) (hT : tiOf P T = some ti) (hi : H[q]? = some ⟨b, 0, cs, some el, cap⟩)
    (hn : vs.length = ti.size) (h1 : vs.all (·.oneCell') = true) (hl : j + vs.length ≤ cs.length) : StF P n H F o (fun u H' => u = undef ∧ H' = H.set q ⟨b, 0, splice cs j vs, some el, cap⟩) := by
  unfold StF
  intro t ha
  exact StepOp.store h (ha.ev hx) hT (by rw [ha.ev hv]; rfl) hi hn h1 hl
end
end Go.Fw
end
section
set_option linter.unusedVariables false
namespace Go.Fw
open Go Go.RowKit
section
variable {P : Program} {n : Nat} {ops : Array Oper} {i : Nat} {o : Oper} {F : FS} {H : List Row}
/-- rows in another order -/
theorem X.permH {c : Code} {Q : QX} {H' : List Row} (hp : H'.Perm H) (k : X P n c F H' Q) : X P n c F H Q := by
  unfold X W at *
  intro t ha ρ ds B w0 w hS
  exact k t ha ρ ds B w0 w (hS.perm hp)
/-- a piece of a row can be read -/
theorem Rd.piece {b j cap : Nat} {xs ys zs : List Value} {ow : Option Kd} (hr : ⟨b, 0, xs ++ ys ++ zs, ow, cap⟩ ∈ H) (hj : xs.length = j) : Rd H ⟨b, 0 + j, none⟩ ys := by
  intro k v hk
  refine ⟨_, hr, j + k, rfl, rfl, by show 0 + (j + k) = 0 + j + k; omega, ?_⟩
  subst hj
  have hk' := (List.getElem?_eq_some_iff.1 hk).1
  rw [List.append_assoc, List.getElem?_append_right (by omega), Nat.add_sub_cancel_left, List.getElem?_append_left hk']
  exact hk
/-- a table of a region whose last operation alone does something: nothing is drawn -/
def valL (vs : List Value) (k : Nat) (_ : Env) : Value := vs.getD k undef
def rowsL (m : Nat) (new old : Row) (k : Nat) (_ : Env) : List Row := match Nat.beq k m with
  | true => [new]
  | false => match Nat.beq k (m + 1) with
    | true => [old]
    | false => []
end
end Go.Fw
end
section
set_option linter.unusedVariables false
namespace Go.Fw
open Go Go.RowKit
section
variable {P : Program} {n : Nat} {ops : Array Oper} {i : Nat} {o : Oper} {F : FS} {H : List Row}
theorem EvF.mul64 {T T' : TypeId} {x y : Operand} {p q : Int} (h : o.op = .binOp .mul T x y T') (hx : evF F x = some (.int .i64 p)) (hy : evF F y = some (.int .i64 q))
    (h1 : -9223372036854775808 ≤ p * q) (h2 : p * q ≤ 9223372036854775807) : EvF P n H F o (.int .i64 (p * q)) := by
  have := EvF.arith (P := P) (n := n) (H := H) (r := IntKind.i64.wrap (p * q)) h hx hy rfl
  rwa [wrap_i64 h1 h2] at this
theorem EvF.buildArr {T e : TypeId} {l : List (Nat × Operand)} {vs : List (Nat × Value)} {len s y : Nat} {ti : TI} {zs cs : List Value} (h : o.op = .build T l.toArray) (hv : ArgsP F l vs) (hT : tiOf P T = some ⟨.ar len e, s, y⟩) (he : tiOf P e = some ti)
    (hz : ∀ w, (zeroValue T).run P w = .ok (.agg zs.toArray) w) (hf : fillL (fun i => some (i * ti.size, ti.size)) zs vs = some cs) : EvF P n H F o (.agg cs.toArray) := by
  unfold EvF EvOp
  intro t ha B w0 w hS
  have hu := ti_array hT
  have h2 := fill_eq (fun i => some (i * ti.size, ti.size)) vs zs.toArray cs (by simpa using hf)
  have h3 := hv.ev ha
  have h5 := ti_size he w
  have h6 : l.map (fun x => (x.1, Fw.ev t x.2)) = vs := h3
  simp [execOp, h, Instr.build, hz, underlying, hu, h5, Value.cells, h6, h2]
end
section
variable {P : Program} {n : Nat} {c : Code} {F : FS} {H : List Row} {Q : QX}
abbrev ngX (Q : QX) : QX
  | .goto _, _, _ => False
  | e, F, H => Q e F H
theorem X.label {l : Nat} (h : c = .label l) (hq : Q .normal F H) : X P n c F H Q := by
  unfold X W
  intro t ha ρ ds B w0 w hS
  subst h
  exact wpIn_label ⟨rfl, H, ⟨F, by simpa using ha, hq⟩, hS⟩
theorem wpIn_scope_straight {F : Fence} {n : Nat} {P : Program} {Q : Exit → Act → World → Prop} {a : Act} {w : World} {c : Code} (h : c.wpIn F n P (Exit.noGoto Q) a w) : (Code.scope c).wpIn F n P Q a w := by
  intro b k cs hro hb hr
  obtain ⟨e, a₁, w₁, hq, harr⟩ := h b (.inScope c :: k) cs hro hb hr
  have h0 : (lone (b.atR a (.code (.scope c) :: k)) cs w).fenced P F := fenced_calm hb hr rfl
  have hs : step P (lone (b.atR a (.code (.scope c) :: k)) cs w) = .next (lone (b.atR a (.code c :: .inScope c :: k)) cs w) :=
    step_lone_go (by simp [stepG, stepG.exec, Frame.atR])
  cases e with
  | normal => exact ⟨.normal, a₁, w₁, hq, .head h0 hs (StepsIn.trans harr (.one (fenced_calm hb hr rfl) (step_lone_go (by simp [stepG, stepG.exec, Frame.atR]))))⟩
  | exit id =>
    exact ⟨.exit id, a₁, w₁, hq, (fun k' hk => .head h0 hs (harr.1 k' (by simpa [exitTo] using hk))),
      (fun hr' hk => let ⟨k₁, h1, h2⟩ := harr.2 hr' (by simpa [exitTo] using hk); ⟨k₁, h1, .head h0 hs h2⟩)⟩
  | goto l => exact hq.elim
  | ret => exact ⟨_, a₁, w₁, hq, .of_steps (.one h0 hs) harr⟩
  | panic ch => exact ⟨_, a₁, w₁, hq, .of_steps (.one h0 hs) harr⟩
  | outgrown => exact ⟨_, a₁, w₁, hq, .of_steps (.one h0 hs) harr⟩
theorem X.scope (h : c = .scope (cfst c)) (hx : X P n (cfst c) F H (ngX Q)) : X P n c F H Q := by
  unfold X W at hx ⊢
  intro t ha ρ ds B w0 w hS
  rw [h]
  refine wpIn_scope_straight (wpIn_mono (hx t ha ρ ds B w0 w hS) ?_)
  rintro e a w' ⟨hd, H', ⟨F', ha', hq⟩, hS'⟩
  cases e with
  | goto l => exact hq.elim
  | _ => exact ⟨hd, H', ⟨F', ha', hq⟩, hS'⟩
end
end Go.Fw
end
section
set_option linter.unusedVariables false
namespace Go.Fw
open Go Go.RowKit
theorem Fc.permR {P : Program} {f : FuncId} {args : List Value} {H H' : List Row} {R : Value → List Row → Prop} (h : Fc P f args H R) (hp : H.Perm H') : Fc P f args H' R := by
  unfold Fc at *
  exact ⟨h.1, fun B w0 w hS => h.2 B w0 w (hS.perm hp)⟩
theorem Fc.weak {P : Program} {f : FuncId} {args : List Value} {H H' : List Row} {R : Value → List Row → Prop} (h : Fc P f args H R) (hp : H.Sublist H') : Fc P f args H' R := by
  unfold Fc at *
  exact ⟨h.1, fun B w0 w hS => h.2 B w0 w (hS.sub hp)⟩
end Go.Fw
namespace Go.Fw
open Go Go.RowKit
theorem X.weakR {P : Program} {n : Nat} {c : Code} {F : FS} {H H' : List Row} {Q : QX} (hh : H'.Sublist H) (h : X P n c F H' Q) : X P n c F H Q := X.weak (fun _ _ h => h) hh h
end Go.Fw
end
section
set_option linter.unusedVariables false
namespace Go.Fw
open Go Go.RowKit
/-- A call of yield, from what is known. -/
def Yc (P : Program) (l : Nat) (args : List Value) (H : List Row) (R : Value → List Row → Prop) : Prop :=
  ∀ B w0 w, St B w0 H w → ∃ fn tmps assign body, (Instr.yield l args.toArray).run P w = .ok (.round l fn tmps assign body) w ∧
    RoundIn Fence.wide 0 P l fn tmps assign body w fun e w' => ∃ v H', e = .returned v ∧ R v H' ∧ St B w0 H' w'

section
variable {P : Program} {n : Nat} {ops : Array Oper} {i : Nat} {o : Oper} {F : FS} {H : List Row}
theorem Yc.mono {l : Nat} {args : List Value} {R R' : Value → List Row → Prop} (h : Yc P l args H R) (hr : ∀ v H', R v H' → R' v H') : Yc P l args H R' := by
  intro B w0 w hS
  obtain ⟨fn, tmps, assign, body, h1, h2⟩ := h B w0 w hS
  exact ⟨fn, tmps, assign, body, h1, h2.mono fun e w' ⟨v, H', he, hR, hS'⟩ => ⟨v, H', he, hr _ _ hR, hS'⟩⟩
theorem Yc.permR {l : Nat} {args : List Value} {R : Value → List Row → Prop} {H' : List Row} (h : Yc P l args H' R) (hp : H.Perm H') : Yc P l args H R := by
  intro B w0 w hS
  exact h B w0 w (hS.perm hp.symm)

/-- yield is called -/
theorem Xg.yield {N : FS → List Row → Prop} {g : Operand} {l : Nat} {al : List Operand} {tys : Array TypeId} {vs : List Value} {R : Value → List Row → Prop} (h : o.op = .call { callee := .value g, args := al.toArray, argTypes := tys })
    (hg : evF F g = some (.func (.yield l) #[] #[])) (hv : Args F al vs) {d : Nat} (hx : o.dst = some d) (hd : Nat.blt d n = true) (hY : Yc P l vs H R)
    (k : ∀ v H', R v H' → XO P n ops (i + 1) ((d, v) :: F) H' N) : Xg P n ops i o F H N := by
  unfold Xg Xo XO WO
  intro hw ho t ha ρ ds B w0 w hS
  replace ho' := opAt_arr ho
  rw [range_step ho']
  simp only [wpOpsIn, ho', hw t ha, if_true, Oper.wpIn, eval_ev]
  obtain ⟨fn, tmps, assign, body, h1, h2⟩ := hY B w0 w hS
  have hrun : (execOp (Fw.ev t) o).run P w = .ok (.round l fn tmps assign body) w := by
    have e := ha.ev hg
    have e2 := hv.ev ha
    simp [execOp, h, resolve, e, Deferred.ofValue, invoke, e2, callFunc, h1]
  rw [sem_round hrun, Oper.uponIn_round]
  refine ⟨fun _ _ => trivial, (fun h => by cases h), ?_⟩
  refine RoundIn.mono (F := wf ρ) h2 ?_
  rintro e w' ⟨v, H', rfl, hR, hS'⟩
  simp only [put_act]
  have := k v H' hR
  unfold XO WO at this
  exact this _ (hx ▸ ha.put (d := some d) hd v) ρ ds B w0 w' hS'
end
end Go.Fw
namespace Go.Fw
open Go Go.RowKit
def oRow (b : Nat) (o : Obj) : Row := ⟨b, 0, [], some (.obj o), 0⟩
/-- the block for the deferred calls of a loop's rounds: none -/
def dRow (D : Nat) : Row := oRow D (.deferred (some []))
def dMk (D : Nat) : Deferred := { target := .collected D, args := #[] }
theorem St.putObj {B : Nat} {w0 w : World} {H : List Row} {b : Nat} {o : Obj} (h : St B w0 (oRow b o :: H) w) (o' : Obj) : St B w0 (oRow b o' :: H) (w.putObj b o') := by
  obtain ⟨hB, _, hb⟩ := h.ok _ (List.mem_cons_self ..)
  have hlt := (Array.getElem?_eq_some_iff.1 hb).1
  have hp := List.pairwise_cons.1 h.sep
  have hbel : Below B w (w.putObj b o') := ⟨rfl, rfl, rfl, by simp, fun k hk => World.putObj_heap_other (by simp only [oRow] at hB; omega)⟩
  refine ⟨h.below.trans hbel, by simpa using h.size, fun r hr => ?_, List.pairwise_cons.2 ⟨fun s hs ho => hp.1 s hs (.inl rfl), hp.2⟩⟩
  rcases List.mem_cons.1 hr with rfl | hr
  · exact ⟨hB, rfl, World.putObj_heap_same hlt⟩
  · exact Row.ok_of_block (h.ok r (List.mem_cons_of_mem _ hr)) (by simp) (World.putObj_heap_other (fun e => hp.1 r hr (.inl rfl) e.symm))
theorem St.allocObj {B : Nat} {w0 w : World} {H : List Row} (h : St B w0 H w) (o : Obj) : St B w0 (oRow w.heap.size o :: H) (w.alloc o) := by
  have h' := h.allocAny o
  refine ⟨h'.below, h'.size, fun r hr => ?_, List.pairwise_cons.2 ⟨fun s hs _ => ?_, h.sep⟩⟩
  · rcases List.mem_cons.1 hr with rfl | hr
    · exact ⟨h.size, rfl, heap_alloc' _ _⟩
    · exact h'.ok r hr
  · have := Row.ok_lt (h.ok s hs)
    show w.heap.size ≠ s.b
    omega
theorem St.obj {B : Nat} {w0 w : World} {H : List Row} {b : Nat} {o : Obj} (h : St B w0 H w) (hm : oRow b o ∈ H) : w.heap[b]? = some o := (h.ok _ hm).2.2

abbrev QTT := Exit → FS → List Nat → List Row → Prop
def liftT (n : Nat) (B : Nat) (w0 : World) (Q : QTT) (e : Exit) (a : Act) (w : World) : Prop := ∃ Ds F H', a.defers = Ds.map dMk ∧ Ag n F a.tmps.toList ∧ Q e F Ds H' ∧ St B w0 (H' ++ Ds.map dRow) w
/-- the walk over the code of a function in which loops over functions stand: Ds are the blocks that such loops have left -/
def XT (P : Program) (n : Nat) (c : Code) (F : FS) (Ds : List Nat) (H : List Row) (Q : QTT) : Prop :=
  ∀ t, Ag n F t → ∀ B w0 w, St B w0 (H ++ Ds.map dRow) w → c.wpIn Fence.wide 0 P (liftT n B w0 Q) ⟨t.toArray, Ds.map dMk⟩ w
section
variable {P : Program} {n : Nat} {c : Code} {F : FS} {Ds : List Nat} {H : List Row} {Q : QTT}
theorem XT.ofX (h : X P n c F (H ++ Ds.map dRow) (fun e F' H' => ∃ H'', (H'' ++ Ds.map dRow).Sublist H' ∧ Q e F' Ds H'')) : XT P n c F Ds H Q := by
  unfold X W at h
  intro t ha B w0 w hS
  refine wpIn_mono (h t ha none (Ds.map dMk) B w0 w hS) ?_
  rintro e a w' ⟨hd, H', ⟨F', ha', H'', hs, hq⟩, hS'⟩
  exact ⟨Ds, F', H'', hd, ha', hq, hS'.sub hs⟩
/-- no loop over a function yet -/
theorem XT.of0 (h : X P n c F H (fun e F' H' => Q e F' [] H')) : XT P n c F [] H Q := by
  refine XT.ofX ?_
  simp only [List.map_nil, List.append_nil]
  unfold X W at h ⊢
  intro t ha ρ ds B w0 w hS
  refine wpIn_mono (h t ha ρ ds B w0 w hS) ?_
  rintro e a w' ⟨hd, H', ⟨F', ha', hq⟩, hS'⟩
  exact ⟨hd, H', ⟨F', ha', H', List.Sublist.refl _, hq⟩, hS'⟩
abbrev thenT (N : FS → List Nat → List Row → Prop) (Q : QTT) : QTT
  | .normal, F, Ds, H => N F Ds H
  | e, F, Ds, H => Q e F Ds H
theorem XT.seq (h : c = .seq (cfst c) (csnd c)) (hx : XT P n (cfst c) F Ds H (thenT (fun F Ds H => XT P n (csnd c) F Ds H Q) Q)) : XT P n c F Ds H Q := by
  intro t ha B w0 w hS
  rw [h]
  refine wpIn_seq (wpIn_mono (hx t ha B w0 w hS) ?_)
  rintro e a w' ⟨Ds', F', H', hd, ha', hq, hS'⟩
  cases e with
  | normal => show (csnd c).wpIn _ 0 P _ a w'; rw [act_eta hd]; exact hq _ ha' B w0 w' hS'
  | _ => exact ⟨Ds', F', H', hd, ha', hq, hS'⟩
abbrev blockT (id : Nat) (Q : QTT) : QTT
  | .exit i, F, Ds, H => if i = id then Q .normal F Ds H else Q (.exit i) F Ds H
  | e, F, Ds, H => Q e F Ds H
theorem XT.block (h : c = .block (cid c) (cfst c)) (hx : XT P n (cfst c) F Ds H (blockT (cid c) Q)) : XT P n c F Ds H Q := by
  intro t ha B w0 w hS
  rw [h]
  refine wpIn_block (wpIn_mono (hx t ha B w0 w hS) ?_)
  rintro e a w' ⟨Ds', F', H', hd, ha', hq, hS'⟩
  cases e with
  | exit i =>
    simp only [blockT] at hq
    simp only [Exit.inBlock]
    split
    · rename_i hi; rw [if_pos hi] at hq; exact ⟨Ds', F', H', hd, ha', hq, hS'⟩
    · rename_i hi; rw [if_neg hi] at hq; exact ⟨Ds', F', H', hd, ha', hq, hS'⟩
  | _ => exact ⟨Ds', F', H', hd, ha', hq, hS'⟩
theorem XT.perm {H' : List Row} (hp : H'.Perm H) (h : XT P n c F Ds H' Q) : XT P n c F Ds H Q :=
  fun t ha B w0 w hS => h t ha B w0 w (hS.perm (List.Perm.append_right _ hp))
theorem XT.weak {F' : FS} {H' : List Row} (hs : Sub F' F) (hh : H'.Sublist H) (h : XT P n c F' Ds H' Q) : XT P n c F Ds H Q :=
  fun t ha B w0 w hS => h t (ha.sub hs) B w0 w (hS.sub (List.Sublist.append_right hh _))
theorem XT.mono {Q' : QTT} (h : XT P n c F Ds H Q) (hq : ∀ e F Ds H, Q e F Ds H → Q' e F Ds H) : XT P n c F Ds H Q' :=
  fun t ha B w0 w hS => wpIn_mono (h t ha B w0 w hS) fun _ _ _ ⟨Ds', F', H', hd, ha', hq', hS'⟩ => ⟨Ds', F', H', hd, ha', hq _ _ _ _ hq', hS'⟩
end

theorem leave_marks {P : Program} {fn : Func} {t : List Value} {R : Ending → World → Prop} {B : Nat} {w0 : World} {H : List Row} {v : Value} (hv : ResV P fn t H v) (hR : ∀ w, St B w0 H w → R (.returned v) w) :
    ∀ (Ds : List Nat) (w : World), St B w0 (H ++ Ds.map dRow) w → LeavesInM Fence.wide 0 P fn t.toArray R (Ds.map dMk) .returning w
  | [], w, hS => by
    simp only [List.map_nil, List.append_nil] at hS
    unfold ResV at hv
    exact ⟨v, hv B w0 w hS, hR w hS⟩
  | D :: Ds, w, hS => by
    have hS1 : St B w0 (dRow D :: (H ++ Ds.map dRow)) w := hS.perm (by simpa using List.perm_middle.symm)
    have hk : w.heap[D]? = some (.deferred (some [])) := hS1.obj (List.mem_cons_self ..)
    refine ⟨by simp, .inl ⟨D, _, rfl, run_takeDeferred hk, ?_⟩⟩
    exact leave_marks hv hR Ds _ (hS1.putObj _).tail
def retT (P : Program) (fn : Func) (R : Value → List Row → Prop) : QTT := fun e F _ H => (e = .normal ∨ e = .ret) ∧ ∃ v H', ResX P F H fn v ∧ H'.Sublist H ∧ R v H'
theorem Fc.mkT {P : Program} {fn : Func} {f : FuncId} {args : List Value} {n : Nat} {H : List Row} {R : Value → List Row → Prop} (hc : Callable P f) (hf : P.funcs[f]? = some fn) (hb : fn.body = some (cof fn)) (hn : fn.ntmps = n) (hl' : Nat.ble args.length n = true)
    (h : XT P n (cof fn) (fr 0 args) [] H (retT P fn R)) : Fc P f args H R := by
  have hl := Nat.le_of_ble_eq_true hl'
  subst hn
  unfold Fc
  refine ⟨hc, fun B w0 w hS => callsIn_wide.1 (callsIn_of_wp_marks (n := 0) hf hb trivial ?_ rfl)⟩
  have ha : Ag fn.ntmps (fr 0 args) (args ++ List.replicate (fn.ntmps - args.length) undef) := by
    refine ⟨by simp; omega, fun i v hi => ?_⟩
    obtain ⟨k, hk, hv⟩ := lk_fr args 0 i v hi
    have hlt := (List.getElem?_eq_some_iff.1 hv).1
    rw [show i = k by omega, List.getElem?_append_left hlt, hv]
  have := h _ ha B w0 w (by simpa using hS)
  have he : (args.toArray ++ Array.replicate (fn.ntmps - args.toArray.size) undef) = (args ++ List.replicate (fn.ntmps - args.length) undef).toArray := by simp
  rw [he]
  refine wpIn_mono this ?_
  rintro e a w' ⟨Ds, F', H', hd, ha', ⟨he, v, H'', hv, hsub, hR⟩, hS'⟩
  unfold ResX at hv
  have key : LeavesInM Fence.wide 0 P fn a.tmps (fun e w' => ∃ v H', e = .returned v ∧ R v H' ∧ St B w0 H' w') a.defers .returning w' := by
    rw [hd]
    have := leave_marks (R := fun e w' => ∃ v H', e = .returned v ∧ R v H' ∧ St B w0 H' w') (B := B) (w0 := w0) (hv _ _ ha') (fun w hS => ⟨v, H'', rfl, hR, hS.sub hsub⟩) Ds w' hS'
    simpa using this
  rcases he with rfl | rfl <;> exact key

def lRow (l : Nat) (r : Loop) : Row := oRow l (.loop r)
/-- what an iterator does, whatever the loop's body is: xs come, each as encs tells -/
def Itf (P : Program) {α : Type} (f : FuncId) (cap : List Value) (E : List Row) (xs : List α) (encs : α → List Value) : Prop :=
  Callable P f ∧ ∀ (l : Nat) (J Jx : List α → List Row → Prop) (Hc : List Row), J [] Hc →
    (∀ pre x Hc, (pre ++ [x]) <+: xs → J pre Hc → ∀ E', Yc P l (encs x) (Hc ++ E') (fun v H' => ∃ Hc', H' = Hc' ++ E' ∧ ((v = .bool true ∧ J (pre ++ [x]) Hc') ∨ (v = .bool false ∧ Jx (pre ++ [x]) Hc')))) →
    Fc P f (.func (.yield l) #[] #[] :: cap) (Hc ++ E) (fun _ H' => ∃ Hc', H' = Hc' ++ E ∧ (J xs Hc' ∨ ∃ pre, pre <+: xs ∧ Jx pre Hc'))
/-- the same, whatever comes: what may come before is told by Gd, what has come in the end by Dn -/
def ItfG (P : Program) {α : Type} (f : FuncId) (cap : List Value) (E : List Row) (Gd Dn : List α → Prop) (encs : α → List Value) : Prop :=
  Callable P f ∧ ∀ (l : Nat) (J Jx : List α → List Row → Prop) (Hc : List Row), J [] Hc →
    (∀ pre x Hc, Gd (pre ++ [x]) → J pre Hc → ∀ E', Yc P l (encs x) (Hc ++ E') (fun v H' => ∃ Hc', H' = Hc' ++ E' ∧ ((v = .bool true ∧ J (pre ++ [x]) Hc') ∨ (v = .bool false ∧ Jx (pre ++ [x]) Hc')))) →
    Fc P f (.func (.yield l) #[] #[] :: cap) (Hc ++ E) (fun _ H' => ∃ Hc', H' = Hc' ++ E ∧ ((∃ ys, Dn ys ∧ J ys Hc') ∨ ∃ pre, Gd pre ∧ Jx pre Hc'))
/-- how a loop's body can be left -/
def bodyX (I : List Row → Prop) (Ix : Code → List Row → Prop) (Z : List Row) : QX := fun e _ H => ∃ Hb, (Hb ++ Z).Sublist H ∧ match e with
  | .normal => I Hb
  | .ret => Ix .ret Hb
  | .exit id => Ix (.exit id) Hb
  | _ => False
def zipF : List Nat → List Value → FS → FS
  | p :: ps, v :: vs, F => zipF ps vs ((p, v) :: F)
  | _, _, F => F
theorem ag_zipF' {n : Nat} : ∀ (ps : List Nat) (vs : List Value) (F : FS) (t : Array Value), Ag n F t.toList → ps.all (fun p => Nat.blt p n) = true → Ag n (zipF ps vs F) ((ps.zip vs).foldl (fun tmps (x : Nat × Value) => tmps.setIfInBounds x.1 x.2) t).toList
  | [], vs, F, t, ha, _ => ha
  | p :: ps, [], F, t, ha, _ => ha
  | p :: ps, v :: vs, F, t, ha, hp => by
    simp only [List.all_cons, Bool.and_eq_true] at hp
    have h1 : Ag n ((p, v) :: F) (t.setIfInBounds p v).toList := by
      have := ha.put (d := some p) hp.1 v
      simpa [pf, put] using this
    exact ag_zipF' ps vs ((p, v) :: F) (t.setIfInBounds p v) h1 hp.2
theorem ag_zipF {n : Nat} (ps : List Nat) (vs : List Value) (F : FS) (t : Array Value) (ha : Ag n F t.toList) (hp : ps.all (fun p => Nat.blt p n) = true) : Ag n (zipF ps vs F) ((ps.toArray.zip vs.toArray).foldl (fun tmps (x : Nat × Value) => tmps.setIfInBounds x.1 x.2) t).toList := by
  have h := ag_zipF' ps vs F t ha hp
  have e : ps.toArray.zip vs.toArray = (ps.zip vs).toArray := by simp
  rw [e]
  rw [← Array.foldl_toList]
  exact h
theorem XT.rangeG {P : Program} {n : Nat} {c : Code} {F : FS} {H : List Row} {Q : QTT} {α : Type} {g : Operand} {ps : List Nat} {assign body : Code} {f : FuncId} {cap : List Value} {E : List Row} {Gd Dn : List α → Prop} {encs : α → List Value}
    (h : c = .rangeFunc g ps.toArray assign body) (hg : evF F g = some (.func (.func f) #[] cap.toArray)) (hI : ItfG P f cap E Gd Dn encs) (hps : ps.all (fun p => Nat.blt p n) = true) (hen : ∀ x, (encs x).length = ps.length)
    (I : List α → List Row → Prop) (Ix : Code → List Row → Prop) (Hb0 : List Row) (hH : H = Hb0 ++ E) (h0 : I [] Hb0)
    (hround : ∀ pre x Hb, Gd (pre ++ [x]) → I pre Hb → ∀ Z, X P n assign (zipF ps (encs x) F) (Hb ++ Z) (fun e F1 H1 => e = .normal ∧ ∃ Hb1, (Hb1 ++ Z).Sublist H1 ∧ ∀ Z', X P n body F1 (Hb1 ++ Z') (bodyX (I (pre ++ [x])) Ix Z')))
    (hdone : ∀ D ys Hb, Dn ys → I ys Hb → Q .normal F [D] (Hb ++ E))
    (hret : ∀ D Hb, Ix .ret Hb → Q .ret F [D] (Hb ++ E))
    (hexit : ∀ D id Hb, Ix (.exit id) Hb → Q (.exit id) F [D] (Hb ++ E))
    (honly : ∀ c Hb, Ix c Hb → c = .ret ∨ ∃ id, c = .exit id) : XT P n c F [] H Q := by
  subst h hH
  intro t ha B w0 w hS
  simp only [List.map_nil, List.append_nil] at hS
  refine wpIn_rangeFunc ?_
  intro fn _
  obtain ⟨hcall, hit⟩ := hI
  obtain ⟨rec, hrec⟩ : ∃ rec : LoopState → Option Code → Loop, rec = fun st pe => { state := st, pending := pe, fn, tmps := t.toArray, params := ps.toArray, assign, body, defers := w.heap.size } := ⟨_, rfl⟩
  have hg' : Act.eval ⟨t.toArray, []⟩ g = .func (.func f) #[] cap.toArray := by rw [eval_ev]; exact ha.ev hg
  have hS1 := hS.allocObj (.deferred (some []))
  have hS2 := hS1.allocObj (.loop (rec .ready none))
  refine ⟨w.heap.size + 1, [dMk w.heap.size], (w.alloc (.deferred (some []))).alloc (.loop (rec .ready none)), { target := .fn (.func f) cap.toArray, args := #[.func (.yield (w.heap.size + 1)) #[] #[]] }, (w.alloc (.deferred (some []))).alloc (.loop (rec .ready none)), f,
    #[.func (.yield (w.heap.size + 1)) #[] #[]] ++ cap.toArray, (w.alloc (.deferred (some []))).alloc (.loop (rec .ready none)), ?_, ?_, fun _ _ => trivial, ?_, (fun h => by cases h), ?_⟩
  · rw [hrec]; exact run_enterLoop_outer fn _ _ _ _
  · simp only [resolve, List.map_nil, hg']
    simp [Deferred.ofValue, Act.eval]
  · unfold Callable at hcall
    simp [invoke]
    exact hcall _ _
  have hsz : (w.alloc (.deferred (some []))).heap.size = w.heap.size + 1 := size_alloc' _ _
  rw [hsz] at hS2
  -- the round
  have key := hit (w.heap.size + 1)
    (fun pre Hc => ∃ Hb, I pre Hb ∧ Hc = lRow (w.heap.size + 1) (rec .ready none) :: dRow w.heap.size :: Hb)
    (fun _ Hc => ∃ Hb c, Ix c Hb ∧ Hc = lRow (w.heap.size + 1) (rec .done (some c)) :: dRow w.heap.size :: Hb)
    (lRow (w.heap.size + 1) (rec .ready none) :: dRow w.heap.size :: Hb0) ⟨Hb0, h0, rfl⟩ ?_
  · unfold Fc at key
    have hc := key.2 B w0 _ hS2
    have e1 : (#[Value.func (.yield (w.heap.size + 1)) #[] #[]] ++ cap.toArray) = (Value.func (.yield (w.heap.size + 1)) #[] #[] :: cap).toArray := by simp
    rw [e1]
    refine (callsIn_wide (n := 0)).2 (hc.mono ?_)
    rintro e w' ⟨v, H', rfl, ⟨Hc', rfl, hJ⟩, hS'⟩
    rcases hJ with ⟨ys, hys, Hb, hIb, rfl⟩ | ⟨pre, _, Hb, cc, hIx, rfl⟩
    · have hl : w'.heap[w.heap.size + 1]? = some (.loop (rec .ready none)) := hS'.obj (List.mem_cons_self ..)
      have hS3 := (hS'.putObj (.loop { rec .ready none with state := .exhausted })).tail
      refine ⟨none, w'.putObj (w.heap.size + 1) (.loop { rec .ready none with state := .exhausted }), ?_, ?_⟩
      · have := run_endLoop (P := P) hl (by rw [hrec]; simp)
        rw [this]; rw [hrec]
      · refine ⟨[w.heap.size], F, Hb ++ E, rfl, ?_, hdone _ _ _ hys hIb, ?_⟩
        · simpa using ha
        · refine hS3.perm ?_
          simpa using List.perm_append_comm (l₁ := Hb ++ E) (l₂ := [dRow w.heap.size])
    · have hl : w'.heap[w.heap.size + 1]? = some (.loop (rec .done (some cc))) := hS'.obj (List.mem_cons_self ..)
      have hS3 := (hS'.putObj (.loop { rec .done (some cc) with state := .exhausted })).tail
      refine ⟨some cc, w'.putObj (w.heap.size + 1) (.loop { rec .done (some cc) with state := .exhausted }), ?_, ?_⟩
      · have := run_endLoop (P := P) hl (by rw [hrec]; simp)
        rw [this]; rw [hrec]
      · have hS4 : St B w0 ((Hb ++ E) ++ [w.heap.size].map dRow) (w'.putObj (w.heap.size + 1) (.loop { rec .done (some cc) with state := .exhausted })) := by
          refine hS3.perm ?_
          simpa using List.perm_append_comm (l₁ := Hb ++ E) (l₂ := [dRow w.heap.size])
        rcases honly cc Hb hIx with rfl | ⟨id, rfl⟩
        · exact wpIn_ret ⟨[w.heap.size], F, Hb ++ E, rfl, by simpa using ha, hret _ _ hIx, hS4⟩
        · exact wpIn_exit ⟨[w.heap.size], F, Hb ++ E, rfl, by simpa using ha, hexit _ _ _ hIx, hS4⟩
  · rintro pre x Hc hpre ⟨Hb, hIb, rfl⟩ E' B w0 w' hS'
    have hl : w'.heap[w.heap.size + 1]? = some (.loop (rec .ready none)) := hS'.obj (List.mem_cons_self ..)
    have hy := run_yield (P := P) (args := (encs x).toArray) hl (by rw [hrec]; simp [hen])
    rw [hrec] at hy
    refine ⟨_, _, _, _, hy, roundIn_of_wpIn (F := Fence.wide) trivial ?_⟩
    have hag := ag_zipF ps (encs x) F t.toArray (by simpa using ha) hps
    have hx := hround pre x Hb hpre hIb (lRow (w.heap.size + 1) (rec .ready none) :: dRow w.heap.size :: E')
    unfold X W at hx
    have hx1 := hx _ hag (some (w.heap.size + 1)) [] B w0 w' (hS'.perm (by
      simpa using (List.perm_append_comm (l₁ := Hb) (l₂ := [lRow (w.heap.size + 1) (rec .ready none), dRow w.heap.size])).append_right E'))
    refine wpIn_mono (F := Fence.wide.inRound (w.heap.size + 1)) (by rw [Array.toArray_toList] at hx1; exact hx1) ?_
    rintro e a1 w1 ⟨hd1, H1, ⟨F1, ha1, he1, Hb1, hs1, hbody⟩, hS1'⟩
    subst he1
    have hS1'' : St B w0 (lRow (w.heap.size + 1) (rec .ready none) :: (Hb1 ++ (dRow w.heap.size :: E'))) w1 := (hS1'.sub hs1).perm (by simpa using List.perm_middle.symm)
    have hl1 : w1.heap[w.heap.size + 1]? = some (.loop (rec .ready none)) := hS1''.obj (List.mem_cons_self ..)
    have hS1b := hS1''.putObj (.loop { rec .ready none with state := .busy })
    have hb1 := hbody (lRow (w.heap.size + 1) { rec .ready none with state := .busy } :: dRow w.heap.size :: E')
    have hb2 := hb1 _ ha1 (some (w.heap.size + 1)) [] B w0 _ (hS1b.perm (by simp [lRow]))
    refine ⟨_, run_beginRound hl1 (by rw [hrec]), ?_⟩
    rw [act_eta hd1]
    refine wpIn_mono (F := Fence.wide.inRound (w.heap.size + 1)) hb2 ?_
    rintro e a2 w2 ⟨hd2, H2, ⟨F2, ha2, Hb2, hs2, hq⟩, hS2'⟩
    have hS2'' : St B w0 (lRow (w.heap.size + 1) { rec .ready none with state := .busy } :: (Hb2 ++ (dRow w.heap.size :: E'))) w2 := (hS2'.sub hs2).perm (by simpa using List.perm_middle.symm)
    have hl2 : w2.heap[w.heap.size + 1]? = some (.loop { rec .ready none with state := .busy }) := hS2''.obj (List.mem_cons_self ..)
    have fin : ∀ jump : Option Code, ∃ w3, (Instr.endRound (w.heap.size + 1) jump).run P w2 = .ok (.bool jump.isNone) w3 ∧ St B w0 ((lRow (w.heap.size + 1) (rec (if jump.isNone then .ready else .done) jump) :: dRow w.heap.size :: Hb2) ++ E') w3 := by
      intro jump
      have h1 := run_endRound (P := P) jump hl2
      have h2 := hS2''.putObj (.loop { { rec .ready none with state := LoopState.busy } with state := if jump.isNone then .ready else .done, pending := jump })
      have h3 : ({ { rec .ready none with state := LoopState.busy } with state := if jump.isNone then .ready else .done, pending := jump } : Loop) = rec (if jump.isNone then .ready else .done) jump := by rw [hrec]
      rw [h3] at h2
      have h4 : (Instr.endRound (w.heap.size + 1) jump).run P w2 = .ok (.bool jump.isNone) (w2.putObj (w.heap.size + 1) (.loop (rec (if jump.isNone then .ready else .done) jump))) := by rw [h1]; rw [hrec]
      refine ⟨_, h4, h2.perm ?_⟩
      simp only [lRow, List.cons_append]
      refine List.Perm.cons _ ?_
      exact List.perm_middle.symm
    cases e with
    | normal =>
      obtain ⟨w3, h1, h2⟩ := fin none
      exact ⟨_, w3, h1, _, _, rfl, ⟨_, rfl, .inl ⟨rfl, Hb2, hq, rfl⟩⟩, h2⟩
    | ret =>
      obtain ⟨w3, h1, h2⟩ := fin (some .ret)
      exact ⟨_, w3, h1, _, _, rfl, ⟨_, rfl, .inr ⟨rfl, Hb2, _, hq, rfl⟩⟩, h2⟩
    | exit id =>
      obtain ⟨w3, h1, h2⟩ := fin (some (.exit id))
      exact ⟨_, w3, h1, _, _, rfl, ⟨_, rfl, .inr ⟨rfl, Hb2, _, hq, rfl⟩⟩, h2⟩
    | goto l => exact hq.elim
    | panic ch => exact hq.elim
    | outgrown => exact hq.elim
theorem Itf.toG {P : Program} {α : Type} {f : FuncId} {cap : List Value} {E : List Row} {xs : List α} {encs : α → List Value} (h : Itf P f cap E xs encs) : ItfG P f cap E (· <+: xs) (· = xs) encs :=
  ⟨h.1, fun l J Jx Hc h0 hy => (h.2 l J Jx Hc h0 hy).mono fun _ _ ⟨Hc', e, hq⟩ => ⟨Hc', e, hq.imp (fun q => ⟨xs, rfl, q⟩) id⟩⟩
theorem XT.range {P : Program} {n : Nat} {c : Code} {F : FS} {H : List Row} {Q : QTT} {α : Type} {g : Operand} {ps : List Nat} {assign body : Code} {f : FuncId} {cap : List Value} {E : List Row} {xs : List α} {encs : α → List Value}
    (h : c = .rangeFunc g ps.toArray assign body) (hg : evF F g = some (.func (.func f) #[] cap.toArray)) (hI : Itf P f cap E xs encs) (hps : ps.all (fun p => Nat.blt p n) = true) (hen : ∀ x, (encs x).length = ps.length)
    (I : List α → List Row → Prop) (Ix : Code → List Row → Prop) (Hb0 : List Row) (hH : H = Hb0 ++ E) (h0 : I [] Hb0)
    (hround : ∀ pre x Hb, (pre ++ [x]) <+: xs → I pre Hb → ∀ Z, X P n assign (zipF ps (encs x) F) (Hb ++ Z) (fun e F1 H1 => e = .normal ∧ ∃ Hb1, (Hb1 ++ Z).Sublist H1 ∧ ∀ Z', X P n body F1 (Hb1 ++ Z') (bodyX (I (pre ++ [x])) Ix Z')))
    (hdone : ∀ D Hb, I xs Hb → Q .normal F [D] (Hb ++ E))
    (hret : ∀ D Hb, Ix .ret Hb → Q .ret F [D] (Hb ++ E))
    (hexit : ∀ D id Hb, Ix (.exit id) Hb → Q (.exit id) F [D] (Hb ++ E))
    (honly : ∀ c Hb, Ix c Hb → c = .ret ∨ ∃ id, c = .exit id) : XT P n c F [] H Q :=
  XT.rangeG h hg hI.toG hps hen I Ix Hb0 hH h0 hround (fun D ys Hb e q => by subst e; exact hdone D Hb q) hret hexit honly
attribute [irreducible] XT Yc
end Go.Fw
end
section
set_option linter.unusedVariables false
namespace Go.Fw
open Go Go.RowKit Go.ChangeShapes Go.WideShapes Go.Deep
theorem flat_at {α : Type} {enc : α → List Value} {sz : Nat} : ∀ {l : List α}, (∀ e ∈ l, (enc e).length = sz) → ∀ (i : Nat) (e : α) (j : Nat) (v : Value), l[i]? = some e → (enc e)[j]? = some v → (l.flatMap enc)[i * sz + j]? = some v
  | [], _, i, e, j, v, hi, _ => by simp at hi
  | q :: l, hl, i, e, j, v, hi, hj => by
    rw [List.flatMap_cons, List.getElem?_append]
    have hq := hl q (List.mem_cons_self ..)
    cases i with
    | zero =>
      simp only [List.getElem?_cons_zero, Option.some.injEq] at hi
      subst hi
      rw [if_pos (by have := (List.getElem?_eq_some_iff.1 hj).1; omega)]
      simpa using hj
    | succ i =>
      rw [if_neg (by rw [hq, Nat.add_mul]; omega), hq, show (i + 1) * sz + j - sz = i * sz + j by rw [Nat.add_mul]; omega]
      exact flat_at (fun e he => hl e (List.mem_cons_of_mem _ he)) i e j v (by simpa using hi) hj
section
variable {H : Type} {enc : TypeId × Value → H} {P : Program} {w : World} {base : Nat} {spare : Nat → Bool} {held : Bool}
/-- What is known of a slice that came in. -/
def InSl {α : Type} (w : World) (a : Option Addr) (e : α → List Value) (sz : Nat) (l : List α) : Prop :=
  (∀ q ∈ l, (e q).length = sz) ∧ l.length ≤ maxLen ∧ (0 < l.length → ∃ b off, a = some ⟨b, off, none⟩ ∧ b < w.heap.size ∧ ∀ i q j v, l[i]? = some q → (e q)[j]? = some v → w.cell? ⟨b, off + (i * sz + j), none⟩ = some v)
end
/-- the row of a slice that came in -/
def rowsOf {α : Type} (a : Option Addr) (e : α → List Value) (l : List α) : List Row :=
  match a, l with
  | some ⟨b, off, _⟩, _ :: _ => [⟨b, off, l.flatMap e, none, 0⟩]
  | _, _ => []
theorem InSl.ok {α : Type} {w : World} {a : Option Addr} {e : α → List Value} {sz B : Nat} {l : List α} (h : InSl w a e sz l) : ∀ r ∈ rowsOf a e l, r.own = none ∧ r.ok B w := by
  intro r hr
  cases l with
  | nil => cases a with | none => cases hr | some a => cases hr
  | cons q l =>
    obtain ⟨b, off, rfl, hb, hc⟩ := h.2.2 (by simp)
    simp only [rowsOf, List.mem_singleton] at hr
    subst hr
    refine ⟨rfl, hb, fun j v hj => ?_⟩
    obtain ⟨i, q', k, rfl, hi, hk⟩ := flat_get h.1 hj
    exact hc i q' k v hi hk
theorem InSl.sl {α : Type} {w : World} {a : Option Addr} {e : α → List Value} {sz : Nat} {l : List α} {H : List Row} (h : InSl w a e sz l) (hs : ∀ r ∈ rowsOf a e l, r ∈ H) : SlE H a e sz l := by
  refine ⟨h.1, fun hp => ?_⟩
  obtain ⟨b, off, rfl, _, _⟩ := h.2.2 hp
  cases l with
  | nil => simp at hp
  | cons q l =>
    refine ⟨b, off, rfl, _, 0, hs _ (List.mem_singleton.2 rfl), rfl, rfl, fun i q' j v hi hj => ?_⟩
    rw [Nat.zero_add]
    exact flat_at h.1 i q' j v hi hj
/-- the start: only what came in is known -/
theorem St.start {w : World} {H : List Row} (h : ∀ r ∈ H, r.own = none ∧ r.ok w.heap.size w) : St w.heap.size w H w := by
  refine ⟨Below.refl _ _, Nat.le_refl _, fun r hr => (h r hr).2, ?_⟩
  rw [List.pairwise_iff_getElem]
  intro i j hi hj _ ho
  have h1 := (h _ (List.getElem_mem hi)).1
  have h2 := (h _ (List.getElem_mem hj)).1
  rw [h1, h2] at ho
  simp at ho
/-- from a contract to the call in a world -/
theorem Fc.calls {P : Program} {f : FuncId} {args : List Value} {H : List Row} {v : Value} {w : World} (h : Fc P f args H (fun u _ => u = v)) (hH : ∀ r ∈ H, r.own = none ∧ r.ok w.heap.size w) :
    Calls P f args.toArray w fun e w' => e = .returned v ∧ Below w.heap.size w w' := by
  unfold Fc at h
  refine (h.2 _ _ _ (St.start hH)).mono ?_
  rintro e w' ⟨u, H', rfl, rfl, hS⟩
  exact ⟨rfl, hS.below⟩
end Go.Fw
end
section
set_option linter.unusedVariables false
namespace Go.Fw
open Go Go.RowKit
structure Sp where
  lo : Int
  hi : Int
def cSp (s : Sp) : List Value := [.int .i64 s.lo, .int .i64 s.hi]
def cI (x : Int) : List Value := [.int .i64 x]
theorem one_i (e : Int) : (cI e).all (·.oneCell') = true := rfl
theorem lenI (l : List Int) : (l.flatMap cI).length = l.length * 1 := flat_len (fun _ _ => rfl)
theorem drop_cons {α : Type} {l : List α} {k : Nat} {e : α} (h : l[k]? = some e) : l.drop k = e :: l.drop (k + 1) := by
  have := (List.getElem?_eq_some_iff.1 h)
  obtain ⟨hk, rfl⟩ := this
  exact List.drop_eq_getElem_cons hk
theorem take_snoc {α : Type} {l : List α} {k : Nat} {e : α} (h : l[k]? = some e) : l.take (k + 1) = l.take k ++ [e] := by
  rw [List.take_add_one, h]; rfl
theorem sleNil {α : Type} {H : List Row} {a : Option Addr} {enc : α → List Value} {sz : Nat} : SlE H a enc sz [] := ⟨fun _ h => absurd h List.not_mem_nil, fun h => absurd h (Nat.lt_irrefl 0)⟩
theorem EnF.dyn0 {P : Program} {n : Nat} {H : List Row} {F : FS} {o : Oper} {g : Operand} {f : FuncId} {l : List Operand} {tys : Array TypeId} {vs cap : List Value} (h : o.op = .call { callee := .value g, args := l.toArray, argTypes := tys }) (hg : evF F g = some (.func (.func f) #[] cap.toArray)) (hv : Args F l vs) (hc : Callable P f) : EnF P n H F o f (vs ++ cap) :=
  EnF.dyn (first := []) h hg hv hc
/-- the first place of which something is so -/
def IdxR {α : Type} (p : α → Bool) (l : List α) (z : Int) : Prop := (z = -1 ∧ ∀ e ∈ l, p e = false) ∨ ∃ k e, z = ((k : Nat) : Int) ∧ l[k]? = some e ∧ p e = true ∧ ∀ i e, i < k → l[i]? = some e → p e = false
theorem IdxR.ge {α : Type} {p : α → Bool} {l : List α} {z : Int} (h : IdxR p l z) : z ≥ 0 ↔ ∃ e ∈ l, p e = true := by
  rcases h with ⟨rfl, h⟩ | ⟨k, e, rfl, he, hp, _⟩
  · exact ⟨fun q => absurd q (by decide), fun ⟨e, he, hp⟩ => by rw [h e he] at hp; cases hp⟩
  · exact ⟨fun _ => ⟨e, List.mem_of_getElem? he, hp⟩, fun _ => by omega⟩
section
variable {P : Program} {F : FS} {H H' : List Row} {fn : Func} {R : Value → List Row → Prop} {Ds : List Nat}
theorem retT_one {e : Exit} (he : e = .normal ∨ e = .ret) {r : ResultVar} {v : Value} (hr : fn.results = #[r]) (h : ResF P F H r v) (hs : H'.Sublist H) (hR : R v H') : retT P fn R e F Ds H := ⟨he, v, H', (by unfold ResX; exact fun _ _ ha => ResV.one hr (h.i ha)), hs, hR⟩
theorem retT_two {e : Exit} (he : e = .normal ∨ e = .ret) {r r' : ResultVar} {v v' : Value} (hr : fn.results = #[r, r']) (h : ResF P F H r v) (h' : ResF P F H r' v') (hs : H'.Sublist H) (hR : R (.tuple #[v, v']) H') : retT P fn R e F Ds H := ⟨he, _, H', (by unfold ResX; exact fun _ _ ha => ResV.two hr (h.i ha) (h'.i ha)), hs, hR⟩
end
/-- once one loop over a function is behind -/
theorem XT.of1 {P : Program} {n : Nat} {c : Code} {F : FS} {D : Nat} {H : List Row} {Q : QTT} (h : X P n c F (H ++ [dRow D]) (fun e F' H' => ∃ H'', (H'' ++ [dRow D]).Sublist H' ∧ Q e F' [D] H'')) : XT P n c F [D] H Q := XT.ofX h
theorem pre_len {α : Type} {pre xs : List α} {x : α} (h : (pre ++ [x]) <+: xs) : pre.length + 1 ≤ xs.length := by
  have := h.length_le
  simpa using this
theorem get_cI (c : List Int) (i : Nat) : (c.flatMap cI)[i]? = c[i]?.map (Value.int .i64) := by
  induction c generalizing i with
  | nil => rfl
  | cons a c ih =>
    cases i with
    | zero => rfl
    | succ i => exact ih i
theorem set_cI (c : List Int) (i : Nat) (y : Int) : (c.flatMap cI).set i (.int .i64 y) = (c.set i y).flatMap cI := by
  induction c generalizing i with
  | nil => rfl
  | cons a c ih =>
    cases i with
    | zero => rfl
    | succ i =>
      show Value.int .i64 a :: (c.flatMap cI).set i _ = Value.int .i64 a :: (c.set i y).flatMap cI
      rw [ih i]
theorem StF.storeI {P : Program} {n : Nat} {H : List Row} {F : FS} {o : Oper} {T : TypeId} {a x : Operand} {q b p i cap : Nat} {el : TypeId} {c : List Int} {y : Int} {ti : TI} (h : o.op = .store T a x) (hx : evF F a = some (.pointer (some ⟨b, p, none⟩))) (hv : evF F x = some (.int .i64 y)) (hT : tiOf P T = some ti) (hn : ti.size = 1) (hi : H[q]? = some ⟨b, 0, c.flatMap cI, some el, cap⟩)
    (hp : p = i) (hl : i < c.length) : StF P n H F o (fun u H' => u = undef ∧ H' = H.set q ⟨b, 0, (c.set i y).flatMap cI, some el, cap⟩) := by
  subst hp
  have := StF.storeOne (P := P) (n := n) (H := H) h hx hv rfl hT hn hi (by rw [lenI]; omega)
  rwa [set_cI] at this
theorem LoadV.ownI {P : Program} {H : List Row} {T : TypeId} {b p i cap : Nat} {ow : Option Kd} {c : List Int} {y : Int} {ti : TI} (hT : tiOf P T = some ti) (ha : ti.k.isAgg = false) (hr : ⟨b, 0, c.flatMap cI, ow, cap⟩ ∈ H) (hp : p = i) (hy : c[i]? = some y) : LoadV P H T ⟨b, p, none⟩ (.int .i64 y) := by
  subst hp
  exact LoadV.own hT ha hr (by rw [get_cI, hy]; rfl)
/-- a row of one's own has room for what it holds -/
theorem Fc.caps {P : Program} {f : FuncId} {args : List Value} {H : List Row} {R : Value → List Row → Prop} (h : Fc P f args H R) : Fc P f args H (fun v H' => R v H' ∧ ∀ b off cs T cap, (⟨b, off, cs, some (.ty T), cap⟩ : Row) ∈ H' → cs.length ≤ cap) := by
  unfold Fc at *
  refine ⟨h.1, fun B w0 w hS => (h.2 B w0 w hS).mono ?_⟩
  rintro e w' ⟨v, H', he, hR, hS'⟩
  refine ⟨v, H', he, ⟨hR, fun b off cs T cap hm => ?_⟩, hS'⟩
  obtain ⟨_, _, rest, _, hl⟩ := hS'.ok _ hm
  simp only [List.length_append] at hl
  omega
/-- an array of one's own, sliced whole -/
theorem EvF.sliceArrAll {P : Program} {n : Nat} {H : List Row} {F : FS} {o : Oper} {T e : TypeId} {x : Operand} {b off len s y : Nat} {ti : TI} (h : o.op = .slice T x none none none) (hx : evF F x = some (.pointer (some ⟨b, off, none⟩))) (hT : tiOf P T = some ⟨.ar len e, s, y⟩) (he : tiOf P e = some ti) :
    EvF P n H F o (.slice (some ⟨b, off, none⟩) len len) := by
  unfold EvF EvOp
  intro t ha B w0 w hS
  have hu := ti_array hT
  have hsz := ti_size he w
  have hxv := ha.ev hx
  have hbd : (Instr.sliceBounds false len len none none none).run P w = .ok (0, len, len) w := by
    simp [Instr.sliceBounds]
  simp [execOp, h, hxv, Instr.sliceAt, Instr.sureAddr, underlying, hu, hbd, hsz, add_none]
theorem all_dec {α : Type} {l : List α} {p : α → Prop} {f : α → Bool} {q : Prop} [Decidable q] [Decidable (∃ e ∈ l, f e = true)] (hf : ∀ e, f e = true ↔ ¬ p e) (hq : q ↔ ∀ x ∈ l, p x) : (!decide (∃ e ∈ l, f e = true)) = decide q := by
  by_cases h : q
  · rw [decide_eq_true h, decide_eq_false]
    · rfl
    · rintro ⟨e, he, h1⟩
      exact (hf e).1 h1 (hq.1 h e he)
  · rw [decide_eq_false h, decide_eq_true]
    · rfl
    · by_cases h2 : ∃ e ∈ l, f e = true
      · exact h2
      · refine absurd (hq.2 fun x hx => ?_) h
        by_cases h3 : p x
        · exact h3
        · exact absurd ⟨x, hx, (hf x).2 h3⟩ h2
end Go.Fw
end
section
set_option linter.unusedVariables false
set_option linter.unusedSimpArgs false
namespace Go.Proofs.YtjejppodhpdckaaGreat
open Go Go.Fw
set_option maxRecDepth 10000
theorem elI : ElT Tryz.prog 28 3 1 8 := ⟨Tryz.underlying28, Tryz.t3, .int .i64 0, by kernel_rfl, by kernel_rfl, by kernel_rfl, by kernel_rfl, rfl⟩
theorem elCl : ElT Tryz.prog 60 27 2 16 := ⟨Tryz.underlying60, Tryz.t27, .agg #[.int .i64 0, .int .i64 0], by kernel_rfl, by kernel_rfl, by kernel_rfl, by kernel_rfl, rfl⟩
theorem elLo : ElT Tryz.prog 94 92 4 32 := ⟨Tryz.underlying94, Tryz.t92, .agg #[.int .i64 0, .int .i64 0, .int .i64 0, .int .i64 0], by kernel_rfl, by kernel_rfl, by kernel_rfl, by kernel_rfl, rfl⟩
/-- terms -/
structure Tm where
  g : Int
  s : Int
  price : Int
  worst : Int
  short : Int
  G : List Int
  S : List Int
  dl : Int
  dh : Int
  bales : Int
  fee : Int
/-- where their tables lie -/
structure Pt where
  a1 : Option Addr
  c1 : Nat
  a2 : Option Addr
  c2 : Nat
def cTm (T : Tm) (p : Pt) : List Value := [.int .i64 T.g, .int .i64 T.s, .int .i64 T.price, .int .i64 T.worst, .int .i64 T.short, .slice p.a1 T.G.length p.c1, .slice p.a2 T.S.length p.c2, .int .i64 T.dl, .int .i64 T.dh, .int .i64 T.bales, .int .i64 T.fee]
structure TmOk (H : List Row) (T : Tm) (p : Pt) : Prop where
  gr : SlE H p.a1 cI 1 T.G
  st : SlE H p.a2 cI 1 T.S
  l1 : T.G.length ≤ 1000000
  l2 : T.S.length ≤ 1000000
theorem TmOk.sub {H H' : List Row} {T : Tm} {p : Pt} (h : TmOk H T p) (hs : ∀ r ∈ H, r ∈ H') : TmOk H' T p := ⟨h.gr.sub hs, h.st.sub hs, h.l1, h.l2⟩
structure Cl where
  g : Int
  s : Int
def cCl (c : Cl) : List Value := [.int .i64 c.g, .int .i64 c.s]
structure Lo where
  g1 : Int
  g2 : Int
  s1 : Int
  s2 : Int
def cLo (l : Lo) : List Value := [.int .i64 l.g1, .int .i64 l.g2, .int .i64 l.s1, .int .i64 l.s2]
def falls : List Int → Prop
  | a :: b :: l => b ≤ a ∧ falls (b :: l)
  | _ => True
def grows : List Int → Prop
  | a :: b :: l => a ≤ b ∧ grows (b :: l)
  | _ => True
def tab (l : List Int) : Prop := l.length = 9 ∧ ∀ n ∈ l, -1000 ≤ n ∧ n ≤ 1000
def at1 (l : List Int) (i : Int) : Int := l.getD (i - 1).toNat 0
def val (T : Tm) (g s : Int) : Int := T.price + at1 T.G g + at1 T.S s
structure tmOk (T : Tm) : Prop where
  cls : (1 ≤ T.g ∧ T.g ≤ 9) ∧ (1 ≤ T.s ∧ T.s ≤ 9) ∧ (T.g ≤ T.worst ∧ T.worst ≤ 9) ∧ (1 ≤ T.short ∧ T.short ≤ T.s)
  num : (1 ≤ T.price ∧ T.price ≤ 1000000) ∧ (T.dl ≤ T.dh ∧ 0 ≤ T.dl ∧ T.dh ≤ 60) ∧ (1 ≤ T.bales ∧ T.bales ≤ 20) ∧ (0 ≤ T.fee ∧ T.fee ≤ 1000)
  gr : tab T.G
  st : tab T.S
  ord : falls T.G ∧ grows T.S
  zero : at1 T.G T.g = 0 ∧ at1 T.S T.s = 0
  least : 1 ≤ val T T.worst T.short
noncomputable instance (T : Tm) : Decidable (tmOk T) := Classical.propDecidable _
theorem at1_get {l : List Int} {i : Int} (h : 1 ≤ i ∧ i ≤ 9) (hl : l.length = 9) : l[(i - 1).toNat]? = some (at1 l i) := by
  unfold at1
  rw [List.getD_eq_getElem?_getD, List.getElem?_eq_getElem (by omega)]; rfl
theorem tab.at1 {l : List Int} (h : tab l) {i : Int} (hi : 1 ≤ i ∧ i ≤ 9) : -1000 ≤ at1 l i ∧ at1 l i ≤ 1000 := h.2 _ (List.mem_of_getElem? (at1_get hi h.1))
theorem withinL_spec (s : Sp) (l : List Int) (a : Option Addr) (c : Nat) (H : List Row) (hl : SlE H a cI 1 l) (hb : l.length ≤ 9223372036854775807) : Fc Tryz.prog 52 [.agg (cSp s).toArray, .slice a l.length c] H (fun v H' => v = .bool (decide (∀ n ∈ l, s.lo ≤ n ∧ n ≤ s.hi)) ∧ H' = H) := by
  refine Fc.mk (callable Tryz.call52) Tryz.func52 rfl Tryz.ntmps52 rfl ?_; dsimp only [fr]
  repeat' (first | (refine XO.op rfl ?_; (first | ((first | refine Xo.ng rfl ?_); (first | (refine Xg.ev (EvF.move rfl rfl) rfl rfl ?_) | (refine Xg.ev (EvF.assign rfl rfl) rfl rfl ?_) | (refine Xg.ev (EvF.cmp rfl rfl rfl rfl) rfl rfl ?_) | (refine Xg.ev (EvF.lenSlice rfl rfl (te rfl)) rfl rfl ?_) | (refine Xg.st (StF.boxAgg rfl rfl) rfl rfl ?_; rintro _ _ ⟨bx, rfl, rfl⟩))))) | (refine XO.done rfl ?_; refine hK _ _ ?_; clear hK K) | refine X.seq rfl ?_ | refine X.region rfl (fun K hK => ?_) | refine X.block rfl ?_ | (refine X.brk rfl ?_; repeat (first | refine blockX_hit rfl ?_ | refine blockX_miss (by decide) ?_)) | refine X.skip rfl ?_ | refine X.ret rfl ?_ | (refine X.ite rfl rfl (fun hc => ?_); (first | (with_reducible refine Xb.case hc (fun h => ?_) (fun h => ?_))) <;> clear hc))
  refine X.lp rfl (fun q F' H' => ∃ k : Nat, q = l.length - k ∧ k ≤ l.length ∧ ((∀ n ∈ l, s.lo ≤ n ∧ n ≤ s.hi) ↔ ∀ n ∈ l.drop k, s.lo ≤ n ∧ n ≤ s.hi) ∧ ⟨bx, 0, cSp s, some 30, 2⟩ :: H = H' ∧
      F' = [(2, .pointer (some ⟨bx, 0, none⟩)), (7, .slice a l.length c), (8, .int .i64 l.length), (9, .int .i64 k)])
    l.length [(2, .pointer (some ⟨bx, 0, none⟩)), (7, .slice a l.length c), (8, .int .i64 l.length), (9, .int .i64 (0 : Nat))] _ (by (repeat (first | exact Sub.nil _ | refine Sub.cons rfl ?_)); done) (by (repeat (first | exact List.Sublist.refl _ | apply List.Sublist.cons_cons | apply List.Sublist.cons)); done) ⟨0, by omega, by omega, by simp, rfl, rfl⟩ ?_
  rintro _ _ _ ⟨k, rfl, hk, hn, rfl, rfl⟩
  repeat' (first | (refine XO.op rfl ?_; (first | ((first | refine Xo.ng rfl ?_); (first | (refine Xg.ev (EvF.move rfl rfl) rfl rfl ?_) | (refine Xg.ev (EvF.assign rfl rfl) rfl rfl ?_) | (refine Xg.ev (EvF.cmp rfl rfl rfl rfl) rfl rfl ?_) | (refine Xg.ev (EvF.lenSlice rfl rfl (te rfl)) rfl rfl ?_) | (refine Xg.st (StF.boxAgg rfl rfl) rfl rfl ?_; rintro _ _ ⟨bx, rfl, rfl⟩))))) | (refine XO.done rfl ?_; refine hK _ _ ?_; clear hK K) | refine X.seq rfl ?_ | refine X.region rfl (fun K hK => ?_) | refine X.block rfl ?_ | (refine X.brk rfl ?_; repeat (first | refine blockX_hit rfl ?_ | refine blockX_miss (by decide) ?_)) | refine X.skip rfl ?_ | refine X.ret rfl ?_ | (refine X.ite rfl rfl (fun hc => ?_); (first | (with_reducible refine Xb.case hc (fun h => ?_) (fun h => ?_))) <;> clear hc))
  · obtain ⟨b, off, e, rfl, he⟩ := hl.elem (i := k) (by omega)
    have hl1 : ∀ r, SlE (r :: H) (some ⟨b, off, none⟩) cI 1 l := fun r => hl.sub (fun _ h => List.mem_cons_of_mem _ h)
    rw [drop_cons he] at hn
    repeat' (first | (refine XO.op rfl ?_; (first | ((first | refine Xo.ng rfl ?_ | (refine Xo.g rfl rfl ?_; with_reducible refine Xw.ff ?_)); (first | (refine Xg.ev (EvF.loadV rfl rfl (LoadV.el0 (hl1 _) he (te rfl) rfl (fun _ hm => hm) rfl)) rfl rfl ?_) | (refine Xg.ev (EvF.move rfl rfl) rfl rfl ?_) | (refine Xg.ev (EvF.assign rfl rfl) rfl rfl ?_) | (refine Xg.ev (EvF.pickT rfl rfl rfl) rfl rfl ?_) | (refine Xg.ev (EvF.pickF rfl rfl rfl) rfl rfl ?_) | (refine Xg.ev (EvF.cmp rfl rfl rfl rfl) rfl rfl ?_) | (refine Xg.ev (EvF.add64 rfl rfl rfl (by omega) (by omega)) rfl rfl ?_) | (refine Xg.ev (EvF.fieldAddr rfl rfl (te rfl) rfl (te rfl) (by decide)) rfl rfl ?_) | (refine Xg.ev (EvF.indexSlice rfl rfl rfl (te rfl) (te rfl) (by omega) (by omega)) rfl rfl ?_) | (refine Xg.ev (EvF.loadV rfl rfl (LoadV.own (te rfl) rfl (List.Mem.head _) rfl)) rfl rfl ?_))) | (refine Xo.g rfl rfl ?_; (first | (with_reducible refine Xw.tf rfl rfl ?_) | (with_reducible refine Xw.case (fun h => ?_) (fun h => ?_) <;> simp only [h, decide_true, decide_false, Bool.not_true, Bool.not_false, and_self, and_true, true_and, and_false, false_and]))))) | (refine XO.done rfl ?_; refine hK _ _ ?_; clear hK K) | refine X.seq rfl ?_ | refine X.region rfl (fun K hK => ?_) | refine X.skip rfl ?_ | refine X.ret rfl ?_ | (refine X.ite rfl rfl (fun hc => ?_); (first | (with_reducible refine Xb.t hc ?_) | (with_reducible refine Xb.case hc (fun h => ?_) (fun h => ?_))) <;> clear hc))
    any_goals (refine ret_one (by first | exact .inr rfl | exact .inl rfl) Tryz.results52 rfl (H' := H) (by (repeat (first | exact List.Sublist.refl _ | apply List.Sublist.cons)); done) ?_; simp only [and_true, true_and]; congr 1; symm; exact decide_eq_false (fun q => by have := hn.1 q e List.mem_cons_self; omega))
    refine ⟨_, _, _, (by (repeat (first | exact Sub.nil _ | refine Sub.cons rfl ?_)); done), (by (repeat (first | exact List.Sublist.refl _ | apply List.Sublist.cons_cons | apply List.Sublist.cons)); done), ⟨k + 1, rfl, by omega, hn.trans ⟨fun q n hm => q n (List.mem_cons_of_mem _ hm), fun q n hm => ?_⟩, rfl, rfl⟩, by omega⟩
    rcases List.mem_cons.1 hm with rfl | hm
    · omega
    · exact q n hm
  · rw [List.drop_eq_nil_of_le (by omega)] at hn
    refine ret_one (by first | exact .inr rfl | exact .inl rfl) Tryz.results52 rfl (H' := H) (by (repeat (first | exact List.Sublist.refl _ | apply List.Sublist.cons)); done) ?_; simp only [and_true, true_and]
    congr 1; symm
    exact decide_eq_true (hn.2 (fun _ h => absurd h List.not_mem_nil))
/-- one number, two numbers in a row of their own -/
theorem within1_spec (s : Sp) (x : Int) (b c cap : Nat) (ow : Option Kd) (H : List Row) (hm : ⟨b, 0, [.int .i64 x], ow, cap⟩ ∈ H) : Fc Tryz.prog 52 [.agg (cSp s).toArray, .slice (some ⟨b, 0, none⟩) 1 c] H (fun v H' => v = .bool (decide (s.lo ≤ x ∧ x ≤ s.hi)) ∧ H' = H) := by
  have := withinL_spec s [x] (some ⟨b, 0, none⟩) c H (SlE.ofRow (cap := cap) (ow := ow) hm (fun _ _ => rfl)) (by simp)
  simpa using this
theorem within2_spec (s : Sp) (x y : Int) (b c cap : Nat) (ow : Option Kd) (H : List Row) (hm : ⟨b, 0, [.int .i64 x, .int .i64 y], ow, cap⟩ ∈ H) : Fc Tryz.prog 52 [.agg (cSp s).toArray, .slice (some ⟨b, 0, none⟩) 2 c] H (fun v H' => v = .bool (decide ((s.lo ≤ x ∧ x ≤ s.hi) ∧ (s.lo ≤ y ∧ y ≤ s.hi))) ∧ H' = H) := by
  have := withinL_spec s [x, y] (some ⟨b, 0, none⟩) c H (SlE.ofRow (cap := cap) (ow := ow) hm (fun _ _ => rfl)) (by simp)
  simpa using this
theorem part_spec (s : Sp) (lo hi : Int) (H : List Row) : Fc Tryz.prog 115 [.agg (cSp s).toArray, .int .i64 lo, .int .i64 hi] H (fun v H' => v = .bool (decide (s.lo ≤ s.hi ∧ (lo ≤ s.lo ∧ s.lo ≤ hi) ∧ (lo ≤ s.hi ∧ s.hi ≤ hi))) ∧ H' = H) := by
  refine Fc.mk (callable Tryz.call115) Tryz.func115 rfl Tryz.ntmps115 rfl ?_; dsimp only [fr]
  repeat' (first | (refine XO.op rfl ?_; (first | ((first | refine Xo.ng rfl ?_ | (refine Xo.g rfl rfl ?_; with_reducible refine Xw.tt ?_)); (first | (refine Xg.ev (EvF.build (cs := cSp ⟨lo, hi⟩) rfl (ArgsP.cons rfl (ArgsP.cons rfl ArgsP.nil)) (te rfl) (Places.cons (te rfl) (Places.cons (te rfl) Places.nil)) Tryz.zeroValue30 rfl) rfl rfl ?_) | (refine Xg.st (StF.buildTwo rfl elI rfl rfl rfl rfl rfl rfl (by decide) (by decide)) rfl rfl ?_; rintro _ _ ⟨bs, rfl, rfl⟩) | (refine Xg.call (EnF.st rfl (Args.cons rfl (Args.cons rfl Args.nil))) rfl rfl (within2_spec _ _ _ _ _ _ _ _ (List.Mem.head _)) ?_; rintro _ H9 ⟨rfl, hH9⟩; subst H9) | (refine Xg.ev (EvF.move rfl rfl) rfl rfl ?_) | (refine Xg.ev (EvF.assign rfl rfl) rfl rfl ?_) | (refine Xg.ev (EvF.pickT rfl rfl rfl) rfl rfl ?_) | (refine Xg.ev (EvF.pickF rfl rfl rfl) rfl rfl ?_) | (refine Xg.ev (EvF.cmp rfl rfl rfl rfl) rfl rfl ?_) | (refine Xg.ev (EvF.fieldAddr rfl rfl (te rfl) rfl (te rfl) (by decide)) rfl rfl ?_) | (refine Xg.ev (EvF.loadV rfl rfl (LoadV.own (te rfl) rfl (List.Mem.head _) rfl)) rfl rfl ?_) | (refine Xg.st (StF.boxAgg rfl rfl) rfl rfl ?_; rintro _ _ ⟨bx, rfl, rfl⟩))) | (refine Xo.g rfl rfl ?_; (first | (with_reducible refine Xw.ft rfl rfl ?_) | (with_reducible refine Xw.case (fun h => ?_) (fun h => ?_) <;> simp only [h, decide_true, decide_false, Bool.not_true, Bool.not_false, and_self, and_true, true_and, and_false, false_and]))))) | (refine XO.done rfl ?_; refine hK _ _ ?_; clear hK K) | refine X.seq rfl ?_ | refine X.region rfl (fun K hK => ?_) | refine X.ret rfl ?_)
  all_goals (refine ret_one (by first | exact .inr rfl | exact .inl rfl) Tryz.results115 rfl (H' := H) (by (repeat (first | exact List.Sublist.refl _ | apply List.Sublist.cons)); done) ?_; simp only [and_true, true_and])
  all_goals (congr 1; simp [*])
theorem anyGrade_spec (H : List Row) : Fc Tryz.prog 63 [] H (fun v H' => v = .agg (cSp ⟨1, 9⟩).toArray ∧ H' = H) := by
  refine Fc.mk (callable Tryz.call63) Tryz.func63 rfl Tryz.ntmps63 rfl ?_; dsimp only [fr]
  repeat' (first | (refine XO.op rfl ?_; (first | ((first | refine Xo.ng rfl ?_); (first | (refine Xg.ev (EvF.build (cs := cSp ⟨1, 9⟩) rfl (ArgsP.cons rfl (ArgsP.cons rfl ArgsP.nil)) (te rfl) (Places.cons (te rfl) (Places.cons (te rfl) Places.nil)) Tryz.zeroValue30 rfl) rfl rfl ?_) | (refine Xg.st (StF.alloc rfl Tryz.zeroValue30 rfl) rfl rfl ?_; rintro _ _ ⟨bx, rfl, rfl⟩) | (refine Xg.st0 (StF.storeAll (i := 0) rfl rfl rfl (te rfl) rfl rfl rfl rfl) rfl ?_; rintro _ _ ⟨rfl, rfl⟩; dsimp only [List.set]))))) | (refine XO.done rfl ?_; refine hK _ _ ?_; clear hK K) | refine X.seq rfl ?_ | refine X.region rfl (fun K hK => ?_) | refine X.ret rfl ?_)
  exact ret_one (by first | exact .inr rfl | exact .inl rfl) Tryz.results63 ⟨_, rfl, LoadV.whole (te rfl) rfl (List.Mem.head _) rfl⟩ (H' := H) (by (repeat (first | exact List.Sublist.refl _ | apply List.Sublist.cons_cons | apply List.Sublist.cons)); done) ⟨rfl, rfl⟩
theorem anyStaple_spec (H : List Row) : Fc Tryz.prog 78 [] H (fun v H' => v = .agg (cSp ⟨1, 9⟩).toArray ∧ H' = H) := by
  refine Fc.mk (callable Tryz.call78) Tryz.func78 rfl Tryz.ntmps78 rfl ?_; dsimp only [fr]
  repeat' (first | (refine XO.op rfl ?_; (first | ((first | refine Xo.ng rfl ?_); (first | (refine Xg.ev (EvF.build (cs := cSp ⟨1, 9⟩) rfl (ArgsP.cons rfl (ArgsP.cons rfl ArgsP.nil)) (te rfl) (Places.cons (te rfl) (Places.cons (te rfl) Places.nil)) Tryz.zeroValue30 rfl) rfl rfl ?_) | (refine Xg.st (StF.alloc rfl Tryz.zeroValue30 rfl) rfl rfl ?_; rintro _ _ ⟨bx, rfl, rfl⟩) | (refine Xg.st0 (StF.storeAll (i := 0) rfl rfl rfl (te rfl) rfl rfl rfl rfl) rfl ?_; rintro _ _ ⟨rfl, rfl⟩; dsimp only [List.set]))))) | (refine XO.done rfl ?_; refine hK _ _ ?_; clear hK K) | refine X.seq rfl ?_ | refine X.region rfl (fun K hK => ?_) | refine X.ret rfl ?_)
  exact ret_one (by first | exact .inr rfl | exact .inl rfl) Tryz.results78 ⟨_, rfl, LoadV.whole (te rfl) rfl (List.Mem.head _) rfl⟩ (H' := H) (by (repeat (first | exact List.Sublist.refl _ | apply List.Sublist.cons_cons | apply List.Sublist.cons)); done) ⟨rfl, rfl⟩
theorem class_spec (g s : Int) (H : List Row) : Fc Tryz.prog 58 [.int .i64 g, .int .i64 s] H (fun v H' => v = .agg (cCl ⟨g, s⟩).toArray ∧ H' = H) := by
  refine Fc.mk (callable Tryz.call58) Tryz.func58 rfl Tryz.ntmps58 rfl ?_; dsimp only [fr]
  repeat' (first | (refine XO.op rfl ?_; (first | ((first | refine Xo.ng rfl ?_); (first | (refine Xg.ev (EvF.build (cs := cCl ⟨g, s⟩) rfl (ArgsP.cons rfl (ArgsP.cons rfl ArgsP.nil)) (te rfl) (Places.cons (te rfl) (Places.cons (te rfl) Places.nil)) Tryz.zeroValue27 rfl) rfl rfl ?_) | (refine Xg.ev (EvF.move rfl rfl) rfl rfl ?_) | (refine Xg.st (StF.alloc rfl Tryz.zeroValue30 rfl) rfl rfl ?_; rintro _ _ ⟨bx, rfl, rfl⟩) | (refine Xg.st0 (StF.storeAll (i := 0) rfl rfl rfl (te rfl) rfl rfl rfl rfl) rfl ?_; rintro _ _ ⟨rfl, rfl⟩; dsimp only [List.set]))))) | (refine XO.done rfl ?_; refine hK _ _ ?_; clear hK K) | refine X.seq rfl ?_ | refine X.region rfl (fun K hK => ?_) | refine X.ret rfl ?_)
  exact ret_one (by first | exact .inr rfl | exact .inl rfl) Tryz.results58 ⟨_, rfl, LoadV.whole (te rfl) rfl (List.Mem.head _) rfl⟩ (H' := H) (by (repeat (first | exact List.Sublist.refl _ | apply List.Sublist.cons_cons | apply List.Sublist.cons)); done) ⟨rfl, rfl⟩
theorem just_spec (n : Int) (H : List Row) : Fc Tryz.prog 61 [.int .i64 n] H (fun v H' => v = .agg (cSp ⟨n, n⟩).toArray ∧ H' = H) := by
  refine Fc.mk (callable Tryz.call61) Tryz.func61 rfl Tryz.ntmps61 rfl ?_; dsimp only [fr]
  repeat' (first | (refine XO.op rfl ?_; (first | ((first | refine Xo.ng rfl ?_); (first | (refine Xg.ev (EvF.build (cs := cSp ⟨n, n⟩) rfl (ArgsP.cons rfl (ArgsP.cons rfl ArgsP.nil)) (te rfl) (Places.cons (te rfl) (Places.cons (te rfl) Places.nil)) Tryz.zeroValue30 rfl) rfl rfl ?_) | (refine Xg.ev (EvF.move rfl rfl) rfl rfl ?_) | (refine Xg.st (StF.alloc rfl Tryz.zeroValue30 rfl) rfl rfl ?_; rintro _ _ ⟨bx, rfl, rfl⟩) | (refine Xg.st0 (StF.storeAll (i := 0) rfl rfl rfl (te rfl) rfl rfl rfl rfl) rfl ?_; rintro _ _ ⟨rfl, rfl⟩; dsimp only [List.set]))))) | (refine XO.done rfl ?_; refine hK _ _ ?_; clear hK K) | refine X.seq rfl ?_ | refine X.region rfl (fun K hK => ?_) | refine X.ret rfl ?_)
  exact ret_one (by first | exact .inr rfl | exact .inl rfl) Tryz.results61 ⟨_, rfl, LoadV.whole (te rfl) rfl (List.Mem.head _) rfl⟩ (H' := H) (by (repeat (first | exact List.Sublist.refl _ | apply List.Sublist.cons_cons | apply List.Sublist.cons)); done) ⟨rfl, rfl⟩
theorem size_spec (l : Lo) (H : List Row) (h : (-1000 ≤ l.g1 ∧ l.g1 ≤ 1000) ∧ (-1000 ≤ l.g2 ∧ l.g2 ≤ 1000) ∧ (-1000 ≤ l.s1 ∧ l.s1 ≤ 1000) ∧ (-1000 ≤ l.s2 ∧ l.s2 ≤ 1000)) (h1 : l.g1 ≤ l.g2) (h2 : l.s1 ≤ l.s2) : Fc Tryz.prog 57 [.agg (cLo l).toArray] H (fun v H' => v = .int .i64 ((l.g2 - l.g1 + 1) * (l.s2 - l.s1 + 1)) ∧ H' = H) := by
  have hm : 0 ≤ (l.g2 - l.g1 + 1) * (l.s2 - l.s1 + 1) := Int.mul_nonneg (by omega) (by omega)
  have hM : (l.g2 - l.g1 + 1) * (l.s2 - l.s1 + 1) ≤ 2001 * 2001 := Int.mul_le_mul (by omega) (by omega) (by omega) (by omega)
  refine Fc.mk (callable Tryz.call57) Tryz.func57 rfl Tryz.ntmps57 rfl ?_; dsimp only [fr]
  repeat' (first | (refine XO.op rfl ?_; (first | ((first | refine Xo.ng rfl ?_); (first | (refine Xg.ev (EvF.mul64 rfl rfl rfl (by omega) (by omega)) rfl rfl ?_) | (refine Xg.ev (EvF.assign rfl rfl) rfl rfl ?_) | (refine Xg.ev (EvF.add64 rfl rfl rfl (by omega) (by omega)) rfl rfl ?_) | (refine Xg.ev (EvF.sub64 rfl rfl rfl (by omega) (by omega)) rfl rfl ?_) | (refine Xg.ev (EvF.fieldAddr rfl rfl (te rfl) rfl (te rfl) (by decide)) rfl rfl ?_) | (refine Xg.ev (EvF.loadV rfl rfl (LoadV.own (te rfl) rfl (List.Mem.head _) rfl)) rfl rfl ?_) | (refine Xg.st (StF.boxAgg rfl rfl) rfl rfl ?_; rintro _ _ ⟨bx, rfl, rfl⟩))))) | (refine XO.done rfl ?_; refine hK _ _ ?_; clear hK K) | refine X.seq rfl ?_ | refine X.region rfl (fun K hK => ?_) | refine X.ret rfl ?_)
  refine ret_one (by first | exact .inr rfl | exact .inl rfl) Tryz.results57 rfl (H' := H) (by (repeat (first | exact List.Sublist.refl _ | apply List.Sublist.cons)); done) ?_; simp only [and_true, true_and]
end Go.Proofs.YtjejppodhpdckaaGreat
end
section
set_option linter.unusedVariables false
set_option linter.unusedSimpArgs false
namespace Go.Proofs.YtjejppodhpdckaaGreat
open Go Go.Fw
set_option maxRecDepth 10000
def tsOnly : List TOp := [⟨some 3, [], [], []⟩, ⟨some 4, [0], [0], []⟩, ⟨some 5, [0, 1], [1], []⟩, ⟨some 6, [], [], []⟩, ⟨some 7, [3], [3], []⟩, ⟨some 8, [0, 1, 2, 3, 4], [4], []⟩, ⟨some 9, [0, 1, 2, 3, 4, 5], [2, 5], []⟩, ⟨none, [0, 1, 2, 3, 4, 5, 6], [6], [8]⟩, ⟨none, [], [], []⟩]
theorem only_spec (c : Cl) (H : List Row) : Fc Tryz.prog 45 [.agg (cCl c).toArray] H (fun v H' => v = .agg (cLo ⟨c.g, c.g, c.s, c.s⟩).toArray ∧ H' = H) := by
  refine Fc.mk (callable Tryz.call45) Tryz.func45 rfl Tryz.ntmps45 rfl ?_; dsimp only [fr]
  refine X.seq rfl ?_; refine X.region rfl (fun K hK => ?_); repeat' (first | (refine XO.op rfl ?_; (first | ((first | refine Xo.ng rfl ?_); (first | (refine Xg.st (StF.boxAgg rfl rfl) rfl rfl ?_; rintro _ _ ⟨bx, rfl, rfl⟩) | (refine Xg.st (StF.alloc rfl Tryz.zeroValue92 rfl) rfl rfl ?_; rintro _ _ ⟨bx, rfl, rfl⟩))))) | (refine XO.done rfl ?_; refine hK _ _ ?_; clear hK K))
  rename_i b1; rename Nat => br
  refine X.seq rfl ?_
  refine X.regionOb tsOnly [1, 2] [(1, .pointer (some ⟨b1, 0, none⟩)), (2, .pointer (some ⟨br, 0, none⟩))] (valL [.pointer (some ⟨b1, 0, none⟩), .int .i64 c.g, .agg (cSp ⟨c.g, c.g⟩).toArray, .pointer (some ⟨b1, 1, none⟩), .int .i64 c.s, .agg (cSp ⟨c.s, c.s⟩).toArray, .agg (cLo ⟨c.g, c.g, c.s, c.s⟩).toArray]) (rowsL 7 ⟨br, 0, cLo ⟨c.g, c.g, c.s, c.s⟩, some 92, 4⟩ ⟨br, 0, cLo ⟨0, 0, 0, 0⟩, some 92, 4⟩) (fun _ => (0, 0)) (⟨b1, 0, cCl c, some 27, 2⟩ :: H) rfl mixed (by (repeat (first | exact Sub.nil _ | refine Sub.cons rfl ?_)); done) rfl (by kernel_rfl) (fun _ _ _ _ _ _ => ⟨rfl, rfl⟩) (List.Sublist.refl _) ?_ ?_
  · repeat' (first | exact AllF.done rfl | (refine AllF.step rfl ?_ ?_; · (first | fail | ((first | refine Ob.ng rfl ?_); (first | exact ObK.pure (fun env R hR => by exact ⟨_, EvF.fieldAddr rfl rfl (te rfl) rfl (te rfl) (by decide), rfl⟩) rfl (fun _ => rfl) | exact ObK.pure (fun env R hR => by exact ⟨_, EvF.loadV rfl rfl (LoadV.own (te rfl) rfl (hR _ (List.Mem.head _)) rfl), rfl⟩) rfl (fun _ => rfl) | (exact fun env S hS => OpF.callV (Z := []) (EnF.st rfl (Args.cons rfl Args.nil)) (just_spec c.g _) rfl rfl) | (exact fun env S hS => OpF.callV (Z := []) (EnF.st rfl (Args.cons rfl Args.nil)) (just_spec c.s _) rfl rfl) | (exact ObK.pure (fun env S hS => ⟨_, EvF.build (cs := cLo ⟨c.g, c.g, c.s, c.s⟩) rfl (ArgsP.cons rfl (ArgsP.cons rfl ArgsP.nil)) (te rfl) (Places.cons (te rfl) (Places.cons (te rfl) Places.nil)) Tryz.zeroValue92 rfl, rfl⟩) rfl (fun _ => rfl)) | (exact fun env S hS => (StF.storeAll (i := 0) (vs := cLo ⟨c.g, c.g, c.s, c.s⟩) (cs := cLo ⟨0, 0, 0, 0⟩) rfl rfl rfl (te rfl) rfl rfl rfl rfl).op.mono (fun v H' ⟨hv, hH⟩ => ⟨(0, 0), fun h => absurd rfl h, by rw [hH]; exact List.Perm.refl _⟩)))))))
  · intro env t ha hv
    refine ⟨_, ha, ?_⟩
    show X _ _ _ _ (⟨br, 0, cLo ⟨c.g, c.g, c.s, c.s⟩, some 92, 4⟩ :: ⟨b1, 0, cCl c, some 27, 2⟩ :: H) _
    repeat' (first | (refine XO.op rfl ?_; (first | ((first | refine Xo.ng rfl ?_ | (refine Xo.g rfl rfl ?_; with_reducible refine Xw.tt ?_)); (first | (refine Xg.ev (EvF.move rfl rfl) rfl rfl ?_) | (refine Xg.ev (EvF.assign rfl rfl) rfl rfl ?_) | (refine Xg.ev (EvF.pickT rfl rfl rfl) rfl rfl ?_) | (refine Xg.ev (EvF.pickF rfl rfl rfl) rfl rfl ?_) | (refine Xg.ev (EvF.cmp rfl rfl rfl rfl) rfl rfl ?_) | (refine Xg.ev (EvF.fieldAddr rfl rfl (te rfl) rfl (te rfl) (by decide)) rfl rfl ?_) | (refine Xg.ev (EvF.loadV rfl rfl (LoadV.own (te rfl) rfl (List.Mem.head _) rfl)) rfl rfl ?_) | (refine Xg.ev (EvF.loadV rfl rfl (LoadV.own (te rfl) rfl (List.Mem.tail _ (List.Mem.head _)) rfl)) rfl rfl ?_) | (refine Xg.st (StF.boxAgg rfl rfl) rfl rfl ?_; rintro _ _ ⟨bx, rfl, rfl⟩))) | (refine Xo.g rfl rfl ?_; (first | (with_reducible refine Xw.ft rfl rfl ?_) | (with_reducible refine Xw.case (fun h => ?_) (fun h => ?_) <;> simp only [h, decide_true, decide_false, Bool.not_true, Bool.not_false, and_self, and_true, true_and, and_false, false_and]))))) | (refine XO.done rfl ?_; refine hK _ _ ?_; clear hK K) | refine X.seq rfl ?_ | refine X.region rfl (fun K hK => ?_) | refine X.ret rfl ?_)
    exact ret_one (by first | exact .inr rfl | exact .inl rfl) Tryz.results45 ⟨_, rfl, LoadV.whole (te rfl) rfl (List.Mem.head _) rfl⟩ (H' := H) (by (repeat (first | exact List.Sublist.refl _ | apply List.Sublist.cons)); done) ⟨rfl, rfl⟩
theorem value_spec (T : Tm) (p : Pt) (c : Cl) (H : List Row) (hT : TmOk H T p) (hG : tab T.G) (hS : tab T.S) (hp : -10000000 ≤ T.price ∧ T.price ≤ 10000000) (hg : 1 ≤ c.g ∧ c.g ≤ 9) (hs : 1 ≤ c.s ∧ c.s ≤ 9) :
    Fc Tryz.prog 48 [.agg (cTm T p).toArray, .agg (cCl c).toArray] H (fun v H' => v = .int .i64 (val T c.g c.s) ∧ H' = H) := by
  have h1 := at1_get hg hG.1
  have h2 := at1_get hs hS.1
  have q1 := hG.at1 hg
  have q2 := hS.at1 hs
  have lg := hG.1
  have ls := hS.1
  obtain ⟨b1, o1, e1, he1, _⟩ := hT.gr.elem (i := 0) (by omega)
  obtain ⟨b2, o2, e2, he2, _⟩ := hT.st.elem (i := 0) (by omega)
  have hT2 : ∀ r1 r2, TmOk (r1 :: r2 :: H) T p := fun r1 r2 => hT.sub (fun _ h => List.Mem.tail _ (List.Mem.tail _ h))
  obtain ⟨a1, c1, a2, c2⟩ := p
  simp only at he1 he2
  subst he1 he2
  refine Fc.mk (callable Tryz.call48) Tryz.func48 rfl Tryz.ntmps48 rfl ?_; dsimp only [fr]
  repeat' (first | (refine XO.op rfl ?_; (first | ((first | refine Xo.ng rfl ?_); (first | (refine Xg.ev (EvF.assign rfl rfl) rfl rfl ?_) | (refine Xg.st (StF.boxAgg rfl rfl) rfl rfl ?_; rintro _ _ ⟨bx, rfl, rfl⟩))))) | (refine XO.done rfl ?_; refine hK _ _ ?_; clear hK K) | (refine XQ.op rfl ?_; (first | ((first | refine Yo.ng rfl ?_); (first | (refine Yg.ev (EvF.indexSlice rfl rfl rfl (te rfl) (te rfl) (by omega) (by omega)) rfl rfl ?_) | (refine Yg.ev (EvF.loadV rfl rfl (LoadV.el0 (hT2 _ _).gr h1 (te rfl) rfl (fun _ hm => hm) rfl)) rfl rfl ?_) | (refine Yg.ev (EvF.loadV rfl rfl (LoadV.el0 (hT2 _ _).st h2 (te rfl) rfl (fun _ hm => hm) rfl)) rfl rfl ?_) | (refine Yg.ev (EvF.assign rfl rfl) rfl rfl ?_) | (refine Yg.ev (EvF.add64 rfl rfl rfl (by omega) (by omega)) rfl rfl ?_) | (refine Yg.ev (EvF.sub64 rfl rfl rfl (by omega) (by omega)) rfl rfl ?_) | (refine Yg.ev (EvF.fieldAddr rfl rfl (te rfl) rfl (te rfl) (by decide)) rfl rfl ?_) | (refine Yg.ev (EvF.loadV rfl rfl (LoadV.own (te rfl) rfl (List.Mem.head _) rfl)) rfl rfl ?_) | (refine Yg.ev (EvF.loadV rfl rfl (LoadV.own (te rfl) rfl (List.Mem.tail _ (List.Mem.head _)) rfl)) rfl rfl ?_))))) | (refine XQ.done rfl ?_; refine hK _ ?_; clear hK K) | refine X.seq rfl ?_ | refine X.region rfl (fun K hK => ?_) | refine X.regionD rfl mixed (by kernel_rfl) (fun K hK => ?_) | refine X.ret rfl ?_)
  refine ret_one (by first | exact .inr rfl | exact .inl rfl) Tryz.results48 rfl (H' := H) (by (repeat (first | exact List.Sublist.refl _ | apply List.Sublist.cons)); done) ?_; simp only [and_true, true_and]
  rfl
theorem allows_spec (T : Tm) (p : Pt) (c : Cl) (H : List Row) :
    Fc Tryz.prog 51 [.agg (cTm T p).toArray, .agg (cCl c).toArray] H (fun v H' => v = .bool (decide (c.g ≤ T.worst ∧ T.short ≤ c.s)) ∧ H' = H) := by
  refine Fc.mk (callable Tryz.call51) Tryz.func51 rfl Tryz.ntmps51 rfl ?_; dsimp only [fr]
  repeat' (first | (refine XO.op rfl ?_; (first | ((first | refine Xo.ng rfl ?_ | (refine Xo.g rfl rfl ?_; with_reducible refine Xw.tt ?_)); (first | (refine Xg.ev (EvF.move rfl rfl) rfl rfl ?_) | (refine Xg.ev (EvF.assign rfl rfl) rfl rfl ?_) | (refine Xg.ev (EvF.pickT rfl rfl rfl) rfl rfl ?_) | (refine Xg.ev (EvF.pickF rfl rfl rfl) rfl rfl ?_) | (refine Xg.ev (EvF.cmp rfl rfl rfl rfl) rfl rfl ?_) | (refine Xg.ev (EvF.fieldAddr rfl rfl (te rfl) rfl (te rfl) (by decide)) rfl rfl ?_) | (refine Xg.ev (EvF.loadV rfl rfl (LoadV.own (te rfl) rfl (List.Mem.head _) rfl)) rfl rfl ?_) | (refine Xg.ev (EvF.loadV rfl rfl (LoadV.own (te rfl) rfl (List.Mem.tail _ (List.Mem.head _)) rfl)) rfl rfl ?_) | (refine Xg.st (StF.boxAgg rfl rfl) rfl rfl ?_; rintro _ _ ⟨bx, rfl, rfl⟩))) | (refine Xo.g rfl rfl ?_; (first | (with_reducible refine Xw.ft rfl rfl ?_) | (with_reducible refine Xw.case (fun h => ?_) (fun h => ?_) <;> simp only [h, decide_true, decide_false, Bool.not_true, Bool.not_false, and_self, and_true, true_and, and_false, false_and]))))) | (refine XO.done rfl ?_; refine hK _ _ ?_; clear hK K) | refine X.seq rfl ?_ | refine X.region rfl (fun K hK => ?_) | refine X.ret rfl ?_)
  all_goals (refine ret_one (by first | exact .inr rfl | exact .inl rfl) Tryz.results51 rfl (H' := H) (by (repeat (first | exact List.Sublist.refl _ | apply List.Sublist.cons)); done) ?_; simp only [and_true, true_and])
  all_goals (congr 1; simp [*])
/-- the numbers of a span -/
def ir (a b : Int) : List Int := (List.range (b - a + 1).toNat).map (fun i : Nat => a + i)
theorem ir_get {a b : Int} {k : Nat} (h : (k : Int) < b - a + 1) : (ir a b)[k]? = some (a + k) := by
  unfold ir
  rw [List.getElem?_map, List.getElem?_range (by omega)]; rfl
theorem ir_len (a b : Int) : (ir a b).length = (b - a + 1).toNat := by unfold ir; simp
def may (T : Tm) (c : Cl) : Bool := decide (c.g ≤ T.worst ∧ T.short ≤ c.s)
def rowC (T : Tm) (g : Int) (l : List Int) : List Cl := (l.map (fun s => (⟨g, s⟩ : Cl))).filter (may T)
def clsI (T : Tm) (l : Lo) (gs : List Int) : List Cl := gs.flatMap (fun g => rowC T g (ir l.s1 l.s2))
/-- the classes of a lot that may be delivered -/
def cls (T : Tm) (l : Lo) : List Cl := clsI T l (ir l.g1 l.g2)
theorem cls_split (T : Tm) (l : Lo) {k : Nat} (h : (k : Int) < l.g2 - l.g1 + 1) : cls T l = clsI T l ((ir l.g1 l.g2).take k) ++ (rowC T (l.g1 + k) (ir l.s1 l.s2) ++ clsI T l ((ir l.g1 l.g2).drop (k + 1))) := by
  unfold cls
  conv => lhs; rw [← List.take_append_drop k (ir l.g1 l.g2), drop_cons (ir_get h)]
  unfold clsI
  rw [List.flatMap_append, List.flatMap_cons]
theorem rowC_split (T : Tm) (g : Int) (l : Lo) {j : Nat} (h : (j : Int) < l.s2 - l.s1 + 1) : rowC T g (ir l.s1 l.s2) = rowC T g ((ir l.s1 l.s2).take j) ++ ((if may T ⟨g, l.s1 + j⟩ then [⟨g, l.s1 + j⟩] else []) ++ rowC T g ((ir l.s1 l.s2).drop (j + 1))) := by
  conv => lhs; rw [← List.take_append_drop j (ir l.s1 l.s2), drop_cons (ir_get h)]
  unfold rowC
  rw [List.map_append, List.filter_append, List.map_cons, List.filter_cons]
  split <;> simp
theorem rowC_snoc (T : Tm) (g : Int) (l : Lo) {j : Nat} (h : (j : Int) < l.s2 - l.s1 + 1) : rowC T g ((ir l.s1 l.s2).take (j + 1)) = rowC T g ((ir l.s1 l.s2).take j) ++ (if may T ⟨g, l.s1 + j⟩ then [⟨g, l.s1 + j⟩] else []) := by
  rw [take_snoc (ir_get h)]
  unfold rowC
  rw [List.map_append, List.filter_append]
  congr 1
  simp only [List.map_cons, List.map_nil, List.filter_cons, List.filter_nil]
theorem clsI_snoc (T : Tm) (l : Lo) {k : Nat} (h : (k : Int) < l.g2 - l.g1 + 1) : clsI T l ((ir l.g1 l.g2).take (k + 1)) = clsI T l ((ir l.g1 l.g2).take k) ++ rowC T (l.g1 + k) (ir l.s1 l.s2) := by
  rw [take_snoc (ir_get h)]
  unfold clsI
  rw [List.flatMap_append]; simp
theorem classes_spec (T : Tm) (p : Pt) (l : Lo) (H : List Row) :
    Fc Tryz.prog 71 [.agg (cTm T p).toArray, .agg (cLo l).toArray] H (fun v H' => ∃ bl bo, v = .func (.func 106) #[] #[.pointer (some ⟨bl, 0, none⟩), .pointer (some ⟨bo, 0, none⟩)] ∧ H' = ⟨bl, 0, cLo l, some 92, 4⟩ :: ⟨bo, 0, cTm T p, some 99, 11⟩ :: H) := by
  refine Fc.mk (callable Tryz.call71) Tryz.func71 rfl Tryz.ntmps71 rfl ?_; dsimp only [fr]
  repeat' (first | (refine XO.op rfl ?_; (first | ((first | refine Xo.ng rfl ?_); (first | (refine Xg.ev (EvF.makeFunc rfl Args.nil (Args.cons rfl (Args.cons rfl Args.nil))) rfl rfl ?_) | (refine Xg.ev (EvF.assign rfl rfl) rfl rfl ?_) | (refine Xg.st (StF.boxAgg rfl rfl) rfl rfl ?_; rintro _ _ ⟨bx, rfl, rfl⟩))))) | (refine XO.done rfl ?_; refine hK _ _ ?_; clear hK K) | refine X.seq rfl ?_ | refine X.region rfl (fun K hK => ?_) | refine X.ret rfl ?_)
  exact ret_one (by first | exact .inr rfl | exact .inl rfl) Tryz.results71 rfl (H' := _) (List.Sublist.refl _) ⟨_, _, rfl, rfl⟩
end Go.Proofs.YtjejppodhpdckaaGreat
end
section
set_option linter.unusedVariables false
set_option linter.unusedSimpArgs false
namespace Go.Proofs.YtjejppodhpdckaaGreat
open Go Go.Fw
set_option maxRecDepth 10000
theorem classes1_it (T : Tm) (p : Pt) (l : Lo) (bl bo capl capo : Nat) (owl owo : Option Kd) (E : List Row) (hl : ⟨bl, 0, cLo l, owl, capl⟩ ∈ E) (ho : ⟨bo, 0, cTm T p, owo, capo⟩ ∈ E)
    (h : (-1000 ≤ l.g1 ∧ l.g1 ≤ 1000) ∧ (-1000 ≤ l.g2 ∧ l.g2 ≤ 1000) ∧ (-1000 ≤ l.s1 ∧ l.s1 ≤ 1000) ∧ (-1000 ≤ l.s2 ∧ l.s2 ≤ 1000)) :
    Itf Tryz.prog 106 [.pointer (some ⟨bl, 0, none⟩), .pointer (some ⟨bo, 0, none⟩)] E (cls T l) (fun c => [.agg (cCl c).toArray]) := by
  refine ⟨callable Tryz.call106, fun y J Jx Hc h0 hY => ?_⟩
  have hl0 : ∀ Z : List Row, (⟨bl, 0, cLo l, owl, capl⟩ : Row) ∈ Z ++ E := fun Z => List.mem_append_right _ hl
  have ho0 : ∀ Z : List Row, (⟨bo, 0, cTm T p, owo, capo⟩ : Row) ∈ Z ++ E := fun Z => List.mem_append_right _ ho
  refine Fc.mk (callable Tryz.call106) Tryz.func106 rfl Tryz.ntmps106 rfl ?_; dsimp only [fr]
  repeat' (first | (refine XO.op rfl ?_; (first | ((first | refine Xo.ng rfl ?_); (first | (refine Xg.ev (EvF.loadV rfl rfl (LoadV.own (te rfl) rfl (hl0 _) rfl)) rfl rfl ?_) | (refine Xg.ev (EvF.assign rfl rfl) rfl rfl ?_) | (refine Xg.ev (EvF.fieldAddr rfl rfl (te rfl) rfl (te rfl) (by decide)) rfl rfl ?_))))) | (refine XO.done rfl ?_; refine hK _ _ ?_; clear hK K) | refine X.seq rfl ?_ | refine X.region rfl (fun K hK => ?_) | refine X.block rfl ?_)
  refine X.lp rfl (fun m F' H' => ∃ (k : Nat) (Hc : List Row), m = (l.g2 - l.g1 + 1).toNat - k ∧ k ≤ (l.g2 - l.g1 + 1).toNat ∧ J (clsI T l ((ir l.g1 l.g2).take k)) Hc ∧ H' = Hc ++ E ∧
      F' = [(0, .func (.yield y) #[] #[]), (1, .pointer (some ⟨bl, 0, none⟩)), (2, .pointer (some ⟨bo, 0, none⟩)), (4, .int .i64 (l.g1 + k))])
    _ [(0, .func (.yield y) #[] #[]), (1, .pointer (some ⟨bl, 0, none⟩)), (2, .pointer (some ⟨bo, 0, none⟩)), (4, .int .i64 (l.g1 + (0 : Nat)))] _ (by rw [show l.g1 + ((0 : Nat) : Int) = l.g1 by omega]; exact (by (repeat (first | exact Sub.nil _ | refine Sub.cons rfl ?_)); done)) (List.Sublist.refl _) ⟨0, Hc, rfl, by omega, h0, rfl, rfl⟩ ?_
  rintro _ _ _ ⟨k, Hc, rfl, hk, hJ, rfl, rfl⟩
  repeat' (first | (refine XO.op rfl ?_; (first | ((first | refine Xo.ng rfl ?_); (first | (refine Xg.ev (EvF.loadV rfl rfl (LoadV.own (te rfl) rfl (hl0 _) rfl)) rfl rfl ?_) | (refine Xg.ev (EvF.move rfl rfl) rfl rfl ?_) | (refine Xg.ev (EvF.assign rfl rfl) rfl rfl ?_) | (refine Xg.ev (EvF.cmp rfl rfl rfl rfl) rfl rfl ?_) | (refine Xg.ev (EvF.fieldAddr rfl rfl (te rfl) rfl (te rfl) (by decide)) rfl rfl ?_))))) | (refine XO.done rfl ?_; refine hK _ _ ?_; clear hK K) | refine X.seq rfl ?_ | refine X.region rfl (fun K hK => ?_) | refine X.block rfl ?_ | (refine X.brk rfl ?_; repeat (first | refine blockX_hit rfl ?_ | refine blockX_miss (by decide) ?_)) | refine X.skip rfl ?_ | (refine X.ite rfl rfl (fun hc => ?_); (first | (with_reducible refine Xb.case hc (fun h => ?_) (fun h => ?_))) <;> clear hc))
  · rename_i hle
    have hk1 : (k : Int) < l.g2 - l.g1 + 1 := by omega
    refine X.lp rfl (fun m F' H' => ∃ (j : Nat) (Hc : List Row), m = (l.s2 - l.s1 + 1).toNat - j ∧ j ≤ (l.s2 - l.s1 + 1).toNat ∧ J (clsI T l ((ir l.g1 l.g2).take k) ++ rowC T (l.g1 + k) ((ir l.s1 l.s2).take j)) Hc ∧ H' = Hc ++ E ∧
        F' = [(0, .func (.yield y) #[] #[]), (1, .pointer (some ⟨bl, 0, none⟩)), (2, .pointer (some ⟨bo, 0, none⟩)), (4, .int .i64 (l.g1 + k)), (5, .int .i64 (l.s1 + j))])
      _ [(0, .func (.yield y) #[] #[]), (1, .pointer (some ⟨bl, 0, none⟩)), (2, .pointer (some ⟨bo, 0, none⟩)), (4, .int .i64 (l.g1 + k)), (5, .int .i64 (l.s1 + (0 : Nat)))] _ (by rw [show l.s1 + ((0 : Nat) : Int) = l.s1 by omega]; exact (by (repeat (first | exact Sub.nil _ | refine Sub.cons rfl ?_)); done)) (List.Sublist.refl _) ⟨0, Hc, rfl, by omega, by simpa [rowC] using hJ, rfl, rfl⟩ ?_
    rintro _ _ _ ⟨j, Hc, rfl, hj, hJ, rfl, rfl⟩
    repeat' (first | (refine XO.op rfl ?_; (first | ((first | refine Xo.ng rfl ?_); (first | (refine Xg.ev (EvF.loadV rfl rfl (LoadV.own (te rfl) rfl (hl0 _) rfl)) rfl rfl ?_) | (refine Xg.ev (EvF.move rfl rfl) rfl rfl ?_) | (refine Xg.ev (EvF.assign rfl rfl) rfl rfl ?_) | (refine Xg.ev (EvF.cmp rfl rfl rfl rfl) rfl rfl ?_) | (refine Xg.ev (EvF.add64 rfl rfl rfl (by omega) (by omega)) rfl rfl ?_) | (refine Xg.ev (EvF.fieldAddr rfl rfl (te rfl) rfl (te rfl) (by decide)) rfl rfl ?_))))) | (refine XO.done rfl ?_; refine hK _ _ ?_; clear hK K) | refine X.seq rfl ?_ | refine X.region rfl (fun K hK => ?_) | refine X.block rfl ?_ | (refine X.brk rfl ?_; repeat (first | refine blockX_hit rfl ?_ | refine blockX_miss (by decide) ?_)) | refine X.skip rfl ?_ | (refine X.ite rfl rfl (fun hc => ?_); (first | (with_reducible refine Xb.case hc (fun h => ?_) (fun h => ?_))) <;> clear hc))
    · have hj1 : (j : Int) < l.s2 - l.s1 + 1 := by omega
      have hpre : may T ⟨l.g1 + k, l.s1 + j⟩ = true → (clsI T l ((ir l.g1 l.g2).take k) ++ rowC T (l.g1 + k) ((ir l.s1 l.s2).take j)) ++ [⟨l.g1 + k, l.s1 + j⟩] <+: cls T l := by
        intro hm
        rw [cls_split T l hk1, rowC_split T (l.g1 + k) l hj1, if_pos hm]
        simp only [List.append_assoc]
        exact (List.prefix_append_right_inj _).2 ((List.prefix_append_right_inj _).2 (List.prefix_append _ _))
      have hsn := rowC_snoc T (l.g1 + k) l hj1
      repeat' (first | (refine XO.op rfl ?_; (first | ((first | refine Xo.ng rfl ?_ | (refine Xo.g rfl rfl ?_; with_reducible refine Xw.tt ?_)); (first | (refine Xg.call (EnF.st rfl (Args.cons rfl (Args.cons rfl Args.nil))) rfl rfl (class_spec _ _ _) ?_; rintro _ H9 ⟨rfl, hH9⟩; subst H9) | (refine Xg.ev (EvF.loadV rfl rfl (LoadV.whole (te rfl) rfl (List.Mem.tail _ (ho0 _)) rfl)) rfl rfl ?_) | (refine Xg.call (EnF.st rfl (Args.cons rfl (Args.cons rfl Args.nil))) rfl rfl (allows_spec T p ⟨l.g1 + k, l.s1 + j⟩ _) ?_; rintro _ H9 ⟨rfl, hH9⟩; subst H9) | (refine Xg.yield rfl rfl (Args.cons rfl Args.nil) rfl rfl ((hY _ ⟨l.g1 + k, l.s1 + j⟩ Hc (hpre (decide_eq_true (by assumption))) hJ _).permR List.perm_middle.symm) ?_; rintro _ _ ⟨Hc', rfl, ⟨rfl, hJ'⟩ | ⟨rfl, hJ'⟩⟩) | (refine Xg.ev (EvF.move rfl rfl) rfl rfl ?_) | (refine Xg.ev (EvF.assign rfl rfl) rfl rfl ?_) | (refine Xg.ev (EvF.pickT rfl rfl rfl) rfl rfl ?_) | (refine Xg.ev (EvF.pickF rfl rfl rfl) rfl rfl ?_) | (refine Xg.ev (EvF.add64 rfl rfl rfl (by omega) (by omega)) rfl rfl ?_) | (refine Xg.ev (EvF.not rfl rfl) rfl rfl ?_) | (refine Xg.ev (EvF.loadV rfl rfl (LoadV.whole (te rfl) rfl (List.Mem.head _) rfl)) rfl rfl ?_) | (refine Xg.st (StF.alloc rfl Tryz.zeroValue30 rfl) rfl rfl ?_; rintro _ _ ⟨bx, rfl, rfl⟩) | (refine Xg.st0 (StF.storeAll (i := 0) rfl rfl rfl (te rfl) rfl rfl rfl rfl) rfl ?_; rintro _ _ ⟨rfl, rfl⟩; dsimp only [List.set]))) | (refine Xo.g rfl rfl ?_; (first | (with_reducible refine Xw.ft rfl rfl ?_) | (with_reducible refine Xw.case (fun h => ?_) (fun h => ?_) <;> simp only [h, decide_true, decide_false, Bool.not_true, Bool.not_false, and_self, and_true, true_and, and_false, false_and]))))) | (refine XO.done rfl ?_; refine hK _ _ ?_; clear hK K) | refine X.seq rfl ?_ | refine X.region rfl (fun K hK => ?_) | refine X.skip rfl ?_ | refine X.ret rfl ?_ | (refine X.ite rfl rfl (fun hc => ?_); (first | (with_reducible refine Xb.f hc ?_) | (with_reducible refine Xb.caseB hc (fun h => ?_) (fun h => ?_))) <;> clear hc))
      all_goals try (exfalso; contradiction)
      · -- the round goes on
        refine ⟨_, [(0, .func (.yield y) #[] #[]), (1, .pointer (some ⟨bl, 0, none⟩)), (2, .pointer (some ⟨bo, 0, none⟩)), (4, .int .i64 (l.g1 + k)), (5, .int .i64 (l.s1 + (j + 1 : Nat)))], Hc' ++ E, (by rw [show l.s1 + ((j + 1 : Nat) : Int) = l.s1 + j + 1 by omega]; exact (by (repeat (first | exact Sub.nil _ | refine Sub.cons rfl ?_)); done)), List.Sublist.append (List.Sublist.refl _) (List.sublist_cons_self _ _), ⟨j + 1, Hc', rfl, by omega, ?_, rfl, rfl⟩, by omega⟩
        rw [hsn, if_pos (show may T ⟨l.g1 + k, l.s1 + j⟩ = true from decide_eq_true (by assumption)), ← List.append_assoc]; exact hJ'
      · -- no more
        refine ret_none (by first | exact .inr rfl | exact .inl rfl) Tryz.results106 (H' := Hc' ++ E) (List.Sublist.append (List.Sublist.refl _) (List.sublist_cons_self _ _)) ⟨Hc', rfl, .inr ⟨_, hpre (decide_eq_true (by assumption)), hJ'⟩⟩
      · -- it may not be delivered
        refine ⟨_, [(0, .func (.yield y) #[] #[]), (1, .pointer (some ⟨bl, 0, none⟩)), (2, .pointer (some ⟨bo, 0, none⟩)), (4, .int .i64 (l.g1 + k)), (5, .int .i64 (l.s1 + (j + 1 : Nat)))], Hc ++ E, (by rw [show l.s1 + ((j + 1 : Nat) : Int) = l.s1 + j + 1 by omega]; exact (by (repeat (first | exact Sub.nil _ | refine Sub.cons rfl ?_)); done)), (by (repeat (first | exact List.Sublist.refl _ | apply List.Sublist.cons_cons | apply List.Sublist.cons)); done), ⟨j + 1, Hc, rfl, by omega, ?_, rfl, rfl⟩, by omega⟩
        rw [hsn, if_neg (by unfold may; rw [decide_eq_false (by assumption)]; decide), List.append_nil]; exact hJ
    · -- the row is over
      refine ⟨_, [(0, .func (.yield y) #[] #[]), (1, .pointer (some ⟨bl, 0, none⟩)), (2, .pointer (some ⟨bo, 0, none⟩)), (4, .int .i64 (l.g1 + (k + 1 : Nat)))], Hc ++ E, (by rw [show l.g1 + ((k + 1 : Nat) : Int) = l.g1 + k + 1 by omega]; exact (by (repeat (first | exact Sub.nil _ | refine Sub.cons rfl ?_)); done)), (by (repeat (first | exact List.Sublist.refl _ | apply List.Sublist.cons_cons | apply List.Sublist.cons)); done), ⟨k + 1, Hc, rfl, by omega, ?_, rfl, rfl⟩, by omega⟩
      rw [clsI_snoc T l hk1]
      rw [List.take_of_length_le (i := j) (by rw [ir_len]; omega)] at hJ
      exact hJ
  · refine ret_none (by first | exact .inr rfl | exact .inl rfl) Tryz.results106 (H' := Hc ++ E) (by (repeat (first | exact List.Sublist.refl _ | apply List.Sublist.cons_cons | apply List.Sublist.cons)); done) ⟨Hc, rfl, .inl ?_⟩
    rw [List.take_of_length_le (by rw [ir_len]; omega)] at hJ
    exact hJ
theorem count_spec (T : Tm) (p : Pt) (l : Lo) (H : List Row) (h : (1 ≤ l.g1 ∧ l.g1 ≤ 9) ∧ (1 ≤ l.g2 ∧ l.g2 ≤ 9) ∧ (1 ≤ l.s1 ∧ l.s1 ≤ 9) ∧ (1 ≤ l.s2 ∧ l.s2 ≤ 9)) (hn : (cls T l).length ≤ 1000) :
    Fc Tryz.prog 55 [.agg (cTm T p).toArray, .agg (cLo l).toArray] H (fun v H' => v = .int .i64 (cls T l).length ∧ H' = H) := by
  refine Fc.mkT (callable Tryz.call55) Tryz.func55 rfl Tryz.ntmps55 rfl ?_
  dsimp only [fr]
  refine XT.seq rfl (XT.of0 ?_)
  repeat' (first | (refine XO.op rfl ?_; (first | ((first | refine Xo.ng rfl ?_); (first | (refine Xg.ev (EvF.assign rfl rfl) rfl rfl ?_) | (refine Xg.ev (EvF.add64 rfl rfl rfl (by omega) (by omega)) rfl rfl ?_) | (refine Xg.ev (EvF.loadV rfl rfl (LoadV.own (te rfl) rfl (List.Mem.head _) rfl)) rfl rfl ?_) | (refine Xg.st (StF.boxAgg rfl rfl) rfl rfl ?_; rintro _ _ ⟨bx, rfl, rfl⟩) | (refine Xg.st (StF.alloc rfl Tryz.zeroValue3 rfl) rfl rfl ?_; rintro _ _ ⟨bx, rfl, rfl⟩) | (refine Xg.st0 (StF.storeOne (i := 0) rfl rfl rfl rfl (te rfl) rfl rfl (Nat.le_of_ble_eq_true rfl)) rfl ?_; rintro _ _ ⟨rfl, rfl⟩; dsimp only [List.set]))))) | (refine XO.done rfl ?_; refine hK _ _ ?_; clear hK K) | refine X.region rfl (fun K hK => ?_) | refine X.block rfl ?_ | refine X.skip rfl ?_ | refine X.ret rfl ?_)
  refine XT.seq rfl (XT.of0 ?_)
  repeat' (first | (refine XO.op rfl ?_; (first | ((first | refine Xo.ng rfl ?_); (first | (refine Xg.ev (EvF.assign rfl rfl) rfl rfl ?_) | (refine Xg.ev (EvF.add64 rfl rfl rfl (by omega) (by omega)) rfl rfl ?_) | (refine Xg.ev (EvF.loadV rfl rfl (LoadV.own (te rfl) rfl (List.Mem.head _) rfl)) rfl rfl ?_) | (refine Xg.st (StF.boxAgg rfl rfl) rfl rfl ?_; rintro _ _ ⟨bx, rfl, rfl⟩) | (refine Xg.st (StF.alloc rfl Tryz.zeroValue3 rfl) rfl rfl ?_; rintro _ _ ⟨bx, rfl, rfl⟩) | (refine Xg.st0 (StF.storeOne (i := 0) rfl rfl rfl rfl (te rfl) rfl rfl (Nat.le_of_ble_eq_true rfl)) rfl ?_; rintro _ _ ⟨rfl, rfl⟩; dsimp only [List.set]))))) | (refine XO.done rfl ?_; refine hK _ _ ?_; clear hK K) | refine X.region rfl (fun K hK => ?_) | refine X.block rfl ?_ | refine X.skip rfl ?_ | refine X.ret rfl ?_)
  refine XT.seq rfl (XT.seq rfl (XT.of0 ?_))
  repeat' (first | (refine XO.op rfl ?_; (first | ((first | refine Xo.ng rfl ?_); (first | (refine Xg.call (EnF.st rfl (by (repeat (first | exact Args.nil | refine Args.cons rfl ?_)); done)) rfl rfl (classes_spec T p l _) ?_; rintro _ _ ⟨bl, bo, rfl, rfl⟩) | (refine Xg.ev (EvF.loadV rfl rfl (LoadV.whole (te rfl) rfl (List.Mem.tail _ (List.Mem.head _)) rfl)) rfl rfl ?_) | (refine Xg.ev (EvF.loadV rfl rfl (LoadV.whole (te rfl) rfl (List.Mem.tail _ (List.Mem.tail _ (List.Mem.head _))) rfl)) rfl rfl ?_))))) | (refine XO.done rfl ?_; refine hK _ _ ?_; clear hK K) | refine X.region rfl (fun K hK => ?_))
  refine XT.block rfl ?_
  refine XT.weak (F' := [(5, .pointer (some ⟨bx, 0, none⟩)), (8, .func (.func 106) #[] #[.pointer (some ⟨bl, 0, none⟩), .pointer (some ⟨bo, 0, none⟩)])]) (H' := ⟨bl, 0, cLo l, some 92, 4⟩ :: ⟨bo, 0, cTm T p, some 99, 11⟩ :: ⟨bx, 0, [.int .i64 (0 : Nat)], some 3, 1⟩ :: H) (by (repeat (first | exact Sub.nil _ | refine Sub.cons rfl ?_)); done) (by (repeat (first | exact List.Sublist.refl _ | apply List.Sublist.cons_cons | apply List.Sublist.cons)); done) ?_
  refine XT.perm (H' := [⟨bx, 0, [.int .i64 (0 : Nat)], some 3, 1⟩] ++ (⟨bl, 0, cLo l, some 92, 4⟩ :: ⟨bo, 0, cTm T p, some 99, 11⟩ :: H)) (List.perm_middle (l₁ := [_, _])).symm ?_
  refine XT.range (ps := [9]) rfl rfl (classes1_it T p l bl bo _ _ _ _ _ (List.Mem.head _) (List.Mem.tail _ (List.Mem.head _)) (by omega)) rfl (fun _ => rfl) (fun pre Hb => Hb = [⟨bx, 0, [.int .i64 pre.length], some 3, 1⟩]) (fun _ _ => False) _ rfl rfl ?_ ?_ (fun _ _ h => h.elim) (fun _ _ _ h => h.elim) (fun _ _ h => h.elim)
  · rintro pre x _ hpre rfl Z
    have hlen := pre_len hpre
    repeat' (first | (refine XO.op rfl ?_; (first | ((first | refine Xo.ng rfl ?_); (first | (refine Xg.ev (EvF.assign rfl rfl) rfl rfl ?_) | (refine Xg.ev (EvF.add64 rfl rfl rfl (by omega) (by omega)) rfl rfl ?_) | (refine Xg.ev (EvF.loadV rfl rfl (LoadV.own (te rfl) rfl (List.Mem.head _) rfl)) rfl rfl ?_) | (refine Xg.st (StF.boxAgg rfl rfl) rfl rfl ?_; rintro _ _ ⟨bx, rfl, rfl⟩) | (refine Xg.st (StF.alloc rfl Tryz.zeroValue3 rfl) rfl rfl ?_; rintro _ _ ⟨bx, rfl, rfl⟩) | (refine Xg.st0 (StF.storeOne (i := 0) rfl rfl rfl rfl (te rfl) rfl rfl (Nat.le_of_ble_eq_true rfl)) rfl ?_; rintro _ _ ⟨rfl, rfl⟩; dsimp only [List.set]))))) | (refine XO.done rfl ?_; refine hK _ _ ?_; clear hK K) | refine X.region rfl (fun K hK => ?_) | refine X.block rfl ?_ | refine X.skip rfl ?_ | refine X.ret rfl ?_)
    refine ⟨rfl, _, List.Sublist.refl _, fun Z' => ?_⟩
    simp only [List.cons_append, List.nil_append]
    repeat' (first | (refine XO.op rfl ?_; (first | ((first | refine Xo.ng rfl ?_); (first | (refine Xg.ev (EvF.assign rfl rfl) rfl rfl ?_) | (refine Xg.ev (EvF.add64 rfl rfl rfl (by omega) (by omega)) rfl rfl ?_) | (refine Xg.ev (EvF.loadV rfl rfl (LoadV.own (te rfl) rfl (List.Mem.head _) rfl)) rfl rfl ?_) | (refine Xg.st (StF.boxAgg rfl rfl) rfl rfl ?_; rintro _ _ ⟨bx, rfl, rfl⟩) | (refine Xg.st (StF.alloc rfl Tryz.zeroValue3 rfl) rfl rfl ?_; rintro _ _ ⟨bx, rfl, rfl⟩) | (refine Xg.st0 (StF.storeOne (i := 0) rfl rfl rfl rfl (te rfl) rfl rfl (Nat.le_of_ble_eq_true rfl)) rfl ?_; rintro _ _ ⟨rfl, rfl⟩; dsimp only [List.set]))))) | (refine XO.done rfl ?_; refine hK _ _ ?_; clear hK K) | refine X.region rfl (fun K hK => ?_) | refine X.block rfl ?_ | refine X.skip rfl ?_ | refine X.ret rfl ?_)
    exact ⟨[⟨bx, 0, [.int .i64 (pre.length + 1)], some 3, 1⟩], List.Sublist.refl _, by simp⟩
  · rintro D _ rfl
    refine XT.seq rfl (XT.of1 ?_)
    repeat' (first | (refine XO.op rfl ?_; (first | ((first | refine Xo.ng rfl ?_); (first | (refine Xg.ev (EvF.assign rfl rfl) rfl rfl ?_) | (refine Xg.ev (EvF.add64 rfl rfl rfl (by omega) (by omega)) rfl rfl ?_) | (refine Xg.ev (EvF.loadV rfl rfl (LoadV.own (te rfl) rfl (List.Mem.head _) rfl)) rfl rfl ?_) | (refine Xg.st (StF.boxAgg rfl rfl) rfl rfl ?_; rintro _ _ ⟨bx, rfl, rfl⟩) | (refine Xg.st (StF.alloc rfl Tryz.zeroValue3 rfl) rfl rfl ?_; rintro _ _ ⟨bx, rfl, rfl⟩) | (refine Xg.st0 (StF.storeOne (i := 0) rfl rfl rfl rfl (te rfl) rfl rfl (Nat.le_of_ble_eq_true rfl)) rfl ?_; rintro _ _ ⟨rfl, rfl⟩; dsimp only [List.set]))))) | (refine XO.done rfl ?_; refine hK _ _ ?_; clear hK K) | refine X.region rfl (fun K hK => ?_) | refine X.block rfl ?_ | refine X.skip rfl ?_ | refine X.ret rfl ?_)
    refine ⟨_, List.Sublist.refl _, XT.of1 ?_⟩
    repeat' (first | (refine XO.op rfl ?_; (first | ((first | refine Xo.ng rfl ?_); (first | (refine Xg.ev (EvF.assign rfl rfl) rfl rfl ?_) | (refine Xg.ev (EvF.add64 rfl rfl rfl (by omega) (by omega)) rfl rfl ?_) | (refine Xg.ev (EvF.loadV rfl rfl (LoadV.own (te rfl) rfl (List.Mem.head _) rfl)) rfl rfl ?_) | (refine Xg.st (StF.boxAgg rfl rfl) rfl rfl ?_; rintro _ _ ⟨bx, rfl, rfl⟩) | (refine Xg.st (StF.alloc rfl Tryz.zeroValue3 rfl) rfl rfl ?_; rintro _ _ ⟨bx, rfl, rfl⟩) | (refine Xg.st0 (StF.storeOne (i := 0) rfl rfl rfl rfl (te rfl) rfl rfl (Nat.le_of_ble_eq_true rfl)) rfl ?_; rintro _ _ ⟨rfl, rfl⟩; dsimp only [List.set]))))) | (refine XO.done rfl ?_; refine hK _ _ ?_; clear hK K) | refine X.region rfl (fun K hK => ?_) | refine X.block rfl ?_ | refine X.skip rfl ?_ | refine X.ret rfl ?_)
    exact ⟨H, (by (repeat (first | exact List.Sublist.refl _ | apply List.Sublist.cons_cons | apply List.Sublist.cons)); done), retT_one (by first | exact .inr rfl | exact .inl rfl) Tryz.results55 rfl (List.Sublist.refl _) ⟨rfl, rfl⟩⟩
end Go.Proofs.YtjejppodhpdckaaGreat
end
section
set_option linter.unusedVariables false
set_option linter.unusedSimpArgs false
namespace Go.Proofs.YtjejppodhpdckaaGreat
open Go Go.Fw
set_option maxRecDepth 10000
def tsHc : List TOp := [⟨some 3, [], [], []⟩, ⟨some 4, [], [], []⟩, ⟨some 5, [1], [1], []⟩, ⟨some 6, [1, 2], [2], []⟩, ⟨some 7, [1, 2, 3], [3], []⟩, ⟨some 8, [0, 1, 2, 3, 4], [0, 4], [4]⟩, ⟨some 9, [0, 1, 2, 3, 4, 5], [5], []⟩, ⟨some 10, [0, 1, 2, 3, 4, 5, 6], [], []⟩, ⟨some 11, [0, 1, 2, 3, 4, 5, 6], [], []⟩, ⟨some 12, [0, 1, 2, 3, 4, 5, 6, 8], [8], []⟩, ⟨some 13, [0, 1, 2, 3, 4, 5, 6, 8, 9], [9], []⟩, ⟨some 14, [0, 1, 2, 3, 4, 5, 6, 8, 9, 10], [10], []⟩, ⟨some 15, [0, 1, 2, 3, 4, 5, 6, 7, 8, 9, 10, 11], [7, 11], [11]⟩, ⟨some 16, [0, 1, 2, 3, 4, 5, 6, 7, 8, 9, 10, 11, 12], [6, 12], []⟩, ⟨some 17, [0, 1, 2, 3, 4, 5, 6, 7, 8, 9, 10, 11, 12, 13], [13], []⟩, ⟨some 18, [0, 1, 2, 3, 4, 5, 6, 7, 8, 9, 10, 11, 12, 13, 14], [], []⟩, ⟨some 19, [0, 1, 2, 3, 4, 5, 6, 7, 8, 9, 10, 11, 12, 13, 14, 15], [15], []⟩, ⟨some 20, [0, 1, 2, 3, 4, 5, 6, 7, 8, 9, 10, 11, 12, 13, 14, 15, 16], [16], []⟩, ⟨some 21, [0, 1, 2, 3, 4, 5, 6, 7, 8, 9, 10, 11, 12, 13, 14, 15, 16, 17], [17], []⟩, ⟨some 22, [0, 1, 2, 3, 4, 5, 6, 7, 8, 9, 10, 11, 12, 13, 14], [], []⟩, ⟨some 23, [0, 1, 2, 3, 4, 5, 6, 7, 8, 9, 10, 11, 12, 13, 14, 19], [19], []⟩, ⟨some 24, [0, 1, 2, 3, 4, 5, 6, 7, 8, 9, 10, 11, 12, 13, 14, 19, 20], [20], []⟩, ⟨some 25, [0, 1, 2, 3, 4, 5, 6, 7, 8, 9, 10, 11, 12, 13, 14, 15, 16, 17, 18, 19, 20, 21], [18, 21], [21]⟩, ⟨some 26, [0, 1, 2, 3, 4, 5, 6, 7, 8, 9, 10, 11, 12, 13, 14, 15, 16, 17, 18, 19, 20, 21, 22], [14, 22], []⟩, ⟨some 27, [0, 1, 2, 3, 4, 5, 6, 7, 8, 9, 10, 11, 12, 13, 14, 15, 16, 17, 18, 19, 20, 21, 22, 23], [23], []⟩, ⟨some 28, [0, 1, 2, 3, 4, 5, 6, 7, 8, 9, 10, 11, 12, 13, 14, 15, 16, 17, 18, 19, 20, 21, 22, 23, 24], [], []⟩, ⟨some 29, [0, 1, 2, 3, 4, 5, 6, 7, 8, 9, 10, 11, 12, 13, 14, 15, 16, 17, 18, 19, 20, 21, 22, 23, 24, 25], [25], []⟩, ⟨some 30, [0, 1, 2, 3, 4, 5, 6, 7, 8, 9, 10, 11, 12, 13, 14, 15, 16, 17, 18, 19, 20, 21, 22, 23, 24, 25, 26], [26], []⟩, ⟨some 31, [0, 1, 2, 3, 4, 5, 6, 7, 8, 9, 10, 11, 12, 13, 14, 15, 16, 17, 18, 19, 20, 21, 22, 23, 24, 25, 26, 27], [27], []⟩, ⟨some 32, [0, 1, 2, 3, 4, 5, 6, 7, 8, 9, 10, 11, 12, 13, 14, 15, 16, 17, 18, 19, 20, 21, 22, 23, 24], [], []⟩, ⟨some 33, [0, 1, 2, 3, 4, 5, 6, 7, 8, 9, 10, 11, 12, 13, 14, 15, 16, 17, 18, 19, 20, 21, 22, 23, 24, 29], [29], []⟩, ⟨some 34, [0, 1, 2, 3, 4, 5, 6, 7, 8, 9, 10, 11, 12, 13, 14, 15, 16, 17, 18, 19, 20, 21, 22, 23, 24, 29, 30], [30], []⟩, ⟨some 35, [0, 1, 2, 3, 4, 5, 6, 7, 8, 9, 10, 11, 12, 13, 14, 15, 16, 17, 18, 19, 20, 21, 22, 23, 24, 25, 26, 27, 28, 29, 30, 31], [28, 31], [31]⟩, ⟨some 36, [0, 1, 2, 3, 4, 5, 6, 7, 8, 9, 10, 11, 12, 13, 14, 15, 16, 17, 18, 19, 20, 21, 22, 23, 24, 25, 26, 27, 28, 29, 30, 31, 32], [24, 32], []⟩, ⟨some 2, [0, 1, 2, 3, 4, 5, 6, 7, 8, 9, 10, 11, 12, 13, 14, 15, 16, 17, 18, 19, 20, 21, 22, 23, 24, 25, 26, 27, 28, 29, 30, 31, 32, 33], [33], []⟩]
def valHc (b1 : Nat) (T : Tm) (p : Pt) (w0 w1 w2 w3 : Bool) (k : Nat) (env : Env) : Value :=
  match k with
  | 0 => .agg (cSp ⟨1, 9⟩).toArray
  | 1 => .pointer (some ⟨b1, 0, none⟩)
  | 2 => .pointer (some ⟨b1, 0, none⟩)
  | 3 => .int .i64 T.g
  | 4 => .slice (some ⟨(env 4).1, 0, none⟩) 1 1
  | 5 => .bool w0
  | 6 => .bool w0
  | 7 => gt (!w0) (.agg (cSp ⟨1, 9⟩).toArray)
  | 8 => gt (!w0) (.pointer (some ⟨b1, 0, none⟩))
  | 9 => gt (!w0) (.pointer (some ⟨b1, 1, none⟩))
  | 10 => gt (!w0) (.int .i64 T.s)
  | 11 => gt (!w0) (.slice (some ⟨(env 11).1, 0, none⟩) 1 1)
  | 12 => gt (!w0) (.bool w1)
  | 13 => .bool (w0 && w1)
  | 14 => .bool (w0 && w1)
  | 15 => gt (!(w0 && w1)) (.pointer (some ⟨b1, 0, none⟩))
  | 16 => gt (!(w0 && w1)) (.pointer (some ⟨b1, 0, none⟩))
  | 17 => gt (!(w0 && w1)) (.int .i64 T.g)
  | 18 => gt (!(w0 && w1)) (.agg (cSp ⟨T.g, 9⟩).toArray)
  | 19 => gt (!(w0 && w1)) (.pointer (some ⟨b1, 3, none⟩))
  | 20 => gt (!(w0 && w1)) (.int .i64 T.worst)
  | 21 => gt (!(w0 && w1)) (.slice (some ⟨(env 21).1, 0, none⟩) 1 1)
  | 22 => gt (!(w0 && w1)) (.bool w2)
  | 23 => .bool ((w0 && w1) && w2)
  | 24 => .bool ((w0 && w1) && w2)
  | 25 => gt (!((w0 && w1) && w2)) (.pointer (some ⟨b1, 0, none⟩))
  | 26 => gt (!((w0 && w1) && w2)) (.pointer (some ⟨b1, 1, none⟩))
  | 27 => gt (!((w0 && w1) && w2)) (.int .i64 T.s)
  | 28 => gt (!((w0 && w1) && w2)) (.agg (cSp ⟨1, T.s⟩).toArray)
  | 29 => gt (!((w0 && w1) && w2)) (.pointer (some ⟨b1, 4, none⟩))
  | 30 => gt (!((w0 && w1) && w2)) (.int .i64 T.short)
  | 31 => gt (!((w0 && w1) && w2)) (.slice (some ⟨(env 31).1, 0, none⟩) 1 1)
  | 32 => gt (!((w0 && w1) && w2)) (.bool w3)
  | 33 => .bool (((w0 && w1) && w2) && w3)
  | 34 => .bool (((w0 && w1) && w2) && w3)
  | _ => undef
def rowsHc (b1 : Nat) (T : Tm) (p : Pt) (w0 w1 w2 w3 : Bool) (k : Nat) (env : Env) : List Row :=
  match k with
  | 4 => [⟨(env 4).1, 0, [.int .i64 T.g], some 3, 1 * 1⟩]
  | 11 => gr (!w0) [⟨(env 11).1, 0, [.int .i64 T.s], some 3, 1 * 1⟩]
  | 21 => gr (!(w0 && w1)) [⟨(env 21).1, 0, [.int .i64 T.worst], some 3, 1 * 1⟩]
  | 31 => gr (!((w0 && w1) && w2)) [⟨(env 31).1, 0, [.int .i64 T.short], some 3, 1 * 1⟩]
  | _ => []
theorem locHc (b1 : Nat) (T : Tm) (p : Pt) (w0 w1 w2 w3 : Bool) : ∀ k env i q9, i ≠ k → (tAt tsHc k).sup.contains i = false → valHc b1 T p w0 w1 w2 w3 k (upd env i q9) = valHc b1 T p w0 w1 w2 w3 k env ∧ rowsHc b1 T p w0 w1 w2 w3 k (upd env i q9) = rowsHc b1 T p w0 w1 w2 w3 k env := by
  intro k env i q hk hs
  have hu : ∀ j, j ≠ i → upd env i q j = env j := fun j hj => by unfold upd; rw [if_neg hj]
  match k, hk, hs with
  | 0, _, _ => exact ⟨rfl, rfl⟩
  | 1, _, _ => exact ⟨rfl, rfl⟩
  | 2, _, _ => exact ⟨rfl, rfl⟩
  | 3, _, _ => exact ⟨rfl, rfl⟩
  | 4, hk, hs => exact ⟨by simp only [valHc, hu 4 (fun e => hk e.symm)], by simp only [rowsHc, hu 4 (fun e => hk e.symm)]⟩
  | 5, _, _ => exact ⟨rfl, rfl⟩
  | 6, _, _ => exact ⟨rfl, rfl⟩
  | 7, _, _ => exact ⟨rfl, rfl⟩
  | 8, _, _ => exact ⟨rfl, rfl⟩
  | 9, _, _ => exact ⟨rfl, rfl⟩
  | 10, _, _ => exact ⟨rfl, rfl⟩
  | 11, hk, hs => exact ⟨by simp only [valHc, hu 11 (fun e => hk e.symm)], by simp only [rowsHc, hu 11 (fun e => hk e.symm)]⟩
  | 12, _, _ => exact ⟨rfl, rfl⟩
  | 13, _, _ => exact ⟨rfl, rfl⟩
  | 14, _, _ => exact ⟨rfl, rfl⟩
  | 15, _, _ => exact ⟨rfl, rfl⟩
  | 16, _, _ => exact ⟨rfl, rfl⟩
  | 17, _, _ => exact ⟨rfl, rfl⟩
  | 18, _, _ => exact ⟨rfl, rfl⟩
  | 19, _, _ => exact ⟨rfl, rfl⟩
  | 20, _, _ => exact ⟨rfl, rfl⟩
  | 21, hk, hs => exact ⟨by simp only [valHc, hu 21 (fun e => hk e.symm)], by simp only [rowsHc, hu 21 (fun e => hk e.symm)]⟩
  | 22, _, _ => exact ⟨rfl, rfl⟩
  | 23, _, _ => exact ⟨rfl, rfl⟩
  | 24, _, _ => exact ⟨rfl, rfl⟩
  | 25, _, _ => exact ⟨rfl, rfl⟩
  | 26, _, _ => exact ⟨rfl, rfl⟩
  | 27, _, _ => exact ⟨rfl, rfl⟩
  | 28, _, _ => exact ⟨rfl, rfl⟩
  | 29, _, _ => exact ⟨rfl, rfl⟩
  | 30, _, _ => exact ⟨rfl, rfl⟩
  | 31, hk, hs => exact ⟨by simp only [valHc, hu 31 (fun e => hk e.symm)], by simp only [rowsHc, hu 31 (fun e => hk e.symm)]⟩
  | 32, _, _ => exact ⟨rfl, rfl⟩
  | 33, _, _ => exact ⟨rfl, rfl⟩
  | 34, _, _ => exact ⟨rfl, rfl⟩
  | _ + 35, _, _ => exact ⟨rfl, rfl⟩
set_option maxHeartbeats 8000000 in
theorem hasClasses_spec (T : Tm) (p : Pt) (H : List Row) : Fc Tryz.prog 82 [.agg (cTm T p).toArray] H (fun v H' => v = .bool (decide ((1 ≤ T.g ∧ T.g ≤ 9) ∧ (1 ≤ T.s ∧ T.s ≤ 9) ∧ (T.g ≤ T.worst ∧ T.worst ≤ 9) ∧ (1 ≤ T.short ∧ T.short ≤ T.s))) ∧ H' = H) := by
  obtain ⟨w0, e0⟩ : ∃ b, decide (1 ≤ T.g ∧ T.g ≤ 9) = b := ⟨_, rfl⟩
  obtain ⟨w1, e1⟩ : ∃ b, decide (1 ≤ T.s ∧ T.s ≤ 9) = b := ⟨_, rfl⟩
  obtain ⟨w2, e2⟩ : ∃ b, decide (T.g ≤ T.worst ∧ T.worst ≤ 9) = b := ⟨_, rfl⟩
  obtain ⟨w3, e3⟩ : ∃ b, decide (1 ≤ T.short ∧ T.short ≤ T.s) = b := ⟨_, rfl⟩
  refine Fc.mk (callable Tryz.call82) Tryz.func82 rfl Tryz.ntmps82 rfl ?_; dsimp only [fr]
  refine X.seq rfl ?_; refine X.region rfl (fun K hK => ?_); repeat' (first | (refine XO.op rfl ?_; (first | ((first | refine Xo.ng rfl ?_); (first | (refine Xg.ev (EvF.assign rfl rfl) rfl rfl ?_) | (refine Xg.st (StF.boxAgg rfl rfl) rfl rfl ?_; rintro _ _ ⟨bx, rfl, rfl⟩))))) | (refine XO.done rfl ?_; refine hK _ _ ?_; clear hK K))
  rename Nat => b1
  refine X.seq rfl ?_
  refine X.regionOb tsHc [1] [(1, .pointer (some ⟨b1, 0, none⟩))] (valHc b1 T p w0 w1 w2 w3) (rowsHc b1 T p w0 w1 w2 w3) (fun _ => (0, 0)) (⟨b1, 0, cTm T p, some 32, 11⟩ :: H) rfl mixed (by (repeat (first | exact Sub.nil _ | refine Sub.cons rfl ?_)); done) rfl (by kernel_rfl) (locHc b1 T p w0 w1 w2 w3) (List.Sublist.refl _) ?_ ?_
  · cases w0; rotate_left; cases w1; rotate_left; cases w2; rotate_left; cases w3
    all_goals repeat' (first | exact AllF.done rfl | (refine AllF.step rfl ?_ ?_; · (first | exact Ob.sk rfl rfl (fun _ => rfl) (fun _ => rfl) (fun _ => rfl) (fun _ => rfl) | ((first | refine Ob.ng rfl ?_ | refine Ob.g rfl rfl (fun _ => rfl) ?_); (first | exact ObK.pure (fun env R hR => by exact ⟨_, EvF.move rfl rfl, rfl⟩) rfl (fun _ => rfl) | exact ObK.pure (fun env R hR => by exact ⟨_, EvF.assign rfl rfl, rfl⟩) rfl (fun _ => rfl) | exact ObK.pure (fun env R hR => by exact ⟨_, EvF.pickT rfl rfl rfl, rfl⟩) rfl (fun _ => rfl) | exact ObK.pure (fun env R hR => by exact ⟨_, EvF.pickF rfl rfl rfl, rfl⟩) rfl (fun _ => rfl) | exact ObK.pure (fun env R hR => by exact ⟨_, EvF.fieldAddr rfl rfl (te rfl) rfl (te rfl) (by decide), rfl⟩) rfl (fun _ => rfl) | exact ObK.pure (fun env R hR => by exact ⟨_, EvF.loadV rfl rfl (LoadV.own (te rfl) rfl (hR _ (List.Mem.head _)) rfl), rfl⟩) rfl (fun _ => rfl) | (exact fun env S hS => (StF.buildOne rfl elI rfl rfl rfl (by decide) (by decide)).op.mono (fun v H' ⟨b, hv, hH⟩ => ⟨(b, 0), fun _ => hv, by rw [hH]; exact List.Perm.refl _⟩)) | (exact ObK.pure (fun env S hS => ⟨_, EvF.build (cs := cSp ⟨T.g, 9⟩) rfl (ArgsP.cons rfl (ArgsP.cons rfl ArgsP.nil)) (te rfl) (Places.cons (te rfl) (Places.cons (te rfl) Places.nil)) Tryz.zeroValue30 rfl, rfl⟩) rfl (fun _ => rfl)) | (exact ObK.pure (fun env S hS => ⟨_, EvF.build (cs := cSp ⟨1, T.s⟩) rfl (ArgsP.cons rfl (ArgsP.cons rfl ArgsP.nil)) (te rfl) (Places.cons (te rfl) (Places.cons (te rfl) Places.nil)) Tryz.zeroValue30 rfl, rfl⟩) rfl (fun _ => rfl)) | (exact fun env S hS => OpF.callV (Z := []) (EnF.st rfl Args.nil) (anyGrade_spec _) rfl rfl) | (exact fun env S hS => OpF.callV (Z := []) (EnF.st rfl Args.nil) (anyStaple_spec _) rfl rfl) | (exact fun env S hS => OpF.callV (EnF.st rfl (Args.cons rfl (Args.cons rfl Args.nil))) (within1_spec ⟨1, 9⟩ T.g _ _ _ _ _ (List.Mem.head _)) (by rw [e0]; rfl) rfl) | (exact fun env S hS => OpF.callV (EnF.st rfl (Args.cons rfl (Args.cons rfl Args.nil))) (within1_spec ⟨1, 9⟩ T.s _ _ _ _ _ (List.Mem.head _)) (by rw [e1]; rfl) rfl) | (exact fun env S hS => OpF.callV (EnF.st rfl (Args.cons rfl (Args.cons rfl Args.nil))) (within1_spec ⟨T.g, 9⟩ T.worst _ _ _ _ _ (List.Mem.head _)) (by rw [e2]; rfl) rfl) | (exact fun env S hS => OpF.callV (EnF.st rfl (Args.cons rfl (Args.cons rfl Args.nil))) (within1_spec ⟨1, T.s⟩ T.short _ _ _ _ _ (List.Mem.head _)) (by rw [e3]; rfl) rfl))))))
  · intro env t ha hv
    refine ⟨[(2, .bool (((w0 && w1) && w2) && w3))], ?_, ?_⟩
    · exact (ha.sub (F' := []) (Sub.nil _)).cons (hv 34 2 (Nat.le_of_ble_eq_true rfl) rfl)
    · show X _ _ _ _ (⟨b1, 0, cTm T p, some 32, 11⟩ :: H) _
      repeat' (first | refine X.ret rfl ?_)
      refine ret_one (by first | exact .inr rfl | exact .inl rfl) Tryz.results82 rfl (H' := H) (by (repeat (first | exact List.Sublist.refl _ | apply List.Sublist.cons)); done) ?_; simp only [and_true, true_and]
      rw [← e0, ← e1, ← e2, ← e3]
      simp [and_assoc, Bool.and_assoc]
theorem hasNumbers_spec (T : Tm) (p : Pt) (H : List Row) : Fc Tryz.prog 83 [.agg (cTm T p).toArray] H (fun v H' => v = .bool (decide ((1 ≤ T.price ∧ T.price ≤ 1000000) ∧ (T.dl ≤ T.dh ∧ 0 ≤ T.dl ∧ T.dh ≤ 60) ∧ (1 ≤ T.bales ∧ T.bales ≤ 20) ∧ (0 ≤ T.fee ∧ T.fee ≤ 1000))) ∧ H' = H) := by
  refine Fc.mk (callable Tryz.call83) Tryz.func83 rfl Tryz.ntmps83 rfl ?_; dsimp only [fr]
  repeat' (first | (refine XO.op rfl ?_; (first | ((first | refine Xo.ng rfl ?_ | (refine Xo.g rfl rfl ?_; with_reducible refine Xw.tt ?_)); (first | (refine Xg.ev (EvF.build (cs := cSp ⟨1, 1000000⟩) rfl (ArgsP.cons rfl (ArgsP.cons rfl ArgsP.nil)) (te rfl) (Places.cons (te rfl) (Places.cons (te rfl) Places.nil)) Tryz.zeroValue30 rfl) rfl rfl ?_) | (refine Xg.ev (EvF.build (cs := cSp ⟨1, 20⟩) rfl (ArgsP.cons rfl (ArgsP.cons rfl ArgsP.nil)) (te rfl) (Places.cons (te rfl) (Places.cons (te rfl) Places.nil)) Tryz.zeroValue30 rfl) rfl rfl ?_) | (refine Xg.ev (EvF.build (cs := cSp ⟨0, 1000⟩) rfl (ArgsP.cons rfl (ArgsP.cons rfl ArgsP.nil)) (te rfl) (Places.cons (te rfl) (Places.cons (te rfl) Places.nil)) Tryz.zeroValue30 rfl) rfl rfl ?_) | (refine Xg.st (StF.buildOne rfl elI rfl rfl rfl (by decide) (by decide)) rfl rfl ?_; rintro _ _ ⟨bs, rfl, rfl⟩) | (refine Xg.call (EnF.st rfl (Args.cons rfl (Args.cons rfl Args.nil))) rfl rfl (within1_spec ⟨1, 1000000⟩ _ _ _ _ _ _ (List.Mem.head _)) ?_; rintro _ H9 ⟨rfl, hH9⟩; subst H9) | (refine Xg.call (EnF.st rfl (Args.cons rfl (Args.cons rfl Args.nil))) rfl rfl (within1_spec ⟨1, 20⟩ _ _ _ _ _ _ (List.Mem.head _)) ?_; rintro _ H9 ⟨rfl, hH9⟩; subst H9) | (refine Xg.call (EnF.st rfl (Args.cons rfl (Args.cons rfl Args.nil))) rfl rfl (within1_spec ⟨0, 1000⟩ _ _ _ _ _ _ (List.Mem.head _)) ?_; rintro _ H9 ⟨rfl, hH9⟩; subst H9) | (refine Xg.call (EnF.st rfl (Args.cons rfl (Args.cons rfl (Args.cons rfl Args.nil)))) rfl rfl (part_spec ⟨T.dl, T.dh⟩ _ _ _) ?_; rintro _ H9 ⟨rfl, hH9⟩; subst H9) | (refine Xg.ev (EvF.move rfl rfl) rfl rfl ?_) | (refine Xg.ev (EvF.assign rfl rfl) rfl rfl ?_) | (refine Xg.ev (EvF.pickT rfl rfl rfl) rfl rfl ?_) | (refine Xg.ev (EvF.pickF rfl rfl rfl) rfl rfl ?_) | (refine Xg.ev (EvF.fieldAddr rfl rfl (te rfl) rfl (te rfl) (by decide)) rfl rfl ?_) | (refine Xg.ev (EvF.loadV rfl rfl (LoadV.own (te rfl) rfl (List.Mem.head _) rfl)) rfl rfl ?_) | (refine Xg.ev (EvF.loadV rfl rfl (LoadV.own (te rfl) rfl (List.Mem.tail _ (List.Mem.head _)) rfl)) rfl rfl ?_) | (refine Xg.ev (EvF.loadV rfl rfl (LoadV.own (te rfl) rfl (List.Mem.tail _ (List.Mem.tail _ (List.Mem.head _))) rfl)) rfl rfl ?_) | (refine Xg.ev (EvF.loadV rfl rfl (LoadV.ownAgg (te rfl) rfl (List.Mem.tail _ (List.Mem.head _)) rfl rfl)) rfl rfl ?_) | (refine Xg.st (StF.boxAgg rfl rfl) rfl rfl ?_; rintro _ _ ⟨bx, rfl, rfl⟩))) | (refine Xo.g rfl rfl ?_; (first | (with_reducible refine Xw.ft rfl rfl ?_) | (with_reducible refine Xw.case (fun h => ?_) (fun h => ?_) <;> simp only [h, decide_true, decide_false, Bool.not_true, Bool.not_false, and_self, and_true, true_and, and_false, false_and]))))) | (refine XO.done rfl ?_; refine hK _ _ ?_; clear hK K) | refine X.seq rfl ?_ | refine X.region rfl (fun K hK => ?_) | refine X.ret rfl ?_)
  all_goals (refine ret_one (by first | exact .inr rfl | exact .inl rfl) Tryz.results83 rfl (H' := H) (by (repeat (first | exact List.Sublist.refl _ | apply List.Sublist.cons)); done) ?_; simp only [and_true, true_and])
  all_goals (congr 1; (try dsimp only at *); (try simp [*]))
  all_goals try omega
theorem areTables_spec (l m : List Int) (a a' : Option Addr) (c c' : Nat) (H : List Row) (hl : SlE H a cI 1 l) (hm : SlE H a' cI 1 m) (h1 : l.length ≤ 1000000) (h2 : m.length ≤ 1000000) :
    Fc Tryz.prog 116 [.slice a l.length c, .slice a' m.length c'] H (fun v H' => v = .bool (decide (l.length = 9 ∧ m.length = 9 ∧ (∀ n ∈ l, -1000 ≤ n ∧ n ≤ 1000) ∧ (∀ n ∈ m, -1000 ≤ n ∧ n ≤ 1000))) ∧ H' = H) := by
  refine Fc.mk (callable Tryz.call116) Tryz.func116 rfl Tryz.ntmps116 rfl ?_; dsimp only [fr]
  repeat' (first | (refine XO.op rfl ?_; (first | ((first | refine Xo.ng rfl ?_ | (refine Xo.g rfl rfl ?_; with_reducible refine Xw.tt ?_)); (first | (refine Xg.ev (EvF.build (cs := cSp ⟨-1000, 1000⟩) rfl (ArgsP.cons rfl (ArgsP.cons rfl ArgsP.nil)) (te rfl) (Places.cons (te rfl) (Places.cons (te rfl) Places.nil)) Tryz.zeroValue30 rfl) rfl rfl ?_) | (refine Xg.call (EnF.st rfl (Args.cons rfl (Args.cons rfl Args.nil))) rfl rfl (withinL_spec ⟨-1000, 1000⟩ l a c _ (hl.sub (fun _ h => List.Mem.tail _ h)) (by omega)) ?_; rintro _ H9 ⟨rfl, hH9⟩; subst H9) | (refine Xg.call (EnF.st rfl (Args.cons rfl (Args.cons rfl Args.nil))) rfl rfl (withinL_spec ⟨-1000, 1000⟩ m a' c' _ (hm.sub (fun _ h => List.Mem.tail _ h)) (by omega)) ?_; rintro _ H9 ⟨rfl, hH9⟩; subst H9) | (refine Xg.ev (EvF.move rfl rfl) rfl rfl ?_) | (refine Xg.ev (EvF.assign rfl rfl) rfl rfl ?_) | (refine Xg.ev (EvF.pickT rfl rfl rfl) rfl rfl ?_) | (refine Xg.ev (EvF.pickF rfl rfl rfl) rfl rfl ?_) | (refine Xg.ev (EvF.cmp rfl rfl rfl rfl) rfl rfl ?_) | (refine Xg.ev (EvF.lenSlice rfl rfl (te rfl)) rfl rfl ?_) | (refine Xg.ev (EvF.loadV rfl rfl (LoadV.whole (te rfl) rfl (List.Mem.head _) rfl)) rfl rfl ?_) | (refine Xg.st (StF.alloc rfl Tryz.zeroValue30 rfl) rfl rfl ?_; rintro _ _ ⟨bx, rfl, rfl⟩) | (refine Xg.st0 (StF.storeAll (i := 0) rfl rfl rfl (te rfl) rfl rfl rfl rfl) rfl ?_; rintro _ _ ⟨rfl, rfl⟩; dsimp only [List.set]))) | (refine Xo.g rfl rfl ?_; (first | (with_reducible refine Xw.ft rfl rfl ?_) | (with_reducible refine Xw.case (fun h => ?_) (fun h => ?_) <;> simp only [h, decide_true, decide_false, Bool.not_true, Bool.not_false, and_self, and_true, true_and, and_false, false_and]) | (with_reducible refine Xw.caseB (fun h => ?_) (fun h => ?_) <;> simp only [h, decide_true, decide_false, Bool.not_true, Bool.not_false, and_self, and_true, true_and, and_false, false_and]))))) | (refine XO.done rfl ?_; refine hK _ _ ?_; clear hK K) | refine X.seq rfl ?_ | refine X.region rfl (fun K hK => ?_) | refine X.ret rfl ?_)
  all_goals (refine ret_one (by first | exact .inr rfl | exact .inl rfl) Tryz.results116 rfl (H' := H) (by (repeat (first | exact List.Sublist.refl _ | apply List.Sublist.cons)); done) ?_; simp only [and_true, true_and])
  all_goals (try dsimp only at *)
  all_goals first
    | (congr 1; exact decide_eq_decide.2 ⟨fun q => ⟨by omega, by omega, by assumption, q⟩, fun q => q.2.2.2⟩)
    | (congr 1; exact (decide_eq_false (fun q => by first | omega | (exact absurd q.2.2.1 (by assumption)) | (simp_all; done))).symm)
    | (exfalso; simp_all; done)
theorem cloneI_spec (l : List Int) (ad : Addr) (c : Nat) (H : List Row) (hl : SlE H (some ad) cI 1 l) (hb : l.length ≤ 1000000) :
    Fc Tryz.prog 112 [.slice (some ad) l.length c] H (fun v H' => ∃ b k, v = .slice (some ⟨b, 0, none⟩) l.length k ∧ H' = ⟨b, 0, l.flatMap cI, some 3, k * 1⟩ :: H) := by
  refine Fc.mk (callable Tryz.call112) Tryz.func112 rfl Tryz.ntmps112 rfl ?_; dsimp only [fr]
  repeat' (first | (refine XO.op rfl ?_; (first | ((first | refine Xo.ng rfl ?_); (first | (refine Xg.ev (EvF.eqNil rfl rfl (te rfl)) rfl rfl ?_) | (refine Xg.st (StF.buildNil rfl elI) rfl rfl ?_; rintro _ _ ⟨bn, rfl, rfl⟩) | (refine Xg.st (StF.appendSl (i := 0) rfl elI rfl rfl rfl (hl.sub (fun _ h => List.mem_cons_of_mem _ h)) (fun e _ => one_i e) rfl (by decide) (by omega)) rfl rfl ?_; rintro _ _ ⟨b, k, rfl, rfl⟩; dsimp only [List.eraseIdx]) | (refine Xg.ev (EvF.move rfl rfl) rfl rfl ?_) | (refine Xg.ev (EvF.assign rfl rfl) rfl rfl ?_))))) | (refine XO.done rfl ?_; refine hK _ _ ?_; clear hK K) | refine X.seq rfl ?_ | refine X.region rfl (fun K hK => ?_) | refine X.skip rfl ?_ | refine X.ret rfl ?_ | (refine X.ite rfl rfl (fun hc => ?_); (first | (with_reducible refine Xb.f hc ?_)) <;> clear hc))
  exact ret_one (by first | exact .inr rfl | exact .inl rfl) Tryz.results112 rfl (H' := _) (List.Sublist.refl _) ⟨_, _, by rw [Nat.zero_add], rfl⟩
end Go.Proofs.YtjejppodhpdckaaGreat
end
