/- Own work: regions that draw their order, with guards and calls. No condition. -/
import Derived.Test.YtmljpmcipcoaaaaFw3
import Derived.Test.YtmljpmcipcoaaaaFr
import Derived.Orders
namespace Go.Fw
open Go Go.RowKit
/-! ## Regions that draw their order: operations with guards, and calls -/
def bv : Value → Option Bool
  | .bool b => some b
  | _ => none
theorem yielded_bv {ops : Array Oper} {t : List Value} {j d : Nat} {o : Oper} {v : Value} (ho : ops[j]? = some o) (hd : o.dst = some d) (hv : t[d]? = some v) : yielded ops t.toArray j = bv v := by
  unfold yielded
  simp only [ho, Option.bind_some, hd, List.getElem?_toArray, hv]
  cases v <;> rfl
def okOp2 (ts : List TOp) (dom : List Nat) (n m : Nat) (i : Nat) (o : Oper) : Bool :=
  let T := tAt ts i
  (match o.guard with | some (j, _) => T.sup.contains j | none => true) && (o.dst == T.dst) &&
  (match T.dst with | some d => decide (d < n) && !dom.contains d && (List.range i).all (fun j => (tAt ts j).dst != some d) | none => true) &&
  o.after.toList.all (fun e => !Region.binds .any e || decide (e.on < i)) &&
  T.sup.all (fun j => decide (j < i) && o.after.toList.any (fun e => Region.binds .any e && (e.on == j || (tAt ts e.on).sup.contains j))) &&
  T.deps.all (fun j => T.sup.contains j) && T.kills.all (fun k => T.sup.contains k || decide (m ≤ k ∧ k < ts.length))
def okReg2 (ops : Array Oper) (ts : List TOp) (dom : List Nat) (n : Nat) : Bool :=
  decide (ops.size ≤ ts.length) && ops.toList.zipIdx.all (fun p => okOp2 ts dom n ops.size p.2 p.1) && decide ((ts.flatMap (·.kills)).Nodup) && (ts.drop ops.size).all (fun T => T.kills.isEmpty && T.sup.isEmpty)


/-- An operation, whatever it does: a value, a turn of the rows, or a call. -/
def OpF (P : Program) (n : Nat) (H : List Row) (F : FS) (o : Oper) (K : Value → List Row → Prop) : Prop := ∀ t, Ag n F t → ∀ B w0 w, St B w0 H w → ∀ (k : Act → World → Prop) (Q : Exit → Act → World → Prop),
  (∀ v w' H', St B w0 H' w' → K v H' → k ⟨(put t o.dst v).toArray, []⟩ w') → o.wp P ⟨t.toArray, []⟩ w k Q
theorem StF.op {P : Program} {n : Nat} {H : List Row} {F : FS} {o : Oper} {K : Value → List Row → Prop} (h : StF P n H F o K) : OpF P n H F o K := by
  intro t ha B w0 w hS k Q hk
  unfold StF StepOp at h
  obtain ⟨v, w', H', hrun, hS', hK⟩ := h t ha B w0 w hS
  unfold Oper.wp
  rw [eval_ev]
  rcases hrun with hrun | ⟨hrun, rfl⟩
  · rw [hrun, Oper.upon_value, put_act]; exact hk v w' H' hS' hK
  · rw [hrun, Oper.upon_skip, put_act]; exact hk undef w' H' hS' hK
theorem OpF.call {P : Program} {n : Nat} {H : List Row} {F : FS} {o : Oper} {f : FuncId} {args : List Value} {R : Value → List Row → Prop} (he : Callable P f → EnF P n H F o f args) (hf : Fc P f args H R) : OpF P n H F o R := by
  intro t ha B w0 w hS k Q hk
  unfold Fc at hf
  have h1 := he hf.1
  unfold EnF EnOp at h1
  unfold Oper.wp
  rw [eval_ev, h1 t ha B w0 w hS, Oper.upon_enter]
  refine (hf.2 B w0 w hS).mono ?_
  rintro e w' ⟨v, H', rfl, hR, hS'⟩
  simp only [put_act]
  exact hk v w' H' hS' hR
theorem OpF.mono {P : Program} {n : Nat} {H : List Row} {F : FS} {o : Oper} {K K' : Value → List Row → Prop} (h : OpF P n H F o K) (hk : ∀ v H', K v H' → K' v H') : OpF P n H F o K' :=
  fun t ha B w0 w hS k Q hQ => h t ha B w0 w hS k Q (fun v w' H' hS' hK => hQ v w' H' hS' (hk v H' hK))
theorem OpF.drop {P : Program} {n : Nat} {H : List Row} {F : FS} {o : Oper} {K K' : Value → List Row → Prop} (h : OpF P n H F o K) (hk : ∀ v H', K v H' → ∃ H'', H''.Sublist H' ∧ K' v H'') : OpF P n H F o K' :=
  fun t ha B w0 w hS k Q hQ => h t ha B w0 w hS k Q (fun v w' H' hS' hK => let ⟨H'', hs, hK'⟩ := hk v H' hK; hQ v w' H'' (hS'.sub hs) hK')
/-- a call whose result alone is kept -/
theorem OpF.callV {P : Program} {n : Nat} {Z R : List Row} {F : FS} {o : Oper} {f : FuncId} {args : List Value} {v0 : Value} {g : Nat × Nat → Value} {q : Prop} {rw' : Nat × Nat → List Row} (he : Callable P f → EnF P n (Z ++ R) F o f args) (hf : Fc P f args (Z ++ R) (fun v H' => v = v0 ∧ H' = Z ++ R)) (hv : v0 = g (0, 0)) (hr : rw' (0, 0) = []) :
    OpF P n (Z ++ R) F o (fun u H' => ∃ p, (q → u = g p) ∧ H'.Perm (rw' p ++ R)) :=
  (OpF.call he hf).drop fun v H' ⟨h1, h2⟩ => ⟨R, by rw [h2]; exact List.sublist_append_right _ _, (0, 0), fun _ => h1.trans hv, by rw [hr]; exact List.Perm.refl _⟩
def gt (g : Bool) (v : Value) : Value := match g with | true => undef | false => v
def gr (g : Bool) (l : List Row) : List Row := match g with | true => [] | false => l
def Ob (P : Program) (n : Nat) (ts : List TOp) (val : Nat → Env → Value) (rows : Nat → Env → List Row) (F0 : FS) (R0 : List Row) (i : Nat) (o : Oper) : Prop :=
  ((o.guard = none ∨ ∃ j w, o.guard = some (j, w) ∧ (tAt ts j).dst ≠ none ∧ ∀ env, bv (val j env) = some w) ∧
    ∀ env R, (∀ r ∈ R0, r ∈ R) → OpF P n ((tAt ts i).kills.flatMap (fun k => rows k env) ++ R) (fdeps ts val env F0 (tAt ts i).deps) o
      (fun v H' => ∃ p, ((tAt ts i).dst ≠ none → v = val i (upd env i p)) ∧ H'.Perm (rows i (upd env i p) ++ R))) ∨
  (∃ j w, o.guard = some (j, w) ∧ (tAt ts j).dst ≠ none ∧ (∀ env, bv (val j env) ≠ some w) ∧ (∀ env, (tAt ts i).kills.flatMap (fun k => rows k env) = []) ∧ (∀ env, val i env = undef) ∧ ∀ env, rows i env = [])
def ObR (P : Program) (n : Nat) (ts : List TOp) (rd : Nat → List Nat) (val : Nat → Env → Value) (rows : Nat → Env → List Row) (F0 : FS) (R0 : List Row) (i : Nat) (o : Oper) : Prop :=
  ((o.guard = none ∨ ∃ j w, o.guard = some (j, w) ∧ (tAt ts j).dst ≠ none ∧ ∀ env, bv (val j env) = some w) ∧
    ∀ env R, (∀ r ∈ R0, r ∈ R) → (∀ k ∈ rd i, ∀ r ∈ rows k env, r ∈ R) → OpF P n ((tAt ts i).kills.flatMap (fun k => rows k env) ++ R) (fdeps ts val env F0 (tAt ts i).deps) o
      (fun v H' => ∃ p, ((tAt ts i).dst ≠ none → v = val i (upd env i p)) ∧ H'.Perm (rows i (upd env i p) ++ R))) ∨
  (∃ j w, o.guard = some (j, w) ∧ (tAt ts j).dst ≠ none ∧ (∀ env, bv (val j env) ≠ some w) ∧ (∀ env, (tAt ts i).kills.flatMap (fun k => rows k env) = []) ∧ (∀ env, val i env = undef) ∧ ∀ env, rows i env = [])
theorem Ob.toR {P : Program} {n : Nat} {ts : List TOp} {rd : Nat → List Nat} {val : Nat → Env → Value} {rows : Nat → Env → List Row} {F0 : FS} {R0 : List Row} {i : Nat} {o : Oper} (h : Ob P n ts val rows F0 R0 i o) : ObR P n ts rd val rows F0 R0 i o := by
  rcases h with ⟨h1, h2⟩ | h
  · exact .inl ⟨h1, fun env R hR _ => h2 env R hR⟩
  · exact .inr h
/-- what operations read, though others take it away: these come after -/
def okRd (ts : List TOp) (rd : Nat → List Nat) (m : Nat) : Bool :=
  (List.range m).all fun i => (rd i).all fun k => ((tAt ts i).sup.contains k || decide (m ≤ k ∧ k < ts.length)) && !(tAt ts i).kills.contains k && (List.range m).all fun j => !(tAt ts j).kills.contains k || (tAt ts j).sup.contains i
theorem wpAny_ob {P : Program} {n : Nat} {ops : Array Oper} {ts : List TOp} {dom : List Nat} {F0 : FS} (hd : F0.map (·.1) = dom) (hok : okReg2 ops ts dom n = true) (rd : Nat → List Nat) (hrd : okRd ts rd ops.size = true) (val : Nat → Env → Value) (rows : Nat → Env → List Row)
    (hloc : ∀ k env i p, i ≠ k → (tAt ts k).sup.contains i = false → val k (upd env i p) = val k env ∧ rows k (upd env i p) = rows k env)
    (R0 : List Row) (hob : ∀ i o, opAt ops.toList i = some o → ObR P n ts rd val rows F0 R0 i o)
    {Q : QT} (hQ : ∀ env t, Ag n F0 t → (∀ i d, i < ops.size → (tAt ts i).dst = some d → t[d]? = some (val i env)) → Q .normal t ((alive ts).flatMap (fun k => rows k env) ++ R0))
    {B : Nat} {w0 : World} :
    ∀ (fuel : Nat) (listed : Array Bool) (U A : List Nat) (t : List Value) (H : List Row) (w : World) (env : Env), listed.size = ops.size → U.length = fuel → U.Nodup → (∀ k, k ∈ U ↔ k < ops.size ∧ listed.getD k true = false) →
      (∀ k, k < ops.size → listed.getD k true = true → ∀ j, (tAt ts k).sup.contains j = true → listed.getD j true = true) →
      A.Nodup → (∀ k, k ∈ A ↔ k < ts.length ∧ listed.getD k true = true ∧ ∀ j, j < ops.size → listed.getD j true = true → k ∉ (tAt ts j).kills) →
      Ag n F0 t → (∀ k d, k < ops.size → listed.getD k true = true → (tAt ts k).dst = some d → t[d]? = some (val k env)) →
      St B w0 H w → H.Perm (R0 ++ A.flatMap (fun k => rows k env)) → wpAny P .any ops (lift B w0 Q) fuel listed ⟨t.toArray, []⟩ w := by
  unfold okReg2 at hok
  simp only [Bool.and_eq_true, decide_eq_true_eq] at hok
  obtain ⟨⟨⟨hlen, hops⟩, hkn⟩, hps⟩ := hok
  have hopAt : ∀ i o, ops[i]? = some o → okOp2 ts dom n ops.size i o = true := by
    intro i o hi
    have := List.all_eq_true.1 hops (o, i) (by
      rw [List.mem_zipIdx_iff_getElem?]; simpa using hi)
    exact this
  intro fuel
  induction fuel with
  | zero =>
    intro listed U A t H w env hls hUl hUn hU hcl hAn hA hag hv hS hH
    have hU0 : U = [] := List.eq_nil_of_length_eq_zero hUl
    subst hU0
    have hall : ∀ k, listed.getD k true = true := by
      intro k
      cases hk : listed.getD k true with
      | true => rfl
      | false =>
        by_cases h1 : k < ops.size
        · exact absurd ((hU k).2 ⟨h1, hk⟩) (by simp)
        · rw [Array.getD_eq_getD_getElem?, Array.getElem?_eq_none (by omega)] at hk; cases hk
    refine ⟨?_, rfl, _, ?_, hS.perm (H' := (alive ts).flatMap (fun k => rows k env) ++ R0) ?_⟩
    · unfold Region.ready
      rw [List.filter_eq_nil_iff]
      intro k _
      rw [hall]; simp
    · have := hQ env t hag (fun i d hi hd => hv i d hi (hall i) hd)
      simpa using this
    · refine List.perm_append_comm.trans ((List.Perm.append_left R0 (List.Perm.flatMap_right _ ?_)).trans hH.symm)
      refine perm_of_mem ((List.nodup_range).sublist List.filter_sublist) hAn fun k => ?_
      rw [hA, alive, List.mem_filter, List.mem_range]
      simp only [hall, true_and, Bool.not_eq_true', List.contains_eq_mem, decide_eq_false_iff_not, true_implies]
      refine and_congr_right fun _ => ⟨fun h j _ hj => h (tAt_mem hj), fun h hm => ?_⟩
      obtain ⟨T, hT, hk⟩ := List.mem_flatMap.1 hm
      obtain ⟨j, hj, rfl⟩ := List.mem_iff_getElem.1 hT
      by_cases hj' : j < ops.size
      · exact h j hj' (by unfold tAt; simp [List.getD, hj, hk])
      · have := List.all_eq_true.1 hps ts[j] (by
          rw [List.mem_iff_getElem?]
          exact ⟨j - ops.size, by rw [List.getElem?_drop, show ops.size + (j - ops.size) = j by omega, List.getElem?_eq_getElem hj]⟩)
        simp only [Bool.and_eq_true, List.isEmpty_iff] at this
        rw [this.1] at hk; cases hk
  | succ fuel ih =>
    intro listed U A t H w env hls hUl hUn hU hcl hAn hA hag hv hS hH
    have hge : ∀ k, ops.size ≤ k → listed.getD k true = true := fun k hk => by rw [Array.getD_eq_getD_getElem?, Array.getElem?_eq_none (by omega)]; rfl
    have hgd : ∀ k, k < ops.size → listed.getD k false = listed.getD k true := fun k hk => by
      rw [Array.getD_eq_getD_getElem?, Array.getD_eq_getD_getElem?, Array.getElem?_eq_getElem (by omega)]; rfl
    refine ⟨fun h0 => ?_, fun i hi => ?_⟩
    · exfalso
      have key : ∀ m, m ∈ U → False := by
        intro m
        induction m using Nat.strongRecOn with
        | _ m ihm =>
          intro hm
          obtain ⟨hms, hml⟩ := (hU m).1 hm
          obtain ⟨o, ho⟩ : ∃ o, ops[m]? = some o := ⟨ops[m], Array.getElem?_eq_getElem hms⟩
          have hc := hopAt m o ho
          unfold okOp2 at hc
          simp only [Bool.and_eq_true] at hc
          obtain ⟨⟨⟨⟨_, haf⟩, _⟩, _⟩, _⟩ := hc
          by_cases hal : o.after.all (fun e => !Region.binds .any e || listed.getD e.on false) = true
          · have : m ∈ Region.ready .any ops listed := by
              unfold Region.ready
              rw [List.mem_filter]
              refine ⟨List.mem_range.2 hms, ?_⟩
              rw [hml, ho]
              simp only [Option.map_some, Option.getD_some, Bool.not_false, Bool.true_and]
              exact hal
            rw [h0] at this; cases this
          · have : ∃ e ∈ o.after, ¬ ((!Region.binds .any e || listed.getD e.on false) = true) := by
              rw [Array.all_eq_true_iff_forall_mem] at hal
              simpa using hal
            obtain ⟨e, he, hne⟩ := this
            have h1 := List.all_eq_true.1 haf e (Array.mem_toList_iff.2 he)
            simp only [Bool.or_eq_true, Bool.not_eq_true', not_or, Bool.not_eq_false, Bool.not_eq_true] at hne h1
            have h2 : e.on < m := by
              rcases h1 with h1 | h1
              · rw [hne.1] at h1; cases h1
              · simpa using h1
            refine ihm e.on h2 ((hU e.on).2 ⟨by omega, ?_⟩)
            rw [← hgd e.on (by omega)]; exact hne.2
      cases U with
      | nil => simp at hUl
      | cons u U => exact key u (List.mem_cons_self ..)
    · unfold Region.ready at hi
      rw [List.mem_filter, List.mem_range] at hi
      obtain ⟨his, hi2⟩ := hi
      obtain ⟨o, ho⟩ : ∃ o, ops[i]? = some o := ⟨ops[i], Array.getElem?_eq_getElem his⟩
      simp only [ho, Option.map_some, Option.getD_some, Bool.and_eq_true, Bool.not_eq_true'] at hi2
      obtain ⟨hil, hia⟩ := hi2
      have hc := hopAt i o ho
      unfold okOp2 at hc
      simp only [Bool.and_eq_true] at hc
      obtain ⟨⟨⟨⟨⟨⟨hgu, hdst⟩, hds⟩, haf⟩, hsup⟩, hdeps⟩, hkil⟩ := hc
      have hdst' : o.dst = (tAt ts i).dst := by simpa using hdst
      rw [Array.all_eq_true_iff_forall_mem] at hia
      have hson : ∀ j, (tAt ts i).sup.contains j = true → j < i ∧ listed.getD j true = true := by
        intro j hj
        have h1 := List.all_eq_true.1 hsup j (by simpa using hj)
        simp only [Bool.and_eq_true, decide_eq_true_eq, List.any_eq_true] at h1
        obtain ⟨hji, e, he', hb, h2⟩ := h1
        have he := Array.mem_toList_iff.1 he'
        refine ⟨hji, ?_⟩
        have h3 := hia e he
        rw [hb] at h3
        have h4 := List.all_eq_true.1 haf e he'
        rw [hb] at h4
        simp only [Bool.not_true, Bool.false_or, decide_eq_true_eq] at h3 h4
        rw [hgd e.on (by omega)] at h3
        simp only [Bool.or_eq_true, beq_iff_eq] at h2
        rcases h2 with h2 | h2
        · rw [← h2]; exact h3
        · exact hcl e.on (by omega) h3 j h2
      have hks : ∀ k ∈ (tAt ts i).kills, k ∈ A := by
        intro k hk
        rw [hA]
        have h1 := List.all_eq_true.1 hkil k hk
        simp only [Bool.or_eq_true, decide_eq_true_eq] at h1
        refine ⟨?_, ?_, fun j hj hjl hkj => ?_⟩
        · rcases h1 with h1 | h1
          · have := (hson k h1).1; omega
          · omega
        · rcases h1 with h1 | h1
          · exact (hson k h1).2
          · exact hge k h1.1
        · have := kills_once hkn hk hkj
          subst this
          rw [hil] at hjl; cases hjl
      have hkin : (tAt ts i).kills.Nodup := by
        unfold tAt List.getD
        cases hti : ts[i]? with
        | none => simp
        | some T =>
          simp only [Option.getD_some]
          exact kills_nodup hkn (List.mem_of_getElem? hti)
      obtain ⟨A', hp, hA'n, hA'm⟩ := take_out _ A hkin hAn hks
      have hH1 : ((tAt ts i).kills.flatMap (fun k => rows k env) ++ (R0 ++ A'.flatMap (fun k => rows k env))).Perm H := by
        refine List.Perm.trans ?_ hH.symm
        refine List.Perm.trans ?_ (List.Perm.append_left R0 (List.Perm.flatMap_right _ hp.symm))
        rw [List.flatMap_append, ← List.append_assoc, ← List.append_assoc]
        exact List.Perm.append_right _ List.perm_append_comm
      have hdp : ∀ k ∈ (tAt ts i).deps, ∀ d, (tAt ts k).dst = some d → t[d]? = some (val k env) := by
        intro k hk d hd
        have h1 := List.all_eq_true.1 hdeps k hk
        obtain ⟨h2, h3⟩ := hson k h1
        exact hv k d (by omega) h3 hd
      have hst := hob i o (by rw [opAt_eq]; simpa using ho)
      have hreads : ∀ k ∈ rd i, ∀ r ∈ rows k env, r ∈ R0 ++ A'.flatMap (fun k => rows k env) := by
        intro k hk r hr
        refine List.mem_append_right _ (List.mem_flatMap.2 ⟨k, ?_, hr⟩)
        have h1 := List.all_eq_true.1 (List.all_eq_true.1 hrd i (List.mem_range.2 his)) k hk
        simp only [Bool.and_eq_true, Bool.or_eq_true, decide_eq_true_eq, Bool.not_eq_true'] at h1
        obtain ⟨⟨h1, h2⟩, h3⟩ := h1
        rw [hA'm, hA]
        refine ⟨⟨?_, ?_, fun j hj hjl hkj => ?_⟩, by simpa using h2⟩
        · rcases h1 with h1 | h1
          · have := (hson k h1).1; omega
          · omega
        · rcases h1 with h1 | h1
          · exact (hson k h1).2
          · exact hge k h1.1
        · have h4 := List.all_eq_true.1 h3 j (List.mem_range.2 hj)
          simp only [Bool.or_eq_true, Bool.not_eq_true'] at h4
          rcases h4 with h4 | h4
          · rw [List.contains_iff_mem.2 hkj] at h4; cases h4
          · have := hcl j hj hjl i h4
            rw [hil] at this; cases this
      have hyv : ∀ j ww, o.guard = some (j, ww) → (tAt ts j).dst ≠ none → yielded ops t.toArray j = bv (val j env) := by
        intro j ww hg hj
        rw [hg] at hgu
        obtain ⟨h1, h2⟩ := hson j hgu
        obtain ⟨d, hd'⟩ := Option.ne_none_iff_exists'.1 hj
        have hoj : ops[j]? = some ops[j] := Array.getElem?_eq_getElem (by omega)
        have hcj := hopAt j _ hoj
        unfold okOp2 at hcj
        simp only [Bool.and_eq_true] at hcj
        have hdj : (ops[j]).dst = (tAt ts j).dst := by simpa using hcj.1.1.1.1.1.2
        exact yielded_bv hoj (by rw [hdj, hd']) (hv j d (by omega) h2 hd')
      have hnext : ∀ (v : Value) (w' : World) (H' : List Row), St B w0 H' w' → (∃ p, ((tAt ts i).dst ≠ none → v = val i (upd env i p)) ∧ H'.Perm (rows i (upd env i p) ++ (R0 ++ A'.flatMap (fun k => rows k env)))) → wpAny P .any ops (lift B w0 Q) fuel (listed.setIfInBounds i true) ⟨(put t o.dst v).toArray, []⟩ w' := by
        rintro v w' H' hS' ⟨p, hval, hH'⟩
        have hl' : ∀ k, (listed.setIfInBounds i true).getD k true = if k = i then true else listed.getD k true := by
          intro k
          rw [Array.getD_eq_getD_getElem?, Array.getD_eq_getD_getElem?, Array.getElem?_setIfInBounds]
          by_cases hki : k = i
          · subst hki; simp; split <;> rfl
          · rw [if_neg (fun e => hki e.symm), if_neg hki]
        have hnot : ∀ k, listed.getD k true = true → (tAt ts k).sup.contains i = false := by
          intro k hk
          by_cases hks' : k < ops.size
          · cases hcs : (tAt ts k).sup.contains i with
            | false => rfl
            | true => have := hcl k hks' hk i hcs; rw [hil] at this; cases this
          · by_cases hkt : k < ts.length
            · have := List.all_eq_true.1 hps ts[k] (by
                rw [List.mem_iff_getElem?]
                exact ⟨k - ops.size, by rw [List.getElem?_drop, show ops.size + (k - ops.size) = k by omega, List.getElem?_eq_getElem hkt]⟩)
              simp only [Bool.and_eq_true, List.isEmpty_iff] at this
              have e : tAt ts k = ts[k] := by unfold tAt; simp [List.getD, hkt]
              rw [e, this.2]; rfl
            · have e : tAt ts k = ⟨none, [], [], []⟩ := by unfold tAt; simp [List.getD, List.getElem?_eq_none (by omega : ts.length ≤ k)]
              rw [e]; rfl
        have hiA : i ∉ A := fun h => by have := ((hA i).1 h).2.1; rw [hil] at this; cases this
        refine ih (listed.setIfInBounds i true) (U.erase i) (i :: A') (put t o.dst v) H' w' (upd env i p) (by simpa using hls) ?_ (hUn.sublist List.erase_sublist) ?_ ?_ ?_ ?_ ?_ ?_ hS' ?_
        · rw [List.length_erase_of_mem ((hU i).2 ⟨his, hil⟩)]; omega
        · intro k
          rw [hUn.mem_erase_iff, hU, hl']
          by_cases hki : k = i
          · simp [hki]
          · simp [hki]
        · intro k hk hkl j hj
          rw [hl'] at hkl ⊢
          split
          · rfl
          · by_cases hki : k = i
            · subst hki; exact (hson j hj).2
            · rw [if_neg hki] at hkl; exact hcl k hk hkl j hj
        · exact List.nodup_cons.2 ⟨fun h => hiA ((hA'm i).1 h).1, hA'n⟩
        · intro k
          rw [List.mem_cons, hA'm, hA, hl']
          by_cases hki : k = i
          · subst hki
            simp only [true_or, if_true, true_and, true_iff]
            refine ⟨by omega, fun j hj hjl hkj => ?_⟩
            have h1 : ops[j]? = some ops[j] := Array.getElem?_eq_getElem hj
            have hcj := hopAt j _ h1
            unfold okOp2 at hcj
            simp only [Bool.and_eq_true] at hcj
            have h2 := List.all_eq_true.1 hcj.2 k hkj
            simp only [Bool.or_eq_true, decide_eq_true_eq] at h2
            rw [hl'] at hjl
            rcases h2 with h2 | h2
            · by_cases hjk : j = k
              · subst hjk; have := (hson j h2).1; omega
              · rw [if_neg hjk] at hjl
                have := hcl j hj hjl k h2
                rw [hil] at this; cases this
            · omega
          · simp only [hki, false_or, if_false]
            constructor
            · rintro ⟨⟨h1, h2, h3⟩, h4⟩
              refine ⟨h1, h2, fun j hj hjl => ?_⟩
              rw [hl'] at hjl
              by_cases hji : j = i
              · subst hji; exact h4
              · rw [if_neg hji] at hjl; exact h3 j hj hjl
            · rintro ⟨h1, h2, h3⟩
              exact ⟨⟨h1, h2, fun j hj hjl => h3 j hj (by rw [hl']; split; rfl; exact hjl)⟩, h3 i his (by rw [hl', if_pos rfl])⟩
        · cases hdd : o.dst with
          | none => exact hag
          | some d =>
            rw [hdst'] at hdd
            rw [hdd] at hds
            simp only [Bool.and_eq_true, decide_eq_true_eq, Bool.not_eq_true'] at hds
            refine ⟨by simpa [put] using hag.1, fun s u hs => ?_⟩
            have h1 := hag.2 s u hs
            simp only [put, List.getElem?_set]
            rw [if_neg]
            · exact h1
            · rintro rfl
              have : d ∈ dom := by
                rw [← hd]
                exact lk_mem hs
              have h2 := hds.1.2
              simp [this] at h2
        · intro k d hk hkl hkd
          rw [hl'] at hkl
          by_cases hki : k = i
          · subst hki
            rw [hdst', hkd]
            rw [hkd] at hds
            simp only [Bool.and_eq_true, decide_eq_true_eq] at hds
            simp only [put, List.getElem?_set, if_true]
            rw [if_pos (by rw [hag.1]; exact hds.1.1), hval (by rw [hkd]; simp)]
          · rw [if_neg hki] at hkl
            rw [(hloc k env i p (fun e => hki e.symm) (hnot k hkl)).1]
            have h1 := hv k d hk hkl hkd
            cases hdd : o.dst with
            | none => exact h1
            | some d' =>
              simp only [put, List.getElem?_set]
              rw [if_neg]
              · exact h1
              · rintro rfl
                rw [hdst'] at hdd
                rcases Nat.lt_or_gt_of_ne hki with hlt | hlt
                · rw [hdd] at hds
                  simp only [Bool.and_eq_true] at hds
                  have := List.all_eq_true.1 hds.2 k (List.mem_range.2 hlt)
                  simp [hkd] at this
                · have hck := hopAt k _ (Array.getElem?_eq_getElem hk)
                  unfold okOp2 at hck
                  simp only [Bool.and_eq_true] at hck
                  have hdk := hck.1.1.1.1.2
                  rw [hkd] at hdk
                  simp only [Bool.and_eq_true] at hdk
                  have := List.all_eq_true.1 hdk.2 i (List.mem_range.2 hlt)
                  simp [hdd] at this
        · refine hH'.trans ?_
          have e : A'.flatMap (fun k => rows k (upd env i p)) = A'.flatMap (fun k => rows k env) := by
            have : ∀ k ∈ A', rows k (upd env i p) = rows k env := fun k hk => by
              have h1 := (hA'm k).1 hk
              have h2 := ((hA k).1 h1.1).2.1
              exact (hloc k env i p (fun e => hiA (e ▸ h1.1)) (hnot k h2)).2
            exact flatMap_congr' this
          rw [List.flatMap_cons, e, ← List.append_assoc, ← List.append_assoc]
          exact List.Perm.append_right _ List.perm_append_comm
      unfold wpOp
      simp only [ho]
      rcases hst with ⟨hgr, hst⟩ | ⟨j, ww, hg, hj, hbv, hki, hvi, hri⟩
      · have hwant : Region.wanted o (yielded ops t.toArray) = true := by
          unfold Region.wanted
          rcases hgr with hgr | ⟨j, ww, hg, hj, hb⟩
          · rw [hgr]
          · rw [hg]; simp only [hyv j ww hg hj, hb]; simp
        simp only [hwant, if_true]
        exact .inl (hst env (R0 ++ A'.flatMap (fun k => rows k env)) (fun r hr => List.mem_append_left _ hr) hreads t (ag_fdeps hag _ hdp) B w0 w (hS.perm hH1) _ _ hnext)
      · have hwant : Region.wanted o (yielded ops t.toArray) = false := by
          unfold Region.wanted
          rw [hg]; simp only [hyv j ww hg hj]
          simpa using hbv env
        simp only [hwant, Bool.false_eq_true, if_false]
        rw [put_act]
        refine hnext undef w _ hS ⟨(0, 0), fun _ => (hvi _).symm, ?_⟩
        rw [hri, List.nil_append]
        rw [hki] at hH1
        simpa using hH1.symm

theorem X.regionRd {P : Program} {n : Nat} {c : Code} {F : FS} {H : List Row} {Q : QX} (ts : List TOp) (rd : Nat → List Nat) (dom : List Nat) (F0 : FS) (val : Nat → Env → Value) (rows : Nat → Env → List Row) (env0 : Env) (R0 : List Row)
    (h : c = .region (cid c) (cops c) true) (hm : P.follows .mixedOrders = true) (hsub : Sub F0 F) (hd : F0.map (·.1) = dom) (hok : okReg2 (cops c) ts dom n = true) (hrd : okRd ts rd (cops c).size = true)
    (hloc : ∀ k env i p, i ≠ k → (tAt ts k).sup.contains i = false → val k (upd env i p) = val k env ∧ rows k (upd env i p) = rows k env)
    (hH : (((List.range ts.length).drop (cops c).size).flatMap (fun k => rows k env0) ++ R0).Sublist H)
    (hob' : AllF (cops c).toList 0 fun i o => ObR P n ts rd val rows F0 R0 i o)
    (hQ : ∀ env t, Ag n F0 t → (∀ i d, i < (cops c).size → (tAt ts i).dst = some d → t[d]? = some (val i env)) → exQ n Q .normal t ((alive ts).flatMap (fun k => rows k env) ++ R0)) : X P n c F H Q := by
  have hob := fun i o ho => hob' i o (Nat.zero_le i) ho
  unfold X W
  intro t ha B w0 w hS
  rw [h]
  refine wp_region_any hm ?_
  have hlen : (cops c).size ≤ ts.length := by
    have := hok
    unfold okReg2 at this
    simp only [Bool.and_eq_true, decide_eq_true_eq] at this
    exact this.1.1.1
  have hl : ∀ k d, (Array.replicate (cops c).size false).getD k d = if k < (cops c).size then false else d := by
    intro k d
    rw [Array.getD_eq_getD_getElem?, Array.getElem?_replicate]
    split <;> rfl
  have hdm : ∀ k, k ∈ (List.range ts.length).drop (cops c).size ↔ (cops c).size ≤ k ∧ k < ts.length := by
    intro k
    rw [List.mem_iff_getElem?]
    constructor
    · rintro ⟨j, hj⟩
      rw [List.getElem?_drop] at hj
      have := List.getElem?_eq_some_iff.1 hj
      obtain ⟨h1, h2⟩ := this
      simp at h1 h2
      omega
    · rintro ⟨h1, h2⟩
      exact ⟨k - (cops c).size, by rw [List.getElem?_drop, show (cops c).size + (k - (cops c).size) = k by omega, List.getElem?_range h2]⟩
  refine wpAny_ob hd hok rd hrd val rows hloc R0 hob hQ (cops c).size _ (List.range (cops c).size) ((List.range ts.length).drop (cops c).size) t _ _ env0 (by simp) (by simp) List.nodup_range ?_ ?_ ((List.nodup_range).sublist (List.drop_sublist _ _)) ?_ (ha.sub hsub) ?_ ((hS.drewN 1).sub hH) List.perm_append_comm
  · intro k
    rw [List.mem_range, hl]
    by_cases hk : k < (cops c).size <;> simp [hk]
  · intro k hk hkl
    rw [hl, if_pos hk] at hkl
    cases hkl
  · intro k
    rw [hdm, hl]
    constructor
    · rintro ⟨h1, h2⟩
      refine ⟨h2, by rw [if_neg (by omega)], fun j hj hjl => ?_⟩
      rw [hl, if_pos hj] at hjl
      cases hjl
    · rintro ⟨h1, h2, _⟩
      refine ⟨?_, h1⟩
      by_cases hk : k < (cops c).size
      · rw [if_pos hk] at h2; cases h2
      · omega
  · intro k d hk hkl
    rw [hl, if_pos hk] at hkl
    cases hkl

theorem X.regionOb {P : Program} {n : Nat} {c : Code} {F : FS} {H : List Row} {Q : QX} (ts : List TOp) (dom : List Nat) (F0 : FS) (val : Nat → Env → Value) (rows : Nat → Env → List Row) (env0 : Env) (R0 : List Row)
    (h : c = .region (cid c) (cops c) true) (hm : P.follows .mixedOrders = true) (hsub : Sub F0 F) (hd : F0.map (·.1) = dom) (hok : okReg2 (cops c) ts dom n = true)
    (hloc : ∀ k env i p, i ≠ k → (tAt ts k).sup.contains i = false → val k (upd env i p) = val k env ∧ rows k (upd env i p) = rows k env)
    (hH : (((List.range ts.length).drop (cops c).size).flatMap (fun k => rows k env0) ++ R0).Sublist H)
    (hob' : AllF (cops c).toList 0 fun i o => Ob P n ts val rows F0 R0 i o)
    (hQ : ∀ env t, Ag n F0 t → (∀ i d, i < (cops c).size → (tAt ts i).dst = some d → t[d]? = some (val i env)) → exQ n Q .normal t ((alive ts).flatMap (fun k => rows k env) ++ R0)) : X P n c F H Q := by
  refine X.regionRd ts (fun _ => []) dom F0 val rows env0 R0 h hm hsub hd hok (by unfold okRd; simp) hloc hH (fun j o hj ho => (hob' j o hj ho).toR) hQ

section
variable {P : Program} {n : Nat} {ts : List TOp} {val : Nat → Env → Value} {rows : Nat → Env → List Row} {F0 : FS} {R0 : List Row} {i : Nat} {o : Oper}
abbrev ObK (P : Program) (n : Nat) (ts : List TOp) (val : Nat → Env → Value) (rows : Nat → Env → List Row) (F0 : FS) (R0 : List Row) (i : Nat) (o : Oper) : Prop := ∀ env R, (∀ r ∈ R0, r ∈ R) → OpF P n ((tAt ts i).kills.flatMap (fun k => rows k env) ++ R) (fdeps ts val env F0 (tAt ts i).deps) o
      (fun v H' => ∃ p, ((tAt ts i).dst ≠ none → v = val i (upd env i p)) ∧ H'.Perm (rows i (upd env i p) ++ R))
abbrev ObKR (P : Program) (n : Nat) (ts : List TOp) (rd : Nat → List Nat) (val : Nat → Env → Value) (rows : Nat → Env → List Row) (F0 : FS) (R0 : List Row) (i : Nat) (o : Oper) : Prop := ∀ env R, (∀ r ∈ R0, r ∈ R) → (∀ k ∈ rd i, ∀ r ∈ rows k env, r ∈ R) → OpF P n ((tAt ts i).kills.flatMap (fun k => rows k env) ++ R) (fdeps ts val env F0 (tAt ts i).deps) o
      (fun v H' => ∃ p, ((tAt ts i).dst ≠ none → v = val i (upd env i p)) ∧ H'.Perm (rows i (upd env i p) ++ R))
theorem ObR.ng {rd : Nat → List Nat} (hg : o.guard = none) (h : ObKR P n ts rd val rows F0 R0 i o) : ObR P n ts rd val rows F0 R0 i o := .inl ⟨.inl hg, h⟩
theorem Ob.ng (hg : o.guard = none) (h : ObK P n ts val rows F0 R0 i o) : Ob P n ts val rows F0 R0 i o := .inl ⟨.inl hg, h⟩
theorem Ob.g {j : Nat} {w : Bool} (hg : o.guard = some (j, w)) (hj : (tAt ts j).dst.isSome = true) (hb : ∀ env, bv (val j env) = some w) (h : ObK P n ts val rows F0 R0 i o) : Ob P n ts val rows F0 R0 i o :=
  .inl ⟨.inr ⟨j, w, hg, (fun e => by rw [e] at hj; cases hj), hb⟩, h⟩
theorem Ob.sk {j : Nat} {w : Bool} (hg : o.guard = some (j, w)) (hj : (tAt ts j).dst.isSome = true) (hb : ∀ env, (bv (val j env) == some w) = false) (hk : ∀ env, (tAt ts i).kills.flatMap (fun k => rows k env) = []) (hv : ∀ env, val i env = undef) (hr : ∀ env, rows i env = []) : Ob P n ts val rows F0 R0 i o :=
  .inr ⟨j, w, hg, (fun e => by rw [e] at hj; cases hj), (fun env e => by have := hb env; rw [e] at this; simp at this), hk, hv, hr⟩
/-- what only reads -/
theorem ObK.pure (he : ∀ env R, (∀ r ∈ R0, r ∈ R) → ∃ v, EvF P n ((tAt ts i).kills.flatMap (fun k => rows k env) ++ R) (fdeps ts val env F0 (tAt ts i).deps) o v ∧ v = val i (upd env i (0, 0))) (hk : (tAt ts i).kills = []) (hr : ∀ env, rows i (upd env i (0, 0)) = []) : ObK P n ts val rows F0 R0 i o := by
  intro env R hR
  obtain ⟨v, hv, he'⟩ := he env R hR
  refine (StF.ofEv hv).op.mono ?_
  rintro u H' ⟨rfl, rfl⟩
  exact ⟨(0, 0), fun _ => he', by rw [hr, hk]; exact List.Perm.refl _⟩
end
end Go.Fw
