/- Own work: a region that draws its order, whose operations make memory. No condition. -/
import Derived.Test.YtmljpmcipcoaaaaFw2
import Derived.Orders
namespace Go.Fw
open Go Go.RowKit
/-! ## A region that draws its order and whose operations make memory: each operation on its own -/
structure TOp where
  dst : Option Nat
  sup : List Nat
  deps : List Nat
  kills : List Nat
abbrev Env := Nat → Nat × Nat
def upd (env : Env) (i : Nat) (p : Nat × Nat) : Env := fun j => if j = i then p else env j
def tAt (ts : List TOp) (i : Nat) : TOp := ts.getD i ⟨none, [], [], []⟩
def fdeps (ts : List TOp) (val : Nat → Env → Value) (env : Env) (F0 : FS) : List Nat → FS
  | [] => F0
  | k :: l => match (tAt ts k).dst with
    | some d => (d, val k env) :: fdeps ts val env F0 l
    | none => fdeps ts val env F0 l
/-- What is asked of the region's shape: closed. -/
def okOp (ts : List TOp) (dom : List Nat) (n m : Nat) (i : Nat) (o : Oper) : Bool :=
  let T := tAt ts i
  o.guard.isNone && (o.dst == T.dst) &&
  (match T.dst with | some d => decide (d < n) && !dom.contains d && (List.range i).all (fun j => (tAt ts j).dst != some d) | none => true) &&
  o.after.toList.all (fun e => !Region.binds .any e || decide (e.on < i)) &&
  T.sup.all (fun j => decide (j < i) && o.after.toList.any (fun e => Region.binds .any e && (e.on == j || (tAt ts e.on).sup.contains j))) &&
  T.deps.all (fun j => T.sup.contains j) && T.kills.all (fun k => T.sup.contains k || decide (m ≤ k ∧ k < ts.length))
def okReg (ops : Array Oper) (ts : List TOp) (dom : List Nat) (n : Nat) : Bool :=
  decide (ops.size ≤ ts.length) && ops.toList.zipIdx.all (fun p => okOp ts dom n ops.size p.2 p.1) && decide ((ts.flatMap (·.kills)).Nodup) && (ts.drop ops.size).all (fun T => T.kills.isEmpty && T.sup.isEmpty)

theorem take_out : ∀ (ks A : List Nat), ks.Nodup → A.Nodup → (∀ k ∈ ks, k ∈ A) → ∃ A', A.Perm (ks ++ A') ∧ A'.Nodup ∧ ∀ k, k ∈ A' ↔ k ∈ A ∧ k ∉ ks
  | [], A, _, hA, _ => ⟨A, List.Perm.refl _, hA, by simp⟩
  | k :: ks, A, hk, hA, hs => by
    have hk' := List.nodup_cons.1 hk
    have h1 := hs k (List.mem_cons_self ..)
    have h2 := List.perm_cons_erase h1
    have hE : (A.erase k).Nodup := hA.sublist (List.erase_sublist)
    obtain ⟨A', hp, hn, hm⟩ := take_out ks (A.erase k) hk'.2 hE (fun q hq => by
      rw [hA.mem_erase_iff]
      exact ⟨fun e => by subst e; exact hk'.1 hq, hs q (List.mem_cons_of_mem _ hq)⟩)
    refine ⟨A', h2.trans (hp.cons k), hn, fun q => ?_⟩
    rw [hm, hA.mem_erase_iff]
    simp only [List.mem_cons, not_or]
    constructor
    · rintro ⟨⟨h3, h4⟩, h5⟩; exact ⟨h4, h3, h5⟩
    · rintro ⟨h4, h3, h5⟩; exact ⟨⟨h3, h4⟩, h5⟩
theorem perm_of_mem {A B : List Nat} (hA : A.Nodup) (hB : B.Nodup) (h : ∀ k, k ∈ A ↔ k ∈ B) : A.Perm B := by
  obtain ⟨A', hp, _, hm⟩ := take_out B A hB hA (fun k hk => (h k).2 hk)
  have : A' = [] := by
    apply List.eq_nil_iff_forall_not_mem.2
    intro k hk
    have := (hm k).1 hk
    exact this.2 ((h k).1 this.1)
  rw [this, List.append_nil] at hp
  exact hp
theorem St.perm {B : Nat} {w0 w : World} {H H' : List Row} (h : St B w0 H w) (hp : H'.Perm H) : St B w0 H' w :=
  ⟨h.below, h.size, fun r hr => h.ok r (hp.subset hr), (hp.pairwise_iff (fun hxy ho e => hxy ho.symm e.symm)).2 h.sep⟩
theorem Ag.cons {n : Nat} {F : FS} {t : List Value} (h : Ag n F t) {d : Nat} {v : Value} (hd : t[d]? = some v) : Ag n ((d, v) :: F) t := by
  refine ⟨h.1, fun i u hi => ?_⟩
  simp only [lk] at hi
  split at hi
  · rename_i hb
    have := Nat.eq_of_beq_eq_true hb
    subst this
    simp only [Option.some.injEq] at hi
    subst hi; exact hd
  · exact h.2 i u hi
theorem ag_fdeps {n : Nat} {F0 : FS} {t : List Value} {ts : List TOp} {val : Nat → Env → Value} {env : Env} (ha : Ag n F0 t) : ∀ (l : List Nat), (∀ k ∈ l, ∀ d, (tAt ts k).dst = some d → t[d]? = some (val k env)) → Ag n (fdeps ts val env F0 l) t
  | [], _ => ha
  | k :: l, h => by
    have ih := ag_fdeps ha l (fun q hq => h q (List.mem_cons_of_mem _ hq))
    unfold fdeps
    split
    · rename_i d hd; exact ih.cons (h k (List.mem_cons_self ..) d hd)
    · exact ih
def alive (ts : List TOp) : List Nat := (List.range ts.length).filter fun k => !(ts.flatMap (·.kills)).contains k
theorem tAt_mem {ts : List TOp} {i k : Nat} (h : k ∈ (tAt ts i).kills) : k ∈ ts.flatMap (·.kills) := by
  unfold tAt List.getD at h
  cases hi : ts[i]? with
  | none => rw [hi] at h; simp at h
  | some T => rw [hi] at h; exact List.mem_flatMap.2 ⟨T, List.mem_of_getElem? hi, h⟩
theorem kills_once {ts : List TOp} (hn : (ts.flatMap (·.kills)).Nodup) {i j k : Nat} (h1 : k ∈ (tAt ts i).kills) (h2 : k ∈ (tAt ts j).kills) : i = j := by
  have key : ∀ (ts : List TOp) (i j : Nat), (ts.flatMap (·.kills)).Nodup → k ∈ (tAt ts i).kills → k ∈ (tAt ts j).kills → i = j := by
    intro ts
    induction ts with
    | nil => intro i j _ h; simp [tAt, List.getD] at h
    | cons T ts ih =>
      intro i j hn h1 h2
      rw [List.flatMap_cons, List.nodup_append] at hn
      cases i with
      | zero =>
        cases j with
        | zero => rfl
        | succ j => exact absurd rfl (hn.2.2 k h1 k (tAt_mem (ts := ts) (i := j) h2))
      | succ i =>
        cases j with
        | zero => exact absurd rfl (hn.2.2 k h2 k (tAt_mem (ts := ts) (i := i) h1))
        | succ j => exact congrArg _ (ih i j hn.2.1 h1 h2)
  exact key ts i j hn h1 h2

theorem kills_nodup : ∀ {ts : List TOp} {T : TOp}, (ts.flatMap (·.kills)).Nodup → T ∈ ts → T.kills.Nodup
  | _ :: ts, T, hn, hm => by
    rw [List.flatMap_cons, List.nodup_append] at hn
    rcases List.mem_cons.1 hm with rfl | hm
    · exact hn.1
    · exact kills_nodup hn.2.1 hm
theorem lk_mem : ∀ {F : FS} {s : Nat} {v : Value}, lk F s = some v → s ∈ F.map (·.1)
  | (j, x) :: F, s, v, hs => by
    simp only [lk] at hs
    split at hs
    · rename_i hb; have := Nat.eq_of_beq_eq_true hb; subst this; simp
    · exact List.mem_cons_of_mem _ (lk_mem hs)
theorem flatMap_congr' {α β : Type} {f g : α → List β} : ∀ {l : List α}, (∀ x ∈ l, f x = g x) → l.flatMap f = l.flatMap g
  | [], _ => rfl
  | x :: l, h => by rw [List.flatMap_cons, List.flatMap_cons, h x (List.mem_cons_self ..), flatMap_congr' (fun y hy => h y (List.mem_cons_of_mem _ hy))]
theorem wpAny_own {P : Program} {n : Nat} {ops : Array Oper} {ts : List TOp} {dom : List Nat} {F0 : FS} (hd : F0.map (·.1) = dom) (hok : okReg ops ts dom n = true) (val : Nat → Env → Value) (rows : Nat → Env → List Row)
    (hloc : ∀ k env i p, i ≠ k → (tAt ts k).sup.contains i = false → val k (upd env i p) = val k env ∧ rows k (upd env i p) = rows k env)
    (R0 : List Row) (hob : ∀ i o, opAt ops.toList i = some o → ∀ env R, (∀ r ∈ R0, r ∈ R) → StF P n ((tAt ts i).kills.flatMap (fun k => rows k env) ++ R) (fdeps ts val env F0 (tAt ts i).deps) o
      (fun v H' => ∃ p, ((tAt ts i).dst ≠ none → v = val i (upd env i p)) ∧ H'.Perm (rows i (upd env i p) ++ R)))
    {Q : QT} (hQ : ∀ env t, Ag n F0 t → (∀ i d, i < ops.size → (tAt ts i).dst = some d → t[d]? = some (val i env)) → Q .normal t ((alive ts).flatMap (fun k => rows k env) ++ R0))
    {B : Nat} {w0 : World} :
    ∀ (fuel : Nat) (listed : Array Bool) (U A : List Nat) (t : List Value) (H : List Row) (w : World) (env : Env), listed.size = ops.size → U.length = fuel → U.Nodup → (∀ k, k ∈ U ↔ k < ops.size ∧ listed.getD k true = false) →
      (∀ k, k < ops.size → listed.getD k true = true → ∀ j, (tAt ts k).sup.contains j = true → listed.getD j true = true) →
      A.Nodup → (∀ k, k ∈ A ↔ k < ts.length ∧ listed.getD k true = true ∧ ∀ j, j < ops.size → listed.getD j true = true → k ∉ (tAt ts j).kills) →
      Ag n F0 t → (∀ k d, k < ops.size → listed.getD k true = true → (tAt ts k).dst = some d → t[d]? = some (val k env)) →
      St B w0 H w → H.Perm (R0 ++ A.flatMap (fun k => rows k env)) → wpAny P .any ops (lift B w0 Q) fuel listed ⟨t.toArray, []⟩ w := by
  unfold okReg at hok
  simp only [Bool.and_eq_true, decide_eq_true_eq] at hok
  obtain ⟨⟨⟨hlen, hops⟩, hkn⟩, hps⟩ := hok
  have hopAt : ∀ i o, ops[i]? = some o → okOp ts dom n ops.size i o = true := by
    intro i o hi
    have := List.all_eq_true.1 hops (o, i) (by
      rw [List.mem_zipIdx_iff_getElem?]; simpa using hi)
    exact this
  intro fuel
  induction fuel with
  | zero =>
    intro listed U A t H w env hls hUl hUn hU hcl hAn hA hag hv hS hH
    have hU0 : U = [] := List.eq_nil_of_length_eq_zero hUl
    subst hU0
    have hall : ∀ k, listed.getD k true = true := by
      intro k
      cases hk : listed.getD k true with
      | true => rfl
      | false =>
        by_cases h1 : k < ops.size
        · exact absurd ((hU k).2 ⟨h1, hk⟩) (by simp)
        · rw [Array.getD_eq_getD_getElem?, Array.getElem?_eq_none (by omega)] at hk; cases hk
    refine ⟨?_, rfl, _, ?_, hS.perm (H' := (alive ts).flatMap (fun k => rows k env) ++ R0) ?_⟩
    · unfold Region.ready
      rw [List.filter_eq_nil_iff]
      intro k _
      rw [hall]; simp
    · have := hQ env t hag (fun i d hi hd => hv i d hi (hall i) hd)
      simpa using this
    · refine List.perm_append_comm.trans ((List.Perm.append_left R0 (List.Perm.flatMap_right _ ?_)).trans hH.symm)
      refine perm_of_mem ((List.nodup_range).sublist List.filter_sublist) hAn fun k => ?_
      rw [hA, alive, List.mem_filter, List.mem_range]
      simp only [hall, true_and, Bool.not_eq_true', List.contains_eq_mem, decide_eq_false_iff_not, true_implies]
      refine and_congr_right fun _ => ⟨fun h j _ hj => h (tAt_mem hj), fun h hm => ?_⟩
      obtain ⟨T, hT, hk⟩ := List.mem_flatMap.1 hm
      obtain ⟨j, hj, rfl⟩ := List.mem_iff_getElem.1 hT
      by_cases hj' : j < ops.size
      · exact h j hj' (by unfold tAt; simp [List.getD, hj, hk])
      · have := List.all_eq_true.1 hps ts[j] (by
          rw [List.mem_iff_getElem?]
          exact ⟨j - ops.size, by rw [List.getElem?_drop, show ops.size + (j - ops.size) = j by omega, List.getElem?_eq_getElem hj]⟩)
        simp only [Bool.and_eq_true, List.isEmpty_iff] at this
        rw [this.1] at hk; cases hk
  | succ fuel ih =>
    intro listed U A t H w env hls hUl hUn hU hcl hAn hA hag hv hS hH
    have hge : ∀ k, ops.size ≤ k → listed.getD k true = true := fun k hk => by rw [Array.getD_eq_getD_getElem?, Array.getElem?_eq_none (by omega)]; rfl
    have hgd : ∀ k, k < ops.size → listed.getD k false = listed.getD k true := fun k hk => by
      rw [Array.getD_eq_getD_getElem?, Array.getD_eq_getD_getElem?, Array.getElem?_eq_getElem (by omega)]; rfl
    refine ⟨fun h0 => ?_, fun i hi => ?_⟩
    · exfalso
      have key : ∀ m, m ∈ U → False := by
        intro m
        induction m using Nat.strongRecOn with
        | _ m ihm =>
          intro hm
          obtain ⟨hms, hml⟩ := (hU m).1 hm
          obtain ⟨o, ho⟩ : ∃ o, ops[m]? = some o := ⟨ops[m], Array.getElem?_eq_getElem hms⟩
          have hc := hopAt m o ho
          unfold okOp at hc
          simp only [Bool.and_eq_true] at hc
          obtain ⟨⟨⟨⟨_, haf⟩, _⟩, _⟩, _⟩ := hc
          by_cases hal : o.after.all (fun e => !Region.binds .any e || listed.getD e.on false) = true
          · have : m ∈ Region.ready .any ops listed := by
              unfold Region.ready
              rw [List.mem_filter]
              refine ⟨List.mem_range.2 hms, ?_⟩
              rw [hml, ho]
              simp only [Option.map_some, Option.getD_some, Bool.not_false, Bool.true_and]
              exact hal
            rw [h0] at this; cases this
          · have : ∃ e ∈ o.after, ¬ ((!Region.binds .any e || listed.getD e.on false) = true) := by
              rw [Array.all_eq_true_iff_forall_mem] at hal
              simpa using hal
            obtain ⟨e, he, hne⟩ := this
            have h1 := List.all_eq_true.1 haf e (Array.mem_toList_iff.2 he)
            simp only [Bool.or_eq_true, Bool.not_eq_true', not_or, Bool.not_eq_false, Bool.not_eq_true] at hne h1
            have h2 : e.on < m := by
              rcases h1 with h1 | h1
              · rw [hne.1] at h1; cases h1
              · simpa using h1
            refine ihm e.on h2 ((hU e.on).2 ⟨by omega, ?_⟩)
            rw [← hgd e.on (by omega)]; exact hne.2
      cases U with
      | nil => simp at hUl
      | cons u U => exact key u (List.mem_cons_self ..)
    · unfold Region.ready at hi
      rw [List.mem_filter, List.mem_range] at hi
      obtain ⟨his, hi2⟩ := hi
      obtain ⟨o, ho⟩ : ∃ o, ops[i]? = some o := ⟨ops[i], Array.getElem?_eq_getElem his⟩
      simp only [ho, Option.map_some, Option.getD_some, Bool.and_eq_true, Bool.not_eq_true'] at hi2
      obtain ⟨hil, hia⟩ := hi2
      have hc := hopAt i o ho
      unfold okOp at hc
      simp only [Bool.and_eq_true] at hc
      obtain ⟨⟨⟨⟨⟨⟨hgu, hdst⟩, hds⟩, haf⟩, hsup⟩, hdeps⟩, hkil⟩ := hc
      have hdst' : o.dst = (tAt ts i).dst := by simpa using hdst
      have hgu' : o.guard = none := by simpa using hgu
      rw [Array.all_eq_true_iff_forall_mem] at hia
      have hson : ∀ j, (tAt ts i).sup.contains j = true → j < i ∧ listed.getD j true = true := by
        intro j hj
        have h1 := List.all_eq_true.1 hsup j (by simpa using hj)
        simp only [Bool.and_eq_true, decide_eq_true_eq, List.any_eq_true] at h1
        obtain ⟨hji, e, he', hb, h2⟩ := h1
        have he := Array.mem_toList_iff.1 he'
        refine ⟨hji, ?_⟩
        have h3 := hia e he
        rw [hb] at h3
        have h4 := List.all_eq_true.1 haf e he'
        rw [hb] at h4
        simp only [Bool.not_true, Bool.false_or, decide_eq_true_eq] at h3 h4
        rw [hgd e.on (by omega)] at h3
        simp only [Bool.or_eq_true, beq_iff_eq] at h2
        rcases h2 with h2 | h2
        · rw [← h2]; exact h3
        · exact hcl e.on (by omega) h3 j h2
      have hks : ∀ k ∈ (tAt ts i).kills, k ∈ A := by
        intro k hk
        rw [hA]
        have h1 := List.all_eq_true.1 hkil k hk
        simp only [Bool.or_eq_true, decide_eq_true_eq] at h1
        refine ⟨?_, ?_, fun j hj hjl hkj => ?_⟩
        · rcases h1 with h1 | h1
          · have := (hson k h1).1; omega
          · omega
        · rcases h1 with h1 | h1
          · exact (hson k h1).2
          · exact hge k h1.1
        · have := kills_once hkn hk hkj
          subst this
          rw [hil] at hjl; cases hjl
      have hkin : (tAt ts i).kills.Nodup := by
        unfold tAt List.getD
        cases hti : ts[i]? with
        | none => simp
        | some T =>
          simp only [Option.getD_some]
          exact kills_nodup hkn (List.mem_of_getElem? hti)
      obtain ⟨A', hp, hA'n, hA'm⟩ := take_out _ A hkin hAn hks
      have hH1 : ((tAt ts i).kills.flatMap (fun k => rows k env) ++ (R0 ++ A'.flatMap (fun k => rows k env))).Perm H := by
        refine List.Perm.trans ?_ hH.symm
        refine List.Perm.trans ?_ (List.Perm.append_left R0 (List.Perm.flatMap_right _ hp.symm))
        rw [List.flatMap_append, ← List.append_assoc, ← List.append_assoc]
        exact List.Perm.append_right _ List.perm_append_comm
      have hdp : ∀ k ∈ (tAt ts i).deps, ∀ d, (tAt ts k).dst = some d → t[d]? = some (val k env) := by
        intro k hk d hd
        have h1 := List.all_eq_true.1 hdeps k hk
        obtain ⟨h2, h3⟩ := hson k h1
        exact hv k d (by omega) h3 hd
      have hst := hob i o (by rw [opAt_eq]; simpa using ho) env (R0 ++ A'.flatMap (fun k => rows k env)) (fun r hr => List.mem_append_left _ hr)
      unfold StF StepOp at hst
      obtain ⟨v, w', H', hrun, hS', p, hval, hH'⟩ := hst t (ag_fdeps hag _ hdp) B w0 w (hS.perm hH1)
      have hwant : Region.wanted o (yielded ops t.toArray) = true := by unfold Region.wanted; rw [hgu']
      have hnext : wpAny P .any ops (lift B w0 Q) fuel (listed.setIfInBounds i true) ⟨(put t o.dst v).toArray, []⟩ w' := by
        have hl' : ∀ k, (listed.setIfInBounds i true).getD k true = if k = i then true else listed.getD k true := by
          intro k
          rw [Array.getD_eq_getD_getElem?, Array.getD_eq_getD_getElem?, Array.getElem?_setIfInBounds]
          by_cases hki : k = i
          · subst hki; simp; split <;> rfl
          · rw [if_neg (fun e => hki e.symm), if_neg hki]
        have hnot : ∀ k, listed.getD k true = true → (tAt ts k).sup.contains i = false := by
          intro k hk
          by_cases hks' : k < ops.size
          · cases hcs : (tAt ts k).sup.contains i with
            | false => rfl
            | true => have := hcl k hks' hk i hcs; rw [hil] at this; cases this
          · by_cases hkt : k < ts.length
            · have := List.all_eq_true.1 hps ts[k] (by
                rw [List.mem_iff_getElem?]
                exact ⟨k - ops.size, by rw [List.getElem?_drop, show ops.size + (k - ops.size) = k by omega, List.getElem?_eq_getElem hkt]⟩)
              simp only [Bool.and_eq_true, List.isEmpty_iff] at this
              have e : tAt ts k = ts[k] := by unfold tAt; simp [List.getD, hkt]
              rw [e, this.2]; rfl
            · have e : tAt ts k = ⟨none, [], [], []⟩ := by unfold tAt; simp [List.getD, List.getElem?_eq_none (by omega : ts.length ≤ k)]
              rw [e]; rfl
        have hiA : i ∉ A := fun h => by have := ((hA i).1 h).2.1; rw [hil] at this; cases this
        refine ih (listed.setIfInBounds i true) (U.erase i) (i :: A') (put t o.dst v) H' w' (upd env i p) (by simpa using hls) ?_ (hUn.sublist List.erase_sublist) ?_ ?_ ?_ ?_ ?_ ?_ hS' ?_
        · rw [List.length_erase_of_mem ((hU i).2 ⟨his, hil⟩)]; omega
        · intro k
          rw [hUn.mem_erase_iff, hU, hl']
          by_cases hki : k = i
          · simp [hki]
          · simp [hki]
        · intro k hk hkl j hj
          rw [hl'] at hkl ⊢
          split
          · rfl
          · by_cases hki : k = i
            · subst hki; exact (hson j hj).2
            · rw [if_neg hki] at hkl; exact hcl k hk hkl j hj
        · exact List.nodup_cons.2 ⟨fun h => hiA ((hA'm i).1 h).1, hA'n⟩
        · intro k
          rw [List.mem_cons, hA'm, hA, hl']
          by_cases hki : k = i
          · subst hki
            simp only [true_or, if_true, true_and, true_iff]
            refine ⟨by omega, fun j hj hjl hkj => ?_⟩
            have h1 : ops[j]? = some ops[j] := Array.getElem?_eq_getElem hj
            have hcj := hopAt j _ h1
            unfold okOp at hcj
            simp only [Bool.and_eq_true] at hcj
            have h2 := List.all_eq_true.1 hcj.2 k hkj
            simp only [Bool.or_eq_true, decide_eq_true_eq] at h2
            rw [hl'] at hjl
            rcases h2 with h2 | h2
            · by_cases hjk : j = k
              · subst hjk; have := (hson j h2).1; omega
              · rw [if_neg hjk] at hjl
                have := hcl j hj hjl k h2
                rw [hil] at this; cases this
            · omega
          · simp only [hki, false_or, if_false]
            constructor
            · rintro ⟨⟨h1, h2, h3⟩, h4⟩
              refine ⟨h1, h2, fun j hj hjl => ?_⟩
              rw [hl'] at hjl
              by_cases hji : j = i
              · subst hji; exact h4
              · rw [if_neg hji] at hjl; exact h3 j hj hjl
            · rintro ⟨h1, h2, h3⟩
              exact ⟨⟨h1, h2, fun j hj hjl => h3 j hj (by rw [hl']; split; rfl; exact hjl)⟩, h3 i his (by rw [hl', if_pos rfl])⟩
        · cases hdd : o.dst with
          | none => exact hag
          | some d =>
            rw [hdst'] at hdd
            rw [hdd] at hds
            simp only [Bool.and_eq_true, decide_eq_true_eq, Bool.not_eq_true'] at hds
            refine ⟨by simpa [put] using hag.1, fun s u hs => ?_⟩
            have h1 := hag.2 s u hs
            simp only [put, List.getElem?_set]
            rw [if_neg]
            · exact h1
            · rintro rfl
              have : d ∈ dom := by
                rw [← hd]
                exact lk_mem hs
              have h2 := hds.1.2
              simp [this] at h2
        · intro k d hk hkl hkd
          rw [hl'] at hkl
          by_cases hki : k = i
          · subst hki
            rw [hdst', hkd]
            rw [hkd] at hds
            simp only [Bool.and_eq_true, decide_eq_true_eq] at hds
            simp only [put, List.getElem?_set, if_true]
            rw [if_pos (by rw [hag.1]; exact hds.1.1), hval (by rw [hkd]; simp)]
          · rw [if_neg hki] at hkl
            rw [(hloc k env i p (fun e => hki e.symm) (hnot k hkl)).1]
            have h1 := hv k d hk hkl hkd
            cases hdd : o.dst with
            | none => exact h1
            | some d' =>
              simp only [put, List.getElem?_set]
              rw [if_neg]
              · exact h1
              · rintro rfl
                rw [hdst'] at hdd
                rcases Nat.lt_or_gt_of_ne hki with hlt | hlt
                · rw [hdd] at hds
                  simp only [Bool.and_eq_true] at hds
                  have := List.all_eq_true.1 hds.2 k (List.mem_range.2 hlt)
                  simp [hkd] at this
                · have hck := hopAt k _ (Array.getElem?_eq_getElem hk)
                  unfold okOp at hck
                  simp only [Bool.and_eq_true] at hck
                  have hdk := hck.1.1.1.1.2
                  rw [hkd] at hdk
                  simp only [Bool.and_eq_true] at hdk
                  have := List.all_eq_true.1 hdk.2 i (List.mem_range.2 hlt)
                  simp [hdd] at this
        · refine hH'.trans ?_
          have e : A'.flatMap (fun k => rows k (upd env i p)) = A'.flatMap (fun k => rows k env) := by
            have : ∀ k ∈ A', rows k (upd env i p) = rows k env := fun k hk => by
              have h1 := (hA'm k).1 hk
              have h2 := ((hA k).1 h1.1).2.1
              exact (hloc k env i p (fun e => hiA (e ▸ h1.1)) (hnot k h2)).2
            exact flatMap_congr' this
          rw [List.flatMap_cons, e, ← List.append_assoc, ← List.append_assoc]
          exact List.Perm.append_right _ List.perm_append_comm
      unfold wpOp
      simp only [ho, hwant, if_true]
      refine .inl ?_
      unfold Oper.wp
      rw [eval_ev]
      rcases hrun with hrun | ⟨hrun, rfl⟩
      · rw [hrun, Oper.upon_value, put_act]; exact hnext
      · rw [hrun, Oper.upon_skip, put_act]; exact hnext

/-- A region that draws its order, each operation on its own: what it takes away (kills), what it makes (rows), what it yields (val). Base rows that it takes away have numbers behind the operations'. -/
def AllF (l : List Oper) (i : Nat) (p : Nat → Oper → Prop) : Prop := ∀ j o, i ≤ j → opAt l j = some o → p j o
theorem AllF.step {l : List Oper} {i : Nat} {p : Nat → Oper → Prop} {o : Oper} (ho : opAt l i = some o) (h : p i o) (k : AllF l (i + 1) p) : AllF l i p := by
  intro j o' hj hjo
  by_cases e : j = i
  · subst e; rw [ho] at hjo; cases hjo; exact h
  · exact k j o' (by omega) hjo
theorem AllF.done {l : List Oper} {i : Nat} {p : Nat → Oper → Prop} (h : opAt l i = none) : AllF l i p := by
  intro j o hj hjo
  rw [opAt_eq] at h hjo
  have := (List.getElem?_eq_some_iff.1 hjo).1
  have := List.getElem?_eq_none_iff.1 h
  omega
theorem StF.ofEv {P : Program} {n : Nat} {H : List Row} {F : FS} {o : Oper} {v : Value} (he : EvF P n H F o v) : StF P n H F o (fun u H' => u = v ∧ H' = H) := by
  unfold StF StepOp
  intro t ha B w0 w hS
  have := he
  unfold EvF EvOp at this
  exact ⟨v, w, H, .inl (this t ha B w0 w hS), hS, rfl, rfl⟩
theorem StF.mono {P : Program} {n : Nat} {H : List Row} {F : FS} {o : Oper} {K K' : Value → List Row → Prop} (h : StF P n H F o K) (hk : ∀ v H', K v H' → K' v H') : StF P n H F o K' := by
  unfold StF StepOp at *
  intro t ha B w0 w hS
  obtain ⟨v, w', H', h1, h2, h3⟩ := h t ha B w0 w hS
  exact ⟨v, w', H', h1, h2, hk v H' h3⟩
/-- what only reads, among the others -/
theorem StF.pure {P : Program} {n : Nat} {H : List Row} {F : FS} {o : Oper} {v : Value} {g : Nat × Nat → Value} {q : Prop} {rw' : Nat × Nat → List Row} (he : EvF P n H F o v) (hv : v = g (0, 0)) (hr : rw' (0, 0) = []) : StF P n H F o (fun u H' => ∃ p, (q → u = g p) ∧ H'.Perm (rw' p ++ H)) :=
  (StF.ofEv he).mono fun u H' ⟨hu, hH⟩ => ⟨(0, 0), fun _ => hu.trans hv, by rw [hr, hH]; exact List.Perm.refl _⟩
theorem X.regionOwn {P : Program} {n : Nat} {c : Code} {F : FS} {H : List Row} {Q : QX} (ts : List TOp) (dom : List Nat) (F0 : FS) (val : Nat → Env → Value) (rows : Nat → Env → List Row) (env0 : Env) (R0 : List Row)
    (h : c = .region (cid c) (cops c) true) (hm : P.follows .mixedOrders = true) (hsub : Sub F0 F) (hd : F0.map (·.1) = dom) (hok : okReg (cops c) ts dom n = true)
    (hloc : ∀ k env i p, i ≠ k → (tAt ts k).sup.contains i = false → val k (upd env i p) = val k env ∧ rows k (upd env i p) = rows k env)
    (hH : (((List.range ts.length).drop (cops c).size).flatMap (fun k => rows k env0) ++ R0).Sublist H)
    (hob' : AllF (cops c).toList 0 fun i o => ∀ env R, (∀ r ∈ R0, r ∈ R) → StF P n ((tAt ts i).kills.flatMap (fun k => rows k env) ++ R) (fdeps ts val env F0 (tAt ts i).deps) o
      (fun v H' => ∃ p, ((tAt ts i).dst ≠ none → v = val i (upd env i p)) ∧ H'.Perm (rows i (upd env i p) ++ R)))
    (hQ : ∀ env t, Ag n F0 t → (∀ i d, i < (cops c).size → (tAt ts i).dst = some d → t[d]? = some (val i env)) → exQ n Q .normal t ((alive ts).flatMap (fun k => rows k env) ++ R0)) : X P n c F H Q := by
  have hob := fun i o ho => hob' i o (Nat.zero_le i) ho
  unfold X W
  intro t ha B w0 w hS
  rw [h]
  refine wp_region_any hm ?_
  have hlen : (cops c).size ≤ ts.length := by
    have := hok
    unfold okReg at this
    simp only [Bool.and_eq_true, decide_eq_true_eq] at this
    exact this.1.1.1
  have hl : ∀ k d, (Array.replicate (cops c).size false).getD k d = if k < (cops c).size then false else d := by
    intro k d
    rw [Array.getD_eq_getD_getElem?, Array.getElem?_replicate]
    split <;> rfl
  have hdm : ∀ k, k ∈ (List.range ts.length).drop (cops c).size ↔ (cops c).size ≤ k ∧ k < ts.length := by
    intro k
    rw [List.mem_iff_getElem?]
    constructor
    · rintro ⟨j, hj⟩
      rw [List.getElem?_drop] at hj
      have := List.getElem?_eq_some_iff.1 hj
      obtain ⟨h1, h2⟩ := this
      simp at h1 h2
      omega
    · rintro ⟨h1, h2⟩
      exact ⟨k - (cops c).size, by rw [List.getElem?_drop, show (cops c).size + (k - (cops c).size) = k by omega, List.getElem?_range h2]⟩
  refine wpAny_own hd hok val rows hloc R0 hob hQ (cops c).size _ (List.range (cops c).size) ((List.range ts.length).drop (cops c).size) t _ _ env0 (by simp) (by simp) List.nodup_range ?_ ?_ ((List.nodup_range).sublist (List.drop_sublist _ _)) ?_ (ha.sub hsub) ?_ ((hS.drewN 1).sub hH) List.perm_append_comm
  · intro k
    rw [List.mem_range, hl]
    by_cases hk : k < (cops c).size <;> simp [hk]
  · intro k hk hkl
    rw [hl, if_pos hk] at hkl
    cases hkl
  · intro k
    rw [hdm, hl]
    constructor
    · rintro ⟨h1, h2⟩
      refine ⟨h2, by rw [if_neg (by omega)], fun j hj hjl => ?_⟩
      rw [hl, if_pos hj] at hjl
      cases hjl
    · rintro ⟨h1, h2, _⟩
      refine ⟨?_, h1⟩
      by_cases hk : k < (cops c).size
      · rw [if_pos hk] at h2; cases h2
      · omega
  · intro k d hk hkl
    rw [hl, if_pos hk] at hkl
    cases hkl
end Go.Fw
