/- CoreTells: for every bale and layer the law returns true (whether the bale is valid and has a truth, and the grades of a layer, of the best and of the worst one, or the errors, are those of the reference, and the bale stays), and each argument reads afterwards as before. No condition. -/
import Derived.Test.YtminkpgacomicacW02
import Derived.Maps.RangeRun
import Derived.Laws.Entries
import Derived.OpenShut
import Derived.ProofKit
import Derived.Test.YtminkpgacomicacRows
import Derived.WalkKit
import Derived.ChangeOld
import Derived.ShutString
section
set_option linter.unusedVariables false
namespace Go.Fw
open Go Go.RowKit
/-- A call of yield, from what is known. -/
def Yc (P : Program) (l : Nat) (args : List Value) (H : List Row) (R : Value → List Row → Prop) : Prop :=
  ∀ B w0 w, St B w0 H w → ∃ fn tmps assign body, (Instr.yield l args.toArray).run P w = .ok (.round l fn tmps assign body) w ∧
    RoundIn Fence.wide 0 P l fn tmps assign body w fun e w' => ∃ v H', e = .returned v ∧ R v H' ∧ St B w0 H' w'

section
variable {P : Program} {n : Nat} {ops : Array Oper} {i : Nat} {o : Oper} {F : FS} {H : List Row}
theorem Yc.mono {l : Nat} {args : List Value} {R R' : Value → List Row → Prop} (h : Yc P l args H R) (hr : ∀ v H', R v H' → R' v H') : Yc P l args H R' := by
  intro B w0 w hS
  obtain ⟨fn, tmps, assign, body, h1, h2⟩ := h B w0 w hS
  exact ⟨fn, tmps, assign, body, h1, h2.mono fun e w' ⟨v, H', he, hR, hS'⟩ => ⟨v, H', he, hr _ _ hR, hS'⟩⟩
/-- yield is called -/
theorem Xg.yield {N : FS → List Row → Prop} {g : Operand} {l : Nat} {al : List Operand} {tys : Array TypeId} {vs : List Value} {R : Value → List Row → Prop} (h : o.op = .call { callee := .value g, args := al.toArray, argTypes := tys })
    (hg : evF F g = some (.func (.yield l) #[] #[])) (hv : Args F al vs) {d : Nat} (hx : o.dst = some d) (hd : Nat.blt d n = true) (hY : Yc P l vs H R)
    (k : ∀ v H', R v H' → XO P n ops (i + 1) ((d, v) :: F) H' N) : Xg P n ops i o F H N := by
  unfold Xg Xo XO WO
  intro hw ho t ha ρ ds B w0 w hS
  replace ho' := opAt_arr ho
  rw [range_step ho']
  simp only [wpOpsIn, ho', hw t ha, if_true, Oper.wpIn, eval_ev]
  obtain ⟨fn, tmps, assign, body, h1, h2⟩ := hY B w0 w hS
  have hrun : (execOp (Fw.ev t) o).run P w = .ok (.round l fn tmps assign body) w := by
    have e := ha.ev hg
    have e2 := hv.ev ha
    simp [execOp, h, resolve, e, Deferred.ofValue, invoke, e2, callFunc, h1]
  rw [sem_round hrun, Oper.uponIn_round]
  refine ⟨fun _ _ => trivial, (fun h => by cases h), ?_⟩
  refine RoundIn.mono (F := wf ρ) h2 ?_
  rintro e w' ⟨v, H', rfl, hR, hS'⟩
  simp only [put_act]
  have := k v H' hR
  unfold XO WO at this
  exact this _ (hx ▸ ha.put (d := some d) hd v) ρ ds B w0 w' hS'
end
end Go.Fw
namespace Go.Fw
open Go Go.RowKit
def oRow (b : Nat) (o : Obj) : Row := ⟨b, 0, [], some (.obj o), 0⟩
/-- the block for the deferred calls of a loop's rounds: none -/
def dRow (D : Nat) : Row := oRow D (.deferred (some []))
def dMk (D : Nat) : Deferred := { target := .collected D, args := #[] }
theorem St.putObj {B : Nat} {w0 w : World} {H : List Row} {b : Nat} {o : Obj} (h : St B w0 (oRow b o :: H) w) (o' : Obj) : St B w0 (oRow b o' :: H) (w.putObj b o') := by
  obtain ⟨hB, _, hb⟩ := h.ok _ (List.mem_cons_self ..)
  have hlt := (Array.getElem?_eq_some_iff.1 hb).1
  have hp := List.pairwise_cons.1 h.sep
  have hbel : Below B w (w.putObj b o') := ⟨rfl, rfl, rfl, by simp, fun k hk => World.putObj_heap_other (by simp only [oRow] at hB; omega)⟩
  refine ⟨h.below.trans hbel, by simpa using h.size, fun r hr => ?_, List.pairwise_cons.2 ⟨fun s hs ho => hp.1 s hs (.inl rfl), hp.2⟩⟩
  rcases List.mem_cons.1 hr with rfl | hr
  · exact ⟨hB, rfl, World.putObj_heap_same hlt⟩
  · exact Row.ok_of_block (h.ok r (List.mem_cons_of_mem _ hr)) (by simp) (World.putObj_heap_other (fun e => hp.1 r hr (.inl rfl) e.symm))
theorem St.allocObj {B : Nat} {w0 w : World} {H : List Row} (h : St B w0 H w) (o : Obj) : St B w0 (oRow w.heap.size o :: H) (w.alloc o) := by
  have h' := h.allocAny o
  refine ⟨h'.below, h'.size, fun r hr => ?_, List.pairwise_cons.2 ⟨fun s hs _ => ?_, h.sep⟩⟩
  · rcases List.mem_cons.1 hr with rfl | hr
    · exact ⟨h.size, rfl, heap_alloc' _ _⟩
    · exact h'.ok r hr
  · have := Row.ok_lt (h.ok s hs)
    show w.heap.size ≠ s.b
    omega
theorem St.obj {B : Nat} {w0 w : World} {H : List Row} {b : Nat} {o : Obj} (h : St B w0 H w) (hm : oRow b o ∈ H) : w.heap[b]? = some o := (h.ok _ hm).2.2

abbrev QTT := Exit → FS → List Nat → List Row → Prop
def liftT (n : Nat) (B : Nat) (w0 : World) (Q : QTT) (e : Exit) (a : Act) (w : World) : Prop := ∃ Ds F H', a.defers = Ds.map dMk ∧ Ag n F a.tmps.toList ∧ Q e F Ds H' ∧ St B w0 (H' ++ Ds.map dRow) w
/-- the walk over the code of a function in which loops over functions stand: Ds are the blocks that such loops have left -/
def XT (P : Program) (n : Nat) (c : Code) (F : FS) (Ds : List Nat) (H : List Row) (Q : QTT) : Prop :=
  ∀ t, Ag n F t → ∀ B w0 w, St B w0 (H ++ Ds.map dRow) w → c.wpIn Fence.wide 0 P (liftT n B w0 Q) ⟨t.toArray, Ds.map dMk⟩ w
section
variable {P : Program} {n : Nat} {c : Code} {F : FS} {Ds : List Nat} {H : List Row} {Q : QTT}
abbrev thenT (N : FS → List Nat → List Row → Prop) (Q : QTT) : QTT
  | .normal, F, Ds, H => N F Ds H
  | e, F, Ds, H => Q e F Ds H
theorem XT.seq (h : c = .seq (cfst c) (csnd c)) (hx : XT P n (cfst c) F Ds H (thenT (fun F Ds H => XT P n (csnd c) F Ds H Q) Q)) : XT P n c F Ds H Q := by
  intro t ha B w0 w hS
  rw [h]
  refine wpIn_seq (wpIn_mono (hx t ha B w0 w hS) ?_)
  rintro e a w' ⟨Ds', F', H', hd, ha', hq, hS'⟩
  cases e with
  | normal => show (csnd c).wpIn _ 0 P _ a w'; rw [act_eta hd]; exact hq _ ha' B w0 w' hS'
  | _ => exact ⟨Ds', F', H', hd, ha', hq, hS'⟩
abbrev blockT (id : Nat) (Q : QTT) : QTT
  | .exit i, F, Ds, H => if i = id then Q .normal F Ds H else Q (.exit i) F Ds H
  | e, F, Ds, H => Q e F Ds H
theorem XT.block (h : c = .block (cid c) (cfst c)) (hx : XT P n (cfst c) F Ds H (blockT (cid c) Q)) : XT P n c F Ds H Q := by
  intro t ha B w0 w hS
  rw [h]
  refine wpIn_block (wpIn_mono (hx t ha B w0 w hS) ?_)
  rintro e a w' ⟨Ds', F', H', hd, ha', hq, hS'⟩
  cases e with
  | exit i =>
    simp only [blockT] at hq
    simp only [Exit.inBlock]
    split
    · rename_i hi; rw [if_pos hi] at hq; exact ⟨Ds', F', H', hd, ha', hq, hS'⟩
    · rename_i hi; rw [if_neg hi] at hq; exact ⟨Ds', F', H', hd, ha', hq, hS'⟩
  | _ => exact ⟨Ds', F', H', hd, ha', hq, hS'⟩
theorem XT.perm {H' : List Row} (hp : H'.Perm H) (h : XT P n c F Ds H' Q) : XT P n c F Ds H Q :=
  fun t ha B w0 w hS => h t ha B w0 w (hS.perm (List.Perm.append_right _ hp))
theorem XT.weak {F' : FS} {H' : List Row} (hs : Sub F' F) (hh : H'.Sublist H) (h : XT P n c F' Ds H' Q) : XT P n c F Ds H Q :=
  fun t ha B w0 w hS => h t (ha.sub hs) B w0 w (hS.sub (List.Sublist.append_right hh _))
theorem XT.mono {Q' : QTT} (h : XT P n c F Ds H Q) (hq : ∀ e F Ds H, Q e F Ds H → Q' e F Ds H) : XT P n c F Ds H Q' :=
  fun t ha B w0 w hS => wpIn_mono (h t ha B w0 w hS) fun _ _ _ ⟨Ds', F', H', hd, ha', hq', hS'⟩ => ⟨Ds', F', H', hd, ha', hq _ _ _ _ hq', hS'⟩
end

def lRow (l : Nat) (r : Loop) : Row := oRow l (.loop r)
/-- what an iterator does, whatever the loop's body is: xs come, each as encs tells -/
def Itf (P : Program) {α : Type} (f : FuncId) (cap : List Value) (E : List Row) (xs : List α) (encs : α → List Value) : Prop :=
  Callable P f ∧ ∀ (l : Nat) (J Jx : List α → List Row → Prop) (Hc : List Row), J [] Hc →
    (∀ pre x Hc, (pre ++ [x]) <+: xs → J pre Hc → ∀ E', Yc P l (encs x) (Hc ++ E') (fun v H' => ∃ Hc', H' = Hc' ++ E' ∧ ((v = .bool true ∧ J (pre ++ [x]) Hc') ∨ (v = .bool false ∧ Jx (pre ++ [x]) Hc')))) →
    Fc P f (.func (.yield l) #[] #[] :: cap) (Hc ++ E) (fun _ H' => ∃ Hc', H' = Hc' ++ E ∧ (J xs Hc' ∨ ∃ pre, pre <+: xs ∧ Jx pre Hc'))
/-- the same, whatever comes: what may come before is told by Gd, what has come in the end by Dn -/
def ItfG (P : Program) {α : Type} (f : FuncId) (cap : List Value) (E : List Row) (Gd Dn : List α → Prop) (encs : α → List Value) : Prop :=
  Callable P f ∧ ∀ (l : Nat) (J Jx : List α → List Row → Prop) (Hc : List Row), J [] Hc →
    (∀ pre x Hc, Gd (pre ++ [x]) → J pre Hc → ∀ E', Yc P l (encs x) (Hc ++ E') (fun v H' => ∃ Hc', H' = Hc' ++ E' ∧ ((v = .bool true ∧ J (pre ++ [x]) Hc') ∨ (v = .bool false ∧ Jx (pre ++ [x]) Hc')))) →
    Fc P f (.func (.yield l) #[] #[] :: cap) (Hc ++ E) (fun _ H' => ∃ Hc', H' = Hc' ++ E ∧ ((∃ ys, Dn ys ∧ J ys Hc') ∨ ∃ pre, Gd pre ∧ Jx pre Hc'))
/-- how a loop's body can be left -/
def bodyX (I : List Row → Prop) (Ix : Code → List Row → Prop) (Z : List Row) : QX := fun e _ H => ∃ Hb, (Hb ++ Z).Sublist H ∧ match e with
  | .normal => I Hb
  | .ret => Ix .ret Hb
  | .exit id => Ix (.exit id) Hb
  | _ => False
def zipF : List Nat → List Value → FS → FS
  | p :: ps, v :: vs, F => zipF ps vs ((p, v) :: F)
  | _, _, F => F
theorem ag_zipF' {n : Nat} : ∀ (ps : List Nat) (vs : List Value) (F : FS) (t : Array Value), Ag n F t.toList → ps.all (fun p => Nat.blt p n) = true → Ag n (zipF ps vs F) ((ps.zip vs).foldl (fun tmps (x : Nat × Value) => tmps.setIfInBounds x.1 x.2) t).toList
  | [], vs, F, t, ha, _ => ha
  | p :: ps, [], F, t, ha, _ => ha
  | p :: ps, v :: vs, F, t, ha, hp => by
    simp only [List.all_cons, Bool.and_eq_true] at hp
    have h1 : Ag n ((p, v) :: F) (t.setIfInBounds p v).toList := by
      have := ha.put (d := some p) hp.1 v
      simpa [pf, put] using this
    exact ag_zipF' ps vs ((p, v) :: F) (t.setIfInBounds p v) h1 hp.2
theorem ag_zipF {n : Nat} (ps : List Nat) (vs : List Value) (F : FS) (t : Array Value) (ha : Ag n F t.toList) (hp : ps.all (fun p => Nat.blt p n) = true) : Ag n (zipF ps vs F) ((ps.toArray.zip vs.toArray).foldl (fun tmps (x : Nat × Value) => tmps.setIfInBounds x.1 x.2) t).toList := by
  have h := ag_zipF' ps vs F t ha hp
  have e : ps.toArray.zip vs.toArray = (ps.zip vs).toArray := by simp
  rw [e]
  rw [← Array.foldl_toList]
  exact h
theorem XT.rangeG {P : Program} {n : Nat} {c : Code} {F : FS} {H : List Row} {Q : QTT} {α : Type} {g : Operand} {ps : List Nat} {assign body : Code} {f : FuncId} {cap : List Value} {E : List Row} {Gd Dn : List α → Prop} {encs : α → List Value}
    (h : c = .rangeFunc g ps.toArray assign body) (hg : evF F g = some (.func (.func f) #[] cap.toArray)) (hI : ItfG P f cap E Gd Dn encs) (hps : ps.all (fun p => Nat.blt p n) = true) (hen : ∀ x, (encs x).length = ps.length)
    (I : List α → List Row → Prop) (Ix : Code → List Row → Prop) (Hb0 : List Row) (hH : H = Hb0 ++ E) (h0 : I [] Hb0)
    (hround : ∀ pre x Hb, Gd (pre ++ [x]) → I pre Hb → ∀ Z, X P n assign (zipF ps (encs x) F) (Hb ++ Z) (fun e F1 H1 => e = .normal ∧ ∃ Hb1, (Hb1 ++ Z).Sublist H1 ∧ ∀ Z', X P n body F1 (Hb1 ++ Z') (bodyX (I (pre ++ [x])) Ix Z')))
    (hdone : ∀ D ys Hb, Dn ys → I ys Hb → Q .normal F [D] (Hb ++ E))
    (hret : ∀ D Hb, Ix .ret Hb → Q .ret F [D] (Hb ++ E))
    (hexit : ∀ D id Hb, Ix (.exit id) Hb → Q (.exit id) F [D] (Hb ++ E))
    (honly : ∀ c Hb, Ix c Hb → c = .ret ∨ ∃ id, c = .exit id) : XT P n c F [] H Q := by
  subst h hH
  intro t ha B w0 w hS
  simp only [List.map_nil, List.append_nil] at hS
  refine wpIn_rangeFunc ?_
  intro fn _
  obtain ⟨hcall, hit⟩ := hI
  obtain ⟨rec, hrec⟩ : ∃ rec : LoopState → Option Code → Loop, rec = fun st pe => { state := st, pending := pe, fn, tmps := t.toArray, params := ps.toArray, assign, body, defers := w.heap.size } := ⟨_, rfl⟩
  have hg' : Act.eval ⟨t.toArray, []⟩ g = .func (.func f) #[] cap.toArray := by rw [eval_ev]; exact ha.ev hg
  have hS1 := hS.allocObj (.deferred (some []))
  have hS2 := hS1.allocObj (.loop (rec .ready none))
  refine ⟨w.heap.size + 1, [dMk w.heap.size], (w.alloc (.deferred (some []))).alloc (.loop (rec .ready none)), { target := .fn (.func f) cap.toArray, args := #[.func (.yield (w.heap.size + 1)) #[] #[]] }, (w.alloc (.deferred (some []))).alloc (.loop (rec .ready none)), f,
    #[.func (.yield (w.heap.size + 1)) #[] #[]] ++ cap.toArray, (w.alloc (.deferred (some []))).alloc (.loop (rec .ready none)), ?_, ?_, fun _ _ => trivial, ?_, (fun h => by cases h), ?_⟩
  · rw [hrec]; exact run_enterLoop_outer fn _ _ _ _
  · simp only [resolve, List.map_nil, hg']
    simp [Deferred.ofValue, Act.eval]
  · unfold Callable at hcall
    simp [invoke]
    exact hcall _ _
  have hsz : (w.alloc (.deferred (some []))).heap.size = w.heap.size + 1 := size_alloc' _ _
  rw [hsz] at hS2
  -- the round
  have key := hit (w.heap.size + 1)
    (fun pre Hc => ∃ Hb, I pre Hb ∧ Hc = lRow (w.heap.size + 1) (rec .ready none) :: dRow w.heap.size :: Hb)
    (fun _ Hc => ∃ Hb c, Ix c Hb ∧ Hc = lRow (w.heap.size + 1) (rec .done (some c)) :: dRow w.heap.size :: Hb)
    (lRow (w.heap.size + 1) (rec .ready none) :: dRow w.heap.size :: Hb0) ⟨Hb0, h0, rfl⟩ ?_
  · unfold Fc at key
    have hc := key.2 B w0 _ hS2
    have e1 : (#[Value.func (.yield (w.heap.size + 1)) #[] #[]] ++ cap.toArray) = (Value.func (.yield (w.heap.size + 1)) #[] #[] :: cap).toArray := by simp
    rw [e1]
    refine (callsIn_wide (n := 0)).2 (hc.mono ?_)
    rintro e w' ⟨v, H', rfl, ⟨Hc', rfl, hJ⟩, hS'⟩
    rcases hJ with ⟨ys, hys, Hb, hIb, rfl⟩ | ⟨pre, _, Hb, cc, hIx, rfl⟩
    · have hl : w'.heap[w.heap.size + 1]? = some (.loop (rec .ready none)) := hS'.obj (List.mem_cons_self ..)
      have hS3 := (hS'.putObj (.loop { rec .ready none with state := .exhausted })).tail
      refine ⟨none, w'.putObj (w.heap.size + 1) (.loop { rec .ready none with state := .exhausted }), ?_, ?_⟩
      · have := run_endLoop (P := P) hl (by rw [hrec]; simp)
        rw [this]; rw [hrec]
      · refine ⟨[w.heap.size], F, Hb ++ E, rfl, ?_, hdone _ _ _ hys hIb, ?_⟩
        · simpa using ha
        · refine hS3.perm ?_
          simpa using List.perm_append_comm (l₁ := Hb ++ E) (l₂ := [dRow w.heap.size])
    · have hl : w'.heap[w.heap.size + 1]? = some (.loop (rec .done (some cc))) := hS'.obj (List.mem_cons_self ..)
      have hS3 := (hS'.putObj (.loop { rec .done (some cc) with state := .exhausted })).tail
      refine ⟨some cc, w'.putObj (w.heap.size + 1) (.loop { rec .done (some cc) with state := .exhausted }), ?_, ?_⟩
      · have := run_endLoop (P := P) hl (by rw [hrec]; simp)
        rw [this]; rw [hrec]
      · have hS4 : St B w0 ((Hb ++ E) ++ [w.heap.size].map dRow) (w'.putObj (w.heap.size + 1) (.loop { rec .done (some cc) with state := .exhausted })) := by
          refine hS3.perm ?_
          simpa using List.perm_append_comm (l₁ := Hb ++ E) (l₂ := [dRow w.heap.size])
        rcases honly cc Hb hIx with rfl | ⟨id, rfl⟩
        · exact wpIn_ret ⟨[w.heap.size], F, Hb ++ E, rfl, by simpa using ha, hret _ _ hIx, hS4⟩
        · exact wpIn_exit ⟨[w.heap.size], F, Hb ++ E, rfl, by simpa using ha, hexit _ _ _ hIx, hS4⟩
  · rintro pre x Hc hpre ⟨Hb, hIb, rfl⟩ E' B w0 w' hS'
    have hl : w'.heap[w.heap.size + 1]? = some (.loop (rec .ready none)) := hS'.obj (List.mem_cons_self ..)
    have hy := run_yield (P := P) (args := (encs x).toArray) hl (by rw [hrec]; simp [hen])
    rw [hrec] at hy
    refine ⟨_, _, _, _, hy, roundIn_of_wpIn (F := Fence.wide) trivial ?_⟩
    have hag := ag_zipF ps (encs x) F t.toArray (by simpa using ha) hps
    have hx := hround pre x Hb hpre hIb (lRow (w.heap.size + 1) (rec .ready none) :: dRow w.heap.size :: E')
    unfold X W at hx
    have hx1 := hx _ hag (some (w.heap.size + 1)) [] B w0 w' (hS'.perm (by
      simpa using (List.perm_append_comm (l₁ := Hb) (l₂ := [lRow (w.heap.size + 1) (rec .ready none), dRow w.heap.size])).append_right E'))
    refine wpIn_mono (F := Fence.wide.inRound (w.heap.size + 1)) (by rw [Array.toArray_toList] at hx1; exact hx1) ?_
    rintro e a1 w1 ⟨hd1, H1, ⟨F1, ha1, he1, Hb1, hs1, hbody⟩, hS1'⟩
    subst he1
    have hS1'' : St B w0 (lRow (w.heap.size + 1) (rec .ready none) :: (Hb1 ++ (dRow w.heap.size :: E'))) w1 := (hS1'.sub hs1).perm (by simpa using List.perm_middle.symm)
    have hl1 : w1.heap[w.heap.size + 1]? = some (.loop (rec .ready none)) := hS1''.obj (List.mem_cons_self ..)
    have hS1b := hS1''.putObj (.loop { rec .ready none with state := .busy })
    have hb1 := hbody (lRow (w.heap.size + 1) { rec .ready none with state := .busy } :: dRow w.heap.size :: E')
    have hb2 := hb1 _ ha1 (some (w.heap.size + 1)) [] B w0 _ (hS1b.perm (by simp [lRow]))
    refine ⟨_, run_beginRound hl1 (by rw [hrec]), ?_⟩
    rw [act_eta hd1]
    refine wpIn_mono (F := Fence.wide.inRound (w.heap.size + 1)) hb2 ?_
    rintro e a2 w2 ⟨hd2, H2, ⟨F2, ha2, Hb2, hs2, hq⟩, hS2'⟩
    have hS2'' : St B w0 (lRow (w.heap.size + 1) { rec .ready none with state := .busy } :: (Hb2 ++ (dRow w.heap.size :: E'))) w2 := (hS2'.sub hs2).perm (by simpa using List.perm_middle.symm)
    have hl2 : w2.heap[w.heap.size + 1]? = some (.loop { rec .ready none with state := .busy }) := hS2''.obj (List.mem_cons_self ..)
    have fin : ∀ jump : Option Code, ∃ w3, (Instr.endRound (w.heap.size + 1) jump).run P w2 = .ok (.bool jump.isNone) w3 ∧ St B w0 ((lRow (w.heap.size + 1) (rec (if jump.isNone then .ready else .done) jump) :: dRow w.heap.size :: Hb2) ++ E') w3 := by
      intro jump
      have h1 := run_endRound (P := P) jump hl2
      have h2 := hS2''.putObj (.loop { { rec .ready none with state := LoopState.busy } with state := if jump.isNone then .ready else .done, pending := jump })
      have h3 : ({ { rec .ready none with state := LoopState.busy } with state := if jump.isNone then .ready else .done, pending := jump } : Loop) = rec (if jump.isNone then .ready else .done) jump := by rw [hrec]
      rw [h3] at h2
      have h4 : (Instr.endRound (w.heap.size + 1) jump).run P w2 = .ok (.bool jump.isNone) (w2.putObj (w.heap.size + 1) (.loop (rec (if jump.isNone then .ready else .done) jump))) := by rw [h1]; rw [hrec]
      refine ⟨_, h4, h2.perm ?_⟩
      simp only [lRow, List.cons_append]
      refine List.Perm.cons _ ?_
      exact List.perm_middle.symm
    cases e with
    | normal =>
      obtain ⟨w3, h1, h2⟩ := fin none
      exact ⟨_, w3, h1, _, _, rfl, ⟨_, rfl, .inl ⟨rfl, Hb2, hq, rfl⟩⟩, h2⟩
    | ret =>
      obtain ⟨w3, h1, h2⟩ := fin (some .ret)
      exact ⟨_, w3, h1, _, _, rfl, ⟨_, rfl, .inr ⟨rfl, Hb2, _, hq, rfl⟩⟩, h2⟩
    | exit id =>
      obtain ⟨w3, h1, h2⟩ := fin (some (.exit id))
      exact ⟨_, w3, h1, _, _, rfl, ⟨_, rfl, .inr ⟨rfl, Hb2, _, hq, rfl⟩⟩, h2⟩
    | goto l => exact hq.elim
    | panic ch => exact hq.elim
    | outgrown => exact hq.elim
theorem Itf.toG {P : Program} {α : Type} {f : FuncId} {cap : List Value} {E : List Row} {xs : List α} {encs : α → List Value} (h : Itf P f cap E xs encs) : ItfG P f cap E (· <+: xs) (· = xs) encs :=
  ⟨h.1, fun l J Jx Hc h0 hy => (h.2 l J Jx Hc h0 hy).mono fun _ _ ⟨Hc', e, hq⟩ => ⟨Hc', e, hq.imp (fun q => ⟨xs, rfl, q⟩) id⟩⟩
theorem XT.range {P : Program} {n : Nat} {c : Code} {F : FS} {H : List Row} {Q : QTT} {α : Type} {g : Operand} {ps : List Nat} {assign body : Code} {f : FuncId} {cap : List Value} {E : List Row} {xs : List α} {encs : α → List Value}
    (h : c = .rangeFunc g ps.toArray assign body) (hg : evF F g = some (.func (.func f) #[] cap.toArray)) (hI : Itf P f cap E xs encs) (hps : ps.all (fun p => Nat.blt p n) = true) (hen : ∀ x, (encs x).length = ps.length)
    (I : List α → List Row → Prop) (Ix : Code → List Row → Prop) (Hb0 : List Row) (hH : H = Hb0 ++ E) (h0 : I [] Hb0)
    (hround : ∀ pre x Hb, (pre ++ [x]) <+: xs → I pre Hb → ∀ Z, X P n assign (zipF ps (encs x) F) (Hb ++ Z) (fun e F1 H1 => e = .normal ∧ ∃ Hb1, (Hb1 ++ Z).Sublist H1 ∧ ∀ Z', X P n body F1 (Hb1 ++ Z') (bodyX (I (pre ++ [x])) Ix Z')))
    (hdone : ∀ D Hb, I xs Hb → Q .normal F [D] (Hb ++ E))
    (hret : ∀ D Hb, Ix .ret Hb → Q .ret F [D] (Hb ++ E))
    (hexit : ∀ D id Hb, Ix (.exit id) Hb → Q (.exit id) F [D] (Hb ++ E))
    (honly : ∀ c Hb, Ix c Hb → c = .ret ∨ ∃ id, c = .exit id) : XT P n c F [] H Q :=
  XT.rangeG h hg hI.toG hps hen I Ix Hb0 hH h0 hround (fun D ys Hb e q => by subst e; exact hdone D Hb q) hret hexit honly
attribute [irreducible] XT Yc
end Go.Fw
end
section
set_option linter.unusedVariables false
namespace Go.Fw
open Go Go.RowKit
section
variable {P : Program} {H : List Row} {F : FS} {n : Nat} {o : Oper}
end
end Go.Fw
end
section
set_option linter.unusedVariables false
namespace Go.Fw
open Go Go.RowKit
section
variable {P : Program} {H : List Row} {F : FS} {n : Nat} {o : Oper}
end
end Go.Fw
end
section
set_option linter.unusedVariables false
namespace Go.Fw
open Go Go.RowKit
section
variable {P : Program} {H : List Row} {F : FS} {n : Nat} {o : Oper}
end
end Go.Fw
end
section
set_option linter.unusedVariables false
namespace Go.Fw
open Go Go.RowKit
/-- a slice of a whole array -/
theorem EvF.sliceArrOf {P : Program} {n : Nat} {H : List Row} {F : FS} {o : Oper} {T e : TypeId} {x : Operand} {b off len s y : Nat} {ti : TI} (h : o.op = .slice T x none none none) (hx : evF F x = some (.pointer (some ⟨b, off, none⟩))) (hT : tiOf P T = some ⟨.ar len e, s, y⟩) (he : tiOf P e = some ti) :
    EvF P n H F o (.slice (some ⟨b, off, none⟩) len len) := by
  unfold EvF EvOp
  intro t ha B w0 w hS
  have hu := ti_array hT
  have hsz := ti_size he w
  have hxv := ha.ev hx
  have hbd : (Instr.sliceBounds false len len none none none).run P w = .ok (0, len, len) w := by
    simp [Instr.sliceBounds]
  simp [execOp, h, hxv, Instr.sliceAt, Instr.sureAddr, underlying, hu, hbd, hsz, add_none]
end Go.Fw
end
section
set_option linter.unusedVariables false
set_option linter.unusedSimpArgs false
namespace Go.Proofs.Ytminkpgacomicac
open Go Go.Fw
set_option maxRecDepth 10000
/-- a question: the function that is asked, and the error -/
structure Qn where
  f : Nat
  e : Int
def cQn (q : Qn) : List Value := [.func (.func q.f) #[] #[], .int .i64 q.e]
def qs6 : List Qn := [⟨58, 30⟩, ⟨59, 31⟩, ⟨60, 32⟩, ⟨61, 6⟩, ⟨62, 35⟩, ⟨63, 8⟩]
def cQ6 : List Value := qs6.flatMap cQn
theorem questions_spec (H : List Row) : Fc Try.prog 51 [] H (fun v H' => v = .agg cQ6.toArray ∧ H' = H) := by
  refine Fc.mk (callable Try.call51) Try.func51 rfl Try.ntmps51 rfl ?_; dsimp only [fr]
  repeat' (first | (refine XO.op rfl ?_; (first | ((first | refine Xo.ng rfl ?_); (first | (refine Xg.ev (EvF.build (cs := cQn ⟨58, 30⟩) rfl (ArgsP.cons rfl (ArgsP.cons rfl ArgsP.nil)) (te rfl) (Places.cons (te rfl) (Places.cons (te rfl) Places.nil)) Try.zeroValue88 rfl) rfl rfl ?_) | (refine Xg.ev (EvF.build (cs := cQn ⟨59, 31⟩) rfl (ArgsP.cons rfl (ArgsP.cons rfl ArgsP.nil)) (te rfl) (Places.cons (te rfl) (Places.cons (te rfl) Places.nil)) Try.zeroValue88 rfl) rfl rfl ?_) | (refine Xg.ev (EvF.build (cs := cQn ⟨60, 32⟩) rfl (ArgsP.cons rfl (ArgsP.cons rfl ArgsP.nil)) (te rfl) (Places.cons (te rfl) (Places.cons (te rfl) Places.nil)) Try.zeroValue88 rfl) rfl rfl ?_) | (refine Xg.ev (EvF.build (cs := cQn ⟨61, 6⟩) rfl (ArgsP.cons rfl (ArgsP.cons rfl ArgsP.nil)) (te rfl) (Places.cons (te rfl) (Places.cons (te rfl) Places.nil)) Try.zeroValue88 rfl) rfl rfl ?_) | (refine Xg.ev (EvF.build (cs := cQn ⟨62, 35⟩) rfl (ArgsP.cons rfl (ArgsP.cons rfl ArgsP.nil)) (te rfl) (Places.cons (te rfl) (Places.cons (te rfl) Places.nil)) Try.zeroValue88 rfl) rfl rfl ?_) | (refine Xg.ev (EvF.build (cs := cQn ⟨63, 8⟩) rfl (ArgsP.cons rfl (ArgsP.cons rfl ArgsP.nil)) (te rfl) (Places.cons (te rfl) (Places.cons (te rfl) Places.nil)) Try.zeroValue88 rfl) rfl rfl ?_) | (refine Xg.ev (EvF.buildArr (cs := cQ6) rfl (ArgsP.cons rfl (ArgsP.cons rfl (ArgsP.cons rfl (ArgsP.cons rfl (ArgsP.cons rfl (ArgsP.cons rfl ArgsP.nil)))))) (te rfl) (te rfl) Try.zeroValue89 rfl) rfl rfl ?_) | (refine Xg.st (StF.alloc rfl Try.zeroValue89 rfl) rfl rfl ?_; rintro _ _ ⟨bx, rfl, rfl⟩) | (refine Xg.st0 (StF.storeAll (i := 0) rfl rfl rfl (te rfl) rfl rfl rfl rfl) rfl ?_; rintro _ _ ⟨rfl, rfl⟩; dsimp only [List.set]))))) | (refine XO.done rfl ?_; refine hK _ _ ?_; clear hK K) | refine X.seq rfl ?_ | refine X.region rfl (fun K hK => ?_) | refine X.ret rfl ?_)
  exact ret_one (by first | exact .inr rfl | exact .inl rfl) Try.results51 ⟨_, rfl, LoadV.whole (te rfl) rfl (List.Mem.head _) rfl⟩ (H' := H) (by (repeat (first | exact List.Sublist.refl _ | apply List.Sublist.cons)); done) ⟨rfl, rfl⟩
set_option maxHeartbeats 4000000 in
theorem lasked_spec (B : Bl) (p : Pb) (C : Ca) (q : Pc) (qs : List Qn) (a : Option Addr) (c : Nat) (ok : Nat → Bool) (H : List Row) (hq : SlE H a cQn 2 qs) (hb : qs.length ≤ 1000)
    (hf : ∀ k x, qs[k]? = some x → (∀ j, j < k → ok j = true) → ∀ Z : List Row, Fc Try.prog x.f ([.agg (cBl B p).toArray, .agg (cCa C q).toArray] ++ []) (Z ++ H) (fun v H' => v = .bool (ok k) ∧ H' = Z ++ H)) :
    Fc Try.prog 52 [.agg (cBl B p).toArray, .agg (cCa C q).toArray, .slice a qs.length c] H (fun v H' => ((v = .int .i64 0 ∧ ∀ j, j < qs.length → ok j = true) ∨ ∃ k x, qs[k]? = some x ∧ ok k = false ∧ (∀ j, j < k → ok j = true) ∧ v = .int .i64 x.e) ∧ H' = H) := by
  refine Fc.mk (callable Try.call52) Try.func52 rfl Try.ntmps52 rfl ?_; dsimp only [fr]
  repeat' (first | (refine XO.op rfl ?_; (first | ((first | refine Xo.ng rfl ?_); (first | (refine Xg.ev (EvF.move rfl rfl) rfl rfl ?_) | (refine Xg.ev (EvF.assign rfl rfl) rfl rfl ?_) | (refine Xg.ev (EvF.cmp rfl rfl rfl rfl) rfl rfl ?_) | (refine Xg.ev (EvF.lenSlice rfl rfl (te rfl)) rfl rfl ?_) | (refine Xg.st (StF.boxAgg rfl rfl) rfl rfl ?_; rintro _ _ ⟨bx, rfl, rfl⟩))))) | (refine XO.done rfl ?_; refine hK _ _ ?_; clear hK K) | refine X.seq rfl ?_ | refine X.region rfl (fun K hK => ?_) | refine X.block rfl ?_ | (refine X.brk rfl ?_; repeat (first | refine blockX_hit rfl ?_ | refine blockX_miss (by decide) ?_)) | refine X.skip rfl ?_ | refine X.ret rfl ?_ | (refine X.ite rfl rfl (fun hc => ?_); (first | (with_reducible refine Xb.case hc (fun h => ?_) (fun h => ?_))) <;> clear hc))
  rename_i b1; rename Nat => b2
  refine X.lp rfl (fun m F' H' => ∃ k : Nat, m = qs.length - k ∧ k ≤ qs.length ∧ (∀ j, j < k → ok j = true) ∧ ⟨b2, 0, cCa C q, some 53, 4⟩ :: ⟨b1, 0, cBl B p, some 27, 6⟩ :: H = H' ∧
      F' = [(3, .pointer (some ⟨b1, 0, none⟩)), (4, .pointer (some ⟨b2, 0, none⟩)), (9, .slice a qs.length c), (10, .int .i64 qs.length), (11, .int .i64 k)])
    qs.length [(3, .pointer (some ⟨b1, 0, none⟩)), (4, .pointer (some ⟨b2, 0, none⟩)), (9, .slice a qs.length c), (10, .int .i64 qs.length), (11, .int .i64 (0 : Nat))] _ (by (repeat (first | exact Sub.nil _ | refine Sub.cons rfl ?_)); done) (by (repeat (first | exact List.Sublist.refl _ | apply List.Sublist.cons_cons | apply List.Sublist.cons)); done) ⟨0, by omega, by omega, (fun j hj => absurd hj (by omega)), rfl, rfl⟩ ?_
  rintro _ _ H2 ⟨k, rfl, hk, hn, hH, rfl⟩
  subst hH
  repeat' (first | (refine XO.op rfl ?_; (first | ((first | refine Xo.ng rfl ?_); (first | (refine Xg.ev (EvF.move rfl rfl) rfl rfl ?_) | (refine Xg.ev (EvF.assign rfl rfl) rfl rfl ?_) | (refine Xg.ev (EvF.cmp rfl rfl rfl rfl) rfl rfl ?_) | (refine Xg.ev (EvF.lenSlice rfl rfl (te rfl)) rfl rfl ?_) | (refine Xg.st (StF.boxAgg rfl rfl) rfl rfl ?_; rintro _ _ ⟨bx, rfl, rfl⟩))))) | (refine XO.done rfl ?_; refine hK _ _ ?_; clear hK K) | refine X.seq rfl ?_ | refine X.region rfl (fun K hK => ?_) | refine X.block rfl ?_ | (refine X.brk rfl ?_; repeat (first | refine blockX_hit rfl ?_ | refine blockX_miss (by decide) ?_)) | refine X.skip rfl ?_ | refine X.ret rfl ?_ | (refine X.ite rfl rfl (fun hc => ?_); (first | (with_reducible refine Xb.case hc (fun h => ?_) (fun h => ?_))) <;> clear hc))
  · obtain ⟨b, off, e, rfl, he⟩ := hq.elem (i := k) (by omega)
    have hq2 : ∀ r1 r2, SlE (r1 :: r2 :: H) (some ⟨b, off, none⟩) cQn 2 qs := fun r1 r2 => hq.sub (fun _ h => List.Mem.tail _ (List.Mem.tail _ h))
    obtain ⟨f, er⟩ := e
    repeat' (first | (refine XO.op rfl ?_; (first | ((first | refine Xo.ng rfl ?_); (first | (refine Xg.ev (EvF.loadV rfl rfl (LoadV.elA0 (hq2 _ _) he (te rfl) rfl (fun _ hm => hm) rfl)) rfl rfl ?_) | (refine Xg.st (StF.alloc rfl Try.zeroValue88 rfl) rfl rfl ?_; rintro _ _ ⟨bx, rfl, rfl⟩) | (refine Xg.call (EnF.dyn0 rfl rfl (by (repeat (first | exact Args.nil | refine Args.cons rfl ?_)); done)) rfl rfl (hf k ⟨f, er⟩ he hn [_, _, _]) ?_; rintro _ H9 ⟨rfl, hH9⟩; subst H9) | (refine Xg.ev (EvF.move rfl rfl) rfl rfl ?_) | (refine Xg.ev (EvF.assign rfl rfl) rfl rfl ?_) | (refine Xg.ev (EvF.add64 rfl rfl rfl (by omega) (by omega)) rfl rfl ?_) | (refine Xg.ev (EvF.not rfl rfl) rfl rfl ?_) | (refine Xg.ev (EvF.fieldAddr rfl rfl (te rfl) rfl (te rfl) (by decide)) rfl rfl ?_) | (refine Xg.ev (EvF.indexSlice rfl rfl rfl (te rfl) (te rfl) (by omega) (by omega)) rfl rfl ?_) | (refine Xg.ev (EvF.loadV rfl rfl (LoadV.own (te rfl) rfl (List.Mem.head _) rfl)) rfl rfl ?_) | (refine Xg.ev (EvF.loadV rfl rfl (LoadV.whole (te rfl) rfl (List.Mem.tail _ (List.Mem.head _)) rfl)) rfl rfl ?_) | (refine Xg.ev (EvF.loadV rfl rfl (LoadV.whole (te rfl) rfl (List.Mem.tail _ (List.Mem.tail _ (List.Mem.head _))) rfl)) rfl rfl ?_) | (refine Xg.st0 (StF.storeAll (i := 0) rfl rfl rfl (te rfl) rfl rfl rfl rfl) rfl ?_; rintro _ _ ⟨rfl, rfl⟩; dsimp only [List.set]))))) | (refine XO.done rfl ?_; refine hK _ _ ?_; clear hK K) | refine X.seq rfl ?_ | refine X.region rfl (fun K hK => ?_) | refine X.skip rfl ?_ | refine X.ret rfl ?_ | (refine X.ite rfl rfl (fun hc => ?_); (first | (with_reducible refine Xb.caseB hc (fun h => ?_) (fun h => ?_))) <;> clear hc))
    · refine ret_one (by first | exact .inr rfl | exact .inl rfl) Try.results52 rfl (H' := H) (by simp only [List.cons_append, List.nil_append]; exact (by (repeat (first | exact List.Sublist.refl _ | apply List.Sublist.cons)); done)) ⟨.inr ⟨k, _, he, ?_, hn, rfl⟩, rfl⟩
      simpa using (by assumption : (!ok k) = true)
    · refine ⟨_, _, _, (by (repeat (first | exact Sub.nil _ | refine Sub.cons rfl ?_)); done), (by simp only [List.cons_append, List.nil_append]; exact (by (repeat (first | exact List.Sublist.refl _ | apply List.Sublist.cons_cons | apply List.Sublist.cons)); done)), ⟨k + 1, rfl, by omega, (fun j hj => ?_), rfl, rfl⟩, by omega⟩
      rcases Nat.lt_or_ge j k with h1 | h1
      · exact hn j h1
      · obtain rfl : j = k := by omega
        simpa using (by assumption : (!ok j) = false)
  · refine ret_one (by first | exact .inr rfl | exact .inl rfl) Try.results52 rfl (H' := H) (by (repeat (first | exact List.Sublist.refl _ | apply List.Sublist.cons)); done) ⟨.inl ⟨rfl, fun j hj => hn j (by omega)⟩, rfl⟩
open Classical in
noncomputable def openE (B : Bl) (C : Ca) : Int := if baleOk B then (if askL B C then (if askK C then (if askW B C then (if askD C then (if canB B then 0 else 8) else 35) else 6) else 32) else 31) else 30
open Classical in
noncomputable def okQ (B : Bl) (C : Ca) : Nat → Bool
  | 0 => decide (baleOk B)
  | 1 => decide (askL B C)
  | 2 => decide (askK C)
  | 3 => decide (askW B C)
  | 4 => decide (askD C)
  | 5 => decide (canB B)
  | _ => true
set_option maxHeartbeats 4000000 in
theorem asked6_spec (B : Bl) (p : Pb) (C : Ca) (q : Pc) (b cap : Nat) (ow : Option Kd) (H : List Row) (hB : BlOk H B p) (hC : CaOk H C q) (hm : ⟨b, 0, cQ6, ow, cap⟩ ∈ H) :
    Fc Try.prog 52 [.agg (cBl B p).toArray, .agg (cCa C q).toArray, .slice (some ⟨b, 0, none⟩) 6 6] H (fun v H' => v = .int .i64 (openE B C) ∧ H' = H) := by
  refine (lasked_spec B p C q qs6 (some ⟨b, 0, none⟩) 6 (okQ B C) H (SlE.ofRow (cap := cap) (ow := ow) hm (fun _ _ => rfl)) (by decide) ?_).mono ?_
  · intro k x hx hok Z
    have hB' : BlOk (Z ++ H) B p := hB.sub (fun _ h => List.mem_append_right _ h)
    have hC' : CaOk (Z ++ H) C q := hC.sub (fun _ h => List.mem_append_right _ h)
    rcases (show k = 0 ∨ k = 1 ∨ k = 2 ∨ k = 3 ∨ k = 4 ∨ k = 5 by have := (List.getElem?_eq_some_iff.1 hx).1; simp [qs6] at this; omega) with rfl | rfl | rfl | rfl | rfl | rfl
    all_goals (simp [qs6] at hx; subst hx)
    · exact (isValid_spec B p C q _ hB').mono (fun v H' h => by (have e : okQ B C 0 = decide (baleOk B) := decide_eq_decide.2 Iff.rfl); rw [e]; exact h)
    · exact (hasLayers_spec B p C q _ (of_decide_eq_true (hok 0 (by decide))).2.1 hC').mono (fun v H' h => by (have e : okQ B C 1 = decide (askL B C) := decide_eq_decide.2 Iff.rfl); rw [e]; exact h)
    · exact (areKinds_spec B p C q _ hC').mono (fun v H' h => by (have e : okQ B C 2 = decide (askK C) := decide_eq_decide.2 Iff.rfl); rw [e]; exact h)
    · exact (hasWeighings_spec B p C q _ hB' hC').mono (fun v H' h => by (have e : okQ B C 3 = decide (askW B C) := decide_eq_decide.2 Iff.rfl); rw [e]; exact h)
    · exact (areDamps_spec B p C q _ hC').mono (fun v H' h => by (have e : okQ B C 4 = decide (askD C) := decide_eq_decide.2 Iff.rfl); rw [e]; exact h)
    · exact (hasTruth_spec B p C q _ (of_decide_eq_true (hok 0 (by decide))) hB').mono (fun v H' h => by (have e : okQ B C 5 = decide (canB B) := decide_eq_decide.2 Iff.rfl); rw [e]; exact h)
  · rintro v H' ⟨⟨rfl, hok⟩ | ⟨k, x, hx, hno, hok, rfl⟩, rfl⟩
    · refine ⟨?_, rfl⟩
      have h0 := of_decide_eq_true (hok 0 (by decide)); have h1 := of_decide_eq_true (hok 1 (by decide)); have h2 := of_decide_eq_true (hok 2 (by decide)); have h3 := of_decide_eq_true (hok 3 (by decide)); have h4 := of_decide_eq_true (hok 4 (by decide)); have h5 := of_decide_eq_true (hok 5 (by decide))
      unfold openE
      rw [if_pos h0, if_pos h1, if_pos h2, if_pos h3, if_pos h4, if_pos h5]
    · refine ⟨?_, rfl⟩
      have hk : ∀ j, j < k → okQ B C j = true := hok
      rcases (show k = 0 ∨ k = 1 ∨ k = 2 ∨ k = 3 ∨ k = 4 ∨ k = 5 by have := (List.getElem?_eq_some_iff.1 hx).1; simp [qs6] at this; omega) with rfl | rfl | rfl | rfl | rfl | rfl
      all_goals (simp [qs6] at hx; subst hx; unfold openE)
      · rw [if_neg (of_decide_eq_false hno)]
      · rw [if_pos (of_decide_eq_true (hk 0 (by decide))), if_neg (of_decide_eq_false hno)]
      · rw [if_pos (of_decide_eq_true (hk 0 (by decide))), if_pos (of_decide_eq_true (hk 1 (by decide))), if_neg (of_decide_eq_false hno)]
      · rw [if_pos (of_decide_eq_true (hk 0 (by decide))), if_pos (of_decide_eq_true (hk 1 (by decide))), if_pos (of_decide_eq_true (hk 2 (by decide))), if_neg (of_decide_eq_false hno)]
      · rw [if_pos (of_decide_eq_true (hk 0 (by decide))), if_pos (of_decide_eq_true (hk 1 (by decide))), if_pos (of_decide_eq_true (hk 2 (by decide))), if_pos (of_decide_eq_true (hk 3 (by decide))), if_neg (of_decide_eq_false hno)]
      · rw [if_pos (of_decide_eq_true (hk 0 (by decide))), if_pos (of_decide_eq_true (hk 1 (by decide))), if_pos (of_decide_eq_true (hk 2 (by decide))), if_pos (of_decide_eq_true (hk 3 (by decide))), if_pos (of_decide_eq_true (hk 4 (by decide))), if_neg (of_decide_eq_false hno)]
def tsOp : List TOp := [⟨some 9, [], [], []⟩, ⟨some 10, [], [], []⟩, ⟨some 11, [], [], []⟩, ⟨some 12, [0, 1, 2], [0, 1, 2], []⟩, ⟨some 7, [0, 1, 2, 3], [3], []⟩]
def valOp (b2 b3 b4 b6 : Nat) (B : Bl) (p : Pb) (C : Ca) (q : Pc) (e : Int) (k : Nat) (env : Env) : Value :=
  match k with
  | 0 => .agg (cBl B p).toArray
  | 1 => .agg (cCa C q).toArray
  | 2 => .slice (some ⟨b6, 0, none⟩) 6 6
  | 3 => .int .i64 e
  | 4 => .int .i64 e
  | _ => undef
def rowsOp (b2 b3 b4 b6 : Nat) (B : Bl) (p : Pb) (C : Ca) (q : Pc) (e : Int) (k : Nat) (env : Env) : List Row :=
  match k with
  | _ => []
theorem locOp (b2 b3 b4 b6 : Nat) (B : Bl) (p : Pb) (C : Ca) (q : Pc) (e : Int) : ∀ k env i q9, i ≠ k → (tAt tsOp k).sup.contains i = false → valOp b2 b3 b4 b6 B p C q e k (upd env i q9) = valOp b2 b3 b4 b6 B p C q e k env ∧ rowsOp b2 b3 b4 b6 B p C q e k (upd env i q9) = rowsOp b2 b3 b4 b6 B p C q e k env := by
  intro k env i q hk hs
  have hu : ∀ j, j ≠ i → upd env i q j = env j := fun j hj => by unfold upd; rw [if_neg hj]
  match k, hk, hs with
  | 0, _, _ => exact ⟨rfl, rfl⟩
  | 1, _, _ => exact ⟨rfl, rfl⟩
  | 2, _, _ => exact ⟨rfl, rfl⟩
  | 3, _, _ => exact ⟨rfl, rfl⟩
  | 4, _, _ => exact ⟨rfl, rfl⟩
  | _ + 5, _, _ => exact ⟨rfl, rfl⟩
set_option maxHeartbeats 8000000 in
theorem open_spec (B : Bl) (p : Pb) (C : Ca) (q : Pc) (H : List Row) (hB : BlOk H B p) (hC : CaOk H C q) :
    Fc Try.prog 35 [.agg (cBl B p).toArray, .agg (cCa C q).toArray] H (fun v H' => ((openE B C = 0 ∧ v = .tuple #[.agg (cPr B p (gradesOf B)).toArray, .int .i64 0]) ∨ (openE B C ≠ 0 ∧ v = .tuple #[.agg (cPr Bz pzb (initG 0)).toArray, .int .i64 (openE B C)])) ∧ H' = H) := by
  have hb : openE B C = 0 → baleOk B := fun h => by
    unfold openE at h
    split at h
    · assumption
    · omega
  obtain ⟨e, he⟩ : ∃ e, openE B C = e := ⟨_, rfl⟩
  have hA : ∀ H' b cap ow, BlOk H' B p → CaOk H' C q → ⟨b, 0, cQ6, ow, cap⟩ ∈ H' → Fc Try.prog 52 [.agg (cBl B p).toArray, .agg (cCa C q).toArray, .slice (some ⟨b, 0, none⟩) 6 6] H' (fun v H'' => v = .int .i64 e ∧ H'' = H') := fun H' b cap ow h1 h2 h3 => by
    have := asked6_spec B p C q b cap ow H' h1 h2 h3
    rwa [he] at this
  rw [he]
  rw [he] at hb
  refine Fc.mk (callable Try.call35) Try.func35 rfl Try.ntmps35 rfl ?_; dsimp only [fr]
  repeat' (first | (refine XO.op rfl ?_; (first | ((first | refine Xo.ng rfl ?_); (first | (refine Xg.call (EnF.st rfl (by (repeat (first | exact Args.nil | refine Args.cons rfl ?_)); done)) rfl rfl (questions_spec _) ?_; rintro _ H9 ⟨rfl, hH9⟩; subst H9) | (refine Xg.st (StF.alloc rfl Try.zeroValue89 rfl) rfl rfl ?_; rintro _ _ ⟨bx, rfl, rfl⟩) | (refine Xg.st0 (StF.storeAll (i := 0) (vs := cQ6) rfl rfl rfl (te rfl) rfl rfl rfl rfl) rfl ?_; rintro _ _ ⟨rfl, rfl⟩; dsimp only [List.set]) | (refine Xg.ev (EvF.assign rfl rfl) rfl rfl ?_) | (refine Xg.st (StF.boxAgg rfl rfl) rfl rfl ?_; rintro _ _ ⟨bx, rfl, rfl⟩) | (refine Xg.st (StF.alloc rfl Try.zeroValue47 rfl) rfl rfl ?_; rintro _ _ ⟨bx, rfl, rfl⟩))))) | (refine XO.done rfl ?_; refine hK _ _ ?_; clear hK K) | refine X.seq rfl ?_ | refine X.region rfl (fun K hK => ?_))
  rename_i b2 b3 b4
  obtain ⟨b6, hb6⟩ : ∃ b, b = bx := ⟨_, rfl⟩
  rw [← hb6]
  clear hb6
  refine X.weak (F' := [(2, .pointer (some ⟨b2, 0, none⟩)), (3, .pointer (some ⟨b3, 0, none⟩)), (4, .pointer (some ⟨b4, 0, none⟩)), (6, .pointer (some ⟨b6, 0, none⟩))]) (H' := ⟨b6, 0, cQ6, some 89, 12⟩ :: ⟨b4, 0, cPr Bz pzb (initG 0), some 47, 16⟩ :: ⟨b3, 0, cCa C q, some 53, 4⟩ :: ⟨b2, 0, cBl B p, some 27, 6⟩ :: H) (by (repeat (first | exact Sub.nil _ | refine Sub.cons rfl ?_)); done) (by (repeat (first | exact List.Sublist.refl _ | apply List.Sublist.cons_cons | apply List.Sublist.cons)); done) ?_
  refine X.regionOb tsOp [2, 3, 4, 6] [(2, .pointer (some ⟨b2, 0, none⟩)), (3, .pointer (some ⟨b3, 0, none⟩)), (4, .pointer (some ⟨b4, 0, none⟩)), (6, .pointer (some ⟨b6, 0, none⟩))] (valOp b2 b3 b4 b6 B p C q e) (rowsOp b2 b3 b4 b6 B p C q e) (fun _ => (0, 0)) (⟨b6, 0, cQ6, some 89, 12⟩ :: ⟨b4, 0, cPr Bz pzb (initG 0), some 47, 16⟩ :: ⟨b3, 0, cCa C q, some 53, 4⟩ :: ⟨b2, 0, cBl B p, some 27, 6⟩ :: H) rfl mixed (by (repeat (first | exact Sub.nil _ | refine Sub.cons rfl ?_)); done) rfl (by kernel_rfl) (locOp b2 b3 b4 b6 B p C q e) (List.Sublist.refl _) ?_ ?_
  · repeat' (first | exact AllF.done rfl | (refine AllF.step rfl ?_ ?_; · (first | fail | ((first | refine Ob.ng rfl ?_); (first | exact ObK.pure (fun env R hR => by exact ⟨_, EvF.assign rfl rfl, rfl⟩) rfl (fun _ => rfl) | exact ObK.pure (fun env R hR => by exact ⟨_, EvF.loadV rfl rfl (LoadV.whole (te rfl) rfl (hR _ (List.Mem.tail _ (List.Mem.tail _ (List.Mem.head _)))) rfl), rfl⟩) rfl (fun _ => rfl) | exact ObK.pure (fun env R hR => by exact ⟨_, EvF.loadV rfl rfl (LoadV.whole (te rfl) rfl (hR _ (List.Mem.tail _ (List.Mem.tail _ (List.Mem.tail _ (List.Mem.head _))))) rfl), rfl⟩) rfl (fun _ => rfl) | (exact fun env S hS => OpF.callV (Z := []) (EnF.st rfl (Args.cons rfl (Args.cons rfl (Args.cons rfl Args.nil)))) (hA _ _ _ _ (hB.sub (fun _ h => hS _ (List.mem_append_right [_, _, _, _] h))) (hC.sub (fun _ h => hS _ (List.mem_append_right [_, _, _, _] h))) (hS _ (List.Mem.head _))) rfl rfl) | ((refine ObK.pure (fun env S hS => ⟨.slice (some ⟨b6, 0, none⟩) 6 6, ?_, rfl⟩) rfl (fun _ => rfl); exact EvF.sliceArrOf (b := b6) (off := 0) (len := 6) rfl rfl (te rfl) (te rfl))))))))
  intro env t ha hv
  refine ⟨_, ha.cons (hv 4 7 (Nat.le_of_ble_eq_true rfl) rfl), ?_⟩
  refine X.weak (F' := [(2, .pointer (some ⟨b2, 0, none⟩)), (4, .pointer (some ⟨b4, 0, none⟩)), (7, .int .i64 e)]) (H' := ⟨b4, 0, cPr Bz pzb (initG 0), some 47, 16⟩ :: ⟨b2, 0, cBl B p, some 27, 6⟩ :: H) (by (repeat (first | exact Sub.nil _ | refine Sub.cons rfl ?_)); done) (by (repeat (first | exact List.Sublist.refl _ | apply List.Sublist.cons_cons | apply List.Sublist.cons)); done) ?_
  by_cases h0 : e = 0
  · have hbo := hb h0
    have hg := gradesOf_len hbo
    repeat' (first | (refine XO.op rfl ?_; (first | ((first | refine Xo.ng rfl ?_); (first | (refine Xg.call (EnF.st rfl (Args.cons rfl Args.nil)) rfl rfl (pressed_spec B p _ hbo.h5 hbo.hd (hB.sub (fun _ h => by repeat (first | exact h | apply List.Mem.tail)))) ?_; rintro _ H9 ⟨rfl, hH9⟩; subst H9) | (refine Xg.st0 (StF.storeAll (i := 0) (vs := cPr B p (gradesOf B)) rfl rfl rfl (te rfl) rfl (lenPr hg) (onePr _ _ _) (lenPr hg)) rfl ?_; rintro _ _ ⟨rfl, rfl⟩; dsimp only [List.set]) | (refine Xg.ev (EvF.move rfl rfl) rfl rfl ?_) | (refine Xg.ev (EvF.assign rfl rfl) rfl rfl ?_) | (refine Xg.ev (EvF.cmp rfl rfl rfl rfl) rfl rfl ?_) | (refine Xg.ev (EvF.loadV rfl rfl (LoadV.whole (te rfl) rfl (List.Mem.tail _ (List.Mem.head _)) rfl)) rfl rfl ?_))))) | (refine XO.done rfl ?_; refine hK _ _ ?_; clear hK K) | refine X.seq rfl ?_ | refine X.region rfl (fun K hK => ?_) | refine X.skip rfl ?_ | refine X.ret rfl ?_ | (refine X.ite rfl rfl (fun hc => ?_); (first | (with_reducible refine Xb.caseN hc (fun h => ?_) (fun h => ?_))) <;> clear hc))
    all_goals try (exfalso; contradiction)
    exact ret_two (by first | exact .inr rfl | exact .inl rfl) Try.results35 ⟨_, rfl, LoadV.whole (te rfl) rfl (List.Mem.head _) (lenPr hg)⟩ rfl (H' := H) (by (repeat (first | exact List.Sublist.refl _ | apply List.Sublist.cons)); done) ⟨.inl ⟨h0, rfl⟩, rfl⟩
  · repeat' (first | (refine XO.op rfl ?_; (first | ((first | refine Xo.ng rfl ?_); (first | (refine Xg.ev (EvF.build (cs := cPr Bz pzb (initG 0)) rfl ArgsP.nil (te rfl) (Places.cons (te rfl) (Places.cons (te rfl) Places.nil)) Try.zeroValue47 rfl) rfl rfl ?_) | (refine Xg.st0 (StF.storeAll (i := 0) (vs := cPr Bz pzb (initG 0)) rfl rfl rfl (te rfl) rfl rfl rfl rfl) rfl ?_; rintro _ _ ⟨rfl, rfl⟩; dsimp only [List.set]) | (refine Xg.ev (EvF.move rfl rfl) rfl rfl ?_) | (refine Xg.ev (EvF.assign rfl rfl) rfl rfl ?_) | (refine Xg.ev (EvF.cmp rfl rfl rfl rfl) rfl rfl ?_) | (refine Xg.ev (EvF.loadV rfl rfl (LoadV.whole (te rfl) rfl (List.Mem.tail _ (List.Mem.head _)) rfl)) rfl rfl ?_))))) | (refine XO.done rfl ?_; refine hK _ _ ?_; clear hK K) | refine X.seq rfl ?_ | refine X.region rfl (fun K hK => ?_) | refine X.skip rfl ?_ | refine X.ret rfl ?_ | (refine X.ite rfl rfl (fun hc => ?_); (first | (with_reducible refine Xb.caseN hc (fun h => ?_) (fun h => ?_))) <;> clear hc))
    all_goals try (exfalso; contradiction)
    exact ret_two (by first | exact .inr rfl | exact .inl rfl) Try.results35 ⟨_, rfl, LoadV.whole (te rfl) rfl (List.Mem.head _) rfl⟩ rfl (H' := H) (by (repeat (first | exact List.Sublist.refl _ | apply List.Sublist.cons)); done) ⟨.inr ⟨h0, rfl⟩, rfl⟩
end Go.Proofs.Ytminkpgacomicac
end
section
set_option linter.unusedVariables false
set_option linter.unusedSimpArgs false
namespace Go.Proofs.Ytminkpgacomicac
open Go Go.Fw
set_option maxRecDepth 10000
def spIf (b : Prop) [Decidable b] (s : Sp) : Sp := if b then s else ⟨0, 0⟩
theorem ltoldSp_spec (B : Bl) (p : Pb) (g : List Sp) (hg : g.length = 5) (e : Int) (f : Nat) (cap : List Value) (s : Sp) (H : List Row)
    (ht : e = 0 → ∀ H', (∀ r ∈ H, r ∈ H') → Fc Try.prog f ([.agg (cPr B p g).toArray] ++ cap) H' (fun v H'' => v = .agg (cSp s).toArray ∧ H'' = H')) :
    Fc Try.prog 36 [.agg (cPr B p g).toArray, .int .i64 e, .func (.func f) #[] cap.toArray] H (fun v H' => v = .tuple #[.agg (cSp (spIf (e = 0) s)).toArray, .int .i64 e] ∧ H' = H) := by
  have hlp : (cPr B p g).length = 16 := lenPr hg
  by_cases h0 : e = 0
  · subst h0
    have e1 : spIf ((0 : Int) = 0) s = s := by unfold spIf; rw [if_pos rfl]
    rw [e1]
    refine Fc.mk (callable Try.call36) Try.func36 rfl Try.ntmps36 rfl ?_; dsimp only [fr]
    repeat' (first | (refine XO.op rfl ?_; (first | ((first | refine Xo.ng rfl ?_); (first | (refine Xg.ev (EvF.loadV rfl rfl (LoadV.whole (te rfl) rfl (List.Mem.tail _ (List.Mem.head _)) hlp)) rfl rfl ?_) | (refine Xg.call (EnF.dyn0 rfl rfl (by (repeat (first | exact Args.nil | refine Args.cons rfl ?_)); done)) rfl rfl (ht rfl _ (fun _ h => by repeat (first | exact h | apply List.Mem.tail))) ?_; rintro _ H9 ⟨rfl, hH9⟩; subst H9) | (refine Xg.ev (EvF.move rfl rfl) rfl rfl ?_) | (refine Xg.ev (EvF.assign rfl rfl) rfl rfl ?_) | (refine Xg.ev (EvF.cmp rfl rfl rfl rfl) rfl rfl ?_) | (refine Xg.ev (EvF.loadV rfl rfl (LoadV.whole (te rfl) rfl (List.Mem.head _) rfl)) rfl rfl ?_) | (refine Xg.st (StF.boxAgg rfl rfl) rfl rfl ?_; rintro _ _ ⟨bx, rfl, rfl⟩) | (refine Xg.st (StF.alloc rfl Try.zeroValue23 rfl) rfl rfl ?_; rintro _ _ ⟨bx, rfl, rfl⟩) | (refine Xg.st0 (StF.storeAll (i := 0) rfl rfl rfl (te rfl) rfl rfl rfl rfl) rfl ?_; rintro _ _ ⟨rfl, rfl⟩; dsimp only [List.set]) | (refine Xg.st0 (StF.storeAll (i := 1) rfl rfl rfl (te rfl) rfl rfl rfl rfl) rfl ?_; rintro _ _ ⟨rfl, rfl⟩; dsimp only [List.set]))))) | (refine XO.done rfl ?_; refine hK _ _ ?_; clear hK K) | refine X.seq rfl ?_ | refine X.region rfl (fun K hK => ?_) | refine X.skip rfl ?_ | refine X.ret rfl ?_ | (refine X.ite rfl rfl (fun hc => ?_); (first | (with_reducible refine Xb.caseN hc (fun h => ?_) (fun h => ?_))) <;> clear hc))
    all_goals try (exfalso; contradiction)
    exact ret_two (v := .agg (cSp s).toArray) (by first | exact .inr rfl | exact .inl rfl) Try.results36 ⟨_, rfl, LoadV.whole (te rfl) rfl (List.Mem.head _) rfl⟩ rfl (H' := H) (by (repeat (first | exact List.Sublist.refl _ | apply List.Sublist.cons)); done) ⟨rfl, rfl⟩
  · have e1 : spIf (e = 0) s = ⟨0, 0⟩ := by unfold spIf; rw [if_neg h0]
    rw [e1]
    refine Fc.mk (callable Try.call36) Try.func36 rfl Try.ntmps36 rfl ?_; dsimp only [fr]
    repeat' (first | (refine XO.op rfl ?_; (first | ((first | refine Xo.ng rfl ?_); (first | (refine Xg.ev (EvF.cmp (b := true) rfl rfl rfl (congrArg some (by simp [h0]))) rfl rfl ?_) | (refine Xg.ev (EvF.move rfl rfl) rfl rfl ?_) | (refine Xg.ev (EvF.assign rfl rfl) rfl rfl ?_) | (refine Xg.ev (EvF.loadV rfl rfl (LoadV.whole (te rfl) rfl (List.Mem.head _) rfl)) rfl rfl ?_) | (refine Xg.st (StF.boxAgg rfl rfl) rfl rfl ?_; rintro _ _ ⟨bx, rfl, rfl⟩) | (refine Xg.st (StF.alloc rfl Try.zeroValue23 rfl) rfl rfl ?_; rintro _ _ ⟨bx, rfl, rfl⟩) | (refine Xg.st0 (StF.storeAll (i := 1) rfl rfl rfl (te rfl) rfl rfl rfl rfl) rfl ?_; rintro _ _ ⟨rfl, rfl⟩; dsimp only [List.set]))))) | (refine XO.done rfl ?_; refine hK _ _ ?_; clear hK K) | refine X.seq rfl ?_ | refine X.region rfl (fun K hK => ?_) | refine X.ret rfl ?_ | (refine X.ite rfl rfl (fun hc => ?_); (first | (with_reducible refine Xb.t hc ?_)) <;> clear hc))
    all_goals try (exfalso; contradiction)
    exact ret_two (v := .agg (cSp ⟨0, 0⟩).toArray) (by first | exact .inr rfl | exact .inl rfl) Try.results36 ⟨_, rfl, LoadV.whole (te rfl) rfl (List.Mem.tail _ (List.Mem.head _)) rfl⟩ rfl (H' := H) (by (repeat (first | exact List.Sublist.refl _ | apply List.Sublist.cons)); done) ⟨rfl, rfl⟩
set_option maxHeartbeats 4000000 in
theorem toldSp_spec (B : Bl) (p : Pb) (C : Ca) (q : Pc) (f : Nat) (cap : List Value) (s : Sp) (H : List Row) (hB : BlOk H B p) (hC : CaOk H C q)
    (ht : openE B C = 0 → ∀ H', (∀ r ∈ H, r ∈ H') → Fc Try.prog f ([.agg (cPr B p (gradesOf B)).toArray] ++ cap) H' (fun v H'' => v = .agg (cSp s).toArray ∧ H'' = H')) :
    Fc Try.prog 21 [.agg (cBl B p).toArray, .agg (cCa C q).toArray, .func (.func f) #[] cap.toArray] H (fun v H' => v = .tuple #[.agg (cSp (spIf (openE B C = 0) s)).toArray, .int .i64 (openE B C)] ∧ H' = H) := by
  have hb : openE B C = 0 → (gradesOf B).length = 5 := fun h => by
    refine gradesOf_len ?_
    unfold openE at h
    split at h
    · assumption
    · omega
  obtain ⟨BX, pX, gX, hgX, hXe, hop⟩ : ∃ (BX : Bl) (pX : Pb) (gX : List Sp), gX.length = 5 ∧ (openE B C = 0 → BX = B ∧ pX = p ∧ gX = gradesOf B) ∧ ∀ H', BlOk H' B p → CaOk H' C q → Fc Try.prog 35 [.agg (cBl B p).toArray, .agg (cCa C q).toArray] H' (fun v H'' => v = .tuple #[.agg (cPr BX pX gX).toArray, .int .i64 (openE B C)] ∧ H'' = H') := by
    by_cases h : openE B C = 0
    · refine ⟨B, p, gradesOf B, hb h, fun _ => ⟨rfl, rfl, rfl⟩, fun H' h1 h2 => (open_spec B p C q H' h1 h2).mono fun v H'' ⟨q1, q2⟩ => ⟨?_, q2⟩⟩
      rcases q1 with ⟨_, q1⟩ | ⟨q0, _⟩
      · rw [q1, h]
      · exact absurd h q0
    · refine ⟨Bz, pzb, initG 0, rfl, fun h0 => absurd h0 h, fun H' h1 h2 => (open_spec B p C q H' h1 h2).mono fun v H'' ⟨q1, q2⟩ => ⟨?_, q2⟩⟩
      rcases q1 with ⟨q0, _⟩ | ⟨_, q1⟩
      · exact absurd q0 h
      · exact q1
  have hlp : (cPr BX pX gX).length = 16 := lenPr hgX
  have hl : ∀ H', (∀ r ∈ H, r ∈ H') → Fc Try.prog 36 [.agg (cPr BX pX gX).toArray, .int .i64 (openE B C), .func (.func f) #[] cap.toArray] H' (fun v H'' => v = .tuple #[.agg (cSp (spIf (openE B C = 0) s)).toArray, .int .i64 (openE B C)] ∧ H'' = H') := fun H' h => ltoldSp_spec BX pX gX hgX _ f cap s H' (fun h0 H'' h2 => by obtain ⟨rfl, rfl, rfl⟩ := hXe h0; exact ht h0 H'' (fun r hr => h2 r (h r hr)))
  obtain ⟨rr, hrr⟩ : ∃ x, spIf (openE B C = 0) s = x := ⟨_, rfl⟩
  rw [hrr] at hl ⊢
  obtain ⟨er, her⟩ : ∃ e, openE B C = e := ⟨_, rfl⟩
  rw [her] at hl hop ⊢
  refine Fc.mk (callable Try.call21) Try.func21 rfl Try.ntmps21 rfl ?_; dsimp only [fr]
  repeat' (first | (refine XO.op rfl ?_; (first | ((first | refine Xo.ng rfl ?_); (first | (refine Xg.call (EnF.st rfl (Args.cons rfl (Args.cons rfl Args.nil))) rfl rfl (hop _ (hB.sub (fun _ h => by repeat (first | exact h | apply List.Mem.tail))) (hC.sub (fun _ h => by repeat (first | exact h | apply List.Mem.tail)))) ?_; rintro _ H9 ⟨rfl, hH9⟩; subst H9) | (refine Xg.call (EnF.st rfl (Args.cons rfl (Args.cons rfl (Args.cons rfl Args.nil)))) rfl rfl (hl _ (fun _ h => by repeat (first | exact h | apply List.Mem.tail))) ?_; rintro _ H9 ⟨rfl, hH9⟩; subst H9) | (refine Xg.st0 (StF.storeAll (i := 0) (vs := cPr BX pX gX) rfl rfl rfl (te rfl) rfl hlp (onePr _ _ _) hlp) rfl ?_; rintro _ _ ⟨rfl, rfl⟩; dsimp only [List.set]) | (refine Xg.ev (EvF.loadV rfl rfl (LoadV.whole (te rfl) rfl (List.Mem.head _) hlp)) rfl rfl ?_) | (refine Xg.ev (EvF.move rfl rfl) rfl rfl ?_) | (refine Xg.ev (EvF.assign rfl rfl) rfl rfl ?_) | (refine Xg.ev (EvF.loadV rfl rfl (LoadV.whole (te rfl) rfl (List.Mem.tail _ (List.Mem.head _)) rfl)) rfl rfl ?_) | (refine Xg.ev (EvF.loadV rfl rfl (LoadV.whole (te rfl) rfl (List.Mem.tail _ (List.Mem.tail _ (List.Mem.head _))) rfl)) rfl rfl ?_) | (refine Xg.ev (EvF.extract rfl rfl rfl) rfl rfl ?_) | (refine Xg.st (StF.boxAgg rfl rfl) rfl rfl ?_; rintro _ _ ⟨bx, rfl, rfl⟩) | (refine Xg.st (StF.alloc rfl Try.zeroValue23 rfl) rfl rfl ?_; rintro _ _ ⟨bx, rfl, rfl⟩) | (refine Xg.st (StF.alloc rfl Try.zeroValue47 rfl) rfl rfl ?_; rintro _ _ ⟨bx, rfl, rfl⟩) | (refine Xg.st0 (StF.storeAll (i := 1) rfl rfl rfl (te rfl) rfl rfl rfl rfl) rfl ?_; rintro _ _ ⟨rfl, rfl⟩; dsimp only [List.set]))))) | (refine XO.done rfl ?_; refine hK _ _ ?_; clear hK K) | refine X.seq rfl ?_ | refine X.region rfl (fun K hK => ?_) | refine X.ret rfl ?_)
  exact ret_two (v := .agg (cSp rr).toArray) (by first | exact .inr rfl | exact .inl rfl) Try.results21 ⟨_, rfl, LoadV.whole (te rfl) rfl (List.Mem.tail _ (List.Mem.head _)) rfl⟩ rfl (H' := H) (by (repeat (first | exact List.Sublist.refl _ | apply List.Sublist.cons)); done) ⟨rfl, rfl⟩
theorem layer1_spec (B : Bl) (p : Pb) (g : List Sp) (i : Int) (b : Nat) (ow : Option Kd) (cap : Nat) (H : List Row) (hi : 0 ≤ i ∧ i < 5) (hg : g.length = 5) (hm : ⟨b, 0, [.int .i64 i], ow, cap⟩ ∈ H) :
    Fc Try.prog 22 ([.agg (cPr B p g).toArray] ++ [.pointer (some ⟨b, 0, none⟩)]) H (fun v H' => v = .agg (cSp (spAt g i.toNat)).toArray ∧ H' = H) := by
  show Fc Try.prog 22 [.agg (cPr B p g).toArray, .pointer (some ⟨b, 0, none⟩)] H _
  have hgi : (g.take 5)[i.toNat]? = some (spAt g i.toNat) := by rw [List.getElem?_take, if_pos (by omega)]; exact spAt_get (by omega)
  refine Fc.mk (callable Try.call22) Try.func22 rfl Try.ntmps22 rfl ?_; dsimp only [fr]
  repeat' (first | (refine XO.op rfl ?_; (first | ((first | refine Xo.ng rfl ?_); (first | (refine Xg.ev (EvF.loadV rfl rfl (LoadV.own (te rfl) rfl (List.Mem.tail _ (List.Mem.tail _ hm)) rfl)) rfl rfl ?_) | (refine Xg.ev (EvF.indexArray rfl rfl rfl (te rfl) (te rfl) (by omega) (by omega)) rfl rfl ?_) | (refine Xg.ev (EvF.loadV rfl rfl (LoadV.elA0 (slePr (List.Mem.tail _ (List.Mem.head _))) hgi (te rfl) rfl (fun _ h => h) rfl)) rfl rfl ?_) | (refine Xg.ev (EvF.fieldAddr rfl rfl (te rfl) rfl (te rfl) (by decide)) rfl rfl ?_) | (refine Xg.st (StF.boxAgg rfl rfl) rfl rfl ?_; rintro _ _ ⟨bx, rfl, rfl⟩) | (refine Xg.st (StF.alloc rfl Try.zeroValue23 rfl) rfl rfl ?_; rintro _ _ ⟨bx, rfl, rfl⟩) | (refine Xg.st0 (StF.storeAll (i := 0) rfl rfl rfl (te rfl) rfl rfl rfl rfl) rfl ?_; rintro _ _ ⟨rfl, rfl⟩; dsimp only [List.set]))))) | (refine XO.done rfl ?_; refine hK _ _ ?_; clear hK K) | refine X.seq rfl ?_ | refine X.region rfl (fun K hK => ?_) | refine X.ret rfl ?_)
  exact ret_one (by first | exact .inr rfl | exact .inl rfl) Try.results22 ⟨_, rfl, LoadV.whole (te rfl) rfl (List.Mem.head _) rfl⟩ (H' := H) (by (repeat (first | exact List.Sublist.refl _ | apply List.Sublist.cons)); done) ⟨rfl, rfl⟩
def ts29 : List TOp := [⟨some 14, [], [], []⟩, ⟨some 15, [0], [0], []⟩, ⟨some 16, [], [], []⟩, ⟨some 17, [], [], []⟩, ⟨some 18, [2, 3], [3, 2], []⟩, ⟨some 19, [2, 3, 4], [4], []⟩, ⟨some 20, [2, 3, 4, 5], [5], []⟩, ⟨some 21, [0, 1, 2, 3, 4, 5, 6], [1, 6], []⟩, ⟨some 22, [], [], []⟩, ⟨some 23, [8], [8], []⟩, ⟨some 24, [], [], []⟩, ⟨some 25, [], [], []⟩, ⟨some 26, [10, 11], [11, 10], []⟩, ⟨some 27, [10, 11, 12], [12], []⟩, ⟨some 28, [10, 11, 12, 13], [13], []⟩, ⟨some 29, [8, 9, 10, 11, 12, 13, 14], [9, 14], []⟩, ⟨some 30, [0, 1, 2, 3, 4, 5, 6, 7, 8, 9], [], []⟩, ⟨none, [0, 1, 2, 3, 4, 5, 6, 7, 8, 9, 16], [16, 7], [20]⟩, ⟨some 31, [0, 1, 2, 3, 4, 5, 6, 7, 8, 9, 10, 11, 12, 13, 14, 15, 16, 17], [], []⟩, ⟨none, [0, 1, 2, 3, 4, 5, 6, 7, 8, 9, 10, 11, 12, 13, 14, 15, 16, 17, 18], [18, 15], [17]⟩, ⟨none, [], [], []⟩]
def rd29 (k : Nat) : List Nat := match k with
  | 1 => [20]
  | 9 => [20]
  | _ => []
def rows29 (bs : Nat) (s : Sp) (a b : Int) (k : Nat) (_ : Env) : List Row :=
  match k with
  | 17 => [⟨bs, 0, cSp ⟨a, s.hi⟩, some 23, 2⟩]
  | 19 => [⟨bs, 0, cSp ⟨a, b⟩, some 23, 2⟩]
  | 20 => [⟨bs, 0, cSp s, some 23, 2⟩]
  | _ => []
def bestF (g : List Sp) (s : Sp) : Sp := g.foldl (fun s x => ⟨min s.lo x.lo, min s.hi x.hi⟩) s
set_option maxHeartbeats 4000000 in
theorem best1_spec (B : Bl) (p : Pb) (g : List Sp) (H : List Row) (h5 : 1 ≤ B.layers ∧ B.layers ≤ 5) (hg : g.length = 5) :
    Fc Try.prog 29 ([.agg (cPr B p g).toArray] ++ []) H (fun v H' => v = .agg (cSp (bestF (g.take B.layers.toNat) (spAt g 0))).toArray ∧ H' = H) := by
  show Fc Try.prog 29 [.agg (cPr B p g).toArray] H _
  have hgi : (g.take 5)[0]? = some (spAt g 0) := by rw [List.getElem?_take, if_pos (by omega)]; exact spAt_get (by omega)
  refine Fc.mk (callable Try.call29) Try.func29 rfl Try.ntmps29 rfl ?_; dsimp only [fr]
  repeat' (first | (refine XO.op rfl ?_; (first | ((first | refine Xo.ng rfl ?_); (first | (refine Xg.ev (EvF.indexArray rfl rfl rfl (te rfl) (te rfl) (by omega) (by omega)) rfl rfl ?_) | (refine Xg.ev (EvF.loadV rfl rfl (LoadV.elA0 (n := 0) (slePr (List.Mem.tail _ (List.Mem.head _))) hgi (te rfl) rfl (fun _ h => h) rfl)) rfl rfl ?_) | (refine Xg.ev (EvF.move rfl rfl) rfl rfl ?_) | (refine Xg.ev (EvF.fieldAddr rfl rfl (te rfl) rfl (te rfl) (by decide)) rfl rfl ?_) | (refine Xg.ev (EvF.loadV rfl rfl (LoadV.own (te rfl) rfl (List.Mem.tail _ (List.Mem.tail _ (List.Mem.head _))) rfl)) rfl rfl ?_) | (refine Xg.st (StF.boxAgg rfl rfl) rfl rfl ?_; rintro _ _ ⟨bx, rfl, rfl⟩) | (refine Xg.st (StF.alloc rfl Try.zeroValue23 rfl) rfl rfl ?_; rintro _ _ ⟨bx, rfl, rfl⟩) | (refine Xg.st0 (StF.storeAll (i := 0) rfl rfl rfl (te rfl) rfl rfl rfl rfl) rfl ?_; rintro _ _ ⟨rfl, rfl⟩; dsimp only [List.set]))))) | (refine XO.done rfl ?_; refine hK _ _ ?_; clear hK K) | refine X.seq rfl ?_ | refine X.region rfl (fun K hK => ?_) | refine X.block rfl ?_)
  rename_i bp b2; rename Nat => bs
  refine X.lp rfl (fun m F' H' => ∃ k : Nat, m = B.layers.toNat - k ∧ k ≤ B.layers.toNat ∧ H' = ⟨bs, 0, cSp (bestF (g.take k) (spAt g 0)), some 23, 2⟩ :: ⟨b2, 0, cSp ⟨0, 0⟩, some 23, 2⟩ :: ⟨bp, 0, cPr B p g, some 47, 16⟩ :: H ∧
      F' = [(1, .pointer (some ⟨bp, 0, none⟩)), (2, .pointer (some ⟨b2, 0, none⟩)), (3, .pointer (some ⟨bs, 0, none⟩)), (10, .int .i64 B.layers), (11, .int .i64 k)])
    B.layers.toNat [(1, .pointer (some ⟨bp, 0, none⟩)), (2, .pointer (some ⟨b2, 0, none⟩)), (3, .pointer (some ⟨bs, 0, none⟩)), (10, .int .i64 B.layers), (11, .int .i64 (0 : Nat))] (⟨bs, 0, cSp (spAt g 0), some 23, 2⟩ :: ⟨b2, 0, cSp ⟨0, 0⟩, some 23, 2⟩ :: ⟨bp, 0, cPr B p g, some 47, 16⟩ :: H) (by (repeat (first | exact Sub.nil _ | refine Sub.cons rfl ?_)); done) (by rw [← lenPr (B := B) (p := p) hg]; exact List.Sublist.refl _) ⟨0, by omega, by omega, rfl, rfl⟩ ?_
  rintro _ _ _ ⟨k, rfl, hk, rfl, rfl⟩
  obtain ⟨s, hsE⟩ : ∃ s, bestF (g.take k) (spAt g 0) = s := ⟨_, rfl⟩
  rw [hsE]
  repeat' (first | (refine XO.op rfl ?_; (first | ((first | refine Xo.ng rfl ?_); (first | (refine Xg.ev (EvF.move rfl rfl) rfl rfl ?_) | (refine Xg.ev (EvF.assign rfl rfl) rfl rfl ?_) | (refine Xg.ev (EvF.cmp rfl rfl rfl rfl) rfl rfl ?_) | (refine Xg.ev (EvF.loadV rfl rfl (LoadV.whole (te rfl) rfl (List.Mem.head _) rfl)) rfl rfl ?_) | (refine Xg.st0 (StF.storeAll (i := 1) rfl rfl rfl (te rfl) rfl rfl rfl rfl) rfl ?_; rintro _ _ ⟨rfl, rfl⟩; dsimp only [List.set]))))) | (refine XO.done rfl ?_; refine hK _ _ ?_; clear hK K) | refine X.seq rfl ?_ | refine X.region rfl (fun K hK => ?_) | refine X.block rfl ?_ | (refine X.brk rfl ?_; repeat (first | refine blockX_hit rfl ?_ | refine blockX_miss (by decide) ?_)) | refine X.skip rfl ?_ | refine X.ret rfl ?_ | (refine X.ite rfl rfl (fun hc => ?_); (first | (with_reducible refine Xb.case hc (fun h => ?_) (fun h => ?_))) <;> clear hc))
  · have hkg : k < g.length := by omega
    have e1 : bestF (g.take (k + 1)) (spAt g 0) = ⟨min s.lo (spAt g k).lo, min s.hi (spAt g k).hi⟩ := by unfold bestF; rw [take_snoc (spAt_get hkg), List.foldl_append]; unfold bestF at hsE; rw [hsE]; rfl
    refine X.regionRd ts29 rd29 [3, 4, 1, 2, 10, 11] [(3, .pointer (some ⟨bs, 0, none⟩)), (4, .int .i64 k), (1, .pointer (some ⟨bp, 0, none⟩)), (2, .pointer (some ⟨b2, 0, none⟩)), (10, .int .i64 B.layers), (11, .int .i64 k)]
      (valL [.pointer (some ⟨bs, 0 + 0, none⟩), .int .i64 s.lo, .int .i64 k, .pointer (some ⟨bp, 0 + 6, none⟩), .pointer (some ⟨bp, 6 + k * 2, none⟩), .pointer (some ⟨bp, 6 + k * 2 + 0, none⟩), .int .i64 (spAt g k).lo, .int .i64 (min s.lo (spAt g k).lo),
        .pointer (some ⟨bs, 0 + 1, none⟩), .int .i64 s.hi, .int .i64 k, .pointer (some ⟨bp, 0 + 6, none⟩), .pointer (some ⟨bp, 6 + k * 2, none⟩), .pointer (some ⟨bp, 6 + k * 2 + 1, none⟩), .int .i64 (spAt g k).hi, .int .i64 (min s.hi (spAt g k).hi), .pointer (some ⟨bs, 0 + 0, none⟩), undef, .pointer (some ⟨bs, 0 + 1, none⟩)])
      (rows29 bs s (min s.lo (spAt g k).lo) (min s.hi (spAt g k).hi)) (fun _ => (0, 0)) (⟨b2, 0, cSp ⟨0, 0⟩, some 23, 2⟩ :: ⟨bp, 0, cPr B p g, some 47, 16⟩ :: H) rfl mixed (by (repeat (first | exact Sub.nil _ | refine Sub.cons rfl ?_)); done) rfl (by kernel_rfl) (by kernel_rfl) (fun _ _ _ _ _ _ => ⟨rfl, rfl⟩) (List.Sublist.refl _) ?_ ?_
    · repeat' (first | exact AllF.done rfl | (refine AllF.step rfl ?_ ?_; · (first | exact (Ob.ng rfl (ObK.pure (fun env R hR => by exact ⟨_, EvF.move rfl rfl, rfl⟩) rfl (fun _ => rfl))).toR | exact (Ob.ng rfl (ObK.pure (fun env R hR => by exact ⟨_, EvF.fieldAddr rfl rfl (te rfl) rfl (te rfl) (by decide), rfl⟩) rfl (fun _ => rfl))).toR | (refine ObR.ng rfl ?_; (first | (exact fun env S hS hrd => (StF.ofEv (EvF.min64 rfl rfl rfl)).op.mono (fun v H' ⟨hv, hH⟩ => ⟨(0, 0), fun _ => hv, by rw [hH]; exact List.Perm.refl _⟩)) | (exact fun env S hS hrd => (StF.ofEv (EvF.loadV rfl rfl (LoadV.own (te rfl) rfl (hrd 20 (List.Mem.head _) _ (List.Mem.head _)) rfl))).op.mono (fun v H' ⟨hv, hH⟩ => ⟨(0, 0), fun _ => hv, by rw [hH]; exact List.Perm.refl _⟩)) | (exact fun env S hS hrd => (StF.ofEv (EvF.loadV rfl rfl (LoadV.own (te rfl) rfl (hS _ (List.Mem.tail _ (List.Mem.head _))) (getPr (j := 0) (spAt_get hkg) rfl)))).op.mono (fun v H' ⟨hv, hH⟩ => ⟨(0, 0), fun _ => hv, by rw [hH]; exact List.Perm.refl _⟩)) | (exact fun env S hS hrd => (StF.ofEv (EvF.loadV rfl rfl (LoadV.own (te rfl) rfl (hS _ (List.Mem.tail _ (List.Mem.head _))) (getPr (j := 1) (spAt_get hkg) rfl)))).op.mono (fun v H' ⟨hv, hH⟩ => ⟨(0, 0), fun _ => hv, by rw [hH]; exact List.Perm.refl _⟩)) | (exact fun env S hS hrd => (StF.storeOne (i := 0) (cs := cSp s) rfl rfl rfl rfl (te rfl) rfl rfl (Nat.le_of_ble_eq_true rfl)).op.mono (fun v H' ⟨hv, hH⟩ => ⟨(0, 0), fun h => absurd rfl h, by rw [hH]; exact List.Perm.refl _⟩)) | (exact fun env S hS hrd => (StF.storeOne (i := 0) (cs := cSp ⟨min s.lo (spAt g k).lo, s.hi⟩) rfl rfl rfl rfl (te rfl) rfl rfl (Nat.le_of_ble_eq_true rfl)).op.mono (fun v H' ⟨hv, hH⟩ => ⟨(0, 0), fun h => absurd rfl h, by rw [hH]; exact List.Perm.refl _⟩)) | ((refine fun env S hS hrd => (StF.ofEv (v := .pointer (some ⟨bp, 6 + k * 2, none⟩)) ?_).op.mono (fun v H' ⟨hv, hH⟩ => ⟨(0, 0), fun _ => hv, by rw [hH]; exact List.Perm.refl _⟩); refine EvF.indexArray (i := (k : Int)) (off := 0 + 6) (b := bp) (T := 45) (e := 23) (len := 5) (ti := ⟨.st [(0, 3), (1, 3)], 2, 16⟩) rfl rfl rfl (te rfl) (te rfl) ?_ ?_ <;> omega)))))))
    · intro env t ha hv
      refine ⟨_, ha, ?_⟩
      show X _ _ _ _ (⟨bs, 0, cSp ⟨min s.lo (spAt g k).lo, min s.hi (spAt g k).hi⟩, some 23, 2⟩ :: ⟨b2, 0, cSp ⟨0, 0⟩, some 23, 2⟩ :: ⟨bp, 0, cPr B p g, some 47, 16⟩ :: H) _
      repeat' (first | (refine XO.op rfl ?_; (first | ((first | refine Xo.ng rfl ?_); (first | (refine Xg.ev (EvF.move rfl rfl) rfl rfl ?_) | (refine Xg.ev (EvF.add64 rfl rfl rfl (by omega) (by omega)) rfl rfl ?_))))) | (refine XO.done rfl ?_; refine hK _ _ ?_; clear hK K) | refine X.region rfl (fun K hK => ?_))
      rw [← e1]
      exact ⟨_, _, _, (by (repeat (first | exact Sub.nil _ | refine Sub.cons rfl ?_)); done), List.Sublist.refl _, ⟨k + 1, rfl, by omega, rfl, rfl⟩, by omega⟩
  · obtain rfl : k = B.layers.toNat := by omega
    repeat' (first | (refine XO.op rfl ?_; (first | ((first | refine Xo.ng rfl ?_); (first | (refine Xg.ev (EvF.move rfl rfl) rfl rfl ?_) | (refine Xg.ev (EvF.add64 rfl rfl rfl (by omega) (by omega)) rfl rfl ?_))))) | (refine XO.done rfl ?_; refine hK _ _ ?_; clear hK K) | refine X.region rfl (fun K hK => ?_))
    exact ret_one (by first | exact .inr rfl | exact .inl rfl) Try.results29 ⟨_, rfl, LoadV.whole (te rfl) rfl (List.Mem.tail _ (List.Mem.head _)) rfl⟩ (H' := H) (by (repeat (first | exact List.Sublist.refl _ | apply List.Sublist.cons)); done) ⟨by rw [hsE], rfl⟩
def worstF (g : List Sp) (s : Sp) : Sp := g.foldl (fun s x => ⟨max s.lo x.lo, max s.hi x.hi⟩) s
set_option maxHeartbeats 4000000 in
theorem worst1_spec (B : Bl) (p : Pb) (g : List Sp) (H : List Row) (h5 : 1 ≤ B.layers ∧ B.layers ≤ 5) (hg : g.length = 5) :
    Fc Try.prog 30 ([.agg (cPr B p g).toArray] ++ []) H (fun v H' => v = .agg (cSp (worstF (g.take B.layers.toNat) (spAt g 0))).toArray ∧ H' = H) := by
  show Fc Try.prog 30 [.agg (cPr B p g).toArray] H _
  have hgi : (g.take 5)[0]? = some (spAt g 0) := by rw [List.getElem?_take, if_pos (by omega)]; exact spAt_get (by omega)
  refine Fc.mk (callable Try.call30) Try.func30 rfl Try.ntmps30 rfl ?_; dsimp only [fr]
  repeat' (first | (refine XO.op rfl ?_; (first | ((first | refine Xo.ng rfl ?_); (first | (refine Xg.ev (EvF.indexArray rfl rfl rfl (te rfl) (te rfl) (by omega) (by omega)) rfl rfl ?_) | (refine Xg.ev (EvF.loadV rfl rfl (LoadV.elA0 (n := 0) (slePr (List.Mem.tail _ (List.Mem.head _))) hgi (te rfl) rfl (fun _ h => h) rfl)) rfl rfl ?_) | (refine Xg.ev (EvF.move rfl rfl) rfl rfl ?_) | (refine Xg.ev (EvF.fieldAddr rfl rfl (te rfl) rfl (te rfl) (by decide)) rfl rfl ?_) | (refine Xg.ev (EvF.loadV rfl rfl (LoadV.own (te rfl) rfl (List.Mem.tail _ (List.Mem.tail _ (List.Mem.head _))) rfl)) rfl rfl ?_) | (refine Xg.st (StF.boxAgg rfl rfl) rfl rfl ?_; rintro _ _ ⟨bx, rfl, rfl⟩) | (refine Xg.st (StF.alloc rfl Try.zeroValue23 rfl) rfl rfl ?_; rintro _ _ ⟨bx, rfl, rfl⟩) | (refine Xg.st0 (StF.storeAll (i := 0) rfl rfl rfl (te rfl) rfl rfl rfl rfl) rfl ?_; rintro _ _ ⟨rfl, rfl⟩; dsimp only [List.set]))))) | (refine XO.done rfl ?_; refine hK _ _ ?_; clear hK K) | refine X.seq rfl ?_ | refine X.region rfl (fun K hK => ?_) | refine X.block rfl ?_)
  rename_i bp b2; rename Nat => bs
  refine X.lp rfl (fun m F' H' => ∃ k : Nat, m = B.layers.toNat - k ∧ k ≤ B.layers.toNat ∧ H' = ⟨bs, 0, cSp (worstF (g.take k) (spAt g 0)), some 23, 2⟩ :: ⟨b2, 0, cSp ⟨0, 0⟩, some 23, 2⟩ :: ⟨bp, 0, cPr B p g, some 47, 16⟩ :: H ∧
      F' = [(1, .pointer (some ⟨bp, 0, none⟩)), (2, .pointer (some ⟨b2, 0, none⟩)), (3, .pointer (some ⟨bs, 0, none⟩)), (10, .int .i64 B.layers), (11, .int .i64 k)])
    B.layers.toNat [(1, .pointer (some ⟨bp, 0, none⟩)), (2, .pointer (some ⟨b2, 0, none⟩)), (3, .pointer (some ⟨bs, 0, none⟩)), (10, .int .i64 B.layers), (11, .int .i64 (0 : Nat))] (⟨bs, 0, cSp (spAt g 0), some 23, 2⟩ :: ⟨b2, 0, cSp ⟨0, 0⟩, some 23, 2⟩ :: ⟨bp, 0, cPr B p g, some 47, 16⟩ :: H) (by (repeat (first | exact Sub.nil _ | refine Sub.cons rfl ?_)); done) (by rw [← lenPr (B := B) (p := p) hg]; exact List.Sublist.refl _) ⟨0, by omega, by omega, rfl, rfl⟩ ?_
  rintro _ _ _ ⟨k, rfl, hk, rfl, rfl⟩
  obtain ⟨s, hsE⟩ : ∃ s, worstF (g.take k) (spAt g 0) = s := ⟨_, rfl⟩
  rw [hsE]
  repeat' (first | (refine XO.op rfl ?_; (first | ((first | refine Xo.ng rfl ?_); (first | (refine Xg.ev (EvF.move rfl rfl) rfl rfl ?_) | (refine Xg.ev (EvF.assign rfl rfl) rfl rfl ?_) | (refine Xg.ev (EvF.cmp rfl rfl rfl rfl) rfl rfl ?_) | (refine Xg.ev (EvF.loadV rfl rfl (LoadV.whole (te rfl) rfl (List.Mem.head _) rfl)) rfl rfl ?_) | (refine Xg.st0 (StF.storeAll (i := 1) rfl rfl rfl (te rfl) rfl rfl rfl rfl) rfl ?_; rintro _ _ ⟨rfl, rfl⟩; dsimp only [List.set]))))) | (refine XO.done rfl ?_; refine hK _ _ ?_; clear hK K) | refine X.seq rfl ?_ | refine X.region rfl (fun K hK => ?_) | refine X.block rfl ?_ | (refine X.brk rfl ?_; repeat (first | refine blockX_hit rfl ?_ | refine blockX_miss (by decide) ?_)) | refine X.skip rfl ?_ | refine X.ret rfl ?_ | (refine X.ite rfl rfl (fun hc => ?_); (first | (with_reducible refine Xb.case hc (fun h => ?_) (fun h => ?_))) <;> clear hc))
  · have hkg : k < g.length := by omega
    have e1 : worstF (g.take (k + 1)) (spAt g 0) = ⟨max s.lo (spAt g k).lo, max s.hi (spAt g k).hi⟩ := by unfold worstF; rw [take_snoc (spAt_get hkg), List.foldl_append]; unfold worstF at hsE; rw [hsE]; rfl
    refine X.regionRd ts29 rd29 [3, 4, 1, 2, 10, 11] [(3, .pointer (some ⟨bs, 0, none⟩)), (4, .int .i64 k), (1, .pointer (some ⟨bp, 0, none⟩)), (2, .pointer (some ⟨b2, 0, none⟩)), (10, .int .i64 B.layers), (11, .int .i64 k)]
      (valL [.pointer (some ⟨bs, 0 + 0, none⟩), .int .i64 s.lo, .int .i64 k, .pointer (some ⟨bp, 0 + 6, none⟩), .pointer (some ⟨bp, 6 + k * 2, none⟩), .pointer (some ⟨bp, 6 + k * 2 + 0, none⟩), .int .i64 (spAt g k).lo, .int .i64 (max s.lo (spAt g k).lo),
        .pointer (some ⟨bs, 0 + 1, none⟩), .int .i64 s.hi, .int .i64 k, .pointer (some ⟨bp, 0 + 6, none⟩), .pointer (some ⟨bp, 6 + k * 2, none⟩), .pointer (some ⟨bp, 6 + k * 2 + 1, none⟩), .int .i64 (spAt g k).hi, .int .i64 (max s.hi (spAt g k).hi), .pointer (some ⟨bs, 0 + 0, none⟩), undef, .pointer (some ⟨bs, 0 + 1, none⟩)])
      (rows29 bs s (max s.lo (spAt g k).lo) (max s.hi (spAt g k).hi)) (fun _ => (0, 0)) (⟨b2, 0, cSp ⟨0, 0⟩, some 23, 2⟩ :: ⟨bp, 0, cPr B p g, some 47, 16⟩ :: H) rfl mixed (by (repeat (first | exact Sub.nil _ | refine Sub.cons rfl ?_)); done) rfl (by kernel_rfl) (by kernel_rfl) (fun _ _ _ _ _ _ => ⟨rfl, rfl⟩) (List.Sublist.refl _) ?_ ?_
    · repeat' (first | exact AllF.done rfl | (refine AllF.step rfl ?_ ?_; · (first | exact (Ob.ng rfl (ObK.pure (fun env R hR => by exact ⟨_, EvF.move rfl rfl, rfl⟩) rfl (fun _ => rfl))).toR | exact (Ob.ng rfl (ObK.pure (fun env R hR => by exact ⟨_, EvF.fieldAddr rfl rfl (te rfl) rfl (te rfl) (by decide), rfl⟩) rfl (fun _ => rfl))).toR | (refine ObR.ng rfl ?_; (first | (exact fun env S hS hrd => (StF.ofEv (EvF.max64 rfl rfl rfl)).op.mono (fun v H' ⟨hv, hH⟩ => ⟨(0, 0), fun _ => hv, by rw [hH]; exact List.Perm.refl _⟩)) | (exact fun env S hS hrd => (StF.ofEv (EvF.loadV rfl rfl (LoadV.own (te rfl) rfl (hrd 20 (List.Mem.head _) _ (List.Mem.head _)) rfl))).op.mono (fun v H' ⟨hv, hH⟩ => ⟨(0, 0), fun _ => hv, by rw [hH]; exact List.Perm.refl _⟩)) | (exact fun env S hS hrd => (StF.ofEv (EvF.loadV rfl rfl (LoadV.own (te rfl) rfl (hS _ (List.Mem.tail _ (List.Mem.head _))) (getPr (j := 0) (spAt_get hkg) rfl)))).op.mono (fun v H' ⟨hv, hH⟩ => ⟨(0, 0), fun _ => hv, by rw [hH]; exact List.Perm.refl _⟩)) | (exact fun env S hS hrd => (StF.ofEv (EvF.loadV rfl rfl (LoadV.own (te rfl) rfl (hS _ (List.Mem.tail _ (List.Mem.head _))) (getPr (j := 1) (spAt_get hkg) rfl)))).op.mono (fun v H' ⟨hv, hH⟩ => ⟨(0, 0), fun _ => hv, by rw [hH]; exact List.Perm.refl _⟩)) | (exact fun env S hS hrd => (StF.storeOne (i := 0) (cs := cSp s) rfl rfl rfl rfl (te rfl) rfl rfl (Nat.le_of_ble_eq_true rfl)).op.mono (fun v H' ⟨hv, hH⟩ => ⟨(0, 0), fun h => absurd rfl h, by rw [hH]; exact List.Perm.refl _⟩)) | (exact fun env S hS hrd => (StF.storeOne (i := 0) (cs := cSp ⟨max s.lo (spAt g k).lo, s.hi⟩) rfl rfl rfl rfl (te rfl) rfl rfl (Nat.le_of_ble_eq_true rfl)).op.mono (fun v H' ⟨hv, hH⟩ => ⟨(0, 0), fun h => absurd rfl h, by rw [hH]; exact List.Perm.refl _⟩)) | ((refine fun env S hS hrd => (StF.ofEv (v := .pointer (some ⟨bp, 6 + k * 2, none⟩)) ?_).op.mono (fun v H' ⟨hv, hH⟩ => ⟨(0, 0), fun _ => hv, by rw [hH]; exact List.Perm.refl _⟩); refine EvF.indexArray (i := (k : Int)) (off := 0 + 6) (b := bp) (T := 45) (e := 23) (len := 5) (ti := ⟨.st [(0, 3), (1, 3)], 2, 16⟩) rfl rfl rfl (te rfl) (te rfl) ?_ ?_ <;> omega)))))))
    · intro env t ha hv
      refine ⟨_, ha, ?_⟩
      show X _ _ _ _ (⟨bs, 0, cSp ⟨max s.lo (spAt g k).lo, max s.hi (spAt g k).hi⟩, some 23, 2⟩ :: ⟨b2, 0, cSp ⟨0, 0⟩, some 23, 2⟩ :: ⟨bp, 0, cPr B p g, some 47, 16⟩ :: H) _
      repeat' (first | (refine XO.op rfl ?_; (first | ((first | refine Xo.ng rfl ?_); (first | (refine Xg.ev (EvF.move rfl rfl) rfl rfl ?_) | (refine Xg.ev (EvF.add64 rfl rfl rfl (by omega) (by omega)) rfl rfl ?_))))) | (refine XO.done rfl ?_; refine hK _ _ ?_; clear hK K) | refine X.region rfl (fun K hK => ?_))
      rw [← e1]
      exact ⟨_, _, _, (by (repeat (first | exact Sub.nil _ | refine Sub.cons rfl ?_)); done), List.Sublist.refl _, ⟨k + 1, rfl, by omega, rfl, rfl⟩, by omega⟩
  · obtain rfl : k = B.layers.toNat := by omega
    repeat' (first | (refine XO.op rfl ?_; (first | ((first | refine Xo.ng rfl ?_); (first | (refine Xg.ev (EvF.move rfl rfl) rfl rfl ?_) | (refine Xg.ev (EvF.add64 rfl rfl rfl (by omega) (by omega)) rfl rfl ?_))))) | (refine XO.done rfl ?_; refine hK _ _ ?_; clear hK K) | refine X.region rfl (fun K hK => ?_))
    exact ret_one (by first | exact .inr rfl | exact .inl rfl) Try.results30 ⟨_, rfl, LoadV.whole (te rfl) rfl (List.Mem.tail _ (List.Mem.head _)) rfl⟩ (H' := H) (by (repeat (first | exact List.Sublist.refl _ | apply List.Sublist.cons)); done) ⟨by rw [hsE], rfl⟩
end Go.Proofs.Ytminkpgacomicac
end
section
set_option linter.unusedVariables false
set_option linter.unusedSimpArgs false
namespace Go.Proofs.Ytminkpgacomicac
open Go Go.Fw
set_option maxRecDepth 10000
theorem openE_zero {B : Bl} {C : Ca} (h : openE B C = 0) : baleOk B ∧ askL B C ∧ canB B := by
  unfold openE at h
  repeat' split at h
  all_goals first | exact absurd h (by decide) | exact ⟨by assumption, by assumption, by assumption⟩
set_option maxHeartbeats 2000000 in
theorem klayer_spec (B : Bl) (p : Pb) (i : Int) (H : List Row) (hB : BlOk H B p) :
    Fc Try.prog 8 [.agg (cBl B p).toArray, .int .i64 i] H (fun v H' => v = .tuple #[.agg (cSp (spIf (openE B ⟨[i], [], [], []⟩ = 0) (spAt (gradesOf B) i.toNat))).toArray, .int .i64 (openE B ⟨[i], [], [], []⟩)] ∧ H' = H) := by
  have hB4 : ∀ r1 r2 r3 r4, BlOk (r1 :: r2 :: r3 :: r4 :: H) B p := fun r1 r2 r3 r4 => hB.sub (fun _ h => List.Mem.tail _ (List.Mem.tail _ (List.Mem.tail _ (List.Mem.tail _ h))))
  have hr : openE B ⟨[i], [], [], []⟩ = 0 → (0 ≤ i ∧ i < 5) ∧ (gradesOf B).length = 5 := by
    intro h
    obtain ⟨h1, h2, _⟩ := openE_zero h
    have h3 := h2 i (List.mem_singleton.2 rfl)
    have h4 := h1.h5
    refine ⟨⟨h3.1, ?_⟩, gradesOf_len h1⟩
    have := h3.2
    simp only at this
    omega
  refine Fc.mk (callable Try.call8) Try.func8 rfl Try.ntmps8 rfl ?_; dsimp only [fr]
  repeat' (first | (refine XO.op rfl ?_; (first | ((first | refine Xo.ng rfl ?_); (first | (refine Xg.st (StF.buildOne rfl el55 rfl rfl rfl (by decide) (by decide)) rfl rfl ?_; rintro _ _ ⟨bo, rfl, rfl⟩) | (refine Xg.ev (EvF.build (cs := cCa ⟨[i], [], [], []⟩ ⟨some ⟨bo, 0, none⟩, 1, none, 0, none, 0, none, 0⟩) rfl (ArgsP.cons rfl ArgsP.nil) (te rfl) (Places.cons (te rfl) (Places.cons (te rfl) (Places.cons (te rfl) (Places.cons (te rfl) Places.nil)))) Try.zeroValue53 rfl) rfl rfl ?_) | (refine Xg.ev (EvF.makeFunc (fl := []) rfl Args.nil (Args.cons rfl Args.nil)) rfl rfl ?_) | (refine Xg.call (EnF.st rfl (Args.cons rfl (Args.cons rfl (Args.cons rfl Args.nil)))) rfl rfl (toldSp_spec B p ⟨[i], [], [], []⟩ ⟨some ⟨bo, 0, none⟩, 1, none, 0, none, 0, none, 0⟩ 22 [_] (spAt (gradesOf B) i.toNat) _ (hB4 _ _ _ _) ⟨SlE.ofRow (l := [i]) (List.Mem.head _) (fun _ _ => rfl), sleNil, sleNil, sleNil, by simp, by simp, by simp, by simp⟩ (fun h0 H' hs => layer1_spec B p (gradesOf B) i _ _ _ H' (hr h0).1 (hr h0).2 (hs _ (List.Mem.tail _ (List.Mem.tail _ (List.Mem.head _)))))) ?_; rintro _ H9 ⟨rfl, hH9⟩; subst H9) | (refine Xg.ev (EvF.assign rfl rfl) rfl rfl ?_) | (refine Xg.ev (EvF.loadV rfl rfl (LoadV.own (te rfl) rfl (List.Mem.tail _ (List.Mem.head _)) rfl)) rfl rfl ?_) | (refine Xg.ev (EvF.loadV rfl rfl (LoadV.whole (te rfl) rfl (List.Mem.tail _ (List.Mem.tail _ (List.Mem.head _))) rfl)) rfl rfl ?_) | (refine Xg.ev (EvF.extract rfl rfl rfl) rfl rfl ?_) | (refine Xg.st (StF.boxAgg rfl rfl) rfl rfl ?_; rintro _ _ ⟨bx, rfl, rfl⟩) | (refine Xg.st (StF.boxOne rfl rfl rfl) rfl rfl ?_; rintro _ _ ⟨bx, rfl, rfl⟩) | (refine Xg.st (StF.alloc rfl Try.zeroValue23 rfl) rfl rfl ?_; rintro _ _ ⟨bx, rfl, rfl⟩) | (refine Xg.st0 (StF.storeAll (i := 1) rfl rfl rfl (te rfl) rfl rfl rfl rfl) rfl ?_; rintro _ _ ⟨rfl, rfl⟩; dsimp only [List.set]))))) | (refine XO.done rfl ?_; refine hK _ _ ?_; clear hK K) | refine X.seq rfl ?_ | refine X.region rfl (fun K hK => ?_) | refine X.ret rfl ?_)
  exact ret_two (by first | exact .inr rfl | exact .inl rfl) Try.results8 ⟨_, rfl, LoadV.whole (te rfl) rfl (List.Mem.tail _ (List.Mem.head _)) rfl⟩ rfl (H' := H) (by (repeat (first | exact List.Sublist.refl _ | apply List.Sublist.cons)); done) ⟨rfl, rfl⟩
set_option maxHeartbeats 2000000 in
theorem kbest_spec (B : Bl) (p : Pb) (H : List Row) (hB : BlOk H B p) :
    Fc Try.prog 12 [.agg (cBl B p).toArray] H (fun v H' => v = .tuple #[.agg (cSp (spIf (openE B ⟨[], [], [], []⟩ = 0) (bestF ((gradesOf B).take B.layers.toNat) (spAt (gradesOf B) 0)))).toArray, .int .i64 (openE B ⟨[], [], [], []⟩)] ∧ H' = H) := by
  have hB2 : ∀ r1 r2, BlOk (r1 :: r2 :: H) B p := fun r1 r2 => hB.sub (fun _ h => List.Mem.tail _ (List.Mem.tail _ h))
  refine Fc.mk (callable Try.call12) Try.func12 rfl Try.ntmps12 rfl ?_; dsimp only [fr]
  repeat' (first | (refine XO.op rfl ?_; (first | ((first | refine Xo.ng rfl ?_); (first | (refine Xg.ev (EvF.build (cs := cCa ⟨[], [], [], []⟩ ⟨none, 0, none, 0, none, 0, none, 0⟩) rfl ArgsP.nil (te rfl) (Places.cons (te rfl) (Places.cons (te rfl) (Places.cons (te rfl) (Places.cons (te rfl) Places.nil)))) Try.zeroValue53 rfl) rfl rfl ?_) | (refine Xg.call (EnF.st rfl (Args.cons rfl (Args.cons rfl (Args.cons rfl Args.nil)))) rfl rfl (toldSp_spec B p ⟨[], [], [], []⟩ ⟨none, 0, none, 0, none, 0, none, 0⟩ 29 [] (bestF ((gradesOf B).take B.layers.toNat) (spAt (gradesOf B) 0)) _ (hB2 _ _) ⟨sleNil, sleNil, sleNil, sleNil, by simp, by simp, by simp, by simp⟩ (fun h0 H' hs => best1_spec B p (gradesOf B) H' (openE_zero h0).1.h5 (gradesOf_len (openE_zero h0).1))) ?_; rintro _ H9 ⟨rfl, hH9⟩; subst H9) | (refine Xg.ev (EvF.assign rfl rfl) rfl rfl ?_) | (refine Xg.ev (EvF.loadV rfl rfl (LoadV.whole (te rfl) rfl (List.Mem.tail _ (List.Mem.head _)) rfl)) rfl rfl ?_) | (refine Xg.ev (EvF.extract rfl rfl rfl) rfl rfl ?_) | (refine Xg.st (StF.boxAgg rfl rfl) rfl rfl ?_; rintro _ _ ⟨bx, rfl, rfl⟩) | (refine Xg.st (StF.alloc rfl Try.zeroValue23 rfl) rfl rfl ?_; rintro _ _ ⟨bx, rfl, rfl⟩) | (refine Xg.st0 (StF.storeAll (i := 0) rfl rfl rfl (te rfl) rfl rfl rfl rfl) rfl ?_; rintro _ _ ⟨rfl, rfl⟩; dsimp only [List.set]))))) | (refine XO.done rfl ?_; refine hK _ _ ?_; clear hK K) | refine X.seq rfl ?_ | refine X.region rfl (fun K hK => ?_) | refine X.ret rfl ?_)
  exact ret_two (by first | exact .inr rfl | exact .inl rfl) Try.results12 ⟨_, rfl, LoadV.whole (te rfl) rfl (List.Mem.head _) rfl⟩ rfl (H' := H) (by (repeat (first | exact List.Sublist.refl _ | apply List.Sublist.cons)); done) ⟨rfl, rfl⟩
set_option maxHeartbeats 2000000 in
theorem kworst_spec (B : Bl) (p : Pb) (H : List Row) (hB : BlOk H B p) :
    Fc Try.prog 14 [.agg (cBl B p).toArray] H (fun v H' => v = .tuple #[.agg (cSp (spIf (openE B ⟨[], [], [], []⟩ = 0) (worstF ((gradesOf B).take B.layers.toNat) (spAt (gradesOf B) 0)))).toArray, .int .i64 (openE B ⟨[], [], [], []⟩)] ∧ H' = H) := by
  have hB2 : ∀ r1 r2, BlOk (r1 :: r2 :: H) B p := fun r1 r2 => hB.sub (fun _ h => List.Mem.tail _ (List.Mem.tail _ h))
  refine Fc.mk (callable Try.call14) Try.func14 rfl Try.ntmps14 rfl ?_; dsimp only [fr]
  repeat' (first | (refine XO.op rfl ?_; (first | ((first | refine Xo.ng rfl ?_); (first | (refine Xg.ev (EvF.build (cs := cCa ⟨[], [], [], []⟩ ⟨none, 0, none, 0, none, 0, none, 0⟩) rfl ArgsP.nil (te rfl) (Places.cons (te rfl) (Places.cons (te rfl) (Places.cons (te rfl) (Places.cons (te rfl) Places.nil)))) Try.zeroValue53 rfl) rfl rfl ?_) | (refine Xg.call (EnF.st rfl (Args.cons rfl (Args.cons rfl (Args.cons rfl Args.nil)))) rfl rfl (toldSp_spec B p ⟨[], [], [], []⟩ ⟨none, 0, none, 0, none, 0, none, 0⟩ 30 [] (worstF ((gradesOf B).take B.layers.toNat) (spAt (gradesOf B) 0)) _ (hB2 _ _) ⟨sleNil, sleNil, sleNil, sleNil, by simp, by simp, by simp, by simp⟩ (fun h0 H' hs => worst1_spec B p (gradesOf B) H' (openE_zero h0).1.h5 (gradesOf_len (openE_zero h0).1))) ?_; rintro _ H9 ⟨rfl, hH9⟩; subst H9) | (refine Xg.ev (EvF.assign rfl rfl) rfl rfl ?_) | (refine Xg.ev (EvF.loadV rfl rfl (LoadV.whole (te rfl) rfl (List.Mem.tail _ (List.Mem.head _)) rfl)) rfl rfl ?_) | (refine Xg.ev (EvF.extract rfl rfl rfl) rfl rfl ?_) | (refine Xg.st (StF.boxAgg rfl rfl) rfl rfl ?_; rintro _ _ ⟨bx, rfl, rfl⟩) | (refine Xg.st (StF.alloc rfl Try.zeroValue23 rfl) rfl rfl ?_; rintro _ _ ⟨bx, rfl, rfl⟩) | (refine Xg.st0 (StF.storeAll (i := 0) rfl rfl rfl (te rfl) rfl rfl rfl rfl) rfl ?_; rintro _ _ ⟨rfl, rfl⟩; dsimp only [List.set]))))) | (refine XO.done rfl ?_; refine hK _ _ ?_; clear hK K) | refine X.seq rfl ?_ | refine X.region rfl (fun K hK => ?_) | refine X.ret rfl ?_)
  exact ret_two (by first | exact .inr rfl | exact .inl rfl) Try.results14 ⟨_, rfl, LoadV.whole (te rfl) rfl (List.Mem.head _) rfl⟩ rfl (H' := H) (by (repeat (first | exact List.Sublist.refl _ | apply List.Sublist.cons)); done) ⟨rfl, rfl⟩
theorem kcan_spec (B : Bl) (p : Pb) (H : List Row) (hB : BlOk H B p) :
    Fc Try.prog 6 [.agg (cBl B p).toArray] H (fun v H' => v = .tuple #[.bool (decide (baleOk B ∧ canB B)), .int .i64 (if baleOk B then 0 else 30)] ∧ H' = H) := by
  have hB1 : ∀ r1, BlOk (r1 :: H) B p := fun r1 => hB.sub (fun _ h => List.Mem.tail _ h)
  by_cases hb : baleOk B
  · have hk := kcheck_spec B p
    simp only [if_pos hb] at hk ⊢
    refine Fc.mk (callable Try.call6) Try.func6 rfl Try.ntmps6 rfl ?_; dsimp only [fr]
    repeat' (first | (refine XO.op rfl ?_; (first | ((first | refine Xo.ng rfl ?_); (first | (refine Xg.call (EnF.st rfl (Args.cons rfl Args.nil)) rfl rfl (hk _ (hB1 _)) ?_; rintro _ H9 ⟨rfl, hH9⟩; subst H9) | (refine Xg.call (EnF.st rfl (Args.cons rfl Args.nil)) rfl rfl (pressed_spec B p _ hb.h5 hb.hd (hB1 _)) ?_; rintro _ H9 ⟨rfl, hH9⟩; subst H9) | (refine Xg.call (EnF.st rfl (Args.cons rfl Args.nil)) rfl rfl (can_spec B p (gradesOf B) _ hb.h5 hb.hdry hb.hw (gradesOf_len hb) (hB1 _)) ?_; rintro _ H9 ⟨rfl, hH9⟩; subst H9) | (refine Xg.ev (EvF.move rfl rfl) rfl rfl ?_) | (refine Xg.ev (EvF.assign rfl rfl) rfl rfl ?_) | (refine Xg.ev (EvF.cmp rfl rfl rfl rfl) rfl rfl ?_) | (refine Xg.ev (EvF.loadV rfl rfl (LoadV.whole (te rfl) rfl (List.Mem.head _) rfl)) rfl rfl ?_) | (refine Xg.st (StF.boxAgg rfl rfl) rfl rfl ?_; rintro _ _ ⟨bx, rfl, rfl⟩))))) | (refine XO.done rfl ?_; refine hK _ _ ?_; clear hK K) | refine X.seq rfl ?_ | refine X.region rfl (fun K hK => ?_) | refine X.skip rfl ?_ | refine X.ret rfl ?_ | (refine X.ite rfl rfl (fun hc => ?_); (first | (with_reducible refine Xb.caseN hc (fun h => ?_) (fun h => ?_))) <;> clear hc))
    any_goals (exfalso; omega)
    refine ret_two (by first | exact .inr rfl | exact .inl rfl) Try.results6 rfl rfl (H' := H) (by (repeat (first | exact List.Sublist.refl _ | apply List.Sublist.cons)); done) ?_; simp only [and_true, true_and]
    congr 2
    have e : decide (hasG B.layers.toNat (gradesOf B) ∧ (wts B).length > 0) = decide (baleOk B ∧ canB B) := decide_eq_decide.2 ⟨fun q => ⟨hb, q⟩, fun q => q.2⟩
    rw [e]
  · have hk := kcheck_spec B p
    simp only [if_neg hb] at hk ⊢
    refine Fc.mk (callable Try.call6) Try.func6 rfl Try.ntmps6 rfl ?_; dsimp only [fr]
    repeat' (first | (refine XO.op rfl ?_; (first | ((first | refine Xo.ng rfl ?_); (first | (refine Xg.call (EnF.st rfl (Args.cons rfl Args.nil)) rfl rfl (hk _ (hB1 _)) ?_; rintro _ H9 ⟨rfl, hH9⟩; subst H9) | (refine Xg.ev (EvF.move rfl rfl) rfl rfl ?_) | (refine Xg.ev (EvF.assign rfl rfl) rfl rfl ?_) | (refine Xg.ev (EvF.cmp rfl rfl rfl rfl) rfl rfl ?_) | (refine Xg.ev (EvF.loadV rfl rfl (LoadV.whole (te rfl) rfl (List.Mem.head _) rfl)) rfl rfl ?_) | (refine Xg.st (StF.boxAgg rfl rfl) rfl rfl ?_; rintro _ _ ⟨bx, rfl, rfl⟩))))) | (refine XO.done rfl ?_; refine hK _ _ ?_; clear hK K) | refine X.seq rfl ?_ | refine X.region rfl (fun K hK => ?_) | refine X.skip rfl ?_ | refine X.ret rfl ?_ | (refine X.ite rfl rfl (fun hc => ?_); (first | (with_reducible refine Xb.caseN hc (fun h => ?_) (fun h => ?_))) <;> clear hc))
    any_goals (exfalso; omega)
    all_goals (refine ret_two (by first | exact .inr rfl | exact .inl rfl) Try.results6 rfl rfl (H' := H) (by (repeat (first | exact List.Sublist.refl _ | apply List.Sublist.cons)); done) ?_; simp only [and_true, true_and])
    all_goals (congr 2; rw [decide_eq_false (fun q => hb q.1)])
end Go.Proofs.Ytminkpgacomicac
end
section
set_option linter.unusedVariables false
set_option linter.unusedSimpArgs false
namespace Go.Proofs.Ytminkpgacomicac
open Go Go.Fw
set_option maxRecDepth 10000
theorem mul_small {a b A B : Int} (ha : 0 ≤ a) (hA : a ≤ A) (hb : 0 ≤ b) (hB : b ≤ B) : 0 ≤ a * b ∧ a * b ≤ A * B := by
  refine ⟨Int.mul_nonneg ha hb, ?_⟩
  exact Int.mul_le_mul hA hB hb (by omega)
def weightP (d r : Int) : Int := d * (1000 + r) / 1000
theorem weight_spec (d r : Int) (H : List Row) (hd : 0 ≤ d ∧ d ≤ 100000) (hr : 0 ≤ r ∧ r ≤ 100000) : Fc Try.prog 57 [.int .i64 d, .int .i64 r] H (fun v H' => v = .int .i64 (weightP d r) ∧ H' = H) := by
  have hm := mul_small hd.1 hd.2 (show 0 ≤ 1000 + r by omega) (show 1000 + r ≤ 101000 by omega)
  refine Fc.mk (callable Try.call57) Try.func57 rfl Try.ntmps57 rfl ?_; dsimp only [fr]
  repeat' (first | (refine XO.op rfl ?_; (first | ((first | refine Xo.ng rfl ?_); (first | (refine Xg.ev (EvF.mul64 rfl rfl rfl (by omega) (by omega)) rfl rfl ?_) | (refine Xg.ev (EvF.quo64 rfl rfl rfl (by omega) (by omega) (by omega)) rfl rfl ?_) | (refine Xg.ev (EvF.move rfl rfl) rfl rfl ?_) | (refine Xg.ev (EvF.assign rfl rfl) rfl rfl ?_) | (refine Xg.ev (EvF.add64 rfl rfl rfl (by omega) (by omega)) rfl rfl ?_))))) | (refine XO.done rfl ?_; refine hK _ _ ?_; clear hK K) | refine X.seq rfl ?_ | refine X.region rfl (fun K hK => ?_) | refine X.ret rfl ?_)
  refine ret_one (by first | exact .inr rfl | exact .inl rfl) Try.results57 rfl (H' := H) (by (repeat (first | exact List.Sublist.refl _ | apply List.Sublist.cons)); done) ?_; simp only [and_true, true_and]
  rfl
def couldP (x : Dr) (d : Int) : Prop := weightP d x.lo ≤ x.val ∧ weightP d x.hi ≥ x.val
instance (x : Dr) (d : Int) : Decidable (couldP x d) := by unfold couldP; infer_instance
def wgOk (x : Wg) : Prop := (0 ≤ x.val ∧ x.val ≤ 1200) ∧ 0 ≤ x.lo ∧ x.lo ≤ x.hi ∧ x.hi ≤ 200
theorem could_spec (x : Wg) (d : Int) (H : List Row) (hd : 1 ≤ d ∧ d ≤ 600) (hx : wgOk x) : Fc Try.prog 50 [.int .i64 d, .agg (cDr x).toArray] H (fun v H' => v = .bool (decide (couldP x d)) ∧ H' = H) := by
  obtain ⟨h1, h2, h3, h4⟩ := hx
  refine Fc.mk (callable Try.call50) Try.func50 rfl Try.ntmps50 rfl ?_; dsimp only [fr]
  repeat' (first | (refine XO.op rfl ?_; (first | ((first | refine Xo.ng rfl ?_); (first | (refine Xg.ev (EvF.assign rfl rfl) rfl rfl ?_) | (refine Xg.st (StF.boxAgg rfl rfl) rfl rfl ?_; rintro _ _ ⟨bx, rfl, rfl⟩))))) | (refine XO.done rfl ?_; refine hK _ _ ?_; clear hK K) | (refine XQ.op rfl ?_; (first | ((first | refine Yo.ng rfl ?_ | (refine Yo.g rfl rfl ?_; with_reducible refine Yw.tt ?_)); (first | (refine Yg.call (EnF.st rfl (Args.cons rfl (Args.cons rfl Args.nil))) rfl rfl (weight_spec d x.lo _ (by omega) (by omega)) ?_) | (refine Yg.call (EnF.st rfl (Args.cons rfl (Args.cons rfl Args.nil))) rfl rfl (weight_spec d x.hi _ (by omega) (by omega)) ?_) | (refine Yg.ev (EvF.move rfl rfl) rfl rfl ?_) | (refine Yg.ev (EvF.assign rfl rfl) rfl rfl ?_) | (refine Yg.ev (EvF.pickT rfl rfl rfl) rfl rfl ?_) | (refine Yg.ev (EvF.pickF rfl rfl rfl) rfl rfl ?_) | (refine Yg.ev (EvF.cmp rfl rfl rfl rfl) rfl rfl ?_) | (refine Yg.ev (EvF.fieldAddr rfl rfl (te rfl) rfl (te rfl) (by decide)) rfl rfl ?_) | (refine Yg.ev (EvF.loadV rfl rfl (LoadV.own (te rfl) rfl (List.Mem.head _) rfl)) rfl rfl ?_))) | (refine Yo.g rfl rfl ?_; (first | (with_reducible refine Yw.ft rfl rfl ?_) | (with_reducible refine Yw.case (fun h => ?_) (fun h => ?_) <;> simp only [h, decide_true, decide_false, Bool.not_true, Bool.not_false, and_self, and_true, true_and, and_false, false_and]))))) | (refine XQ.done rfl ?_; refine hK _ ?_; clear hK K) | refine X.seq rfl ?_ | refine X.region rfl (fun K hK => ?_) | refine X.regionD rfl mixed (by kernel_rfl) (fun K hK => ?_) | refine X.ret rfl ?_)
  all_goals (refine ret_one (by first | exact .inr rfl | exact .inl rfl) Try.results50 rfl (H' := H) (by (repeat (first | exact List.Sublist.refl _ | apply List.Sublist.cons)); done) ?_; simp only [and_true, true_and])
  all_goals (congr 1)
  all_goals first
    | (symm; exact decide_eq_false (fun q => absurd q.1 (by assumption)))
    | exact decide_eq_decide.2 ⟨fun q => ⟨by assumption, q⟩, fun q => q.2⟩
theorem ceil_le {q d m : Int} (hd : 0 < d) : (1000 * q + d - 1) / d ≤ m ↔ 1000 * q ≤ m * d := by
  have h := Int.ediv_lt_iff_lt_mul (a := 1000 * q + d - 1) (b := m + 1) hd
  rw [Int.add_mul, Int.one_mul] at h
  constructor
  · intro h1
    have := h.1 (by omega)
    omega
  · intro h1
    have := h.2 (by omega)
    omega
theorem could_iff {x : Wg} {d : Int} (hx : wgOk x) (hd : 1 ≤ d ∧ d ≤ 600) : ¬ (dampOf x d).lo > (dampOf x d).hi ↔ couldP x d := by
  obtain ⟨h1, h2, h3, h4⟩ := hx
  have e1 : ∀ r q : Int, leastD q d ≤ r ↔ 1000 * q ≤ (r + 1000) * d := by
    intro r q
    have := ceil_le (q := q) (m := r + 1000) (show 0 < d by omega)
    unfold leastD
    rw [← this]; omega
  have e2 : ∀ r : Int, weightP d r ≤ x.val ↔ ¬ leastD (x.val + 1) d ≤ r := by
    intro r
    rw [e1]
    unfold weightP
    rw [Int.mul_comm d, Int.add_comm 1000 r]
    omega
  have e3 : ∀ r : Int, weightP d r ≥ x.val ↔ leastD x.val d ≤ r := by
    intro r
    rw [e1]
    unfold weightP
    rw [Int.mul_comm d, Int.add_comm 1000 r]
    omega
  have e4 : ¬ leastD (x.val + 1) d ≤ leastD x.val d := by
    rw [e1]
    have h5 : (1000 * x.val + d - 1) / d * d ≤ 1000 * x.val + d - 1 := Int.ediv_mul_le _ (by omega)
    have h6 : leastD x.val d + 1000 = (1000 * x.val + d - 1) / d := by unfold leastD; omega
    rw [h6]
    omega
  unfold couldP
  rw [e2, e3]
  simp only [dampOf]
  omega
def allC (l : List Dr) (d : Int) : Bool := l.all (fun x => decide (couldP x d))
def okR (B : Bl) (d : Int) : Bool := allC B.weighs d
theorem ok_eq {B : Bl} {d : Int} (hw : ∀ x ∈ B.weighs, wgOk x) (hd : 1 ≤ d ∧ d ≤ 600) : okR B d = okW B d := by
  rw [Bool.eq_iff_iff]
  unfold okR allC okW
  rw [List.all_eq_true, decide_eq_true_iff]
  unfold canW
  exact ⟨fun q x hx => (could_iff (hw x hx) hd).2 (of_decide_eq_true (q x hx)), fun q x hx => decide_eq_true ((could_iff (hw x hx) hd).1 (q x hx))⟩
theorem wts_eq {B : Bl} (hw : ∀ x ∈ B.weighs, wgOk x) (hd : 1 ≤ B.dlo ∧ B.dlo ≤ B.dhi ∧ B.dhi ≤ 600) : wl (okR B) B.dlo (B.dhi - B.dlo + 1).toNat = wts B := by
  unfold wts
  exact wl_congr _ (fun i hi => ok_eq hw ⟨by omega, by omega⟩)
theorem baleOk.wg {B : Bl} (h : baleOk B) : ∀ x ∈ B.weighs, wgOk x := by
  intro x hx
  have h1 := (h.2.2.2.2.2.2 x hx)
  have h2 := h1.1 x.val (List.mem_singleton.2 rfl)
  have h3 := h1.2
  unfold partOk at h3
  simp only at h2 h3
  unfold wgOk
  omega
set_option maxHeartbeats 4000000 in
theorem dries_spec (B : Bl) (p : Pb) (H : List Row) (hd : 1 ≤ B.dlo ∧ B.dlo ≤ B.dhi ∧ B.dhi ≤ 600) (hw : ∀ x ∈ B.weighs, wgOk x) (hB : BlOk H B p) :
    Fc Try.prog 34 [.agg (cBl B p).toArray] H (fun v H' => ∃ Z, OutI (wts B) v Z ∧ H' = Z ++ H) := by
  rw [← wts_eq hw hd]
  obtain ⟨N, hN⟩ : ∃ N : Nat, (B.dhi - B.dlo + 1).toNat = N := ⟨_, rfl⟩
  rw [hN]
  have hNN : B.dlo + N = B.dhi + 1 := by omega
  have l2 := hB.l2
  have hBZ : ∀ (Z : List Row) r, BlOk (Z ++ r :: H) B p := fun Z r => hB.sub (fun _ h => List.mem_append_right _ (List.mem_cons_of_mem _ h))
  obtain ⟨a1, c1, a2, c2⟩ := p
  refine Fc.mk (callable Try.call34) Try.func34 rfl Try.ntmps34 rfl ?_; dsimp only [fr]
  repeat' (first | (refine XO.op rfl ?_; (first | ((first | refine Xo.ng rfl ?_); (first | (refine Xg.ev (EvF.move rfl rfl) rfl rfl ?_) | (refine Xg.ev (EvF.assign rfl rfl) rfl rfl ?_) | (refine Xg.ev (EvF.cmp rfl rfl rfl rfl) rfl rfl ?_) | (refine Xg.ev (EvF.add64 rfl rfl rfl (by omega) (by omega)) rfl rfl ?_) | (refine Xg.ev (EvF.fieldAddr rfl rfl (te rfl) rfl (te rfl) (by decide)) rfl rfl ?_) | (refine Xg.ev (EvF.loadV rfl rfl (LoadV.own (te rfl) rfl (List.Mem.head _) rfl)) rfl rfl ?_) | (refine Xg.st (StF.boxAgg rfl rfl) rfl rfl ?_; rintro _ _ ⟨bx, rfl, rfl⟩))))) | (refine XO.done rfl ?_; refine hK _ _ ?_; clear hK K) | refine X.seq rfl ?_ | refine X.region rfl (fun K hK => ?_) | refine X.block rfl ?_ | (refine X.brk rfl ?_; first | refine blockX_hit rfl ?_ | skip) | refine X.skip rfl ?_ | (refine X.ite rfl rfl (fun hc => ?_); (first | (with_reducible refine Xb.case hc (fun h => ?_) (fun h => ?_)) | (with_reducible refine Xb.caseB hc (fun h => ?_) (fun h => ?_))) <;> clear hc))
  rename Nat => b1
  refine X.lp rfl (fun m F' H' => ∃ (k : Nat) (d : Int) (out : Value) (Z : List Row), m = N - k ∧ k ≤ N ∧ d = B.dlo + k ∧ OutI (wl (okR B) B.dlo k) out Z ∧ Z ++ ⟨b1, 0, cBl B ⟨a1, c1, a2, c2⟩, some 27, 6⟩ :: H = H' ∧
      F' = [(1, .pointer (some ⟨b1, 0, none⟩)), (3, out), (4, .int .i64 d)])
    N [(1, .pointer (some ⟨b1, 0, none⟩)), (3, .slice none 0 0), (4, .int .i64 B.dlo)] (⟨b1, 0, cBl B ⟨a1, c1, a2, c2⟩, some 27, 6⟩ :: H) (by (repeat (first | exact Sub.nil _ | refine Sub.cons rfl ?_)); done) (List.Sublist.refl _) ⟨0, _, _, [], by omega, by omega, by omega, .inl ⟨rfl, rfl, rfl⟩, rfl, rfl⟩ ?_
  rintro _ _ H2 ⟨k, d, out, Z, rfl, hk, hdk, hO, hH, rfl⟩
  subst hH
  repeat' (first | (refine XO.op rfl ?_; (first | ((first | refine Xo.ng rfl ?_); (first | (refine Xg.ev (EvF.loadV rfl rfl (LoadV.own (te rfl) rfl (List.mem_append_right _ (List.Mem.head _)) rfl)) rfl rfl ?_) | (refine Xg.ev (EvF.move rfl rfl) rfl rfl ?_) | (refine Xg.ev (EvF.assign rfl rfl) rfl rfl ?_) | (refine Xg.ev (EvF.cmp rfl rfl rfl rfl) rfl rfl ?_) | (refine Xg.ev (EvF.fieldAddr rfl rfl (te rfl) rfl (te rfl) (by decide)) rfl rfl ?_) | (refine Xg.ev (EvF.lenSlice rfl rfl (te rfl)) rfl rfl ?_))))) | (refine XO.done rfl ?_; refine hK _ _ ?_; clear hK K) | refine X.seq rfl ?_ | refine X.region rfl (fun K hK => ?_) | refine X.block rfl ?_ | (refine X.brk rfl ?_; first | refine blockX_hit rfl ?_ | skip) | refine X.skip rfl ?_ | refine X.ret rfl ?_ | (refine X.ite rfl rfl (fun hc => ?_); (first | (with_reducible refine Xb.case hc (fun h => ?_) (fun h => ?_))) <;> clear hc))
  · refine X.lp rfl (fun m F' H' => ∃ (q : Nat) (is : Bool), m = B.weighs.length - q ∧ q ≤ B.weighs.length ∧ is = allC (B.weighs.take q) d ∧ Z ++ ⟨b1, 0, cBl B ⟨a1, c1, a2, c2⟩, some 27, 6⟩ :: H = H' ∧
        F' = [(1, .pointer (some ⟨b1, 0, none⟩)), (3, out), (4, .int .i64 d), (5, .bool is), (19, .slice a2 B.weighs.length c2), (20, .int .i64 B.weighs.length), (21, .int .i64 q)])
      B.weighs.length [(1, .pointer (some ⟨b1, 0, none⟩)), (3, out), (4, .int .i64 d), (5, .bool true), (19, .slice a2 B.weighs.length c2), (20, .int .i64 B.weighs.length), (21, .int .i64 (0 : Nat))] _ (by (repeat (first | exact Sub.nil _ | refine Sub.cons rfl ?_)); done) (List.Sublist.refl _) ⟨0, true, by omega, by omega, rfl, rfl, rfl⟩ ?_
    rintro _ _ H2 ⟨q, is, rfl, hq, hn, hH, rfl⟩
    subst hH
    repeat' (first | (refine XO.op rfl ?_; (first | ((first | refine Xo.ng rfl ?_); (first | (refine Xg.ev (EvF.move rfl rfl) rfl rfl ?_) | (refine Xg.ev (EvF.assign rfl rfl) rfl rfl ?_) | (refine Xg.ev (EvF.cmp rfl rfl rfl rfl) rfl rfl ?_) | (refine Xg.ev (EvF.add64 rfl rfl rfl (by omega) (by omega)) rfl rfl ?_) | (refine Xg.ev (EvF.fieldAddr rfl rfl (te rfl) rfl (te rfl) (by decide)) rfl rfl ?_) | (refine Xg.ev (EvF.loadV rfl rfl (LoadV.own (te rfl) rfl (List.Mem.head _) rfl)) rfl rfl ?_) | (refine Xg.st (StF.boxAgg rfl rfl) rfl rfl ?_; rintro _ _ ⟨bx, rfl, rfl⟩))))) | (refine XO.done rfl ?_; refine hK _ _ ?_; clear hK K) | refine X.seq rfl ?_ | refine X.region rfl (fun K hK => ?_) | refine X.block rfl ?_ | (refine X.brk rfl ?_; first | refine blockX_hit rfl ?_ | skip) | refine X.skip rfl ?_ | (refine X.ite rfl rfl (fun hc => ?_); (first | (with_reducible refine Xb.case hc (fun h => ?_) (fun h => ?_)) | (with_reducible refine Xb.caseB hc (fun h => ?_) (fun h => ?_))) <;> clear hc))
    · obtain ⟨b, off, e, rfl, he⟩ := hB.weighs.elem (i := q) (by omega)
      have hwe := hw e (List.mem_of_getElem? he)
      have hn' : allC (B.weighs.take (q + 1)) d = (is && decide (couldP e d)) := by
        rw [take_snoc he, hn]
        unfold allC
        rw [List.all_append]
        simp
      clear hn
      repeat' (first | (refine XO.op rfl ?_; (first | ((first | refine Xo.ng rfl ?_ | (refine Xo.g rfl rfl ?_; with_reducible refine Xw.tt ?_)); (first | (refine Xg.ev (EvF.loadV rfl rfl (LoadV.elA0 (hBZ _ _).weighs he (te rfl) rfl (fun _ hm => hm) rfl)) rfl rfl ?_) | (refine Xg.call (EnF.st rfl (Args.cons rfl (Args.cons rfl Args.nil))) rfl rfl (could_spec e d _ (by omega) hwe) ?_; rintro _ H9 ⟨rfl, hH9⟩; subst H9) | (refine Xg.ev (EvF.move rfl rfl) rfl rfl ?_) | (refine Xg.ev (EvF.assign rfl rfl) rfl rfl ?_) | (refine Xg.ev (EvF.pickT rfl rfl rfl) rfl rfl ?_) | (refine Xg.ev (EvF.pickF rfl rfl rfl) rfl rfl ?_) | (refine Xg.ev (EvF.add64 rfl rfl rfl (by omega) (by omega)) rfl rfl ?_) | (refine Xg.ev (EvF.indexSlice rfl rfl rfl (te rfl) (te rfl) (by omega) (by omega)) rfl rfl ?_) | (refine Xg.ev (EvF.loadV rfl rfl (LoadV.whole (te rfl) rfl (List.Mem.head _) rfl)) rfl rfl ?_) | (refine Xg.st (StF.alloc rfl Try.zeroValue62 rfl) rfl rfl ?_; rintro _ _ ⟨bx, rfl, rfl⟩) | (refine Xg.st0 (StF.storeAll (i := 0) rfl rfl rfl (te rfl) rfl rfl rfl rfl) rfl ?_; rintro _ _ ⟨rfl, rfl⟩; dsimp only [List.set]))) | (refine Xo.g rfl rfl ?_; (first | (with_reducible refine Xw.ft rfl rfl ?_) | (with_reducible refine Xw.caseB (fun h => ?_) (fun h => ?_) <;> simp only [h, decide_true, decide_false, Bool.not_true, Bool.not_false, and_self, and_true, true_and, and_false, false_and]))))) | (refine XO.done rfl ?_; refine hK _ _ ?_; clear hK K) | refine X.region rfl (fun K hK => ?_))
      · refine ⟨_, _, _, (by (repeat (first | exact Sub.nil _ | refine Sub.cons rfl ?_)); done), (by (repeat (first | exact List.Sublist.refl _ | apply List.Sublist.cons)); done), ⟨q + 1, _, rfl, by omega, by rw [hn']; simp_all, rfl, rfl⟩, by omega⟩
      · refine ⟨_, _, _, (by (repeat (first | exact Sub.nil _ | refine Sub.cons rfl ?_)); done), (by (repeat (first | exact List.Sublist.refl _ | apply List.Sublist.cons)); done), ⟨q + 1, _, rfl, by omega, by rw [hn']; simp_all, rfl, rfl⟩, by omega⟩
    · have hyes : okR B d = is := by rw [hn, List.take_of_length_le (by omega)]; rfl
      have hi : is = true := by assumption
      rw [hi] at hyes
      have hwl : wl (okR B) B.dlo (k + 1) = wl (okR B) B.dlo k ++ [d] := by
        rw [hdk] at hyes
        simp only [wl, hyes, if_true, hdk]
      have hk1 := wl_len (okR B) B.dlo k
      obtain ⟨l, hlE⟩ : ∃ l, wl (okR B) B.dlo k = l := ⟨_, rfl⟩
      rw [hlE] at hO hwl hk1
      clear hn
      rcases hO with ⟨rfl, rfl, rfl⟩ | ⟨b0, q0, rfl, rfl⟩
      · repeat' (first | (refine XO.op rfl ?_; (first | ((first | refine Xo.ng rfl ?_); (first | (refine Xg.st (StF.buildOne rfl el55 rfl rfl rfl (by decide) (by decide)) rfl rfl ?_; rintro _ _ ⟨bs, rfl, rfl⟩) | (refine Xg.st (StF.appendNew rfl el55 rfl rfl (by decide) rfl (Rd.own (List.Mem.head _)) (by decide)) rfl rfl ?_; rintro _ _ ⟨bn, kn, rfl, rfl⟩) | (refine Xg.ev (EvF.move rfl rfl) rfl rfl ?_) | (refine Xg.ev (EvF.assign rfl rfl) rfl rfl ?_) | (refine Xg.ev (EvF.add64 rfl rfl rfl (by omega) (by omega)) rfl rfl ?_))))) | (refine XO.done rfl ?_; refine hK _ _ ?_; clear hK K) | refine X.region rfl (fun K hK => ?_))
        refine ⟨_, _, _, (by (repeat (first | exact Sub.nil _ | refine Sub.cons rfl ?_)); done), ?_, ⟨k + 1, _, _, [⟨bn, 0, ([] ++ [d]).flatMap cI, some 3, kn * 1⟩], rfl, by omega, ?_, ?_, rfl, rfl⟩, by omega⟩
        · exact List.Sublist.cons_cons _ (List.Sublist.cons _ (List.Sublist.refl _))
        · omega
        · rw [hwl]; exact .inr ⟨_, _, rfl, rfl⟩
      · have hlen : (l.flatMap cI).length = l.length * 1 := lenI l
        repeat' (first | (refine XO.op rfl ?_; (first | ((first | refine Xo.ng rfl ?_); (first | (refine Xg.st (StF.buildOne rfl el55 rfl rfl rfl (by decide) (by decide)) rfl rfl ?_; rintro _ _ ⟨bs, rfl, rfl⟩) | (refine Xg.st (StF.appendOwn (i := 1) rfl el55 rfl rfl rfl hlen rfl (Rd.own (List.Mem.head _)) rfl (by omega)) rfl rfl ?_; rintro _ _ ⟨bn, kn, rfl, rfl⟩; dsimp only [List.eraseIdx]) | (refine Xg.ev (EvF.move rfl rfl) rfl rfl ?_) | (refine Xg.ev (EvF.assign rfl rfl) rfl rfl ?_) | (refine Xg.ev (EvF.add64 rfl rfl rfl (by omega) (by omega)) rfl rfl ?_))))) | (refine XO.done rfl ?_; refine hK _ _ ?_; clear hK K) | refine X.region rfl (fun K hK => ?_))
        refine ⟨_, _, _, (by (repeat (first | exact Sub.nil _ | refine Sub.cons rfl ?_)); done), ?_, ⟨k + 1, _, _, [⟨bn, 0, (l ++ [d]).flatMap cI, some 3, kn * 1⟩], rfl, by omega, ?_, ?_, rfl, rfl⟩, by omega⟩
        · rw [List.flatMap_append]
          exact List.Sublist.cons_cons _ (List.Sublist.cons _ (List.Sublist.refl _))
        · omega
        · rw [hwl]; exact .inr ⟨_, _, by rw [List.length_append]; rfl, rfl⟩
    · have hno : okR B d = is := by rw [hn, List.take_of_length_le (by omega)]; rfl
      have hi : is = false := by assumption
      rw [hi] at hno
      refine ⟨_, _, _, (by (repeat (first | exact Sub.nil _ | refine Sub.cons rfl ?_)); done), (by (repeat (first | exact List.Sublist.refl _ | apply List.Sublist.cons)); done), ⟨k + 1, _, _, Z, rfl, by omega, ?_, ?_, rfl, rfl⟩, by omega⟩
      · omega
      · rw [hdk] at hno
        simp only [wl, hno, Bool.false_eq_true, if_false, List.append_nil]
        exact hO
  · obtain rfl : k = N := by omega
    exact ret_one (by first | exact .inr rfl | exact .inl rfl) Try.results34 rfl (H' := Z ++ H) (List.Sublist.append (List.Sublist.refl _) (List.sublist_cons_self _ _)) ⟨Z, hO, rfl⟩
end Go.Proofs.Ytminkpgacomicac
end
section
set_option linter.unusedVariables false
set_option linter.unusedSimpArgs false
namespace Go.Proofs.Ytminkpgacomicac
open Go Go.Fw
set_option maxRecDepth 10000
def stp (i : Int) (s : Sp) (x : Dr) : Sp := if x.val = i then ⟨max s.lo x.lo, min s.hi x.hi⟩ else s
def gr1 (l : List Dr) (i : Int) : Sp := l.foldl (stp i) ⟨1, 9⟩
theorem spAt_set {g : List Sp} {i j : Nat} {s : Sp} (h : i < g.length) : spAt (g.set i s) j = if i = j then s else spAt g j := by
  unfold spAt List.getD
  rw [List.getElem?_set]
  by_cases h1 : i = j
  · subst h1; simp [h]
  · simp [h1]
theorem fold_at (i : Nat) : ∀ (l : List Dr) (g : List Sp), g.length = 5 → i < 5 → (∀ x ∈ l, 0 ≤ x.val ∧ x.val < 5) → spAt (l.foldl stepG g) i = l.foldl (stp i) (spAt g i)
  | [], g, _, _, _ => rfl
  | x :: l, g, hg, hi, hx => by
    have h1 := hx x List.mem_cons_self
    rw [List.foldl_cons, List.foldl_cons, fold_at i l (stepG g x) (by rw [stepG_len, hg]) hi (fun y hy => hx y (List.mem_cons_of_mem _ hy))]
    congr 1
    unfold stepG stp
    rw [spAt_set (by omega)]
    by_cases h2 : x.val = i
    · rw [if_pos (by omega), if_pos h2, show x.val.toNat = i by omega]
    · rw [if_neg (by omega), if_neg h2]
theorem initG_at {n i : Nat} (hi : i < n) : spAt (initG n) i = ⟨1, 9⟩ := by
  unfold spAt initG List.getD
  rw [List.getElem?_append_left (by simpa using hi), List.getElem?_replicate, if_pos hi]
  rfl
theorem gr1_eq {B : Bl} (h5 : 1 ≤ B.layers ∧ B.layers ≤ 5) (hd : ∀ x ∈ B.draws, 0 ≤ x.val ∧ x.val < 5) {i : Nat} (hi : i < B.layers.toNat) : gr1 B.draws i = spAt (gradesOf B) i := by
  unfold gr1 gradesOf
  rw [fold_at i B.draws _ (initG_len (by omega)) (by omega) hd, initG_at hi]
/-- a list of spans in memory of one's own, or nil -/
def OutS (l : List Sp) (out : Value) (Z : List Row) : Prop := (l = [] ∧ out = .slice none 0 0 ∧ Z = []) ∨ ∃ b q, out = .slice (some ⟨b, 0, none⟩) l.length q ∧ Z = [⟨b, 0, l.flatMap cSp, some 23, q * 2⟩]
theorem OutS.sl {l : List Sp} {out : Value} {Z H : List Row} (h : OutS l out Z) : ∃ a c, out = .slice a l.length c ∧ SlE (Z ++ H) a cSp 2 l := by
  rcases h with ⟨rfl, rfl, rfl⟩ | ⟨b, q, rfl, rfl⟩
  · exact ⟨none, 0, rfl, sleNil⟩
  · exact ⟨_, _, rfl, SlE.ofRow (List.Mem.head _) (fun _ _ => rfl)⟩
def gsOf (B : Bl) : List Sp := (gradesOf B).take B.layers.toNat
set_option maxHeartbeats 4000000 in
theorem layers_spec (B : Bl) (p : Pb) (H : List Row) (h5 : 1 ≤ B.layers ∧ B.layers ≤ 5) (hd : ∀ x ∈ B.draws, 0 ≤ x.val ∧ x.val < 5) (hB : BlOk H B p) :
    Fc Try.prog 33 [.agg (cBl B p).toArray] H (fun v H' => (hasG B.layers.toNat (gradesOf B) ∧ ∃ out Z, OutS (gsOf B) out Z ∧ v = .tuple #[out, .bool true] ∧ H' = Z ++ H) ∨ (¬ hasG B.layers.toNat (gradesOf B) ∧ v = .tuple #[.slice none 0 0, .bool false] ∧ H' = H)) := by
  obtain ⟨N, hN⟩ : ∃ N : Nat, B.layers.toNat = N := ⟨_, rfl⟩
  obtain ⟨g, hg⟩ : ∃ g, gradesOf B = g := ⟨_, rfl⟩
  have hgl : g.length = 5 := by rw [← hg]; unfold gradesOf; rw [foldG_len, initG_len (by omega)]
  have hgr : ∀ i : Nat, i < N → gr1 B.draws i = spAt g i := fun i hi => by rw [← hg]; exact gr1_eq h5 hd (by omega)
  unfold gsOf
  rw [hN, hg]
  have l1 := hB.l1
  have hBZ : ∀ (Z : List Row) r0 r, BlOk (r0 :: (Z ++ r :: H)) B p := fun Z r0 r => hB.sub (fun _ h => List.Mem.tail _ (List.mem_append_right _ (List.mem_cons_of_mem _ h)))
  obtain ⟨a1, c1, a2, c2⟩ := p
  refine Fc.mk (callable Try.call33) Try.func33 rfl Try.ntmps33 rfl ?_; dsimp only [fr]
  repeat' (first | (refine XO.op rfl ?_; (first | ((first | refine Xo.ng rfl ?_); (first | (refine Xg.ev (EvF.move rfl rfl) rfl rfl ?_) | (refine Xg.ev (EvF.assign rfl rfl) rfl rfl ?_) | (refine Xg.ev (EvF.cmp rfl rfl rfl rfl) rfl rfl ?_) | (refine Xg.ev (EvF.fieldAddr rfl rfl (te rfl) rfl (te rfl) (by decide)) rfl rfl ?_) | (refine Xg.ev (EvF.loadV rfl rfl (LoadV.own (te rfl) rfl (List.Mem.head _) rfl)) rfl rfl ?_) | (refine Xg.ev (EvF.loadV rfl rfl (LoadV.whole (te rfl) rfl (List.Mem.head _) rfl)) rfl rfl ?_) | (refine Xg.st (StF.boxAgg rfl rfl) rfl rfl ?_; rintro _ _ ⟨bx, rfl, rfl⟩))))) | (refine XO.done rfl ?_; refine hK _ _ ?_; clear hK K) | refine X.seq rfl ?_ | refine X.region rfl (fun K hK => ?_) | refine X.block rfl ?_ | (refine X.brk rfl ?_; first | refine blockX_hit rfl ?_ | skip) | refine X.skip rfl ?_ | refine X.ret rfl ?_ | (refine X.ite rfl rfl (fun hc => ?_); (first | (with_reducible refine Xb.case hc (fun h => ?_) (fun h => ?_))) <;> clear hc))
  rename Nat => b1
  refine X.lp rfl (fun m F' H' => ∃ (k : Nat) (out : Value) (Z : List Row), m = N - k ∧ k ≤ N ∧ OutS (g.take k) out Z ∧ (∀ s ∈ g.take k, ¬ s.lo > s.hi) ∧ Z ++ ⟨b1, 0, cBl B ⟨a1, c1, a2, c2⟩, some 27, 6⟩ :: H = H' ∧
      F' = [(1, .pointer (some ⟨b1, 0, none⟩)), (4, out), (5, .int .i64 k)])
    N [(1, .pointer (some ⟨b1, 0, none⟩)), (4, .slice none 0 0), (5, .int .i64 (0 : Nat))] (⟨b1, 0, cBl B ⟨a1, c1, a2, c2⟩, some 27, 6⟩ :: H) (by (repeat (first | exact Sub.nil _ | refine Sub.cons rfl ?_)); done) (List.Sublist.refl _) ⟨0, _, [], by omega, by omega, .inl ⟨rfl, rfl, rfl⟩, by simp, rfl, rfl⟩ ?_
  rintro _ _ H2 ⟨k, out, Z, rfl, hk, hO, hall, hH, rfl⟩
  subst hH
  repeat' (first | (refine XO.op rfl ?_; (first | ((first | refine Xo.ng rfl ?_); (first | (refine Xg.ev (EvF.loadV rfl rfl (LoadV.own (te rfl) rfl (List.mem_append_right _ (List.Mem.head _)) rfl)) rfl rfl ?_) | (refine Xg.ev (EvF.loadV rfl rfl (LoadV.own (te rfl) rfl (List.Mem.tail _ (List.mem_append_right _ (List.Mem.head _))) rfl)) rfl rfl ?_) | (refine Xg.ev (EvF.build (cs := cSp ⟨1, 9⟩) rfl (ArgsP.cons rfl (ArgsP.cons rfl ArgsP.nil)) (te rfl) (Places.cons (te rfl) (Places.cons (te rfl) Places.nil)) Try.zeroValue23 rfl) rfl rfl ?_) | (refine Xg.ev (EvF.move rfl rfl) rfl rfl ?_) | (refine Xg.ev (EvF.assign rfl rfl) rfl rfl ?_) | (refine Xg.ev (EvF.cmp rfl rfl rfl rfl) rfl rfl ?_) | (refine Xg.ev (EvF.fieldAddr rfl rfl (te rfl) rfl (te rfl) (by decide)) rfl rfl ?_) | (refine Xg.ev (EvF.lenSlice rfl rfl (te rfl)) rfl rfl ?_) | (refine Xg.st (StF.alloc rfl Try.zeroValue23 rfl) rfl rfl ?_; rintro _ _ ⟨bx, rfl, rfl⟩) | (refine Xg.st0 (StF.storeAll (i := 0) rfl rfl rfl (te rfl) rfl rfl rfl rfl) rfl ?_; rintro _ _ ⟨rfl, rfl⟩; dsimp only [List.set]))))) | (refine XO.done rfl ?_; refine hK _ _ ?_; clear hK K) | refine X.seq rfl ?_ | refine X.region rfl (fun K hK => ?_) | refine X.block rfl ?_ | (refine X.brk rfl ?_; first | refine blockX_hit rfl ?_ | skip) | refine X.skip rfl ?_ | refine X.ret rfl ?_ | (refine X.ite rfl rfl (fun hc => ?_); (first | (with_reducible refine Xb.case hc (fun h => ?_) (fun h => ?_))) <;> clear hc))
  · rename Nat => bs
    refine X.lp rfl (fun m F' H' => ∃ q : Nat, m = B.draws.length - q ∧ q ≤ B.draws.length ∧ ⟨bs, 0, cSp (gr1 (B.draws.take q) k), some 23, 2⟩ :: (Z ++ ⟨b1, 0, cBl B ⟨a1, c1, a2, c2⟩, some 27, 6⟩ :: H) = H' ∧
        F' = [(1, .pointer (some ⟨b1, 0, none⟩)), (4, out), (5, .int .i64 k), (6, .pointer (some ⟨bs, 0, none⟩)), (17, .slice a1 B.draws.length c1), (18, .int .i64 B.draws.length), (19, .int .i64 q)])
      B.draws.length [(1, .pointer (some ⟨b1, 0, none⟩)), (4, out), (5, .int .i64 k), (6, .pointer (some ⟨bs, 0, none⟩)), (17, .slice a1 B.draws.length c1), (18, .int .i64 B.draws.length), (19, .int .i64 (0 : Nat))] (⟨bs, 0, cSp (gr1 (B.draws.take 0) k), some 23, 2⟩ :: (Z ++ ⟨b1, 0, cBl B ⟨a1, c1, a2, c2⟩, some 27, 6⟩ :: H)) (by (repeat (first | exact Sub.nil _ | refine Sub.cons rfl ?_)); done) (List.Sublist.refl _) ⟨0, by omega, by omega, rfl, rfl⟩ ?_
    rintro _ _ H2 ⟨q, rfl, hq, hH, rfl⟩
    subst hH
    obtain ⟨s, hs⟩ : ∃ s, gr1 (B.draws.take q) k = s := ⟨_, rfl⟩
    rw [hs]
    repeat' (first | (refine XO.op rfl ?_; (first | ((first | refine Xo.ng rfl ?_); (first | (refine Xg.ev (EvF.move rfl rfl) rfl rfl ?_) | (refine Xg.ev (EvF.assign rfl rfl) rfl rfl ?_) | (refine Xg.ev (EvF.cmp rfl rfl rfl rfl) rfl rfl ?_) | (refine Xg.ev (EvF.fieldAddr rfl rfl (te rfl) rfl (te rfl) (by decide)) rfl rfl ?_) | (refine Xg.ev (EvF.loadV rfl rfl (LoadV.own (te rfl) rfl (List.Mem.head _) rfl)) rfl rfl ?_) | (refine Xg.ev (EvF.loadV rfl rfl (LoadV.whole (te rfl) rfl (List.Mem.head _) rfl)) rfl rfl ?_) | (refine Xg.st (StF.boxAgg rfl rfl) rfl rfl ?_; rintro _ _ ⟨bx, rfl, rfl⟩))))) | (refine XO.done rfl ?_; refine hK _ _ ?_; clear hK K) | refine X.seq rfl ?_ | refine X.region rfl (fun K hK => ?_) | refine X.block rfl ?_ | (refine X.brk rfl ?_; first | refine blockX_hit rfl ?_ | skip) | refine X.skip rfl ?_ | refine X.ret rfl ?_ | (refine X.ite rfl rfl (fun hc => ?_); (first | (with_reducible refine Xb.case hc (fun h => ?_) (fun h => ?_))) <;> clear hc))
    · obtain ⟨b, off, e, rfl, he⟩ := hB.draws.elem (i := q) (by omega)
      have hn : gr1 (B.draws.take (q + 1)) k = stp k s e := by unfold gr1 at hs ⊢; rw [take_snoc he, List.foldl_append, hs]; rfl
      unfold stp at hn
      repeat' (first | (refine XO.op rfl ?_; (first | ((first | refine Xo.ng rfl ?_); (first | (refine Xg.ev (EvF.loadV rfl rfl (LoadV.elA0 (hBZ _ _ _).draws he (te rfl) rfl (fun _ hm => hm) rfl)) rfl rfl ?_) | (refine Xg.ev (EvF.build (cs := cSp ⟨max s.lo e.lo, min s.hi e.hi⟩) rfl (ArgsP.cons rfl (ArgsP.cons rfl ArgsP.nil)) (te rfl) (Places.cons (te rfl) (Places.cons (te rfl) Places.nil)) Try.zeroValue23 rfl) rfl rfl ?_) | (refine Xg.ev (EvF.move rfl rfl) rfl rfl ?_) | (refine Xg.ev (EvF.cmp rfl rfl rfl rfl) rfl rfl ?_) | (refine Xg.ev (EvF.add64 rfl rfl rfl (by omega) (by omega)) rfl rfl ?_) | (refine Xg.ev (EvF.fieldAddr rfl rfl (te rfl) rfl (te rfl) (by decide)) rfl rfl ?_) | (refine Xg.ev (EvF.indexSlice rfl rfl rfl (te rfl) (te rfl) (by omega) (by omega)) rfl rfl ?_) | (refine Xg.ev (EvF.loadV rfl rfl (LoadV.own (te rfl) rfl (List.Mem.head _) rfl)) rfl rfl ?_) | (refine Xg.ev (EvF.loadV rfl rfl (LoadV.own (te rfl) rfl (List.Mem.tail _ (List.Mem.head _)) rfl)) rfl rfl ?_) | (refine Xg.ev (EvF.min64 rfl rfl rfl) rfl rfl ?_) | (refine Xg.ev (EvF.max64 rfl rfl rfl) rfl rfl ?_) | (refine Xg.st (StF.alloc rfl Try.zeroValue62 rfl) rfl rfl ?_; rintro _ _ ⟨bx, rfl, rfl⟩) | (refine Xg.st0 (StF.storeAll (i := 0) rfl rfl rfl (te rfl) rfl rfl rfl rfl) rfl ?_; rintro _ _ ⟨rfl, rfl⟩; dsimp only [List.set]) | (refine Xg.st0 (StF.storeAll (i := 1) rfl rfl rfl (te rfl) rfl rfl rfl rfl) rfl ?_; rintro _ _ ⟨rfl, rfl⟩; dsimp only [List.set]))))) | (refine XO.done rfl ?_; refine hK _ _ ?_; clear hK K) | refine X.seq rfl ?_ | refine X.region rfl (fun K hK => ?_) | refine X.skip rfl ?_ | (refine X.ite rfl rfl (fun hc => ?_); (first | (with_reducible refine Xb.case hc (fun h => ?_) (fun h => ?_))) <;> clear hc))
      · rw [if_pos (by assumption)] at hn
        rw [← hn]
        exact ⟨_, _, _, (by (repeat (first | exact Sub.nil _ | refine Sub.cons rfl ?_)); done), List.Sublist.cons _ (List.Sublist.refl _), ⟨q + 1, rfl, by omega, rfl, rfl⟩, by omega⟩
      · rw [if_neg (by assumption)] at hn
        rw [← hn]
        exact ⟨_, _, _, (by (repeat (first | exact Sub.nil _ | refine Sub.cons rfl ?_)); done), List.Sublist.cons _ (List.Sublist.refl _), ⟨q + 1, rfl, by omega, rfl, rfl⟩, by omega⟩
    · have hsk : spAt g k = s := by rw [← hgr k (by omega), ← hs, List.take_of_length_le (by omega)]
      have hkg := spAt_get (g := g) (i := k) (by omega)
      rw [hsk] at hkg
      exact ret_two (by first | exact .inr rfl | exact .inl rfl) Try.results33 rfl rfl (H' := H) (List.Sublist.cons _ ((List.sublist_cons_self _ _).trans (List.sublist_append_right _ _))) (.inr ⟨fun hh => hh s (List.mem_of_getElem? (i := k) (by rw [List.getElem?_take, if_pos (by omega)]; exact hkg)) (by assumption), rfl, rfl⟩)
    · have hsk : spAt g k = s := by rw [← hgr k (by omega), ← hs, List.take_of_length_le (by omega)]
      have hkg := spAt_get (g := g) (i := k) (by omega)
      rw [hsk] at hkg
      have hok : ¬ s.lo > s.hi := by assumption
      have htk := take_snoc hkg
      have hall' : ∀ s ∈ g.take (k + 1), ¬ s.lo > s.hi := by
        intro x hx
        rw [htk, List.mem_append, List.mem_singleton] at hx
        rcases hx with hx | rfl
        · exact hall x hx
        · exact hok
      obtain ⟨l, hlE⟩ : ∃ l, g.take k = l := ⟨_, rfl⟩
      have hlk : l.length ≤ 5 := by rw [← hlE, List.length_take]; omega
      rw [hlE] at hO htk
      rcases hO with ⟨rfl, rfl, rfl⟩ | ⟨b0, q0, rfl, rfl⟩
      · repeat' (first | (refine XO.op rfl ?_; (first | ((first | refine Xo.ng rfl ?_); (first | (refine Xg.st (StF.buildOne rfl el22 rfl rfl rfl (by decide) (by decide)) rfl rfl ?_; rintro _ _ ⟨bo, rfl, rfl⟩) | (refine Xg.st (StF.appendNew rfl el22 rfl rfl (by decide) rfl (Rd.own (List.Mem.head _)) (by decide)) rfl rfl ?_; rintro _ _ ⟨bn, kn, rfl, rfl⟩) | (refine Xg.ev (EvF.move rfl rfl) rfl rfl ?_) | (refine Xg.ev (EvF.assign rfl rfl) rfl rfl ?_) | (refine Xg.ev (EvF.add64 rfl rfl rfl (by omega) (by omega)) rfl rfl ?_))))) | (refine XO.done rfl ?_; refine hK _ _ ?_; clear hK K) | refine X.region rfl (fun K hK => ?_))
        refine ⟨_, _, _, (by (repeat (first | exact Sub.nil _ | refine Sub.cons rfl ?_)); done), ?_, ⟨k + 1, _, [⟨bn, 0, ([] ++ [s]).flatMap cSp, some 23, kn * 2⟩], rfl, by omega, ?_, hall', rfl, rfl⟩, by omega⟩
        · exact List.Sublist.cons_cons _ (List.Sublist.cons _ (List.Sublist.cons _ (List.Sublist.refl _)))
        · rw [htk]; exact .inr ⟨_, _, rfl, rfl⟩
      · have hlen : (l.flatMap cSp).length = l.length * 2 := lenSp l
        repeat' (first | (refine XO.op rfl ?_; (first | ((first | refine Xo.ng rfl ?_); (first | (refine Xg.st (StF.buildOne rfl el22 rfl rfl rfl (by decide) (by decide)) rfl rfl ?_; rintro _ _ ⟨bo, rfl, rfl⟩) | (refine Xg.st (StF.appendOwn (i := 2) rfl el22 rfl rfl rfl hlen rfl (Rd.own (List.Mem.head _)) rfl (by omega)) rfl rfl ?_; rintro _ _ ⟨bn, kn, rfl, rfl⟩; dsimp only [List.eraseIdx]) | (refine Xg.ev (EvF.move rfl rfl) rfl rfl ?_) | (refine Xg.ev (EvF.assign rfl rfl) rfl rfl ?_) | (refine Xg.ev (EvF.add64 rfl rfl rfl (by omega) (by omega)) rfl rfl ?_))))) | (refine XO.done rfl ?_; refine hK _ _ ?_; clear hK K) | refine X.region rfl (fun K hK => ?_))
        refine ⟨_, _, _, (by (repeat (first | exact Sub.nil _ | refine Sub.cons rfl ?_)); done), ?_, ⟨k + 1, _, [⟨bn, 0, (l ++ [s]).flatMap cSp, some 23, kn * 2⟩], rfl, by omega, ?_, hall', rfl, rfl⟩, by omega⟩
        · rw [List.flatMap_append]
          exact List.Sublist.cons_cons _ (List.Sublist.cons _ (List.Sublist.cons _ (List.Sublist.refl _)))
        · rw [htk]; exact .inr ⟨_, _, by rw [List.length_append]; rfl, rfl⟩
  · obtain rfl : k = N := by omega
    exact ret_two (by first | exact .inr rfl | exact .inl rfl) Try.results33 rfl rfl (H' := Z ++ H) (List.Sublist.append (List.Sublist.refl _) (List.sublist_cons_self _ _)) (.inl ⟨hall, out, Z, hO, rfl, rfl⟩)
theorem true_spec (B : Bl) (p : Pb) (H : List Row) (hb : baleOk B) (hB : BlOk H B p) :
    Fc Try.prog 20 [.agg (cBl B p).toArray] H (fun v H' => v = .bool (decide (canB B)) ∧ H' = H) := by
  have hB1 : ∀ r1, BlOk (r1 :: H) B p := fun r1 => hB.sub (fun _ h => List.Mem.tail _ h)
  have hBZ : ∀ (Z : List Row) r1, BlOk (Z ++ r1 :: H) B p := fun Z r1 => hB.sub (fun _ h => List.mem_append_right _ (List.Mem.tail _ h))
  have hl := wl_len (okW B) B.dlo (B.dhi - B.dlo + 1).toNat
  have hd := hb.hdry
  refine Fc.mk (callable Try.call20) Try.func20 rfl Try.ntmps20 rfl ?_; dsimp only [fr]
  repeat' (first | (refine XO.op rfl ?_; (first | ((first | refine Xo.ng rfl ?_ | (refine Xo.g rfl rfl ?_; with_reducible refine Xw.tt ?_)); (first | (refine Xg.call (EnF.st rfl (by (repeat (first | exact Args.nil | refine Args.cons rfl ?_)); done)) rfl rfl (layers_spec B p _ hb.h5 hb.hd (hB1 _)) ?_; rintro _ H9 (⟨hG, out, Z, hO, rfl, hH9⟩ | ⟨hG, rfl, hH9⟩) <;> subst H9) | (refine Xg.ev (EvF.loadV rfl rfl (LoadV.whole (te rfl) rfl (List.mem_append_right _ (List.Mem.head _)) rfl)) rfl rfl ?_) | (refine Xg.call (EnF.st rfl (by (repeat (first | exact Args.nil | refine Args.cons rfl ?_)); done)) rfl rfl (dries_spec B p _ hd hb.wg (hBZ _ _)) ?_; rintro _ _ ⟨Z2, hO2, rfl⟩; obtain ⟨a, c, rfl, hs2⟩ := hO2.sl (H := [])) | (refine Xg.ev (EvF.move rfl rfl) rfl rfl ?_) | (refine Xg.ev (EvF.assign rfl rfl) rfl rfl ?_) | (refine Xg.ev (EvF.pickT rfl rfl rfl) rfl rfl ?_) | (refine Xg.ev (EvF.pickF rfl rfl rfl) rfl rfl ?_) | (refine Xg.ev (EvF.cmp rfl rfl rfl rfl) rfl rfl ?_) | (refine Xg.ev (EvF.lenSlice rfl rfl (te rfl)) rfl rfl ?_) | (refine Xg.ev (EvF.loadV rfl rfl (LoadV.whole (te rfl) rfl (List.Mem.head _) rfl)) rfl rfl ?_) | (refine Xg.ev (EvF.extract rfl rfl rfl) rfl rfl ?_) | (refine Xg.st (StF.boxAgg rfl rfl) rfl rfl ?_; rintro _ _ ⟨bx, rfl, rfl⟩))) | (refine Xo.g rfl rfl ?_; (first | (with_reducible refine Xw.ft rfl rfl ?_))))) | (refine XO.done rfl ?_; refine hK _ _ ?_; clear hK K) | refine X.seq rfl ?_ | refine X.region rfl (fun K hK => ?_) | refine X.ret rfl ?_)
  · refine ret_one (by first | exact .inr rfl | exact .inl rfl) Try.results20 rfl (H' := H) (((List.sublist_cons_self _ _).trans (List.sublist_append_right _ _)).trans (List.sublist_append_right _ _)) ⟨?_, rfl⟩
    congr 1
    exact decide_eq_decide.2 ⟨fun q => ⟨hG, by omega⟩, fun q => by have := q.2; omega⟩
  · refine ret_one (by first | exact .inr rfl | exact .inl rfl) Try.results20 rfl (H' := H) (by (repeat (first | exact List.Sublist.refl _ | apply List.Sublist.cons)); done) ?_; simp only [and_true, true_and]
    congr 1; symm; exact decide_eq_false (fun q => hG q.1)
theorem rcan_spec (B : Bl) (p : Pb) (H : List Row) (hB : BlOk H B p) :
    Fc Try.prog 7 [.agg (cBl B p).toArray] H (fun v H' => v = .tuple #[.bool (decide (baleOk B ∧ canB B)), .int .i64 (if baleOk B then 0 else 30)] ∧ H' = H) := by
  have hB1 : ∀ r1, BlOk (r1 :: H) B p := fun r1 => hB.sub (fun _ h => List.Mem.tail _ h)
  refine Fc.mk (callable Try.call7) Try.func7 rfl Try.ntmps7 rfl ?_; dsimp only [fr]
  repeat' (first | (refine XO.op rfl ?_; (first | ((first | refine Xo.ng rfl ?_); (first | (refine Xg.call (EnF.st rfl (Args.cons rfl Args.nil)) rfl rfl (bale_spec B p _ (hB1 _)) ?_; rintro _ H9 ⟨rfl, hH9⟩; subst H9) | (refine Xg.call (EnF.st rfl (Args.cons rfl Args.nil)) rfl rfl (true_spec B p _ (by assumption) (hB1 _)) ?_; rintro _ H9 ⟨rfl, hH9⟩; subst H9) | (refine Xg.ev (EvF.assign rfl rfl) rfl rfl ?_) | (refine Xg.ev (EvF.not rfl rfl) rfl rfl ?_) | (refine Xg.ev (EvF.loadV rfl rfl (LoadV.whole (te rfl) rfl (List.Mem.head _) rfl)) rfl rfl ?_) | (refine Xg.st (StF.boxAgg rfl rfl) rfl rfl ?_; rintro _ _ ⟨bx, rfl, rfl⟩))))) | (refine XO.done rfl ?_; refine hK _ _ ?_; clear hK K) | refine X.seq rfl ?_ | refine X.region rfl (fun K hK => ?_) | refine X.skip rfl ?_ | refine X.ret rfl ?_ | (refine X.ite rfl rfl (fun hc => ?_); (first | (with_reducible refine Xb.caseN hc (fun h => ?_) (fun h => ?_))) <;> clear hc))
  · have hb : ¬ baleOk B := by assumption
    refine ret_two (by first | exact .inr rfl | exact .inl rfl) Try.results7 rfl rfl (H' := H) (by (repeat (first | exact List.Sublist.refl _ | apply List.Sublist.cons)); done) ?_; simp only [and_true, true_and]
    rw [if_neg hb, decide_eq_false (fun q : baleOk B ∧ canB B => hb q.1)]
  · have hb : baleOk B := by assumption
    refine ret_two (by first | exact .inr rfl | exact .inl rfl) Try.results7 rfl rfl (H' := H) (by (repeat (first | exact List.Sublist.refl _ | apply List.Sublist.cons)); done) ?_; simp only [and_true, true_and]
    rw [if_pos hb]
    have e : decide (canB B) = decide (baleOk B ∧ canB B) := decide_eq_decide.2 ⟨fun q => ⟨hb, q⟩, fun q => q.2⟩
    rw [e]
theorem rcheck_spec (B : Bl) (p : Pb) (H : List Row) (hB : BlOk H B p) :
    Fc Try.prog 11 [.agg (cBl B p).toArray] H (fun v H' => v = .int .i64 (if baleOk B then 0 else 30) ∧ H' = H) := by
  have hB1 : ∀ r1, BlOk (r1 :: H) B p := fun r1 => hB.sub (fun _ h => List.Mem.tail _ h)
  refine Fc.mk (callable Try.call11) Try.func11 rfl Try.ntmps11 rfl ?_; dsimp only [fr]
  repeat' (first | (refine XO.op rfl ?_; (first | ((first | refine Xo.ng rfl ?_); (first | (refine Xg.call (EnF.st rfl (Args.cons rfl Args.nil)) rfl rfl (bale_spec B p _ (hB1 _)) ?_; rintro _ H9 ⟨rfl, hH9⟩; subst H9) | (refine Xg.ev (EvF.assign rfl rfl) rfl rfl ?_) | (refine Xg.ev (EvF.not rfl rfl) rfl rfl ?_) | (refine Xg.ev (EvF.loadV rfl rfl (LoadV.whole (te rfl) rfl (List.Mem.head _) rfl)) rfl rfl ?_) | (refine Xg.st (StF.boxAgg rfl rfl) rfl rfl ?_; rintro _ _ ⟨bx, rfl, rfl⟩))))) | (refine XO.done rfl ?_; refine hK _ _ ?_; clear hK K) | refine X.seq rfl ?_ | refine X.region rfl (fun K hK => ?_) | refine X.skip rfl ?_ | refine X.ret rfl ?_ | (refine X.ite rfl rfl (fun hc => ?_); (first | (with_reducible refine Xb.caseN hc (fun h => ?_) (fun h => ?_))) <;> clear hc))
  · have hb : ¬ baleOk B := by assumption
    refine ret_one (by first | exact .inr rfl | exact .inl rfl) Try.results11 rfl (H' := H) (by (repeat (first | exact List.Sublist.refl _ | apply List.Sublist.cons)); done) ?_; simp only [and_true, true_and]
    rw [if_neg hb]
  · have hb : baleOk B := by assumption
    refine ret_one (by first | exact .inr rfl | exact .inl rfl) Try.results11 rfl (H' := H) (by (repeat (first | exact List.Sublist.refl _ | apply List.Sublist.cons)); done) ?_; simp only [and_true, true_and]
    rw [if_pos hb]
end Go.Proofs.Ytminkpgacomicac
end
section
set_option linter.unusedVariables false
set_option linter.unusedSimpArgs false
namespace Go.Proofs.Ytminkpgacomicac
open Go Go.Fw
set_option maxRecDepth 10000
theorem StF.storeZ {P : Program} {n : Nat} {F : FS} {o : Oper} {Z rest : List Row} {T : TypeId} {a x : Operand} {b cap : Nat} {el : TypeId} {cs vs : List Value} {ti : TI} (h : o.op = .store T a x) (hx : evF F a = some (.pointer (some ⟨b, 0, none⟩))) (hv : evF F x = some (.agg vs.toArray)) (hT : tiOf P T = some ti)
    (hn : vs.length = ti.size) (h1 : vs.all (·.oneCell') = true) (hl : vs.length = cs.length) : StF P n (Z ++ ⟨b, 0, cs, some el, cap⟩ :: rest) F o (fun u H' => u = undef ∧ H' = Z ++ ⟨b, 0, vs, some el, cap⟩ :: rest) := by
  have hi : (Z ++ (⟨b, 0, cs, some el, cap⟩ : Row) :: rest)[Z.length]? = some ⟨b, 0, cs, some el, cap⟩ := by simp
  have := StF.storeAll (P := P) (n := n) (H := Z ++ ⟨b, 0, cs, some el, cap⟩ :: rest) (i := Z.length) h hx hv hT hi hn h1 hl
  simpa using this
open Classical in
noncomputable def askE (B : Bl) : Int := if baleOk B then (if canB B then 0 else 8) else 30
theorem openE_nil (B : Bl) : openE B ⟨[], [], [], []⟩ = askE B := by
  unfold openE askE askL askK askW askD
  simp
theorem openE_one (B : Bl) (i : Int) : openE B ⟨[i], [], [], []⟩ = if baleOk B then (if 0 ≤ i ∧ i ≤ B.layers - 1 then (if canB B then 0 else 8) else 31) else 30 := by
  unfold openE askL askK askW askD
  simp
theorem gsOf_len {B : Bl} (h : baleOk B) : (gsOf B).length = B.layers.toNat := by
  unfold gsOf; rw [List.length_take, gradesOf_len h]; have := h.h5; omega
set_option maxHeartbeats 4000000 in
theorem asked_spec (B : Bl) (p : Pb) (H : List Row) (hB : BlOk H B p) :
    Fc Try.prog 24 [.agg (cBl B p).toArray] H (fun v H' => (askE B = 0 ∧ ∃ (a : Option Addr) (c : Nat) (o2 : Value) (Z : List Row), SlE (Z ++ H) a cSp 2 (gsOf B) ∧ v = .tuple #[.slice a (gsOf B).length c, o2, .int .i64 0] ∧ H' = Z ++ H) ∨ (askE B ≠ 0 ∧ v = .tuple #[.slice none 0 0, .slice none 0 0, .int .i64 (askE B)] ∧ H' = H)) := by
  have hB1 : ∀ r1, BlOk (r1 :: H) B p := fun r1 => hB.sub (fun _ h => List.Mem.tail _ h)
  have hBZ : ∀ (Z : List Row) r1, BlOk (Z ++ r1 :: H) B p := fun Z r1 => hB.sub (fun _ h => List.mem_append_right _ (List.Mem.tail _ h))
  have hl := wl_len (okW B) B.dlo (B.dhi - B.dlo + 1).toNat
  by_cases hb : baleOk B
  · have hd := hb.hdry
    have hbs := bale_spec B p
    simp only [decide_eq_true hb] at hbs
    refine Fc.mk (callable Try.call24) Try.func24 rfl Try.ntmps24 rfl ?_; dsimp only [fr]
    repeat' (first | (refine XO.op rfl ?_; (first | ((first | refine Xo.ng rfl ?_ | (refine Xo.g rfl rfl ?_; with_reducible refine Xw.ff ?_)); (first | (refine Xg.call (EnF.st rfl (Args.cons rfl Args.nil)) rfl rfl (hbs _ (hB1 _)) ?_; rintro _ H9 ⟨rfl, hH9⟩; subst H9) | (refine Xg.call (EnF.st rfl (by (repeat (first | exact Args.nil | refine Args.cons rfl ?_)); done)) rfl rfl (layers_spec B p _ hb.h5 hb.hd (hB1 _)) ?_; rintro _ H9 (⟨hG, out, Z, hO, rfl, hH9⟩ | ⟨hG, rfl, hH9⟩) <;> subst H9) | (refine Xg.ev (EvF.loadV rfl rfl (LoadV.whole (te rfl) rfl (List.mem_append_right _ (List.Mem.head _)) rfl)) rfl rfl ?_) | (refine Xg.call (EnF.st rfl (by (repeat (first | exact Args.nil | refine Args.cons rfl ?_)); done)) rfl rfl (dries_spec B p _ hd hb.wg (hBZ _ _)) ?_; rintro _ _ ⟨Z2, hO2, rfl⟩; obtain ⟨a, c, rfl, hs2⟩ := hO2.sl (H := [])) | (refine Xg.call (EnF.st rfl (by (repeat (first | exact Args.nil | refine Args.cons rfl ?_)); done)) rfl rfl (dries_spec B p _ hd hb.wg (hBZ [] _)) ?_; rintro _ _ ⟨Z2, hO2, rfl⟩; obtain ⟨a, c, rfl, hs2⟩ := hO2.sl (H := [])) | (refine Xg.ev (EvF.move rfl rfl) rfl rfl ?_) | (refine Xg.ev (EvF.assign rfl rfl) rfl rfl ?_) | (refine Xg.ev (EvF.pickT rfl rfl rfl) rfl rfl ?_) | (refine Xg.ev (EvF.pickF rfl rfl rfl) rfl rfl ?_) | (refine Xg.ev (EvF.cmp rfl rfl rfl rfl) rfl rfl ?_) | (refine Xg.ev (EvF.not rfl rfl) rfl rfl ?_) | (refine Xg.ev (EvF.lenSlice rfl rfl (te rfl)) rfl rfl ?_) | (refine Xg.ev (EvF.loadV rfl rfl (LoadV.whole (te rfl) rfl (List.Mem.head _) rfl)) rfl rfl ?_) | (refine Xg.ev (EvF.extract rfl rfl rfl) rfl rfl ?_) | (refine Xg.st (StF.boxAgg rfl rfl) rfl rfl ?_; rintro _ _ ⟨bx, rfl, rfl⟩))) | (refine Xo.g rfl rfl ?_; (first | (with_reducible refine Xw.tf rfl rfl ?_) | (with_reducible refine Xw.caseB (fun h => ?_) (fun h => ?_) <;> simp only [h, decide_true, decide_false, Bool.not_true, Bool.not_false, and_self, and_true, true_and, and_false, false_and]))))) | (refine XO.done rfl ?_; refine hK _ _ ?_; clear hK K) | refine X.seq rfl ?_ | refine X.region rfl (fun K hK => ?_) | refine X.skip rfl ?_ | refine X.ret rfl ?_ | (refine X.ite rfl rfl (fun hc => ?_); (first | (with_reducible refine Xb.t hc ?_) | (with_reducible refine Xb.case hc (fun h => ?_) (fun h => ?_)) | (with_reducible refine Xb.caseB hc (fun h => ?_) (fun h => ?_))) <;> clear hc))
    any_goals (exfalso; contradiction)
    · have hE : askE B = 8 := by unfold askE; rw [if_pos hb, if_neg (fun q => by have := q.2; omega)]
      exact ret_three (by first | exact .inr rfl | exact .inl rfl) Try.results24 rfl rfl rfl (H' := H) (((List.sublist_cons_self _ _).trans (List.sublist_append_right _ _)).trans (List.sublist_append_right _ _)) (.inr ⟨by rw [hE]; decide, by rw [hE], rfl⟩)
    · have hE : askE B = 0 := by unfold askE; rw [if_pos hb, if_pos ⟨hG, by omega⟩]
      obtain ⟨a3, c3, rfl, hs3⟩ := hO.sl (H := H)
      exact ret_three (by first | exact .inr rfl | exact .inl rfl) Try.results24 rfl rfl rfl (H' := Z ++ H) ((List.Sublist.append (List.Sublist.refl _) (List.sublist_cons_self _ _)).trans (List.sublist_append_right _ _)) (.inl ⟨hE, _, _, _, Z, hs3, rfl, rfl⟩)
    · have hE : askE B = 8 := by unfold askE; rw [if_pos hb, if_neg (fun q => hG q.1)]
      exact ret_three (by first | exact .inr rfl | exact .inl rfl) Try.results24 rfl rfl rfl (H' := H) ((List.sublist_cons_self _ _).trans (List.sublist_append_right _ _)) (.inr ⟨by rw [hE]; decide, by rw [hE], rfl⟩)
  · have hbs := bale_spec B p
    simp only [decide_eq_false hb] at hbs
    refine Fc.mk (callable Try.call24) Try.func24 rfl Try.ntmps24 rfl ?_; dsimp only [fr]
    repeat' (first | (refine XO.op rfl ?_; (first | ((first | refine Xo.ng rfl ?_); (first | (refine Xg.call (EnF.st rfl (Args.cons rfl Args.nil)) rfl rfl (hbs _ (hB1 _)) ?_; rintro _ H9 ⟨rfl, hH9⟩; subst H9) | (refine Xg.ev (EvF.assign rfl rfl) rfl rfl ?_) | (refine Xg.ev (EvF.not rfl rfl) rfl rfl ?_) | (refine Xg.ev (EvF.loadV rfl rfl (LoadV.whole (te rfl) rfl (List.Mem.head _) rfl)) rfl rfl ?_) | (refine Xg.st (StF.boxAgg rfl rfl) rfl rfl ?_; rintro _ _ ⟨bx, rfl, rfl⟩))))) | (refine XO.done rfl ?_; refine hK _ _ ?_; clear hK K) | refine X.seq rfl ?_ | refine X.region rfl (fun K hK => ?_) | refine X.skip rfl ?_ | refine X.ret rfl ?_ | (refine X.ite rfl rfl (fun hc => ?_); (first | (with_reducible refine Xb.caseB hc (fun h => ?_) (fun h => ?_))) <;> clear hc))
    any_goals (exfalso; contradiction)
    have hE : askE B = 30 := by unfold askE; rw [if_neg hb]
    exact ret_three (by first | exact .inr rfl | exact .inl rfl) Try.results24 rfl rfl rfl (H' := H) (by (repeat (first | exact List.Sublist.refl _ | apply List.Sublist.cons)); done) (.inr ⟨by rw [hE]; decide, by rw [hE], rfl⟩)
theorem spAt_gs {B : Bl} {i : Nat} (hi : i < B.layers.toNat) : spAt (gsOf B) i = spAt (gradesOf B) i := by
  unfold spAt gsOf List.getD
  rw [List.getElem?_take, if_pos hi]
set_option maxHeartbeats 2000000 in
theorem rlayer_spec (B : Bl) (p : Pb) (i : Int) (H : List Row) (hB : BlOk H B p) :
    Fc Try.prog 9 [.agg (cBl B p).toArray, .int .i64 i] H (fun v H' => v = .tuple #[.agg (cSp (spIf (openE B ⟨[i], [], [], []⟩ = 0) (spAt (gradesOf B) i.toNat))).toArray, .int .i64 (openE B ⟨[i], [], [], []⟩)] ∧ H' = H) := by
  have hB2 : ∀ r1 r2, BlOk (r1 :: r2 :: H) B p := fun r1 r2 => hB.sub (fun _ h => List.Mem.tail _ (List.Mem.tail _ h))
  rw [openE_one]
  have hm : baleOk B → 1 ≤ B.layers ∧ B.layers ≤ 5 := fun h => h.h5
  refine Fc.mk (callable Try.call9) Try.func9 rfl Try.ntmps9 rfl ?_; dsimp only [fr]
  repeat' (first | (refine XO.op rfl ?_; (first | ((first | refine Xo.ng rfl ?_); (first | (refine Xg.ev (EvF.build (cs := cSp ⟨0, 0⟩) rfl ArgsP.nil (te rfl) (Places.cons (te rfl) (Places.cons (te rfl) Places.nil)) Try.zeroValue23 rfl) rfl rfl ?_) | (refine Xg.call (EnF.st rfl (Args.cons rfl Args.nil)) rfl rfl (bale_spec B p _ (hB2 _ _)) ?_; rintro _ H9 ⟨rfl, hH9⟩; subst H9) | (refine Xg.ev (EvF.sub64 rfl rfl rfl (by have := hm (by assumption); omega) (by have := hm (by assumption); omega)) rfl rfl ?_) | (refine Xg.call (EnF.st rfl (Args.cons rfl (Args.cons rfl (Args.cons rfl Args.nil)))) rfl rfl (within3_spec _ _ _ _) ?_; rintro _ H9 ⟨rfl, hH9⟩; subst H9) | (refine Xg.call (EnF.st rfl (by (repeat (first | exact Args.nil | refine Args.cons rfl ?_)); done)) rfl rfl (asked_spec B p _ (hB2 _ _)) ?_; rintro _ H9 (⟨hE, a3, c3, o2, Z, hs, rfl, hH9⟩ | ⟨hE, rfl, hH9⟩) <;> subst H9) | (refine Xg.ev (EvF.move rfl rfl) rfl rfl ?_) | (refine Xg.ev (EvF.assign rfl rfl) rfl rfl ?_) | (refine Xg.ev (EvF.cmp rfl rfl rfl rfl) rfl rfl ?_) | (refine Xg.ev (EvF.not rfl rfl) rfl rfl ?_) | (refine Xg.ev (EvF.fieldAddr rfl rfl (te rfl) rfl (te rfl) (by decide)) rfl rfl ?_) | (refine Xg.ev (EvF.loadV rfl rfl (LoadV.own (te rfl) rfl (List.Mem.tail _ (List.Mem.head _)) rfl)) rfl rfl ?_) | (refine Xg.ev (EvF.loadV rfl rfl (LoadV.whole (te rfl) rfl (List.Mem.tail _ (List.Mem.head _)) rfl)) rfl rfl ?_) | (refine Xg.ev (EvF.extract rfl rfl rfl) rfl rfl ?_) | (refine Xg.st (StF.boxAgg rfl rfl) rfl rfl ?_; rintro _ _ ⟨bx, rfl, rfl⟩) | (refine Xg.st (StF.alloc rfl Try.zeroValue23 rfl) rfl rfl ?_; rintro _ _ ⟨bx, rfl, rfl⟩) | (refine Xg.st0 (StF.storeAll (i := 0) rfl rfl rfl (te rfl) rfl rfl rfl rfl) rfl ?_; rintro _ _ ⟨rfl, rfl⟩; dsimp only [List.set]))))) | (refine XO.done rfl ?_; refine hK _ _ ?_; clear hK K) | refine X.seq rfl ?_ | refine X.region rfl (fun K hK => ?_) | refine X.skip rfl ?_ | refine X.ret rfl ?_ | (refine X.ite rfl rfl (fun hc => ?_); (first | (with_reducible refine Xb.caseN hc (fun h => ?_) (fun h => ?_))) <;> clear hc))
  any_goals (exfalso; contradiction)
  · have hb : ¬ baleOk B := by assumption
    refine ret_two (by first | exact .inr rfl | exact .inl rfl) Try.results9 ⟨_, rfl, LoadV.whole (te rfl) rfl (List.Mem.head _) rfl⟩ rfl (H' := H) (by (repeat (first | exact List.Sublist.refl _ | apply List.Sublist.cons)); done) ⟨?_, rfl⟩
    rw [if_neg hb]; unfold spIf; rw [if_neg (by decide)]
  · have hb : baleOk B := by assumption
    refine ret_two (by first | exact .inr rfl | exact .inl rfl) Try.results9 ⟨_, rfl, LoadV.whole (te rfl) rfl (List.Mem.head _) rfl⟩ rfl (H' := H) (by (repeat (first | exact List.Sublist.refl _ | apply List.Sublist.cons)); done) ⟨?_, rfl⟩
    rw [if_pos hb, if_neg (by assumption)]; unfold spIf; rw [if_neg (by decide)]
  · have hb : baleOk B := by assumption
    have hi : 0 ≤ i ∧ i ≤ B.layers - 1 := by assumption
    have h5 := hb.h5
    have hgl := gsOf_len hb
    have hc : canB B := by
      unfold askE at hE
      rw [if_pos hb] at hE
      by_cases hc : canB B
      · exact hc
      · rw [if_neg hc] at hE; cases hE
    obtain ⟨b, off, e, rfl, he⟩ := hs.elem (i := i.toNat) (by omega)
    have hee : e = spAt (gradesOf B) i.toNat := by
      rw [← spAt_gs (by omega)]
      have := spAt_get (g := gsOf B) (i := i.toNat) (by omega)
      rw [he] at this
      exact Option.some.inj this
    repeat' (first | (refine XO.op rfl ?_; (first | ((first | refine Xo.ng rfl ?_); (first | (refine Xg.ev (EvF.loadV rfl rfl (LoadV.elA0 hs he (te rfl) rfl (fun _ hm => hm) rfl)) rfl rfl ?_) | (refine Xg.st0 (StF.storeZ rfl rfl rfl (te rfl) rfl rfl rfl) rfl ?_; rintro _ _ ⟨rfl, rfl⟩) | (refine Xg.ev (EvF.assign rfl rfl) rfl rfl ?_) | (refine Xg.ev (EvF.indexSlice rfl rfl rfl (te rfl) (te rfl) (by omega) (by omega)) rfl rfl ?_))))) | (refine XO.done rfl ?_; refine hK _ _ ?_; clear hK K) | refine X.ret rfl ?_)
    refine ret_two (by first | exact .inr rfl | exact .inl rfl) Try.results9 ⟨_, rfl, LoadV.whole (te rfl) rfl (List.mem_append_right _ (List.Mem.head _)) rfl⟩ rfl (H' := H) (((List.sublist_cons_self _ _).trans (List.sublist_cons_self _ _)).trans (List.sublist_append_right _ _)) ⟨?_, rfl⟩
    rw [if_pos hb, if_pos hi, if_pos hc, hee]; unfold spIf; rw [if_pos rfl]
  · have hb : baleOk B := by assumption
    have hc : ¬ canB B := by
      intro hc
      apply hE
      unfold askE
      rw [if_pos hb, if_pos hc]
    have hE8 : askE B = 8 := by unfold askE; rw [if_pos hb, if_neg hc]
    refine ret_two (by first | exact .inr rfl | exact .inl rfl) Try.results9 ⟨_, rfl, LoadV.whole (te rfl) rfl (List.Mem.head _) rfl⟩ rfl (H' := H) (by (repeat (first | exact List.Sublist.refl _ | apply List.Sublist.cons)); done) ⟨?_, rfl⟩
    rw [if_pos hb, if_pos (by assumption), if_neg hc, hE8]; unfold spIf; rw [if_neg (by decide)]
set_option maxHeartbeats 4000000 in
theorem rbest_spec (B : Bl) (p : Pb) (H : List Row) (hB : BlOk H B p) :
    Fc Try.prog 13 [.agg (cBl B p).toArray] H (fun v H' => v = .tuple #[.agg (cSp (spIf (openE B ⟨[], [], [], []⟩ = 0) (bestF ((gradesOf B).take B.layers.toNat) (spAt (gradesOf B) 0)))).toArray, .int .i64 (openE B ⟨[], [], [], []⟩)] ∧ H' = H) := by
  have hB2 : ∀ r1 r2, BlOk (r1 :: r2 :: H) B p := fun r1 r2 => hB.sub (fun _ h => List.Mem.tail _ (List.Mem.tail _ h))
  rw [openE_nil]
  refine Fc.mk (callable Try.call13) Try.func13 rfl Try.ntmps13 rfl ?_; dsimp only [fr]
  repeat' (first | (refine XO.op rfl ?_; (first | ((first | refine Xo.ng rfl ?_); (first | (refine Xg.ev (EvF.build (cs := cSp ⟨0, 0⟩) rfl ArgsP.nil (te rfl) (Places.cons (te rfl) (Places.cons (te rfl) Places.nil)) Try.zeroValue23 rfl) rfl rfl ?_) | (refine Xg.call (EnF.st rfl (by (repeat (first | exact Args.nil | refine Args.cons rfl ?_)); done)) rfl rfl (asked_spec B p _ (hB2 _ _)) ?_; rintro _ H9 (⟨hE, a3, c3, o2, Z, hs, rfl, hH9⟩ | ⟨hE, rfl, hH9⟩) <;> subst H9) | (refine Xg.ev (EvF.move rfl rfl) rfl rfl ?_) | (refine Xg.ev (EvF.assign rfl rfl) rfl rfl ?_) | (refine Xg.ev (EvF.cmp rfl rfl rfl rfl) rfl rfl ?_) | (refine Xg.ev (EvF.loadV rfl rfl (LoadV.whole (te rfl) rfl (List.Mem.tail _ (List.Mem.head _)) rfl)) rfl rfl ?_) | (refine Xg.ev (EvF.extract rfl rfl rfl) rfl rfl ?_) | (refine Xg.st (StF.boxAgg rfl rfl) rfl rfl ?_; rintro _ _ ⟨bx, rfl, rfl⟩) | (refine Xg.st (StF.alloc rfl Try.zeroValue23 rfl) rfl rfl ?_; rintro _ _ ⟨bx, rfl, rfl⟩) | (refine Xg.st0 (StF.storeAll (i := 0) rfl rfl rfl (te rfl) rfl rfl rfl rfl) rfl ?_; rintro _ _ ⟨rfl, rfl⟩; dsimp only [List.set]))))) | (refine XO.done rfl ?_; refine hK _ _ ?_; clear hK K) | refine X.seq rfl ?_ | refine X.region rfl (fun K hK => ?_) | refine X.skip rfl ?_ | refine X.ret rfl ?_ | (refine X.ite rfl rfl (fun hc => ?_); (first | (with_reducible refine Xb.caseN hc (fun h => ?_) (fun h => ?_))) <;> clear hc))
  any_goals (exfalso; contradiction)
  · have hb : baleOk B := by
      unfold askE at hE
      by_cases hb : baleOk B
      · exact hb
      · rw [if_neg hb] at hE; cases hE
    have h5 := hb.h5
    have hgl := gsOf_len hb
    obtain ⟨b, off, e, rfl, he⟩ := hs.elem (i := 0) (by omega)
    have hee : e = spAt (gradesOf B) 0 := by
      rw [← spAt_gs (by omega)]
      have := spAt_get (g := gsOf B) (i := 0) (by omega)
      rw [he] at this
      exact Option.some.inj this
    repeat' (first | (refine XO.op rfl ?_; (first | ((first | refine Xo.ng rfl ?_); (first | (refine Xg.ev (EvF.indexSlice (i := ((0 : Nat) : Int)) rfl rfl rfl (te rfl) (te rfl) (by omega) (by omega)) rfl rfl ?_) | (refine Xg.ev (EvF.loadV rfl rfl (LoadV.elA0 hs he (te rfl) rfl (fun _ hm => hm) rfl)) rfl rfl ?_) | (refine Xg.ev (EvF.move rfl rfl) rfl rfl ?_) | (refine Xg.ev (EvF.lenSlice rfl rfl (te rfl)) rfl rfl ?_) | (refine Xg.st (StF.alloc rfl Try.zeroValue23 rfl) rfl rfl ?_; rintro _ _ ⟨bx, rfl, rfl⟩) | (refine Xg.st0 (StF.storeAll (i := 0) rfl rfl rfl (te rfl) rfl rfl rfl rfl) rfl ?_; rintro _ _ ⟨rfl, rfl⟩; dsimp only [List.set]))))) | (refine XO.done rfl ?_; refine hK _ _ ?_; clear hK K) | refine X.seq rfl ?_ | refine X.region rfl (fun K hK => ?_) | refine X.block rfl ?_)
    rename_i b1 b2; rename Nat => bo
    subst hee
    have hsr : ∀ r1, SlE (r1 :: (Z ++ ⟨b2, 0, cSp ⟨0, 0⟩, some 23, 2⟩ :: ⟨b1, 0, cBl B p, some 27, 6⟩ :: H)) (some ⟨b, off, none⟩) cSp 2 (gsOf B) := fun _ => hs.sub (fun _ h => List.Mem.tail _ h)
    refine X.lp rfl (fun m F' H' => ∃ k : Nat, m = (gsOf B).length - k ∧ k ≤ (gsOf B).length ∧ H' = ⟨bo, 0, cSp (bestF ((gsOf B).take k) (spAt (gradesOf B) 0)), some 23, 2⟩ :: (Z ++ ⟨b2, 0, cSp ⟨0, 0⟩, some 23, 2⟩ :: ⟨b1, 0, cBl B p, some 27, 6⟩ :: H) ∧
        F' = [(2, .pointer (some ⟨b2, 0, none⟩)), (7, .pointer (some ⟨bo, 0, none⟩)), (23, .slice (some ⟨b, off, none⟩) (gsOf B).length c3), (24, .int .i64 (gsOf B).length), (25, .int .i64 k)])
      (gsOf B).length [(2, .pointer (some ⟨b2, 0, none⟩)), (7, .pointer (some ⟨bo, 0, none⟩)), (23, .slice (some ⟨b, off, none⟩) (gsOf B).length c3), (24, .int .i64 (gsOf B).length), (25, .int .i64 (0 : Nat))] _ (by (repeat (first | exact Sub.nil _ | refine Sub.cons rfl ?_)); done) (List.Sublist.refl _) ⟨0, by omega, by omega, rfl, rfl⟩ ?_
    rintro _ _ _ ⟨k, rfl, hk, rfl, rfl⟩
    obtain ⟨s, hsE⟩ : ∃ s, bestF ((gsOf B).take k) (spAt (gradesOf B) 0) = s := ⟨_, rfl⟩
    rw [hsE]
    repeat' (first | (refine XO.op rfl ?_; (first | ((first | refine Xo.ng rfl ?_); (first | (refine Xg.ev (EvF.cmp rfl rfl rfl rfl) rfl rfl ?_) | (refine Xg.ev (EvF.indexSlice rfl rfl rfl (te rfl) (te rfl) (by omega) (by omega)) rfl rfl ?_) | (refine Xg.ev (EvF.loadV rfl rfl (LoadV.whole (te rfl) rfl (List.Mem.head _) rfl)) rfl rfl ?_))))) | (refine XO.done rfl ?_; refine hK _ _ ?_; clear hK K) | refine X.seq rfl ?_ | refine X.region rfl (fun K hK => ?_) | refine X.block rfl ?_ | (refine X.brk rfl ?_; first | refine blockX_hit rfl ?_ | skip) | refine X.skip rfl ?_ | (refine X.ite rfl rfl (fun hc => ?_); (first | (with_reducible refine Xb.case hc (fun h => ?_) (fun h => ?_))) <;> clear hc))
    · have hx := spAt_get (g := gsOf B) (i := k) (by omega)
      obtain ⟨x, hxE⟩ : ∃ x, spAt (gsOf B) k = x := ⟨_, rfl⟩
      rw [hxE] at hx
      have e1 : bestF ((gsOf B).take (k + 1)) (spAt (gradesOf B) 0) = ⟨min s.lo x.lo, min s.hi x.hi⟩ := by unfold bestF; rw [take_snoc hx, List.foldl_append]; unfold bestF at hsE; rw [hsE]; rfl
      repeat' (first | (refine XO.op rfl ?_; (first | ((first | refine Xo.ng rfl ?_); (first | (refine Xg.ev (EvF.loadV rfl rfl (LoadV.elA0 (hsr _) hx (te rfl) rfl (fun _ hm => hm) rfl)) rfl rfl ?_) | (refine Xg.ev (EvF.build (cs := cSp ⟨min s.lo x.lo, min s.hi x.hi⟩) rfl (ArgsP.cons rfl (ArgsP.cons rfl ArgsP.nil)) (te rfl) (Places.cons (te rfl) (Places.cons (te rfl) Places.nil)) Try.zeroValue23 rfl) rfl rfl ?_) | (refine Xg.ev (EvF.move rfl rfl) rfl rfl ?_) | (refine Xg.ev (EvF.add64 rfl rfl rfl (by omega) (by omega)) rfl rfl ?_) | (refine Xg.ev (EvF.fieldAddr rfl rfl (te rfl) rfl (te rfl) (by decide)) rfl rfl ?_) | (refine Xg.ev (EvF.loadV rfl rfl (LoadV.own (te rfl) rfl (List.Mem.head _) rfl)) rfl rfl ?_) | (refine Xg.ev (EvF.loadV rfl rfl (LoadV.own (te rfl) rfl (List.Mem.tail _ (List.Mem.head _)) rfl)) rfl rfl ?_) | (refine Xg.ev (EvF.min64 rfl rfl rfl) rfl rfl ?_) | (refine Xg.st (StF.alloc rfl Try.zeroValue23 rfl) rfl rfl ?_; rintro _ _ ⟨bx, rfl, rfl⟩) | (refine Xg.st0 (StF.storeAll (i := 0) rfl rfl rfl (te rfl) rfl rfl rfl rfl) rfl ?_; rintro _ _ ⟨rfl, rfl⟩; dsimp only [List.set]) | (refine Xg.st0 (StF.storeAll (i := 1) rfl rfl rfl (te rfl) rfl rfl rfl rfl) rfl ?_; rintro _ _ ⟨rfl, rfl⟩; dsimp only [List.set]))))) | (refine XO.done rfl ?_; refine hK _ _ ?_; clear hK K) | refine X.region rfl (fun K hK => ?_))
      rw [← e1]
      exact ⟨_, _, _, (by (repeat (first | exact Sub.nil _ | refine Sub.cons rfl ?_)); done), List.Sublist.cons _ (List.Sublist.refl _), ⟨k + 1, rfl, by omega, rfl, rfl⟩, by omega⟩
    · have e2 : s = bestF ((gradesOf B).take B.layers.toNat) (spAt (gradesOf B) 0) := by rw [← hsE, List.take_of_length_le (by omega)]; rfl
      repeat' (first | (refine XO.op rfl ?_; (first | ((first | refine Xo.ng rfl ?_); (first | (refine Xg.st0 (StF.storeZ (Z := _ :: Z) rfl rfl rfl (te rfl) rfl rfl rfl) rfl ?_; rintro _ _ ⟨rfl, rfl⟩) | (refine Xg.ev (EvF.assign rfl rfl) rfl rfl ?_))))) | (refine XO.done rfl ?_; refine hK _ _ ?_; clear hK K) | refine X.ret rfl ?_)
      refine ret_two (by first | exact .inr rfl | exact .inl rfl) Try.results13 ⟨_, rfl, LoadV.whole (te rfl) rfl (List.mem_append_right _ (List.Mem.head _)) rfl⟩ rfl (H' := H) (((List.sublist_cons_self _ _).trans (List.sublist_cons_self _ _)).trans (List.sublist_append_right _ _)) ⟨?_, rfl⟩
      rw [hE, e2]; unfold spIf; rw [if_pos rfl]
  · unfold spIf; rw [if_neg hE]
    exact ret_two (by first | exact .inr rfl | exact .inl rfl) Try.results13 ⟨_, rfl, LoadV.whole (te rfl) rfl (List.Mem.head _) rfl⟩ rfl (H' := H) (by (repeat (first | exact List.Sublist.refl _ | apply List.Sublist.cons)); done) ⟨rfl, rfl⟩
set_option maxHeartbeats 4000000 in
theorem rworst_spec (B : Bl) (p : Pb) (H : List Row) (hB : BlOk H B p) :
    Fc Try.prog 15 [.agg (cBl B p).toArray] H (fun v H' => v = .tuple #[.agg (cSp (spIf (openE B ⟨[], [], [], []⟩ = 0) (worstF ((gradesOf B).take B.layers.toNat) (spAt (gradesOf B) 0)))).toArray, .int .i64 (openE B ⟨[], [], [], []⟩)] ∧ H' = H) := by
  have hB2 : ∀ r1 r2, BlOk (r1 :: r2 :: H) B p := fun r1 r2 => hB.sub (fun _ h => List.Mem.tail _ (List.Mem.tail _ h))
  rw [openE_nil]
  refine Fc.mk (callable Try.call15) Try.func15 rfl Try.ntmps15 rfl ?_; dsimp only [fr]
  repeat' (first | (refine XO.op rfl ?_; (first | ((first | refine Xo.ng rfl ?_); (first | (refine Xg.ev (EvF.build (cs := cSp ⟨0, 0⟩) rfl ArgsP.nil (te rfl) (Places.cons (te rfl) (Places.cons (te rfl) Places.nil)) Try.zeroValue23 rfl) rfl rfl ?_) | (refine Xg.call (EnF.st rfl (by (repeat (first | exact Args.nil | refine Args.cons rfl ?_)); done)) rfl rfl (asked_spec B p _ (hB2 _ _)) ?_; rintro _ H9 (⟨hE, a3, c3, o2, Z, hs, rfl, hH9⟩ | ⟨hE, rfl, hH9⟩) <;> subst H9) | (refine Xg.ev (EvF.move rfl rfl) rfl rfl ?_) | (refine Xg.ev (EvF.assign rfl rfl) rfl rfl ?_) | (refine Xg.ev (EvF.cmp rfl rfl rfl rfl) rfl rfl ?_) | (refine Xg.ev (EvF.loadV rfl rfl (LoadV.whole (te rfl) rfl (List.Mem.tail _ (List.Mem.head _)) rfl)) rfl rfl ?_) | (refine Xg.ev (EvF.extract rfl rfl rfl) rfl rfl ?_) | (refine Xg.st (StF.boxAgg rfl rfl) rfl rfl ?_; rintro _ _ ⟨bx, rfl, rfl⟩) | (refine Xg.st (StF.alloc rfl Try.zeroValue23 rfl) rfl rfl ?_; rintro _ _ ⟨bx, rfl, rfl⟩) | (refine Xg.st0 (StF.storeAll (i := 0) rfl rfl rfl (te rfl) rfl rfl rfl rfl) rfl ?_; rintro _ _ ⟨rfl, rfl⟩; dsimp only [List.set]))))) | (refine XO.done rfl ?_; refine hK _ _ ?_; clear hK K) | refine X.seq rfl ?_ | refine X.region rfl (fun K hK => ?_) | refine X.skip rfl ?_ | refine X.ret rfl ?_ | (refine X.ite rfl rfl (fun hc => ?_); (first | (with_reducible refine Xb.caseN hc (fun h => ?_) (fun h => ?_))) <;> clear hc))
  any_goals (exfalso; contradiction)
  · have hb : baleOk B := by
      unfold askE at hE
      by_cases hb : baleOk B
      · exact hb
      · rw [if_neg hb] at hE; cases hE
    have h5 := hb.h5
    have hgl := gsOf_len hb
    obtain ⟨b, off, e, rfl, he⟩ := hs.elem (i := 0) (by omega)
    have hee : e = spAt (gradesOf B) 0 := by
      rw [← spAt_gs (by omega)]
      have := spAt_get (g := gsOf B) (i := 0) (by omega)
      rw [he] at this
      exact Option.some.inj this
    repeat' (first | (refine XO.op rfl ?_; (first | ((first | refine Xo.ng rfl ?_); (first | (refine Xg.ev (EvF.indexSlice (i := ((0 : Nat) : Int)) rfl rfl rfl (te rfl) (te rfl) (by omega) (by omega)) rfl rfl ?_) | (refine Xg.ev (EvF.loadV rfl rfl (LoadV.elA0 hs he (te rfl) rfl (fun _ hm => hm) rfl)) rfl rfl ?_) | (refine Xg.ev (EvF.move rfl rfl) rfl rfl ?_) | (refine Xg.ev (EvF.lenSlice rfl rfl (te rfl)) rfl rfl ?_) | (refine Xg.st (StF.alloc rfl Try.zeroValue23 rfl) rfl rfl ?_; rintro _ _ ⟨bx, rfl, rfl⟩) | (refine Xg.st0 (StF.storeAll (i := 0) rfl rfl rfl (te rfl) rfl rfl rfl rfl) rfl ?_; rintro _ _ ⟨rfl, rfl⟩; dsimp only [List.set]))))) | (refine XO.done rfl ?_; refine hK _ _ ?_; clear hK K) | refine X.seq rfl ?_ | refine X.region rfl (fun K hK => ?_) | refine X.block rfl ?_)
    rename_i b1 b2; rename Nat => bo
    subst hee
    have hsr : ∀ r1, SlE (r1 :: (Z ++ ⟨b2, 0, cSp ⟨0, 0⟩, some 23, 2⟩ :: ⟨b1, 0, cBl B p, some 27, 6⟩ :: H)) (some ⟨b, off, none⟩) cSp 2 (gsOf B) := fun _ => hs.sub (fun _ h => List.Mem.tail _ h)
    refine X.lp rfl (fun m F' H' => ∃ k : Nat, m = (gsOf B).length - k ∧ k ≤ (gsOf B).length ∧ H' = ⟨bo, 0, cSp (worstF ((gsOf B).take k) (spAt (gradesOf B) 0)), some 23, 2⟩ :: (Z ++ ⟨b2, 0, cSp ⟨0, 0⟩, some 23, 2⟩ :: ⟨b1, 0, cBl B p, some 27, 6⟩ :: H) ∧
        F' = [(2, .pointer (some ⟨b2, 0, none⟩)), (7, .pointer (some ⟨bo, 0, none⟩)), (23, .slice (some ⟨b, off, none⟩) (gsOf B).length c3), (24, .int .i64 (gsOf B).length), (25, .int .i64 k)])
      (gsOf B).length [(2, .pointer (some ⟨b2, 0, none⟩)), (7, .pointer (some ⟨bo, 0, none⟩)), (23, .slice (some ⟨b, off, none⟩) (gsOf B).length c3), (24, .int .i64 (gsOf B).length), (25, .int .i64 (0 : Nat))] _ (by (repeat (first | exact Sub.nil _ | refine Sub.cons rfl ?_)); done) (List.Sublist.refl _) ⟨0, by omega, by omega, rfl, rfl⟩ ?_
    rintro _ _ _ ⟨k, rfl, hk, rfl, rfl⟩
    obtain ⟨s, hsE⟩ : ∃ s, worstF ((gsOf B).take k) (spAt (gradesOf B) 0) = s := ⟨_, rfl⟩
    rw [hsE]
    repeat' (first | (refine XO.op rfl ?_; (first | ((first | refine Xo.ng rfl ?_); (first | (refine Xg.ev (EvF.cmp rfl rfl rfl rfl) rfl rfl ?_) | (refine Xg.ev (EvF.indexSlice rfl rfl rfl (te rfl) (te rfl) (by omega) (by omega)) rfl rfl ?_) | (refine Xg.ev (EvF.loadV rfl rfl (LoadV.whole (te rfl) rfl (List.Mem.head _) rfl)) rfl rfl ?_))))) | (refine XO.done rfl ?_; refine hK _ _ ?_; clear hK K) | refine X.seq rfl ?_ | refine X.region rfl (fun K hK => ?_) | refine X.block rfl ?_ | (refine X.brk rfl ?_; first | refine blockX_hit rfl ?_ | skip) | refine X.skip rfl ?_ | (refine X.ite rfl rfl (fun hc => ?_); (first | (with_reducible refine Xb.case hc (fun h => ?_) (fun h => ?_))) <;> clear hc))
    · have hx := spAt_get (g := gsOf B) (i := k) (by omega)
      obtain ⟨x, hxE⟩ : ∃ x, spAt (gsOf B) k = x := ⟨_, rfl⟩
      rw [hxE] at hx
      have e1 : worstF ((gsOf B).take (k + 1)) (spAt (gradesOf B) 0) = ⟨max s.lo x.lo, max s.hi x.hi⟩ := by unfold worstF; rw [take_snoc hx, List.foldl_append]; unfold worstF at hsE; rw [hsE]; rfl
      repeat' (first | (refine XO.op rfl ?_; (first | ((first | refine Xo.ng rfl ?_); (first | (refine Xg.ev (EvF.loadV rfl rfl (LoadV.elA0 (hsr _) hx (te rfl) rfl (fun _ hm => hm) rfl)) rfl rfl ?_) | (refine Xg.ev (EvF.build (cs := cSp ⟨max s.lo x.lo, max s.hi x.hi⟩) rfl (ArgsP.cons rfl (ArgsP.cons rfl ArgsP.nil)) (te rfl) (Places.cons (te rfl) (Places.cons (te rfl) Places.nil)) Try.zeroValue23 rfl) rfl rfl ?_) | (refine Xg.ev (EvF.move rfl rfl) rfl rfl ?_) | (refine Xg.ev (EvF.add64 rfl rfl rfl (by omega) (by omega)) rfl rfl ?_) | (refine Xg.ev (EvF.fieldAddr rfl rfl (te rfl) rfl (te rfl) (by decide)) rfl rfl ?_) | (refine Xg.ev (EvF.loadV rfl rfl (LoadV.own (te rfl) rfl (List.Mem.head _) rfl)) rfl rfl ?_) | (refine Xg.ev (EvF.loadV rfl rfl (LoadV.own (te rfl) rfl (List.Mem.tail _ (List.Mem.head _)) rfl)) rfl rfl ?_) | (refine Xg.ev (EvF.max64 rfl rfl rfl) rfl rfl ?_) | (refine Xg.st (StF.alloc rfl Try.zeroValue23 rfl) rfl rfl ?_; rintro _ _ ⟨bx, rfl, rfl⟩) | (refine Xg.st0 (StF.storeAll (i := 0) rfl rfl rfl (te rfl) rfl rfl rfl rfl) rfl ?_; rintro _ _ ⟨rfl, rfl⟩; dsimp only [List.set]) | (refine Xg.st0 (StF.storeAll (i := 1) rfl rfl rfl (te rfl) rfl rfl rfl rfl) rfl ?_; rintro _ _ ⟨rfl, rfl⟩; dsimp only [List.set]))))) | (refine XO.done rfl ?_; refine hK _ _ ?_; clear hK K) | refine X.region rfl (fun K hK => ?_))
      rw [← e1]
      exact ⟨_, _, _, (by (repeat (first | exact Sub.nil _ | refine Sub.cons rfl ?_)); done), List.Sublist.cons _ (List.Sublist.refl _), ⟨k + 1, rfl, by omega, rfl, rfl⟩, by omega⟩
    · have e2 : s = worstF ((gradesOf B).take B.layers.toNat) (spAt (gradesOf B) 0) := by rw [← hsE, List.take_of_length_le (by omega)]; rfl
      repeat' (first | (refine XO.op rfl ?_; (first | ((first | refine Xo.ng rfl ?_); (first | (refine Xg.st0 (StF.storeZ (Z := _ :: Z) rfl rfl rfl (te rfl) rfl rfl rfl) rfl ?_; rintro _ _ ⟨rfl, rfl⟩) | (refine Xg.ev (EvF.assign rfl rfl) rfl rfl ?_))))) | (refine XO.done rfl ?_; refine hK _ _ ?_; clear hK K) | refine X.ret rfl ?_)
      refine ret_two (by first | exact .inr rfl | exact .inl rfl) Try.results15 ⟨_, rfl, LoadV.whole (te rfl) rfl (List.mem_append_right _ (List.Mem.head _)) rfl⟩ rfl (H' := H) (((List.sublist_cons_self _ _).trans (List.sublist_cons_self _ _)).trans (List.sublist_append_right _ _)) ⟨?_, rfl⟩
      rw [hE, e2]; unfold spIf; rw [if_pos rfl]
  · unfold spIf; rw [if_neg hE]
    exact ret_two (by first | exact .inr rfl | exact .inl rfl) Try.results15 ⟨_, rfl, LoadV.whole (te rfl) rfl (List.Mem.head _) rfl⟩ rfl (H' := H) (by (repeat (first | exact List.Sublist.refl _ | apply List.Sublist.cons)); done) ⟨rfl, rfl⟩
end Go.Proofs.Ytminkpgacomicac
end
section
set_option linter.unusedVariables false
set_option linter.unusedSimpArgs false
namespace Go.Fw
open Go
theorem EvF.eqSelf {P : Program} {n : Nat} {H : List Row} {F : FS} {o : Oper} {T T' : TypeId} {x y : Operand} {k : IntKind} {p : Int} (h : o.op = .binOp .eql T x y T') (hx : evF F x = some (.int k p)) (hy : evF F y = some (.int k p)) : EvF P n H F o (.bool true) := by
  have := EvF.cmp (P := P) (n := n) (H := H) h hx hy rfl
  rwa [decide_eq_true rfl] at this
theorem EvF.neSelf {P : Program} {n : Nat} {H : List Row} {F : FS} {o : Oper} {T T' : TypeId} {x y : Operand} {k : IntKind} {p : Int} (h : o.op = .binOp .neq T x y T') (hx : evF F x = some (.int k p)) (hy : evF F y = some (.int k p)) : EvF P n H F o (.bool false) := by
  have := EvF.cmp (P := P) (n := n) (H := H) h hx hy rfl
  rwa [decide_eq_true rfl] at this
theorem EvF.neSelfB {P : Program} {n : Nat} {H : List Row} {F : FS} {o : Oper} {T T' : TypeId} {x y : Operand} {p : Bool} (h : o.op = .binOp .neq T x y T') (hx : evF F x = some (.bool p)) (hy : evF F y = some (.bool p)) (hu : P.underlying T = some .bool) : EvF P n H F o (.bool false) := by
  have := EvF.cmpB (P := P) (n := n) (H := H) h hx hy hu rfl
  rwa [beq_self_eq_true] at this
end Go.Fw
namespace Go.Proofs.Ytminkpgacomicac
open Go Go.Fw
set_option maxRecDepth 10000
theorem sameB_self (B : Bl) (p q : Pb) (H : List Row) (hB : BlOk H B p) (hC : BlOk H B q) : Fc Try.prog 16 [.agg (cBl B p).toArray, .agg (cBl B q).toArray] H (fun v H' => v = .bool true ∧ H' = H) :=
  (sameB_spec B B p q H hB hC).mono (fun v H' ⟨h1, h2⟩ => ⟨by rw [h1, decide_eq_true rfl], h2⟩)
theorem eqSp_self (e : Sp) (w : World) : (Op.equalIn 10000 23 (.agg (cSp e).toArray) (.agg (cSp e).toArray)).run Try.prog w = .ok true w := by
  rw [eqSp 9998, decide_eq_true rfl]
set_option maxHeartbeats 8000000 in
theorem coreTells_spec (B : Bl) (p : Pb) (i : Int) (H : List Row) (hd : SlE H p.a1 cDr 4 B.draws) (hw : SlE H p.a2 cDr 4 B.weighs) :
    Fc Try.prog 3 [.agg (cBl B p).toArray, .int .i64 i] H (fun v _ => v = .bool true) := by
  by_cases hg : B.draws.length > 20 ∨ B.weighs.length > 16
  · have hgr := greatB_spec B p
    simp only [decide_eq_true hg] at hgr
    refine Fc.mk (callable Try.call3) Try.func3 rfl Try.ntmps3 rfl ?_; dsimp only [fr]
    repeat' (first | (refine XO.op rfl ?_; (first | ((first | refine Xo.ng rfl ?_); (first | (refine Xg.call (EnF.st rfl (Args.cons rfl Args.nil)) rfl rfl (hgr _) ?_; rintro _ H9 ⟨rfl, hH9⟩; subst H9) | (refine Xg.ev (EvF.assign rfl rfl) rfl rfl ?_) | (refine Xg.ev (EvF.loadV rfl rfl (LoadV.whole (te rfl) rfl (List.Mem.head _) rfl)) rfl rfl ?_) | (refine Xg.st (StF.boxAgg rfl rfl) rfl rfl ?_; rintro _ _ ⟨bx, rfl, rfl⟩))))) | (refine XO.done rfl ?_; refine hK _ _ ?_; clear hK K) | refine X.seq rfl ?_ | refine X.region rfl (fun K hK => ?_) | refine X.ret rfl ?_ | (refine X.ite rfl rfl (fun hc => ?_); (first | (with_reducible refine Xb.t hc ?_)) <;> clear hc))
    all_goals try (exfalso; contradiction)
    exact ret_one (by first | exact .inr rfl | exact .inl rfl) Try.results3 rfl (H' := _) (List.Sublist.refl _) rfl
  · have hgr := greatB_spec B p
    simp only [decide_eq_false hg] at hgr
    have hB : BlOk H B p := ⟨hd, hw, by omega, by omega⟩
    have hB' : ∀ H', (∀ r ∈ H, r ∈ H') → BlOk H' B p := fun H' hs => hB.sub hs
    refine Fc.mk (callable Try.call3) Try.func3 rfl Try.ntmps3 rfl ?_; dsimp only [fr]
    repeat' (first | (refine XO.op rfl ?_; (first | ((first | refine Xo.ng rfl ?_); (first | (refine Xg.call (EnF.st rfl (Args.cons rfl Args.nil)) rfl rfl (hgr _) ?_; rintro _ H9 ⟨rfl, hH9⟩; subst H9) | (refine Xg.call (EnF.st rfl (by (repeat (first | exact Args.nil | refine Args.cons rfl ?_)); done)) rfl rfl (twinB_spec B p _ (hB' _ (fun _ hm => List.Mem.tail _ hm))) ?_; rintro _ _ ⟨t1, k1, t2, k2, rfl, rfl⟩) | (refine Xg.ev (EvF.assign rfl rfl) rfl rfl ?_) | (refine Xg.ev (EvF.loadV rfl rfl (LoadV.whole (te rfl) rfl (List.Mem.head _) rfl)) rfl rfl ?_) | (refine Xg.st (StF.boxAgg rfl rfl) rfl rfl ?_; rintro _ _ ⟨bx, rfl, rfl⟩) | (refine Xg.st (StF.alloc rfl Try.zeroValue27 rfl) rfl rfl ?_; rintro _ _ ⟨bx, rfl, rfl⟩) | (refine Xg.st0 (StF.storeAll (i := 0) rfl rfl rfl (te rfl) rfl rfl rfl rfl) rfl ?_; rintro _ _ ⟨rfl, rfl⟩; dsimp only [List.set]))))) | (refine XO.done rfl ?_; refine hK _ _ ?_; clear hK K) | refine X.seq rfl ?_ | refine X.region rfl (fun K hK => ?_) | refine X.skip rfl ?_ | (refine X.ite rfl rfl (fun hc => ?_); (first | (with_reducible refine Xb.f hc ?_)) <;> clear hc))
    all_goals try (exfalso; contradiction)
    have hT : ∀ H', (⟨t1, 0, B.draws.flatMap cDr, some 62, k1 * 4⟩ : Row) ∈ H' → (⟨t2, 0, B.weighs.flatMap cDr, some 64, k2 * 4⟩ : Row) ∈ H' → BlOk H' B ⟨some ⟨t1, 0, none⟩, k1, some ⟨t2, 0, none⟩, k2⟩ :=
      fun H' m1 m2 => ⟨SlE.ofRow m1 (fun _ _ => rfl), SlE.ofRow m2 (fun _ _ => rfl), by omega, by omega⟩
    repeat' (first | (refine XO.op rfl ?_; (first | ((first | refine Xo.ng rfl ?_ | (refine Xo.g rfl rfl ?_; with_reducible refine Xw.tt ?_)); (first | (refine Xg.ev (EvF.eqSelf rfl rfl rfl) rfl rfl ?_) | (refine Xg.ev (EvF.eqSt (r := true) (b := true) rfl rfl rfl (by kernel_rfl) (fun w => eqSp_self _ w) rfl) rfl rfl ?_) | (refine Xg.ev (EvF.loadV rfl rfl (LoadV.whole (te rfl) rfl (List.Mem.tail _ (List.Mem.tail _ (List.Mem.tail _ (List.Mem.tail _ (List.Mem.tail _ (List.Mem.tail _ (List.Mem.tail _ (List.Mem.head _)))))))) rfl)) rfl rfl ?_) | (refine Xg.call (EnF.st rfl (by (repeat (first | exact Args.nil | refine Args.cons rfl ?_)); done)) rfl rfl (kcan_spec B _ _ (hT _ (by repeat (first | exact List.Mem.head _ | apply List.Mem.tail)) (by repeat (first | exact List.Mem.head _ | apply List.Mem.tail)))) ?_; rintro _ H9 ⟨rfl, hH9⟩; subst H9) | (refine Xg.call (EnF.st rfl (by (repeat (first | exact Args.nil | refine Args.cons rfl ?_)); done)) rfl rfl (klayer_spec B _ i _ (hT _ (by repeat (first | exact List.Mem.head _ | apply List.Mem.tail)) (by repeat (first | exact List.Mem.head _ | apply List.Mem.tail)))) ?_; rintro _ H9 ⟨rfl, hH9⟩; subst H9) | (refine Xg.call (EnF.st rfl (by (repeat (first | exact Args.nil | refine Args.cons rfl ?_)); done)) rfl rfl (kbest_spec B _ _ (hT _ (by repeat (first | exact List.Mem.head _ | apply List.Mem.tail)) (by repeat (first | exact List.Mem.head _ | apply List.Mem.tail)))) ?_; rintro _ H9 ⟨rfl, hH9⟩; subst H9) | (refine Xg.call (EnF.st rfl (by (repeat (first | exact Args.nil | refine Args.cons rfl ?_)); done)) rfl rfl (kworst_spec B _ _ (hT _ (by repeat (first | exact List.Mem.head _ | apply List.Mem.tail)) (by repeat (first | exact List.Mem.head _ | apply List.Mem.tail)))) ?_; rintro _ H9 ⟨rfl, hH9⟩; subst H9) | (refine Xg.call (EnF.st rfl (by (repeat (first | exact Args.nil | refine Args.cons rfl ?_)); done)) rfl rfl (rcan_spec B p _ (hB' _ (fun _ hm => by repeat (first | exact hm | apply List.Mem.tail)))) ?_; rintro _ H9 ⟨rfl, hH9⟩; subst H9) | (refine Xg.call (EnF.st rfl (by (repeat (first | exact Args.nil | refine Args.cons rfl ?_)); done)) rfl rfl (rlayer_spec B p i _ (hB' _ (fun _ hm => by repeat (first | exact hm | apply List.Mem.tail)))) ?_; rintro _ H9 ⟨rfl, hH9⟩; subst H9) | (refine Xg.call (EnF.st rfl (by (repeat (first | exact Args.nil | refine Args.cons rfl ?_)); done)) rfl rfl (rbest_spec B p _ (hB' _ (fun _ hm => by repeat (first | exact hm | apply List.Mem.tail)))) ?_; rintro _ H9 ⟨rfl, hH9⟩; subst H9) | (refine Xg.call (EnF.st rfl (by (repeat (first | exact Args.nil | refine Args.cons rfl ?_)); done)) rfl rfl (rworst_spec B p _ (hB' _ (fun _ hm => by repeat (first | exact hm | apply List.Mem.tail)))) ?_; rintro _ H9 ⟨rfl, hH9⟩; subst H9) | (refine Xg.call (EnF.st rfl (by (repeat (first | exact Args.nil | refine Args.cons rfl ?_)); done)) rfl rfl (sameB_self B _ p _ (hT _ (by repeat (first | exact List.Mem.head _ | apply List.Mem.tail)) (by repeat (first | exact List.Mem.head _ | apply List.Mem.tail))) (hB' _ (fun _ hm => by repeat (first | exact hm | apply List.Mem.tail)))) ?_; rintro _ H9 ⟨rfl, hH9⟩; subst H9) | (refine Xg.ev (EvF.move rfl rfl) rfl rfl ?_) | (refine Xg.ev (EvF.assign rfl rfl) rfl rfl ?_) | (refine Xg.ev (EvF.pickT rfl rfl rfl) rfl rfl ?_) | (refine Xg.ev (EvF.loadV rfl rfl (LoadV.whole (te rfl) rfl (List.Mem.head _) rfl)) rfl rfl ?_) | (refine Xg.ev (EvF.loadV rfl rfl (LoadV.whole (te rfl) rfl (List.Mem.tail _ (List.Mem.head _)) rfl)) rfl rfl ?_) | (refine Xg.ev (EvF.loadV rfl rfl (LoadV.whole (te rfl) rfl (List.Mem.tail _ (List.Mem.tail _ (List.Mem.head _))) rfl)) rfl rfl ?_) | (refine Xg.ev (EvF.loadV rfl rfl (LoadV.whole (te rfl) rfl (List.Mem.tail _ (List.Mem.tail _ (List.Mem.tail _ (List.Mem.head _)))) rfl)) rfl rfl ?_) | (refine Xg.ev (EvF.loadV rfl rfl (LoadV.whole (te rfl) rfl (List.Mem.tail _ (List.Mem.tail _ (List.Mem.tail _ (List.Mem.tail _ (List.Mem.head _))))) rfl)) rfl rfl ?_) | (refine Xg.ev (EvF.loadV rfl rfl (LoadV.whole (te rfl) rfl (List.Mem.tail _ (List.Mem.tail _ (List.Mem.tail _ (List.Mem.tail _ (List.Mem.tail _ (List.Mem.head _)))))) rfl)) rfl rfl ?_) | (refine Xg.ev (EvF.loadV rfl rfl (LoadV.whole (te rfl) rfl (List.Mem.tail _ (List.Mem.tail _ (List.Mem.tail _ (List.Mem.tail _ (List.Mem.tail _ (List.Mem.tail _ (List.Mem.head _))))))) rfl)) rfl rfl ?_) | (refine Xg.ev (EvF.extract rfl rfl rfl) rfl rfl ?_) | (refine Xg.st (StF.alloc rfl Try.zeroValue23 rfl) rfl rfl ?_; rintro _ _ ⟨bx, rfl, rfl⟩) | (refine Xg.st0 (StF.storeAll (i := 0) rfl rfl rfl (te rfl) rfl rfl rfl rfl) rfl ?_; rintro _ _ ⟨rfl, rfl⟩; dsimp only [List.set]) | (refine Xg.st0 (StF.storeAll (i := 1) rfl rfl rfl (te rfl) rfl rfl rfl rfl) rfl ?_; rintro _ _ ⟨rfl, rfl⟩; dsimp only [List.set]))))) | (refine XO.done rfl ?_; refine hK _ _ ?_; clear hK K) | (refine XQ.op rfl ?_; (first | ((first | refine Yo.ng rfl ?_ | (refine Yo.g rfl rfl ?_; with_reducible refine Yw.ff ?_)); (first | (refine Yg.ev (EvF.neSelf rfl rfl rfl) rfl rfl ?_) | (refine Yg.ev (EvF.neSelfB rfl rfl rfl (by kernel_rfl)) rfl rfl ?_) | (refine Yg.ev (EvF.eqSt (r := true) (b := false) rfl rfl rfl (by kernel_rfl) (fun w => eqSp_self _ w) rfl) rfl rfl ?_) | (refine Yg.call (EnF.st rfl (by (repeat (first | exact Args.nil | refine Args.cons rfl ?_)); done)) rfl rfl (kcheck_spec B _ _ (hT _ (by repeat (first | exact List.Mem.head _ | apply List.Mem.tail)) (by repeat (first | exact List.Mem.head _ | apply List.Mem.tail)))) ?_) | (refine Yg.call (EnF.st rfl (by (repeat (first | exact Args.nil | refine Args.cons rfl ?_)); done)) rfl rfl (rcheck_spec B p _ (hB' _ (fun _ hm => by repeat (first | exact hm | apply List.Mem.tail)))) ?_) | (refine Yg.ev (EvF.move rfl rfl) rfl rfl ?_) | (refine Yg.ev (EvF.pickF rfl rfl rfl) rfl rfl ?_) | (refine Yg.ev (EvF.loadV rfl rfl (LoadV.whole (te rfl) rfl (List.Mem.head _) rfl)) rfl rfl ?_) | (refine Yg.ev (EvF.loadV rfl rfl (LoadV.whole (te rfl) rfl (List.Mem.tail _ (List.Mem.head _)) rfl)) rfl rfl ?_) | (refine Yg.ev (EvF.loadV rfl rfl (LoadV.whole (te rfl) rfl (List.Mem.tail _ (List.Mem.tail _ (List.Mem.head _))) rfl)) rfl rfl ?_) | (refine Yg.ev (EvF.loadV rfl rfl (LoadV.whole (te rfl) rfl (List.Mem.tail _ (List.Mem.tail _ (List.Mem.tail _ (List.Mem.tail _ (List.Mem.tail _ (List.Mem.head _)))))) rfl)) rfl rfl ?_))))) | (refine XQ.done rfl ?_; refine hK _ ?_; clear hK K) | refine X.seq rfl ?_ | refine X.region rfl (fun K hK => ?_) | refine X.regionD rfl mixed (by kernel_rfl) (fun K hK => ?_) | refine X.skip rfl ?_ | refine X.ret rfl ?_ | (refine X.ite rfl rfl (fun hc => ?_); (first | (with_reducible refine Xb.f hc ?_)) <;> clear hc))
    exact ret_one (by first | exact .inr rfl | exact .inl rfl) Try.results3 rfl (H' := _) (List.Sublist.refl _) rfl
end Go.Proofs.Ytminkpgacomicac
end
section
set_option linter.unusedVariables false
namespace Go.Proofs.Ytminkpgacomicac
open Go Go.Fw Go.ChangeShapes Go.WideShapes
set_option maxRecDepth 10000
instance : Inhabited Sp := ⟨⟨0, 0⟩⟩
instance : Inhabited Bx := ⟨⟨0, 0⟩⟩
instance : Inhabited Mt := ⟨⟨0, 0, 0, 0, 0, 0⟩⟩
def w64 (n : Int) : Prop := (Lit.int .i64 n).wf = true
section
variable {H : Type} {enc : TypeId × Value → H} {w : World} {base : Nat} {spare : Nat → Bool} {held : Bool} {fuel : Nat} {cs : List Value} {x : DataW H × List MemPlace}
theorem open_i (h : DataW.trod enc Try.prog w base spare held fuel 3 cs = some x) : ∃ q : Int, cs = cI q ∧ w64 q := trod_i (te rfl) h
theorem open_sp (h : DataW.trod enc Try.prog w base spare held fuel 23 cs = some x) : ∃ q : Sp, cs = cSp q ∧ (w64 q.lo ∧ w64 q.hi) := by
  obtain ⟨hl, hf⟩ := trod_st (te rfl) h
  obtain ⟨n0, y0, h0⟩ := hf 0 0 3 _ rfl (te rfl)
  obtain ⟨n1, y1, h1⟩ := hf 1 1 3 _ rfl (te rfl)
  match cs, hl with
  | [a, b], _ =>
    obtain ⟨lo, e0, w0⟩ := open_i h0
    obtain ⟨hi, e1, w1⟩ := open_i h1
    simp [cI] at e0 e1
    subst e0 e1
    exact ⟨⟨lo, hi⟩, rfl, w0, w1⟩
end
structure InRm (w : World) (R : Rm) (p : Pl) : Prop where
  ages : InSl w p.a1 cSp 2 R.ages
  boxes : InSl w p.a2 cBx 2 R.boxes
  mats : InSl w p.a3 cMt 6 R.mats
  mo : w64 R.months
  st : w64 R.step
  k1 : R.ages.length ≤ p.c1
  k2 : R.boxes.length ≤ p.c2
  k3 : R.mats.length ≤ p.c3
def rowsRm (R : Rm) (p : Pl) : List Row := rowsOf p.a1 cSp R.ages ++ (rowsOf p.a2 cBx R.boxes ++ rowsOf p.a3 cMt R.mats)
theorem InRm.ok {w : World} {R : Rm} {p : Pl} {B : Nat} (h : InRm w R p) : ∀ r ∈ rowsRm R p, r.own = none ∧ r.ok B w := by
  intro r hr
  rcases List.mem_append.1 hr with hr | hr
  · exact h.ages.ok r hr
  · rcases List.mem_append.1 hr with hr | hr
    · exact h.boxes.ok r hr
    · exact h.mats.ok r hr
section
variable {H : Type} {enc : TypeId × Value → H} {w : World} {base : Nat} {spare : Nat → Bool} {held : Bool} {v : Value} {d : DataW H} {p : List MemPlace} {r : Reach} {b0 : Nat}
end
end Go.Proofs.Ytminkpgacomicac
end
section
set_option linter.unusedVariables false
namespace Go.Proofs.Ytminkpgacomicac
open Go Go.Fw Go.ChangeShapes Go.WideShapes Go.ChangeAt Go.RowKit
set_option linter.unusedVariables false
set_option maxRecDepth 100000
instance : Inhabited Dr := ⟨⟨0, 0, 0, 0⟩⟩
section
variable {H : Type} {enc : TypeId × Value → H} {w : World} {base : Nat} {spare : Nat → Bool} {held : Bool} {fuel : Nat} {cs : List Value} {x : DataW H × List MemPlace}
theorem open_dr (h : DataW.trod enc Try.prog w base spare held fuel 62 cs = some x) : ∃ q : Dr, cs = cDr q ∧ True := by
  obtain ⟨hl, hf⟩ := trod_st (te rfl) h
  obtain ⟨n0, y0, h0⟩ := hf 0 0 3 _ rfl (te rfl)
  obtain ⟨n1, y1, h1⟩ := hf 1 1 3 _ rfl (te rfl)
  obtain ⟨n2, y2, h2⟩ := hf 2 2 23 _ rfl (te rfl)
  match cs, hl with
  | [a, b, c, d], _ =>
    obtain ⟨q0, e0, w0⟩ := open_i h0
    obtain ⟨q1, e1, w1⟩ := open_i h1
    obtain ⟨q2, e2, w2⟩ := open_sp h2
    simp [cI, cSp] at e0 e1 e2
    obtain ⟨e2, e3⟩ := e2
    subst e0 e1 e2 e3
    exact ⟨⟨q0, q1, q2.lo, q2.hi⟩, rfl, trivial⟩
theorem open_wg (h : DataW.trod enc Try.prog w base spare held fuel 64 cs = some x) : ∃ q : Dr, cs = cDr q ∧ True := by
  obtain ⟨hl, hf⟩ := trod_st (te rfl) h
  obtain ⟨n0, y0, h0⟩ := hf 0 0 3 _ rfl (te rfl)
  obtain ⟨n1, y1, h1⟩ := hf 1 1 3 _ rfl (te rfl)
  obtain ⟨n2, y2, h2⟩ := hf 2 2 23 _ rfl (te rfl)
  match cs, hl with
  | [a, b, c, d], _ =>
    obtain ⟨q0, e0, w0⟩ := open_i h0
    obtain ⟨q1, e1, w1⟩ := open_i h1
    obtain ⟨q2, e2, w2⟩ := open_sp h2
    simp [cI, cSp] at e0 e1 e2
    obtain ⟨e2, e3⟩ := e2
    subst e0 e1 e2 e3
    exact ⟨⟨q0, q1, q2.lo, q2.hi⟩, rfl, trivial⟩
end
structure InBl (w : World) (B : Bl) (p : Pb) : Prop where
  draws : InSl w p.a1 cDr 4 B.draws
  weighs : InSl w p.a2 cDr 4 B.weighs
def rowsBl (B : Bl) (p : Pb) : List Row := rowsOf p.a1 cDr B.draws ++ rowsOf p.a2 cDr B.weighs
theorem InBl.ok {w : World} {B : Bl} {p : Pb} {N : Nat} (h : InBl w B p) : ∀ r ∈ rowsBl B p, r.own = none ∧ r.ok N w := by
  intro r hr
  rcases List.mem_append.1 hr with hr | hr
  · exact h.draws.ok r hr
  · exact h.weighs.ok r hr
section
variable {H : Type} {enc : TypeId × Value → H} {w : World} {base : Nat} {spare : Nat → Bool} {held : Bool} {v : Value} {d : DataW H} {p : List MemPlace} {r : Reach} {b0 : Nat}
theorem open_bale (hv : Value.okWide Try.prog w r b0 27 v) (h : DataW.Trod enc Try.prog w base spare held 27 v d p) : ∃ B pl, v = .agg (cBl B pl).toArray ∧ InBl w B pl := by
  obtain ⟨fa, hu, _⟩ := ti_struct (te (T := 27) rfl)
  obtain ⟨⟨cs⟩, rfl, _⟩ := okWide_struct hu hv
  obtain ⟨fuel, hf⟩ := h
  obtain ⟨hl, hf⟩ := trod_st (te rfl) hf
  obtain ⟨n0, y0, h0⟩ := hf 0 0 3 _ rfl (te rfl)
  obtain ⟨n1, y1, h1⟩ := hf 1 1 3 _ rfl (te rfl)
  obtain ⟨n2, y2, h2⟩ := hf 2 2 23 _ rfl (te rfl)
  obtain ⟨n3, y3, h3⟩ := hf 3 4 24 _ rfl (te rfl)
  obtain ⟨n4, y4, h4⟩ := hf 4 5 25 _ rfl (te rfl)
  match cs, hl with
  | [a, b, c, d, e, f], _ =>
    obtain ⟨q0, e0, w0⟩ := open_i h0
    obtain ⟨q1, e1, w1⟩ := open_i h1
    obtain ⟨q2, e2, w2⟩ := open_sp h2
    simp [cI, cSp, Value.cells] at e0 e1 e2
    obtain ⟨l3, a3, c3, e3, i3, _, k3⟩ := open_sl (te rfl) (te rfl) rfl (by decide) (fun _ _ _ => open_dr) (fun _ => rfl) h3
    obtain ⟨l4, a4, c4, e4, i4, _, k4⟩ := open_sl (te rfl) (te rfl) rfl (by decide) (fun _ _ _ => open_wg) (fun _ => rfl) h4
    obtain ⟨ea, eb⟩ := e2
    subst e0 e1 ea eb e3 e4
    exact ⟨⟨q0, q1, q2.lo, q2.hi, l3, l4⟩, ⟨a3, c3, a4, c4⟩, rfl, i3, i4⟩
theorem open_int (hv : Value.okWide Try.prog w r b0 3 v) : ∃ q : Int, v = .int .i64 q := okWide_int Try.underlying3 hv
end
theorem ownK : ownKnob Try.prog.godebug = none := by kernel_rfl
theorem laidO : laidOutB Try.prog = true := by kernel_rfl
theorem coreTells_run (B : Bl) (p : Pb) (i : Int) (w : World) (hB : InBl w B p) :
    Calls Try.prog 3 #[.agg (cBl B p).toArray, .int .i64 i] w fun e w' => e = .returned (.bool true) ∧ Below w.heap.size w w' := by
  refine Fc.calls (H := rowsBl B p) (coreTells_spec B p i _ (hB.draws.sl (fun r h => List.mem_append_left _ h)) (hB.weighs.sl (fun r h => List.mem_append_right _ h))) (fun r hr => ?_)
  exact hB.ok r hr
theorem lifted (os : Os) (started : os.Started) (H : Type) (enc : TypeId × Value → H) :
    ReturnsInHanded {} Try.checked os 3 .any (Rows.coreTellsSpec.pre6 enc Try.prog Try.f3 Rows.coreTellsRow.domain false) (Rows.coreTellsSpec.post enc Try.prog Try.f3 false true false false) := by
  refine returnsInHanded_of_change (C := Try.checked) ownK started (by kernel_rfl) Try.func3
    (ChangeSpec.witness6 (enc := enc) (C := Try.checked) false ⟨#[], #[.agg (cBl Bz pzb).toArray, .int .i64 0], []⟩ 8 (by kernel_rfl) (by kernel_rfl) (by kernel_rfl) (by kernel_rfl)) ?_
  intro W base args ds gs before hval0 hW hcnd _
  have hval : ∀ (j : Nat) t v, Try.f3.params[j]? = some t → args[j]? = some v → Value.okWide Try.prog W .any base t v := hval0
  have hW' := hW
  obtain ⟨p, q, hA0, hV, rfl, hfz, hnd⟩ := hW
  have hA : DataW.TrodAll enc Try.prog W 0 (fun _ => true) true Try.f3.params.toList args.toList ds p := hA0
  rw [Try.params3] at hA hval
  obtain ⟨v0, vs0, d0, ds0, p0, q0, hargs, rfl, rfl, h0, r0⟩ := trodAll_cons hA
  obtain ⟨v1, vs1, d1, ds1, p1, q1, rfl, rfl, rfl, h1, r1⟩ := trodAll_cons r0
  obtain ⟨rfl, rfl, rfl⟩ := trodAll_nil r1
  obtain rfl : args = #[v0, v1] := by cases args; simp_all
  obtain ⟨rfl, rfl⟩ := trodVars_none hV
  have lt : ∀ {t v d ps}, DataW.Trod enc Try.prog W 0 (fun _ => true) true t v d ps → ∀ x ∈ ps, x.block < W.heap.size := fun h => by obtain ⟨m, hm⟩ := h; exact DataW.trod_lt m _ _ _ hm
  obtain ⟨B, pl, rfl, hB⟩ := open_bale (hval 0 _ v0 rfl rfl) h0
  obtain ⟨i, rfl⟩ := open_int (hval 1 _ v1 rfl rfl)
  clear hA0 hval0
  refine (coreTells_run B pl i W hB).mono fun e W' ⟨he, bel⟩ => ?_
  subst he
  exact ⟨_, rfl, _, _, _, [], _, [], hW', trodAll_mk1 (shut_bool Try.underlying4 _), (trodAll_cons_mk (Below.trod laidO (by kernel_rfl) (of_decide_eq_true (by kernel_rfl)) h0 bel (lt h0)) (trodAll_cons_mk (Below.trod laidO (by kernel_rfl) (of_decide_eq_true (by kernel_rfl)) h1 bel (lt h1)) trodAll_mk0)), rfl, bel.frame _, fun h => by cases h⟩
theorem over : Rows.coreTellsRow.holds Try.pinned (OpenSpec.ofChange Rows.coreTellsSpec) :=
  OpenClaim.holds_of_wide 3 Try.f3 rfl rfl rfl rfl rfl rfl rfl ⟨rfl, rfl, rfl, rfl, rfl⟩ rfl rfl rfl rfl rfl (by kernel_rfl) Try.func3 (by kernel_rfl)
    (of_decide_eq_true (by kernel_rfl)) (by unfold Func.isWrapper; first | (rw [if_pos (by decide +kernel)]; kernel_rfl) | (rw [if_neg (by decide +kernel)]; exact ⟨rfl, rfl⟩))
    (fun os started H enc _ => lifted os started H enc)
theorem coreTells_proved : Rows.CoreTellsSaid := over
#print axioms coreTells_proved
end Go.Proofs.Ytminkpgacomicac
end
