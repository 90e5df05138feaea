/- Own work: contracts of functions, from rows of what is known of the memory; contracts of functions, from rows of what is known of the memory; contracts of functions, from rows of what is known of the memory; contracts of functions, from rows of what is known of the memory; contracts of functions, from rows of what is known of the memory; contracts of functions, from rows of what is known of the memory; contracts of functions, from rows of what is known of the memory; contracts of functions, from rows of what is known of the memory; contracts of functions, from rows of what is known of the memory; contracts of functions, from rows of what is known of the memory; contracts of functions, from rows of what is known of the memory; contracts of functions, from rows of what is known of the memory; contract -/
import Derived.Test.YtcjlegjchllgjaaW02
import Derived.OpenShut
import Derived.ProofKit
import Derived.Test.YtcjlegjchllgjaaRows
import Derived.WalkKit
import Derived.ChangeOld
import Derived.ShutString
section
set_option linter.unusedVariables false
set_option linter.unusedSimpArgs false
namespace Go.Proofs.Ytcjlegjchllgjaa
open Go Go.Fw
set_option maxRecDepth 10000
def tsTw : List TOp := [⟨some 3, [], [], []⟩, ⟨some 4, [], [], []⟩, ⟨some 5, [1], [1], []⟩, ⟨some 6, [0, 1, 2], [0, 2], [0]⟩, ⟨some 7, [], [], []⟩, ⟨some 8, [], [], []⟩, ⟨some 9, [5], [5], []⟩, ⟨some 10, [0, 1, 2, 3, 4, 5, 6], [4, 6], [4]⟩, ⟨some 11, [0, 1, 2, 3, 5, 6], [], []⟩, ⟨none, [0, 1, 2, 3, 4, 5, 6, 7, 8], [8, 3], [12]⟩, ⟨some 12, [0, 1, 2, 3, 4, 5, 6, 7, 8, 9], [], []⟩, ⟨none, [0, 1, 2, 3, 4, 5, 6, 7, 8, 9, 10], [10, 7], [9]⟩, ⟨none, [], [], []⟩]
def valTw (b1 b2 : Nat) (T : Tm) (p : Pt) (k : Nat) (env : Env) : Value :=
  match k with
  | 0 => .slice (some ⟨(env 0).1, 0, none⟩) 0 0
  | 1 => .pointer (some ⟨b1, 5, none⟩)
  | 2 => .slice p.a1 T.G.length p.c1
  | 3 => .slice (some ⟨(env 3).1, 0, none⟩) T.G.length (env 3).2
  | 4 => .slice (some ⟨(env 4).1, 0, none⟩) 0 0
  | 5 => .pointer (some ⟨b1, 6, none⟩)
  | 6 => .slice p.a2 T.S.length p.c2
  | 7 => .slice (some ⟨(env 7).1, 0, none⟩) T.S.length (env 7).2
  | 8 => .pointer (some ⟨b1, 5, none⟩)
  | 9 => undef
  | 10 => .pointer (some ⟨b1, 6, none⟩)
  | 11 => undef
  | _ => undef
def rowsTw (b1 b2 : Nat) (T : Tm) (p : Pt) (k : Nat) (env : Env) : List Row :=
  match k with
  | 0 => [⟨(env 0).1, 0, [], some 3, 0 * 1⟩]
  | 3 => [⟨(env 3).1, 0, T.G.flatMap cI, some 3, (env 3).2 * 1⟩]
  | 4 => [⟨(env 4).1, 0, [], some 3, 0 * 1⟩]
  | 7 => [⟨(env 7).1, 0, T.S.flatMap cI, some 3, (env 7).2 * 1⟩]
  | 9 => [⟨b1, 0, cTm T ⟨some ⟨(env 3).1, 0, none⟩, (env 3).2, p.a2, p.c2⟩, some 28, 11⟩]
  | 11 => [⟨b1, 0, cTm T ⟨some ⟨(env 3).1, 0, none⟩, (env 3).2, some ⟨(env 7).1, 0, none⟩, (env 7).2⟩, some 28, 11⟩]
  | 12 => [⟨b1, 0, cTm T p, some 28, 11⟩]
  | _ => []
theorem locTw (b1 b2 : Nat) (T : Tm) (p : Pt) : ∀ k env i q9, i ≠ k → (tAt tsTw k).sup.contains i = false → valTw b1 b2 T p k (upd env i q9) = valTw b1 b2 T p k env ∧ rowsTw b1 b2 T p k (upd env i q9) = rowsTw b1 b2 T p k env := by
  intro k env i q hk hs
  have hu : ∀ j, j ≠ i → upd env i q j = env j := fun j hj => by unfold upd; rw [if_neg hj]
  match k, hk, hs with
  | 0, hk, hs => exact ⟨by simp only [valTw, hu 0 (fun e => hk e.symm)], by simp only [rowsTw, hu 0 (fun e => hk e.symm)]⟩
  | 1, _, _ => exact ⟨rfl, rfl⟩
  | 2, _, _ => exact ⟨rfl, rfl⟩
  | 3, hk, hs => exact ⟨by simp only [valTw, hu 3 (fun e => hk e.symm)], by simp only [rowsTw, hu 3 (fun e => hk e.symm)]⟩
  | 4, hk, hs => exact ⟨by simp only [valTw, hu 4 (fun e => hk e.symm)], by simp only [rowsTw, hu 4 (fun e => hk e.symm)]⟩
  | 5, _, _ => exact ⟨rfl, rfl⟩
  | 6, _, _ => exact ⟨rfl, rfl⟩
  | 7, hk, hs => exact ⟨by simp only [valTw, hu 7 (fun e => hk e.symm)], by simp only [rowsTw, hu 7 (fun e => hk e.symm)]⟩
  | 8, _, _ => exact ⟨rfl, rfl⟩
  | 9, hk, hs => exact ⟨by simp only [valTw, hu 3 (by rintro rfl; cases hs)], by simp only [rowsTw, hu 3 (by rintro rfl; cases hs)]⟩
  | 10, _, _ => exact ⟨rfl, rfl⟩
  | 11, hk, hs => exact ⟨by simp only [valTw, hu 3 (by rintro rfl; cases hs), hu 7 (by rintro rfl; cases hs)], by simp only [rowsTw, hu 3 (by rintro rfl; cases hs), hu 7 (by rintro rfl; cases hs)]⟩
  | 12, _, _ => exact ⟨rfl, rfl⟩
  | _ + 13, _, _ => exact ⟨rfl, rfl⟩
def rdTw (k : Nat) : List Nat := match k with
  | 2 => [12]
  | 6 => [12]
  | _ => []
set_option maxHeartbeats 4000000 in
theorem twin_spec (T : Tm) (p : Pt) (H : List Row) (hT : TmOk H T p) : Fc Try.prog 11 [.agg (cTm T p).toArray] H (fun v H' => ∃ t1 k1 t2 k2, v = .agg (cTm T ⟨some ⟨t1, 0, none⟩, k1, some ⟨t2, 0, none⟩, k2⟩).toArray ∧ H' = ⟨t1, 0, T.G.flatMap cI, some 3, k1 * 1⟩ :: ⟨t2, 0, T.S.flatMap cI, some 3, k2 * 1⟩ :: H) := by
  have l1 := hT.l1
  have l2 := hT.l2
  refine Fc.mk (callable Try.call11) Try.func11 rfl Try.ntmps11 rfl ?_; dsimp only [fr]
  refine X.seq rfl ?_; refine X.region rfl (fun K hK => ?_); repeat' (first | (refine XO.op rfl ?_; (first | ((first | refine Xo.ng rfl ?_); (first | (refine Xg.st (StF.boxAgg rfl rfl) rfl rfl ?_; rintro _ _ ⟨bx, rfl, rfl⟩) | (refine Xg.st (StF.alloc rfl Try.zeroValue28 rfl) rfl rfl ?_; rintro _ _ ⟨bx, rfl, rfl⟩))))) | (refine XO.done rfl ?_; refine hK _ _ ?_; clear hK K))
  rename_i b1; rename Nat => b2
  refine X.seq rfl ?_
  refine X.permH (H' := ⟨b1, 0, cTm T p, some 28, 11⟩ :: ⟨b2, 0, cTm Tz pz, some 28, 11⟩ :: H) (List.Perm.swap _ _ _) ?_
  refine X.regionRd tsTw rdTw [1, 2] [(1, .pointer (some ⟨b1, 0, none⟩)), (2, .pointer (some ⟨b2, 0, none⟩))] (valTw b1 b2 T p) (rowsTw b1 b2 T p) (fun _ => (0, 0)) (⟨b2, 0, cTm Tz pz, some 28, 11⟩ :: H) rfl mixed (by (repeat (first | exact Sub.nil _ | refine Sub.cons rfl ?_)); done) rfl (by kernel_rfl) (by kernel_rfl) (locTw b1 b2 T p) (List.Sublist.refl _) ?_ ?_
  · have hs : ∀ (S Z : List Row), (∀ r ∈ ⟨b2, 0, cTm Tz pz, some 28, 11⟩ :: H, r ∈ S) → TmOk (Z ++ S) T p := fun S Z hS => hT.sub (fun r hr => List.mem_append_right _ (hS r (List.mem_cons_of_mem _ hr)))
    repeat' (first | exact AllF.done rfl | (refine AllF.step rfl ?_ ?_; · (first | exact (Ob.ng rfl (ObK.pure (fun env R hR => by exact ⟨_, EvF.fieldAddr rfl rfl (te rfl) rfl (te rfl) (by decide), rfl⟩) rfl (fun _ => rfl))).toR | (refine ObR.ng rfl ?_; (first | (exact fun env S hS hrd => (StF.buildNil rfl elI).op.mono (fun v H' ⟨b, hv, hH⟩ => ⟨(b, 0), fun _ => hv, by rw [hH]; exact List.Perm.refl _⟩)) | (exact fun env S hS hrd => (StF.ofEv (EvF.loadV rfl rfl (LoadV.own (te rfl) rfl (hrd 12 (List.Mem.head _) _ (List.Mem.head _)) rfl))).op.mono (fun v H' ⟨hv, hH⟩ => ⟨(0, 0), fun _ => hv, by rw [hH]; exact List.Perm.refl _⟩)) | (exact fun env S hS hrd => (StF.appendSl (i := 0) rfl elI rfl rfl rfl (hs S [_] hS).gr (fun e _ => one_i e) rfl (by decide) (by omega)).op.mono (fun v H' ⟨b, c, hv, hH⟩ => ⟨(b, c), fun _ => by rw [hv, Nat.zero_add]; rfl, by rw [hH]; exact List.Perm.refl _⟩)) | (exact fun env S hS hrd => (StF.appendSl (i := 0) rfl elI rfl rfl rfl (hs S [_] hS).st (fun e _ => one_i e) rfl (by decide) (by omega)).op.mono (fun v H' ⟨b, c, hv, hH⟩ => ⟨(b, c), fun _ => by rw [hv, Nat.zero_add]; rfl, by rw [hH]; exact List.Perm.refl _⟩)) | (exact fun env S hS hrd => (StF.storeOne (i := 0) (cs := cTm T p) rfl rfl rfl rfl (te rfl) rfl rfl (Nat.le_of_ble_eq_true rfl)).op.mono (fun v H' ⟨hv, hH⟩ => ⟨(0, 0), fun h => absurd rfl h, by rw [hH]; exact List.Perm.refl _⟩)) | (exact fun env S hS hrd => (StF.storeOne (i := 0) (cs := cTm T ⟨some ⟨(env 3).1, 0, none⟩, (env 3).2, p.a2, p.c2⟩) rfl rfl rfl rfl (te rfl) rfl rfl (Nat.le_of_ble_eq_true rfl)).op.mono (fun v H' ⟨hv, hH⟩ => ⟨(0, 0), fun h => absurd rfl h, by rw [hH]; exact List.Perm.refl _⟩)))))))
  · intro env t ha hv
    refine ⟨_, ha, ?_⟩
    show X _ _ _ _ (⟨(env 3).1, 0, T.G.flatMap cI, some 3, (env 3).2 * 1⟩ :: ⟨(env 7).1, 0, T.S.flatMap cI, some 3, (env 7).2 * 1⟩ :: ⟨b1, 0, cTm T ⟨some ⟨(env 3).1, 0, none⟩, (env 3).2, some ⟨(env 7).1, 0, none⟩, (env 7).2⟩, some 28, 11⟩ :: ⟨b2, 0, cTm Tz pz, some 28, 11⟩ :: H) _
    repeat' (first | (refine XO.op rfl ?_; (first | ((first | refine Xo.ng rfl ?_); (first | (refine Xg.ev (EvF.loadV rfl rfl (LoadV.whole (te rfl) rfl (List.Mem.tail _ (List.Mem.tail _ (List.Mem.head _))) rfl)) rfl rfl ?_) | (refine Xg.st0 (StF.storeAll (i := 3) rfl rfl rfl (te rfl) rfl rfl rfl rfl) rfl ?_; rintro _ _ ⟨rfl, rfl⟩; dsimp only [List.set]))))) | (refine XO.done rfl ?_; refine hK _ _ ?_; clear hK K) | refine X.seq rfl ?_ | refine X.region rfl (fun K hK => ?_) | refine X.ret rfl ?_)
    exact ret_one (by first | exact .inr rfl | exact .inl rfl) Try.results11 ⟨_, rfl, LoadV.whole (te rfl) rfl (List.Mem.tail _ (List.Mem.tail _ (List.Mem.tail _ (List.Mem.head _)))) rfl⟩ (H' := ⟨(env 3).1, 0, T.G.flatMap cI, some 3, (env 3).2 * 1⟩ :: ⟨(env 7).1, 0, T.S.flatMap cI, some 3, (env 7).2 * 1⟩ :: H) (by (repeat (first | exact List.Sublist.refl _ | apply List.Sublist.cons_cons | apply List.Sublist.cons)); done) ⟨_, _, _, _, rfl, rfl⟩
end Go.Proofs.Ytcjlegjchllgjaa
end
section
set_option linter.unusedVariables false
set_option linter.unusedSimpArgs false
namespace Go.Fw
open Go
theorem EvF.eqSelf {P : Program} {n : Nat} {H : List Row} {F : FS} {o : Oper} {T T' : TypeId} {x y : Operand} {k : IntKind} {p : Int} (h : o.op = .binOp .eql T x y T') (hx : evF F x = some (.int k p)) (hy : evF F y = some (.int k p)) : EvF P n H F o (.bool true) := by
  have := EvF.cmp (P := P) (n := n) (H := H) h hx hy rfl
  rwa [decide_eq_true rfl] at this
end Go.Fw
namespace Go.Proofs.Ytcjlegjchllgjaa
open Go Go.Fw
set_option maxRecDepth 10000
theorem sameT_self (T : Tm) (p q : Pt) (H : List Row) (hT : TmOk H T p) (hU : TmOk H T q) : Fc Try.prog 18 [.agg (cTm T p).toArray, .agg (cTm T q).toArray] H (fun v H' => v = .bool true ∧ H' = H) :=
  (sameT_spec T T p q H hT hU).mono (fun v H' ⟨h1, h2⟩ => ⟨by rw [h1, decide_eq_true rfl], h2⟩)
theorem greatT (T : Tm) (p : Pt) (h : T.G.length > 30 ∨ T.S.length > 30) (H : List Row) : Fc Try.prog 10 [.agg (cTm T p).toArray] H (fun v H' => v = .bool true ∧ H' = H) := by
  have := great_spec T p H
  rwa [decide_eq_true h] at this
theorem greatF (T : Tm) (p : Pt) (h : ¬ (T.G.length > 30 ∨ T.S.length > 30)) (H : List Row) : Fc Try.prog 10 [.agg (cTm T p).toArray] H (fun v H' => v = .bool false ∧ H' = H) := by
  have := great_spec T p H
  rwa [decide_eq_false h] at this
theorem ownT (T : Tm) (t1 k1 t2 k2 : Nat) (H : List Row) (l1 : T.G.length ≤ 1000000) (l2 : T.S.length ≤ 1000000) (m1 : (⟨t1, 0, T.G.flatMap cI, some 3, k1 * 1⟩ : Row) ∈ H) (m2 : (⟨t2, 0, T.S.flatMap cI, some 3, k2 * 1⟩ : Row) ∈ H) : TmOk H T ⟨some ⟨t1, 0, none⟩, k1, some ⟨t2, 0, none⟩, k2⟩ :=
  ⟨SlE.ofRow m1 (fun _ _ => rfl), SlE.ofRow m2 (fun _ _ => rfl), l1, l2⟩
end Go.Proofs.Ytcjlegjchllgjaa
end
section
set_option linter.unusedVariables false
namespace Go.Proofs.Ytcjlegjchllgjaa
open Go Go.Fw Go.ChangeShapes Go.WideShapes Go.ChangeAt Go.RowKit
set_option linter.unusedVariables false
set_option maxRecDepth 100000
instance : Inhabited Sp := ⟨⟨0, 0⟩⟩
instance : Inhabited Cl := ⟨⟨0, 0⟩⟩
section
variable {H : Type} {enc : TypeId × Value → H} {w : World} {base : Nat} {spare : Nat → Bool} {held : Bool} {fuel : Nat} {cs : List Value} {x : DataW H × List MemPlace}
theorem open_i (h : DataW.trod enc Try.prog w base spare held fuel 3 cs = some x) : ∃ q : Int, cs = cI q ∧ True := by
  obtain ⟨q, h1, _⟩ := trod_i (te rfl) h
  exact ⟨q, h1, trivial⟩
theorem open_sp (h : DataW.trod enc Try.prog w base spare held fuel 26 cs = some x) : ∃ q : Sp, cs = cSp q ∧ True := by
  obtain ⟨hl, hf⟩ := trod_st (te rfl) h
  obtain ⟨n0, y0, h0⟩ := hf 0 0 3 _ rfl (te rfl)
  obtain ⟨n1, y1, h1⟩ := hf 1 1 3 _ rfl (te rfl)
  match cs, hl with
  | [a, b], _ =>
    obtain ⟨lo, e0, w0⟩ := open_i h0
    obtain ⟨hi, e1, w1⟩ := open_i h1
    simp [cI] at e0 e1
    subst e0 e1
    exact ⟨⟨lo, hi⟩, rfl, trivial⟩
theorem open_cl (h : DataW.trod enc Try.prog w base spare held fuel 23 cs = some x) : ∃ q : Cl, cs = cCl q ∧ True := by
  obtain ⟨hl, hf⟩ := trod_st (te rfl) h
  obtain ⟨n0, y0, h0⟩ := hf 0 0 3 _ rfl (te rfl)
  obtain ⟨n1, y1, h1⟩ := hf 1 1 3 _ rfl (te rfl)
  match cs, hl with
  | [a, b], _ =>
    obtain ⟨lo, e0, w0⟩ := open_i h0
    obtain ⟨hi, e1, w1⟩ := open_i h1
    simp [cI] at e0 e1
    subst e0 e1
    exact ⟨⟨lo, hi⟩, rfl, trivial⟩
end
structure InTm (w : World) (T : Tm) (p : Pt) : Prop where
  gr : InSl w p.a1 cI 1 T.G
  st : InSl w p.a2 cI 1 T.S
def rowsTm (T : Tm) (p : Pt) : List Row := rowsOf p.a1 cI T.G ++ rowsOf p.a2 cI T.S
theorem InTm.ok {w : World} {T : Tm} {p : Pt} {N : Nat} (h : InTm w T p) : ∀ r ∈ rowsTm T p, r.own = none ∧ r.ok N w := by
  intro r hr
  rcases List.mem_append.1 hr with hr | hr
  · exact h.gr.ok r hr
  · exact h.st.ok r hr
theorem InTm.g {w : World} {T : Tm} {p : Pt} (h : InTm w T p) {H : List Row} (hs : ∀ r ∈ rowsTm T p, r ∈ H) : SlE H p.a1 cI 1 T.G := h.gr.sl (fun r hr => hs r (List.mem_append_left _ hr))
theorem InTm.s {w : World} {T : Tm} {p : Pt} (h : InTm w T p) {H : List Row} (hs : ∀ r ∈ rowsTm T p, r ∈ H) : SlE H p.a2 cI 1 T.S := h.st.sl (fun r hr => hs r (List.mem_append_right _ hr))
section
variable {H : Type} {enc : TypeId × Value → H} {w : World} {base : Nat} {spare : Nat → Bool} {held : Bool} {v : Value} {d : DataW H} {p : List MemPlace} {r : Reach} {b0 : Nat}
theorem open_terms (hv : Value.okWide Try.prog w r b0 28 v) (h : DataW.Trod enc Try.prog w base spare held 28 v d p) : ∃ T pl, v = .agg (cTm T pl).toArray ∧ InTm w T pl := by
  obtain ⟨fa, hu, _⟩ := ti_struct (te (T := 28) rfl)
  obtain ⟨⟨cs⟩, rfl, _⟩ := okWide_struct hu hv
  obtain ⟨fuel, hf⟩ := h
  obtain ⟨hl, hf⟩ := trod_st (te rfl) hf
  obtain ⟨n0, y0, h0⟩ := hf 0 0 23 _ rfl (te rfl)
  obtain ⟨n1, y1, h1⟩ := hf 1 2 3 _ rfl (te rfl)
  obtain ⟨n2, y2, h2⟩ := hf 2 3 3 _ rfl (te rfl)
  obtain ⟨n3, y3, h3⟩ := hf 3 4 3 _ rfl (te rfl)
  obtain ⟨n4, y4, h4⟩ := hf 4 5 24 _ rfl (te rfl)
  obtain ⟨n5, y5, h5⟩ := hf 5 6 24 _ rfl (te rfl)
  obtain ⟨n6, y6, h6⟩ := hf 6 7 26 _ rfl (te rfl)
  obtain ⟨n7, y7, h7⟩ := hf 7 9 3 _ rfl (te rfl)
  obtain ⟨n8, y8, h8⟩ := hf 8 10 3 _ rfl (te rfl)
  match cs, hl with
  | [a, b, c, d, e, f, g, i, j, k, l], _ =>
    obtain ⟨q0, e0, w0⟩ := open_cl h0
    obtain ⟨q1, e1, w1⟩ := open_i h1
    obtain ⟨q2, e2, w2⟩ := open_i h2
    obtain ⟨q3, e3, w3⟩ := open_i h3
    obtain ⟨q6, e6, w6⟩ := open_sp h6
    obtain ⟨q7, e7, w7⟩ := open_i h7
    obtain ⟨q8, e8, w8⟩ := open_i h8
    simp [cI, cSp, cCl, Value.cells] at e0 e1 e2 e3 e6 e7 e8
    obtain ⟨l4, a4, c4, e4, i4, _, k4⟩ := open_sl (te rfl) (te rfl) rfl (by decide) (fun _ _ _ => open_i) (fun _ => rfl) h4
    obtain ⟨l5, a5, c5, e5, i5, _, k5⟩ := open_sl (te rfl) (te rfl) rfl (by decide) (fun _ _ _ => open_i) (fun _ => rfl) h5
    obtain ⟨e01, e02⟩ := e0
    obtain ⟨e61, e62⟩ := e6
    subst e01 e02 e1 e2 e3 e4 e5 e61 e62 e7 e8
    exact ⟨⟨q0.g, q0.s, q1, q2, q3, l4, l5, q6.lo, q6.hi, q7, q8⟩, ⟨a4, c4, a5, c5⟩, rfl, i4, i5⟩
end
theorem ownK : ownKnob Try.prog.godebug = none := by kernel_rfl
theorem laidO : laidOutB Try.prog = true := by kernel_rfl
end Go.Proofs.Ytcjlegjchllgjaa
end
section
set_option linter.unusedVariables false
set_option linter.unusedSimpArgs false
namespace Go.Proofs.Ytcjlegjchllgjaa
open Go Go.Fw
set_option maxRecDepth 10000
/-- a call about nothing, about one class -/
def abO : Ab := ⟨[], [], [], []⟩
theorem openO (T : Tm) : openE T abO = if tmOk T then 0 else 40 := by
  unfold openE
  have h1 : askD abO := fun d hd => absurd hd List.not_mem_nil
  have h2 : askG abO := fun d hd => absurd hd List.not_mem_nil
  have h3 : askS abO := fun d hd => absurd hd List.not_mem_nil
  have h4 : askM abO := fun d hd => absurd hd List.not_mem_nil
  have h5 : askN T abO := fun d hd => absurd hd List.not_mem_nil
  simp only [h1, h2, h3, h4, h5, if_true]
/-- the first class that is none -/
def cErr : List Cl → Int
  | [] => 0
  | c :: l => if clsE c = 0 then cErr l else clsE c
/-- what some classes come to -/
def sumV (T : Tm) : List Cl → Int
  | [] => 0
  | c :: l => (if may T c = true then val T c.g c.s else 0) + sumV T l
theorem at1_bd {l : List Int} (h : ∀ n ∈ l, -1000 ≤ n ∧ n ≤ 1000) (i : Int) : -1000 ≤ at1 l i ∧ at1 l i ≤ 1000 := by
  unfold at1
  rw [List.getD_eq_getElem?_getD]
  cases e : l[(i - 1).toNat]? with
  | none => exact ⟨by decide, by decide⟩
  | some x => exact h x (List.mem_of_getElem? e)
theorem val_bd {T : Tm} (h : tmOk T) (g s : Int) : -2000 ≤ val T g s ∧ val T g s ≤ 1002000 := by
  have h1 := at1_bd h.gr.2 g
  have h2 := at1_bd h.st.2 s
  have h3 := h.num.1
  unfold val
  omega
/-- which may not be delivered -/
def refsA (T : Tm) : Nat → List Cl → List Int
  | _, [] => []
  | k, c :: l => if may T c = true then refsA T (k + 1) l else (k : Int) :: refsA T (k + 1) l
noncomputable def totE (T : Tm) (m : Int) (l : List Cl) : Int := if tmOk T then (if T.dl ≤ m ∧ m ≤ T.dh then (if (l.length : Int) ≤ T.bales then cErr l else 4) else 44) else 40
noncomputable def totS (T : Tm) (m : Int) (l : List Cl) : Int := if totE T m l = 0 then sumV T l else 0
noncomputable def totI (T : Tm) (m : Int) (l : List Cl) : List Int := if totE T m l = 0 then refsA T 0 l else []
/-- a list of numbers of one's own, or none -/
def OutI (k : List Int) (v : Value) (Z : List Row) : Prop := (k = [] ∧ v = .slice none 0 0 ∧ Z = []) ∨ ∃ b q, v = .slice (some ⟨b, 0, none⟩) k.length q ∧ Z = [⟨b, 0, k.flatMap cI, some 3, q * 1⟩]
theorem OutI.nil : OutI [] (.slice none 0 0) [] := .inl ⟨rfl, rfl, rfl⟩
noncomputable def opT (T : Tm) (A : Ab) : Tm := if openE T A = 0 then T else Tz
noncomputable def opP (T : Tm) (p : Pt) (A : Ab) : Pt := if openE T A = 0 then p else pz
theorem openD_spec (T : Tm) (p : Pt) (A : Ab) (q : Pa) (H : List Row) (hT : TmOk H T p) (hA : AbOk H A q) (hd : HD A) (hi : HI A) :
    Fc Try.prog 81 [.agg (cTm T p).toArray, .agg (cAb A q).toArray] H (fun v H' => v = .tuple #[.agg (cTm (opT T A) (opP T p A)).toArray, .int .i64 (openE T A)] ∧ H' = H) := by
  refine (open_spec T p A q H hT hA hd hi).mono ?_
  rintro v H' ⟨⟨h, rfl⟩ | ⟨h, rfl⟩, rfl⟩
  · unfold opT opP; rw [if_pos h, if_pos h, h]; exact ⟨rfl, rfl⟩
  · unfold opT opP; rw [if_neg h, if_neg h]; exact ⟨rfl, rfl⟩
theorem okO (H : List Row) : AbOk H abO ⟨none, 0, none, 0, none, 0, none, 0⟩ := ⟨sleNil, sleNil, sleNil, sleNil, (fun d hd => absurd hd List.not_mem_nil), Nat.zero_le _, Nat.zero_le _, Nat.zero_le _, Nat.zero_le _⟩
theorem HI0 {d : List Dy} {l : List Lo} {m : List Int} : HI ⟨d, l, m, []⟩ := fun _ _ l hl => absurd hl List.not_mem_nil
theorem openOk (T : Tm) (p : Pt) (H : List Row) (hT : TmOk H T p) (h : tmOk T) : Fc Try.prog 81 [.agg (cTm T p).toArray, .agg (cAb abO ⟨none, 0, none, 0, none, 0, none, 0⟩).toArray] H (fun v H' => v = .tuple #[.agg (cTm T p).toArray, .int .i64 0] ∧ H' = H) := by
  have e : openE T abO = 0 := by rw [openO, if_pos h]
  have := openD_spec T p abO _ H hT (okO H) HD0 HI0
  unfold opT opP at this
  rwa [e, if_pos rfl, if_pos rfl] at this
theorem openNo (T : Tm) (p : Pt) (H : List Row) (hT : TmOk H T p) (h : ¬ tmOk T) : Fc Try.prog 81 [.agg (cTm T p).toArray, .agg (cAb abO ⟨none, 0, none, 0, none, 0, none, 0⟩).toArray] H (fun v H' => v = .tuple #[.agg (cTm Tz pz).toArray, .int .i64 40] ∧ H' = H) := by
  have e : openE T abO = 40 := by rw [openO, if_neg h]
  have := openD_spec T p abO _ H hT (okO H) HD0 HI0
  unfold opT opP at this
  rwa [e, if_neg (by decide), if_neg (by decide)] at this
theorem OutI.zero {T : Tm} {m : Int} {l : List Cl} (h : totE T m l ≠ 0) : totS T m l = 0 ∧ totI T m l = [] := by
  unfold totS totI
  rw [if_neg h, if_neg h]
  exact ⟨rfl, rfl⟩
end Go.Proofs.Ytcjlegjchllgjaa
end
section
set_option linter.unusedVariables false
set_option linter.unusedSimpArgs false
namespace Go.Proofs.Ytcjlegjchllgjaa
open Go Go.Fw
set_option maxRecDepth 10000
/-- the least, the greatest of some numbers -/
def minL : List Int → Int
  | [] => 0
  | x :: l => l.foldl min x
theorem minL_snoc : ∀ {l : List Int} (x : Int), 0 < l.length → minL (l ++ [x]) = min (minL l) x
  | y :: l, x, _ => by
    show (l ++ [x]).foldl min y = min (l.foldl min y) x
    rw [List.foldl_append]; rfl
theorem minI_spec (l : List Int) (a : Option Addr) (c : Nat) (H : List Row) (hl : SlE H a cI 1 l) (hb : l.length ≤ 1000000) (h0 : 0 < l.length) :
    Fc Try.prog 78 [.slice a l.length c] H (fun v H' => v = .int .i64 (minL l) ∧ H' = H) := by
  obtain ⟨b, off, x, rfl, hx⟩ := hl.elem (i := 0) (by omega)
  refine Fc.mk (callable Try.call78) Try.func78 rfl Try.ntmps78 rfl ?_; dsimp only [fr]
  repeat' (first | (refine XO.op rfl ?_; (first | ((first | refine Xo.ng rfl ?_); (first | (refine Xg.ev (EvF.indexSlice rfl rfl rfl (te rfl) (te rfl) (by omega) (by omega)) rfl rfl ?_) | (refine Xg.ev (EvF.loadV rfl rfl (LoadV.el1 hl hx (te rfl) rfl (fun _ hm => hm) rfl)) rfl rfl ?_) | (refine Xg.ev (EvF.move rfl rfl) rfl rfl ?_) | (refine Xg.ev (EvF.assign rfl rfl) rfl rfl ?_) | (refine Xg.ev (EvF.cmp rfl rfl rfl rfl) rfl rfl ?_) | (refine Xg.ev (EvF.lenSlice rfl rfl (te rfl)) rfl rfl ?_))))) | (refine XO.done rfl ?_; refine hK _ _ ?_; clear hK K) | refine X.seq rfl ?_ | refine X.region rfl (fun K hK => ?_) | refine X.block rfl ?_ | refine X.skip rfl ?_ | (refine X.ite rfl rfl (fun hc => ?_); (first | (with_reducible refine Xb.case hc (fun h => ?_) (fun h => ?_))) <;> clear hc))
  all_goals try (exfalso; omega)
  have h1 : minL (l.take 1) = x := by rw [show (1 : Nat) = 0 + 1 from rfl, take_snoc hx]; rfl
  refine X.lp rfl (fun q F' H' => ∃ k : Nat, q = l.length - k ∧ 1 ≤ k ∧ k ≤ l.length ∧ H = H' ∧
      F' = [(0, .slice (some ⟨b, off, none⟩) l.length c), (3, .int .i64 (minL (l.take k))), (4, .int .i64 k)])
    (l.length - 1) [(0, .slice (some ⟨b, off, none⟩) l.length c), (3, .int .i64 (minL (l.take 1))), (4, .int .i64 (1 : Nat))] _ (by rw [h1]; exact (by (repeat (first | exact Sub.nil _ | refine Sub.cons rfl ?_)); done)) (by (repeat (first | exact List.Sublist.refl _ | apply List.Sublist.cons_cons | apply List.Sublist.cons)); done) ⟨1, rfl, by omega, by omega, rfl, rfl⟩ ?_
  rintro _ _ H2 ⟨k, rfl, hk1, hk, hH, rfl⟩
  subst hH
  repeat' (first | (refine XO.op rfl ?_; (first | ((first | refine Xo.ng rfl ?_); (first | (refine Xg.ev (EvF.move rfl rfl) rfl rfl ?_) | (refine Xg.ev (EvF.assign rfl rfl) rfl rfl ?_) | (refine Xg.ev (EvF.cmp rfl rfl rfl rfl) rfl rfl ?_) | (refine Xg.ev (EvF.lenSlice rfl rfl (te rfl)) rfl rfl ?_) | (refine Xg.ev (EvF.indexSlice rfl rfl rfl (te rfl) (te rfl) (by omega) (by omega)) rfl rfl ?_))))) | (refine XO.done rfl ?_; refine hK _ _ ?_; clear hK K) | refine X.seq rfl ?_ | refine X.region rfl (fun K hK => ?_) | refine X.block rfl ?_ | (refine X.brk rfl ?_; repeat (first | refine blockX_hit rfl ?_ | refine blockX_miss (by decide) ?_)) | refine X.skip rfl ?_ | refine X.ret rfl ?_ | (refine X.ite rfl rfl (fun hc => ?_); (first | (with_reducible refine Xb.case hc (fun h => ?_) (fun h => ?_))) <;> clear hc))
  · obtain ⟨y, hy⟩ : ∃ y, l[k]? = some y := ⟨_, List.getElem?_eq_getElem (by omega)⟩
    repeat' (first | (refine XO.op rfl ?_; (first | ((first | refine Xo.ng rfl ?_); (first | (refine Xg.ev (EvF.loadV rfl rfl (LoadV.el0 hl hy (te rfl) rfl (fun _ hm => hm) rfl)) rfl rfl ?_) | (refine Xg.ev (EvF.move rfl rfl) rfl rfl ?_) | (refine Xg.ev (EvF.assign rfl rfl) rfl rfl ?_) | (refine Xg.ev (EvF.add64 rfl rfl rfl (by omega) (by omega)) rfl rfl ?_) | (refine Xg.ev (EvF.min64 rfl rfl rfl) rfl rfl ?_))))) | (refine XO.done rfl ?_; refine hK _ _ ?_; clear hK K) | refine X.region rfl (fun K hK => ?_))
    refine ⟨_, _, _, (by rw [take_snoc hy, minL_snoc y (by rw [List.length_take]; omega)]; exact (by (repeat (first | exact Sub.nil _ | refine Sub.cons rfl ?_)); done)), (by (repeat (first | exact List.Sublist.refl _ | apply List.Sublist.cons_cons | apply List.Sublist.cons)); done), ⟨k + 1, rfl, by omega, by omega, rfl, rfl⟩, by omega⟩
  · obtain rfl : k = l.length := by omega
    rw [List.take_length]
    refine ret_one (by first | exact .inr rfl | exact .inl rfl) Try.results78 rfl (H' := H) (by (repeat (first | exact List.Sublist.refl _ | apply List.Sublist.cons)); done) ?_; simp only [and_true, true_and]
/-- a list of classes of one's own, or none -/
def OutC (k : List Cl) (v : Value) (Z : List Row) : Prop := (k = [] ∧ v = .slice none 0 0 ∧ Z = []) ∨ ∃ b q, v = .slice (some ⟨b, 0, none⟩) k.length q ∧ Z = [⟨b, 0, k.flatMap cCl, some 23, q * 2⟩]
theorem OutC.nil : OutC [] (.slice none 0 0) [] := .inl ⟨rfl, rfl, rfl⟩
end Go.Proofs.Ytcjlegjchllgjaa
end
section
set_option linter.unusedVariables false
set_option linter.unusedSimpArgs false
namespace Go.Proofs.Ytcjlegjchllgjaa
open Go Go.Fw
set_option maxRecDepth 10000
theorem OutI.sl {k : List Int} {v : Value} {Z H : List Row} (h : OutI k v Z) (hs : ∀ r ∈ Z, r ∈ H) : ∃ a c, v = .slice a k.length c ∧ SlE H a cI 1 k := by
  rcases h with ⟨rfl, rfl, rfl⟩ | ⟨b, q, rfl, rfl⟩
  · exact ⟨_, _, rfl, sleNil⟩
  · exact ⟨_, _, rfl, SlE.ofRow (hs _ (List.Mem.head _)) (fun _ _ => rfl)⟩
theorem OutI.len {k : List Int} {v : Value} {Z : List Row} (h : OutI k v Z) : ∃ a c, v = .slice a k.length c := by
  rcases h with ⟨rfl, rfl, rfl⟩ | ⟨b, q, rfl, rfl⟩ <;> exact ⟨_, _, rfl⟩
theorem sameI_self (l : List Int) (a a' : Option Addr) (c c' : Nat) (H : List Row) (hl : SlE H a cI 1 l) (hm : SlE H a' cI 1 l) (hb : l.length ≤ 1000000) : Fc Try.prog 40 [.slice a l.length c, .slice a' l.length c'] H (fun v H' => v = .bool true ∧ H' = H) :=
  (sameInts_spec l l a a' c c' H hl hm hb hb).mono (fun v H' ⟨h1, h2⟩ => ⟨by rw [h1, decide_eq_true rfl], h2⟩)
end Go.Proofs.Ytcjlegjchllgjaa
end
section
set_option linter.unusedVariables false
set_option linter.unusedSimpArgs false
namespace Go.Proofs.Ytcjlegjchllgjaa
open Go Go.Fw
set_option maxRecDepth 10000
/-- where tables of one's own lie -/
def plT (t1 k1 t2 k2 : Nat) : Pt := ⟨some ⟨t1, 0, none⟩, k1, some ⟨t2, 0, none⟩, k2⟩
def rI (l : List Int) (b k : Nat) : Row := ⟨b, 0, l.flatMap cI, some 3, k * 1⟩
/-- terms with tables of their own, or none -/
def OwnTm (Z : List Row) (T : Tm) (p : Pt) : Prop := (T = Tz ∧ p = pz ∧ Z = []) ∨ ∃ t1 k1 t2 k2, p = plT t1 k1 t2 k2 ∧ Z.Perm [rI T.G t1 k1, rI T.S t2 k2]
theorem OwnTm.zero : OwnTm [] Tz pz := .inl ⟨rfl, rfl, rfl⟩
theorem OwnTm.two (T : Tm) (t1 k1 t2 k2 : Nat) : OwnTm [rI T.G t1 k1, rI T.S t2 k2] T (plT t1 k1 t2 k2) := .inr ⟨t1, k1, t2, k2, rfl, List.Perm.refl _⟩
theorem TmOk.zero (H : List Row) : TmOk H Tz pz := ⟨sleNil, sleNil, Nat.zero_le _, Nat.zero_le _⟩
theorem OwnTm.ok {Z : List Row} {T : Tm} {p : Pt} (h : OwnTm Z T p) (h1 : T.G.length ≤ 1000000) (h2 : T.S.length ≤ 1000000) : TmOk Z T p := by
  rcases h with ⟨rfl, rfl, rfl⟩ | ⟨t1, k1, t2, k2, rfl, hp⟩
  · exact TmOk.zero _
  · exact ⟨SlE.ofRow (hp.mem_iff.2 (List.Mem.head _)) (fun _ _ => rfl), SlE.ofRow (hp.mem_iff.2 (List.Mem.tail _ (List.Mem.head _))) (fun _ _ => rfl), h1, h2⟩
end Go.Proofs.Ytcjlegjchllgjaa
end
section
set_option linter.unusedVariables false
set_option linter.unusedSimpArgs false
namespace Go.Proofs.Ytcjlegjchllgjaa
open Go Go.Fw
set_option maxRecDepth 10000
theorem cls_in {T : Tm} {l : Lo} (h : inb l) {c : Cl} (hc : c ∈ cls T l) : (1 ≤ c.g ∧ c.g ≤ 9) ∧ (1 ≤ c.s ∧ c.s ≤ 9) := by
  unfold inb at h
  unfold cls clsI rowC at hc
  obtain ⟨g, hg, hc⟩ := List.mem_flatMap.1 hc
  obtain ⟨s, hs, rfl⟩ := List.mem_map.1 (List.mem_filter.1 hc).1
  unfold ir at hg hs
  obtain ⟨i, hi, rfl⟩ := List.mem_map.1 hg
  obtain ⟨j, hj, rfl⟩ := List.mem_map.1 hs
  rw [List.mem_range] at hi hj
  dsimp only
  omega
end Go.Proofs.Ytcjlegjchllgjaa
end
section
set_option linter.unusedVariables false
set_option linter.unusedSimpArgs false
namespace Go.Proofs.Ytcjlegjchllgjaa
open Go Go.Fw
set_option maxRecDepth 10000
def rowA (g : Int) (l : List Int) : List Cl := l.map (fun s => (⟨g, s⟩ : Cl))
def allI (l : Lo) (gs : List Int) : List Cl := gs.flatMap (fun g => rowA g (ir l.s1 l.s2))
/-- all classes of a lot -/
def allC (l : Lo) : List Cl := allI l (ir l.g1 l.g2)
theorem rowA_snoc (g : Int) (l : Lo) {j : Nat} (h : (j : Int) < l.s2 - l.s1 + 1) : rowA g ((ir l.s1 l.s2).take (j + 1)) = rowA g ((ir l.s1 l.s2).take j) ++ [⟨g, l.s1 + j⟩] := by
  rw [take_snoc (ir_get h)]
  unfold rowA
  rw [List.map_append]; rfl
theorem allI_snoc (l : Lo) {k : Nat} (h : (k : Int) < l.g2 - l.g1 + 1) : allI l ((ir l.g1 l.g2).take (k + 1)) = allI l ((ir l.g1 l.g2).take k) ++ rowA (l.g1 + k) (ir l.s1 l.s2) := by
  rw [take_snoc (ir_get h)]
  unfold allI
  rw [List.flatMap_append]; simp
end Go.Proofs.Ytcjlegjchllgjaa
end
section
set_option linter.unusedVariables false
set_option linter.unusedSimpArgs false
namespace Go.Proofs.Ytcjlegjchllgjaa
open Go Go.Fw
set_option maxRecDepth 10000
def fnd : List Cl → Bool
  | [] => false
  | _ :: _ => true
theorem fnd_snoc (l : List Cl) (c : Cl) : fnd (l ++ [c]) = true := by cases l <;> rfl
theorem fnd_false {l : List Cl} (h : fnd l = false) : l = [] := by cases l with | nil => rfl | cons => cases h
end Go.Proofs.Ytcjlegjchllgjaa
end
section
set_option linter.unusedVariables false
set_option linter.unusedSimpArgs false
namespace Go.Proofs.Ytcjlegjchllgjaa
open Go Go.Fw
set_option maxRecDepth 10000
theorem foldl_min_le : ∀ (l : List Int) (a : Int), l.foldl min a ≤ a ∧ ∀ x ∈ l, l.foldl min a ≤ x
  | [], a => ⟨Int.le_refl _, fun _ h => absurd h List.not_mem_nil⟩
  | y :: l, a => by
    have ih := foldl_min_le l (min a y)
    refine ⟨Int.le_trans ih.1 (by omega), fun x hx => ?_⟩
    rcases List.mem_cons.1 hx with rfl | hx
    · exact Int.le_trans ih.1 (by omega)
    · exact ih.2 x hx
theorem minL_le {l : List Int} {x : Int} (h : x ∈ l) : minL l ≤ x := by
  cases l with
  | nil => exact absurd h List.not_mem_nil
  | cons y l =>
    rcases List.mem_cons.1 h with rfl | h
    · exact (foldl_min_le l x).1
    · exact (foldl_min_le l y).2 x h
theorem foldl_min_mem : ∀ (l : List Int) (a : Int), l.foldl min a = a ∨ l.foldl min a ∈ l
  | [], a => .inl rfl
  | y :: l, a => by
    rcases foldl_min_mem l (min a y) with h | h
    · rw [List.foldl_cons, h]
      by_cases q : a ≤ y
      · left; omega
      · right; rw [show min a y = y by omega]; exact List.mem_cons_self
    · right; exact List.mem_cons_of_mem _ h
theorem minL_mem {l : List Int} (h : 0 < l.length) : minL l ∈ l := by
  cases l with
  | nil => exact absurd h (Nat.lt_irrefl 0)
  | cons y l =>
    rcases foldl_min_mem l y with q | q
    · show l.foldl min y ∈ y :: l
      rw [q]; exact List.mem_cons_self
    · exact List.mem_cons_of_mem _ q
theorem at1_mem {l : List Int} (h : l.length = 9) {i : Int} (hi : 1 ≤ i ∧ i ≤ 9) : at1 l i ∈ l := List.mem_of_getElem? (at1_get hi h)
theorem mem_at1 {l : List Int} (h : l.length = 9) {x : Int} (hx : x ∈ l) : ∃ i : Int, (1 ≤ i ∧ i ≤ 9) ∧ at1 l i = x := by
  obtain ⟨k, hk, rfl⟩ := List.mem_iff_getElem.1 hx
  refine ⟨(k : Int) + 1, by omega, ?_⟩
  unfold at1
  rw [show ((k : Int) + 1 - 1).toNat = k by omega, List.getD_eq_getElem?_getD, List.getElem?_eq_getElem hk]; rfl
theorem day_least {d : Dy} (h1 : tab d.G) (h2 : tab d.S) : (∀ g s, 1 ≤ g ∧ g ≤ 9 → 1 ≤ s ∧ s ≤ 9 → 0 ≤ d.price + at1 d.G g + at1 d.S s) ↔ 0 ≤ d.price + minL d.G + minL d.S := by
  constructor
  · intro h
    obtain ⟨g, hg, e1⟩ := mem_at1 h1.1 (minL_mem (l := d.G) (by rw [h1.1]; decide))
    obtain ⟨s, hs, e2⟩ := mem_at1 h2.1 (minL_mem (l := d.S) (by rw [h2.1]; decide))
    have := h g s hg hs
    rwa [e1, e2] at this
  · intro h g s hg hs
    have := minL_le (at1_mem h1.1 hg)
    have := minL_le (at1_mem h2.1 hs)
    omega
def tsId : List TOp := [⟨some 3, [], [], []⟩, ⟨some 4, [], [], []⟩, ⟨some 5, [1], [1], []⟩, ⟨some 6, [1, 2], [2], []⟩, ⟨some 7, [0, 1, 2, 3], [0, 3], [3]⟩, ⟨some 8, [0, 1, 2, 3, 4], [4], []⟩, ⟨some 9, [0, 1, 2, 3, 4, 5], [], []⟩, ⟨some 10, [0, 1, 2, 3, 4, 5, 6], [6], []⟩, ⟨some 11, [0, 1, 2, 3, 4, 5], [], []⟩, ⟨some 12, [0, 1, 2, 3, 4, 5, 8], [8], []⟩, ⟨some 13, [0, 1, 2, 3, 4, 5, 6, 7, 8, 9], [7, 9], []⟩, ⟨some 14, [0, 1, 2, 3, 4, 5, 6, 7, 8, 9, 10], [5, 10], []⟩, ⟨some 15, [0, 1, 2, 3, 4, 5, 6, 7, 8, 9, 10, 11], [11], []⟩, ⟨some 16, [0, 1, 2, 3, 4, 5, 6, 7, 8, 9, 10, 11, 12], [], []⟩, ⟨some 17, [0, 1, 2, 3, 4, 5, 6, 7, 8, 9, 10, 11, 12, 13], [13], []⟩, ⟨some 18, [0, 1, 2, 3, 4, 5, 6, 7, 8, 9, 10, 11, 12], [], []⟩, ⟨some 19, [0, 1, 2, 3, 4, 5, 6, 7, 8, 9, 10, 11, 12, 15], [15], []⟩, ⟨some 20, [0, 1, 2, 3, 4, 5, 6, 7, 8, 9, 10, 11, 12, 15, 16], [16], []⟩, ⟨some 21, [0, 1, 2, 3, 4, 5, 6, 7, 8, 9, 10, 11, 12, 13, 14, 15, 16, 17], [14, 17], []⟩, ⟨some 22, [0, 1, 2, 3, 4, 5, 6, 7, 8, 9, 10, 11, 12], [], []⟩, ⟨some 23, [0, 1, 2, 3, 4, 5, 6, 7, 8, 9, 10, 11, 12, 19], [19], []⟩, ⟨some 24, [0, 1, 2, 3, 4, 5, 6, 7, 8, 9, 10, 11, 12, 15, 16, 17, 19, 20], [20], []⟩, ⟨some 25, [0, 1, 2, 3, 4, 5, 6, 7, 8, 9, 10, 11, 12, 13, 14, 15, 16, 17, 18, 19, 20, 21], [18, 21], []⟩, ⟨some 26, [0, 1, 2, 3, 4, 5, 6, 7, 8, 9, 10, 11, 12, 13, 14, 15, 16, 17, 18, 19, 20, 21, 22], [22], []⟩, ⟨some 27, [0, 1, 2, 3, 4, 5, 6, 7, 8, 9, 10, 11, 12, 13, 14, 15, 16, 17, 18, 19, 20, 21, 22, 23], [12, 23], []⟩, ⟨some 2, [0, 1, 2, 3, 4, 5, 6, 7, 8, 9, 10, 11, 12, 13, 14, 15, 16, 17, 18, 19, 20, 21, 22, 23, 24], [24], []⟩]
def valId (b1 : Nat) (d : Dy) (a b e : Bool) (k : Nat) (env : Env) : Value :=
  match k with
  | 0 => .agg (cSp ⟨0, 1000000⟩).toArray
  | 1 => .pointer (some ⟨b1, 0, none⟩)
  | 2 => .int .i64 d.price
  | 3 => .slice (some ⟨(env 3).1, 0, none⟩) 1 1
  | 4 => .bool a
  | 5 => .bool a
  | 6 => gt (!a) (.pointer (some ⟨b1, 1, none⟩))
  | 7 => gt (!a) (.slice d.a1 d.G.length d.c1)
  | 8 => gt (!a) (.pointer (some ⟨b1, 2, none⟩))
  | 9 => gt (!a) (.slice d.a2 d.S.length d.c2)
  | 10 => gt (!a) (.bool b)
  | 11 => .bool (a && b)
  | 12 => .bool (a && b)
  | 13 => gt (!(a && b)) (.pointer (some ⟨b1, 0, none⟩))
  | 14 => gt (!(a && b)) (.int .i64 d.price)
  | 15 => gt (!(a && b)) (.pointer (some ⟨b1, 1, none⟩))
  | 16 => gt (!(a && b)) (.slice d.a1 d.G.length d.c1)
  | 17 => gt (!(a && b)) (.int .i64 (minL d.G))
  | 18 => gt (!(a && b)) (.int .i64 (d.price + minL d.G))
  | 19 => gt (!(a && b)) (.pointer (some ⟨b1, 2, none⟩))
  | 20 => gt (!(a && b)) (.slice d.a2 d.S.length d.c2)
  | 21 => gt (!(a && b)) (.int .i64 (minL d.S))
  | 22 => gt (!(a && b)) (.int .i64 (d.price + minL d.G + minL d.S))
  | 23 => gt (!(a && b)) (.bool e)
  | 24 => .bool ((a && b) && e)
  | 25 => .bool ((a && b) && e)
  | _ => undef
def rowsId (b1 : Nat) (d : Dy) (a b e : Bool) (k : Nat) (env : Env) : List Row :=
  match k with
  | 3 => [⟨(env 3).1, 0, [.int .i64 d.price], some 3, 1 * 1⟩]
  | _ => []
theorem locId (b1 : Nat) (d : Dy) (a b e : Bool) : ∀ k env i q9, i ≠ k → (tAt tsId k).sup.contains i = false → valId b1 d a b e k (upd env i q9) = valId b1 d a b e k env ∧ rowsId b1 d a b e k (upd env i q9) = rowsId b1 d a b e k env := by
  intro k env i q hk hs
  have hu : ∀ j, j ≠ i → upd env i q j = env j := fun j hj => by unfold upd; rw [if_neg hj]
  match k, hk, hs with
  | 0, _, _ => exact ⟨rfl, rfl⟩
  | 1, _, _ => exact ⟨rfl, rfl⟩
  | 2, _, _ => exact ⟨rfl, rfl⟩
  | 3, hk, hs => exact ⟨by simp only [valId, hu 3 (fun e => hk e.symm)], by simp only [rowsId, hu 3 (fun e => hk e.symm)]⟩
  | 4, _, _ => exact ⟨rfl, rfl⟩
  | 5, _, _ => exact ⟨rfl, rfl⟩
  | 6, _, _ => exact ⟨rfl, rfl⟩
  | 7, _, _ => exact ⟨rfl, rfl⟩
  | 8, _, _ => exact ⟨rfl, rfl⟩
  | 9, _, _ => exact ⟨rfl, rfl⟩
  | 10, _, _ => exact ⟨rfl, rfl⟩
  | 11, _, _ => exact ⟨rfl, rfl⟩
  | 12, _, _ => exact ⟨rfl, rfl⟩
  | 13, _, _ => exact ⟨rfl, rfl⟩
  | 14, _, _ => exact ⟨rfl, rfl⟩
  | 15, _, _ => exact ⟨rfl, rfl⟩
  | 16, _, _ => exact ⟨rfl, rfl⟩
  | 17, _, _ => exact ⟨rfl, rfl⟩
  | 18, _, _ => exact ⟨rfl, rfl⟩
  | 19, _, _ => exact ⟨rfl, rfl⟩
  | 20, _, _ => exact ⟨rfl, rfl⟩
  | 21, _, _ => exact ⟨rfl, rfl⟩
  | 22, _, _ => exact ⟨rfl, rfl⟩
  | 23, _, _ => exact ⟨rfl, rfl⟩
  | 24, _, _ => exact ⟨rfl, rfl⟩
  | 25, _, _ => exact ⟨rfl, rfl⟩
  | _ + 26, _, _ => exact ⟨rfl, rfl⟩
set_option maxHeartbeats 8000000 in
theorem isDay_spec (d : Dy) (H : List Row) (hD : DyOk H d) : Fc Try.prog 130 [.agg (cDy d).toArray] H (fun v H' => v = .bool (decide (dayOk d)) ∧ H' = H) := by
  have hD1 : ∀ S : List Row, (∀ r ∈ H, r ∈ S) → DyOk S d := fun S hS => hD.sub hS
  have hdd : dayOk d ↔ (0 ≤ d.price ∧ d.price ≤ 1000000) ∧ tab d.G ∧ tab d.S ∧ ∀ g s, 1 ≤ g ∧ g ≤ 9 → 1 ≤ s ∧ s ≤ 9 → 0 ≤ d.price + at1 d.G g + at1 d.S s := Iff.rfl
  have hx : ∀ a b e : Bool, decide (0 ≤ d.price ∧ d.price ≤ 1000000) = a → decide (tab d.G ∧ tab d.S) = b → decide (d.price + minL d.G + minL d.S ≥ 0) = e → decide (dayOk d) = (a && b && e) := by
    intro a b e h1 h2 h3
    cases a
    · exact decide_eq_false (fun q => of_decide_eq_false h1 (hdd.1 q).1)
    · cases b
      · exact decide_eq_false (fun q => of_decide_eq_false h2 ⟨(hdd.1 q).2.1, (hdd.1 q).2.2.1⟩)
      · have ht := of_decide_eq_true h2
        have hp := of_decide_eq_true h1
        cases e
        · exact decide_eq_false (fun q => of_decide_eq_false h3 ((day_least ht.1 ht.2).1 (hdd.1 q).2.2.2))
        · exact decide_eq_true (hdd.2 ⟨hp, ht.1, ht.2, (day_least ht.1 ht.2).2 (of_decide_eq_true h3)⟩)
  obtain ⟨a, ha⟩ : ∃ a, decide (0 ≤ d.price ∧ d.price ≤ 1000000) = a := ⟨_, rfl⟩
  obtain ⟨b, hb⟩ : ∃ b, decide (tab d.G ∧ tab d.S) = b := ⟨_, rfl⟩
  rw [hx a b _ ha hb rfl]
  clear hx
  have hw : ∀ bb k cap ow H, ⟨bb, 0, [.int .i64 d.price], ow, cap⟩ ∈ H → Fc Try.prog 54 [.agg (cSp ⟨0, 1000000⟩).toArray, .slice (some ⟨bb, 0, none⟩) 1 k] H (fun v H' => v = .bool a ∧ H' = H) := fun bb k cap ow H h => by
    have := within1_spec ⟨0, 1000000⟩ d.price bb k cap ow H h
    rwa [ha] at this
  have htb : ∀ H, DyOk H d → Fc Try.prog 107 [.slice d.a1 d.G.length d.c1, .slice d.a2 d.S.length d.c2] H (fun v H' => v = .bool b ∧ H' = H) := fun H h => by
    have := areTables_spec d.G d.S d.a1 d.a2 d.c1 d.c2 H h.gr h.st h.l1 h.l2
    rw [show decide (d.G.length = 9 ∧ d.S.length = 9 ∧ (∀ n ∈ d.G, -1000 ≤ n ∧ n ≤ 1000) ∧ (∀ n ∈ d.S, -1000 ≤ n ∧ n ≤ 1000)) = b by rw [← hb]; exact decide_eq_decide.2 ⟨fun ⟨a, b, c, d⟩ => ⟨⟨a, c⟩, ⟨b, d⟩⟩, fun ⟨⟨a, c⟩, ⟨b, d⟩⟩ => ⟨a, b, c, d⟩⟩] at this
    exact this
  refine Fc.mk (callable Try.call130) Try.func130 rfl Try.ntmps130 rfl ?_; dsimp only [fr]
  refine X.seq rfl ?_; refine X.region rfl (fun K hK => ?_); repeat' (first | (refine XO.op rfl ?_; (first | ((first | refine Xo.ng rfl ?_); (first | (refine Xg.ev (EvF.assign rfl rfl) rfl rfl ?_) | (refine Xg.st (StF.boxAgg rfl rfl) rfl rfl ?_; rintro _ _ ⟨bx, rfl, rfl⟩))))) | (refine XO.done rfl ?_; refine hK _ _ ?_; clear hK K))
  rename Nat => b1
  refine X.seq rfl ?_
  cases a
  · -- the price is none
    refine X.regionOb tsId [1] [(1, .pointer (some ⟨b1, 0, none⟩))] (valId b1 d false b (decide (d.price + minL d.G + minL d.S ≥ 0))) (rowsId b1 d false b (decide (d.price + minL d.G + minL d.S ≥ 0))) (fun _ => (0, 0)) (⟨b1, 0, cDy d, some 65, 3⟩ :: H) rfl mixed (by (repeat (first | exact Sub.nil _ | refine Sub.cons rfl ?_)); done) rfl (by kernel_rfl) (locId b1 d false b (decide (d.price + minL d.G + minL d.S ≥ 0))) (List.Sublist.refl _) ?_ ?_
    · repeat' (first | exact AllF.done rfl | (refine AllF.step rfl ?_ ?_; · (first | exact Ob.sk rfl rfl (fun _ => rfl) (fun _ => rfl) (fun _ => rfl) (fun _ => rfl) | ((first | refine Ob.ng rfl ?_); (first | exact ObK.pure (fun env R hR => by exact ⟨_, EvF.move rfl rfl, rfl⟩) rfl (fun _ => rfl) | exact ObK.pure (fun env R hR => by exact ⟨_, EvF.assign rfl rfl, rfl⟩) rfl (fun _ => rfl) | exact ObK.pure (fun env R hR => by exact ⟨_, EvF.pickF rfl rfl rfl, rfl⟩) rfl (fun _ => rfl) | exact ObK.pure (fun env R hR => by exact ⟨_, EvF.fieldAddr rfl rfl (te rfl) rfl (te rfl) (by decide), rfl⟩) rfl (fun _ => rfl) | exact ObK.pure (fun env R hR => by exact ⟨_, EvF.loadV rfl rfl (LoadV.own (te rfl) rfl (hR _ (List.Mem.head _)) rfl), rfl⟩) rfl (fun _ => rfl) | (exact ObK.pure (fun env S hS => ⟨_, EvF.build (cs := cSp ⟨0, 1000000⟩) rfl (ArgsP.cons rfl (ArgsP.cons rfl ArgsP.nil)) (te rfl) (Places.cons (te rfl) (Places.cons (te rfl) Places.nil)) Try.zeroValue26 rfl, rfl⟩) rfl (fun _ => rfl)) | (exact fun env S hS => (StF.buildOne rfl elI rfl rfl rfl (by decide) (by decide)).op.mono (fun v H' ⟨b, hv, hH⟩ => ⟨(b, 0), fun _ => hv, by rw [hH]; exact List.Perm.refl _⟩)) | (exact fun env S hS => OpF.callV (Z := [_]) (EnF.st rfl (Args.cons rfl (Args.cons rfl Args.nil))) (hw _ _ _ _ _ (List.Mem.head _)) rfl rfl))))))
    intro env t ha' hv
    refine ⟨_, ha'.cons (hv 25 2 (Nat.le_of_ble_eq_true rfl) rfl), ?_⟩
    show X _ _ _ ((2, .bool (false && b && (decide (d.price + minL d.G + minL d.S ≥ 0)))) :: _) (⟨b1, 0, cDy d, some 65, 3⟩ :: H) _
    repeat' (first | refine X.ret rfl ?_)
    refine ret_one (by first | exact .inr rfl | exact .inl rfl) Try.results130 rfl (H' := H) (by (repeat (first | exact List.Sublist.refl _ | apply List.Sublist.cons)); done) ?_; simp only [and_true, true_and]
  · cases b
    · -- the tables are none
      refine X.regionOb tsId [1] [(1, .pointer (some ⟨b1, 0, none⟩))] (valId b1 d true false (decide (d.price + minL d.G + minL d.S ≥ 0))) (rowsId b1 d true false (decide (d.price + minL d.G + minL d.S ≥ 0))) (fun _ => (0, 0)) (⟨b1, 0, cDy d, some 65, 3⟩ :: H) rfl mixed (by (repeat (first | exact Sub.nil _ | refine Sub.cons rfl ?_)); done) rfl (by kernel_rfl) (locId b1 d true false (decide (d.price + minL d.G + minL d.S ≥ 0))) (List.Sublist.refl _) ?_ ?_
      · repeat' (first | exact AllF.done rfl | (refine AllF.step rfl ?_ ?_; · (first | exact Ob.sk rfl rfl (fun _ => rfl) (fun _ => rfl) (fun _ => rfl) (fun _ => rfl) | ((first | refine Ob.ng rfl ?_ | refine Ob.g rfl rfl (fun _ => rfl) ?_); (first | exact ObK.pure (fun env R hR => by exact ⟨_, EvF.move rfl rfl, rfl⟩) rfl (fun _ => rfl) | exact ObK.pure (fun env R hR => by exact ⟨_, EvF.assign rfl rfl, rfl⟩) rfl (fun _ => rfl) | exact ObK.pure (fun env R hR => by exact ⟨_, EvF.pickT rfl rfl rfl, rfl⟩) rfl (fun _ => rfl) | exact ObK.pure (fun env R hR => by exact ⟨_, EvF.pickF rfl rfl rfl, rfl⟩) rfl (fun _ => rfl) | exact ObK.pure (fun env R hR => by exact ⟨_, EvF.fieldAddr rfl rfl (te rfl) rfl (te rfl) (by decide), rfl⟩) rfl (fun _ => rfl) | exact ObK.pure (fun env R hR => by exact ⟨_, EvF.loadV rfl rfl (LoadV.own (te rfl) rfl (hR _ (List.Mem.head _)) rfl), rfl⟩) rfl (fun _ => rfl) | (exact ObK.pure (fun env S hS => ⟨_, EvF.build (cs := cSp ⟨0, 1000000⟩) rfl (ArgsP.cons rfl (ArgsP.cons rfl ArgsP.nil)) (te rfl) (Places.cons (te rfl) (Places.cons (te rfl) Places.nil)) Try.zeroValue26 rfl, rfl⟩) rfl (fun _ => rfl)) | (exact fun env S hS => (StF.buildOne rfl elI rfl rfl rfl (by decide) (by decide)).op.mono (fun v H' ⟨b, hv, hH⟩ => ⟨(b, 0), fun _ => hv, by rw [hH]; exact List.Perm.refl _⟩)) | (exact fun env S hS => OpF.callV (Z := [_]) (EnF.st rfl (Args.cons rfl (Args.cons rfl Args.nil))) (hw _ _ _ _ _ (List.Mem.head _)) rfl rfl) | (exact fun env S hS => OpF.callV (Z := []) (EnF.st rfl (Args.cons rfl (Args.cons rfl Args.nil))) (htb _ (hD1 _ (fun r hr => hS r (List.Mem.tail _ hr)))) rfl rfl))))))
      intro env t ha' hv
      refine ⟨_, ha'.cons (hv 25 2 (Nat.le_of_ble_eq_true rfl) rfl), ?_⟩
      show X _ _ _ ((2, .bool (true && false && (decide (d.price + minL d.G + minL d.S ≥ 0)))) :: _) (⟨b1, 0, cDy d, some 65, 3⟩ :: H) _
      repeat' (first | refine X.ret rfl ?_)
      refine ret_one (by first | exact .inr rfl | exact .inl rfl) Try.results130 rfl (H' := H) (by (repeat (first | exact List.Sublist.refl _ | apply List.Sublist.cons)); done) ?_; simp only [and_true, true_and]
    · have ht := of_decide_eq_true hb
      have hp := of_decide_eq_true ha
      have g1 := ht.1.1
      have g2 := ht.2.1
      have q1 := ht.1.2 _ (minL_mem (l := d.G) (by omega))
      have q2 := ht.2.2 _ (minL_mem (l := d.S) (by omega))
      refine X.regionOb tsId [1] [(1, .pointer (some ⟨b1, 0, none⟩))] (valId b1 d true true (decide (d.price + minL d.G + minL d.S ≥ 0))) (rowsId b1 d true true (decide (d.price + minL d.G + minL d.S ≥ 0))) (fun _ => (0, 0)) (⟨b1, 0, cDy d, some 65, 3⟩ :: H) rfl mixed (by (repeat (first | exact Sub.nil _ | refine Sub.cons rfl ?_)); done) rfl (by kernel_rfl) (locId b1 d true true (decide (d.price + minL d.G + minL d.S ≥ 0))) (List.Sublist.refl _) ?_ ?_
      · repeat' (first | exact AllF.done rfl | (refine AllF.step rfl ?_ ?_; · (first | fail | ((first | refine Ob.ng rfl ?_ | refine Ob.g rfl rfl (fun _ => rfl) ?_); (first | exact ObK.pure (fun env R hR => by exact ⟨_, EvF.move rfl rfl, rfl⟩) rfl (fun _ => rfl) | exact ObK.pure (fun env R hR => by exact ⟨_, EvF.assign rfl rfl, rfl⟩) rfl (fun _ => rfl) | exact ObK.pure (fun env R hR => by exact ⟨_, EvF.pickT rfl rfl rfl, rfl⟩) rfl (fun _ => rfl) | exact ObK.pure (fun env R hR => by exact ⟨_, EvF.fieldAddr rfl rfl (te rfl) rfl (te rfl) (by decide), rfl⟩) rfl (fun _ => rfl) | exact ObK.pure (fun env R hR => by exact ⟨_, EvF.cmp rfl rfl rfl rfl, rfl⟩) rfl (fun _ => rfl) | exact ObK.pure (fun env R hR => by exact ⟨_, EvF.loadV rfl rfl (LoadV.own (te rfl) rfl (hR _ (List.Mem.head _)) rfl), rfl⟩) rfl (fun _ => rfl) | (exact ObK.pure (fun env S hS => ⟨_, EvF.build (cs := cSp ⟨0, 1000000⟩) rfl (ArgsP.cons rfl (ArgsP.cons rfl ArgsP.nil)) (te rfl) (Places.cons (te rfl) (Places.cons (te rfl) Places.nil)) Try.zeroValue26 rfl, rfl⟩) rfl (fun _ => rfl)) | (exact fun env S hS => (StF.buildOne rfl elI rfl rfl rfl (by decide) (by decide)).op.mono (fun v H' ⟨b, hv, hH⟩ => ⟨(b, 0), fun _ => hv, by rw [hH]; exact List.Perm.refl _⟩)) | (exact fun env S hS => OpF.callV (Z := [_]) (EnF.st rfl (Args.cons rfl (Args.cons rfl Args.nil))) (hw _ _ _ _ _ (List.Mem.head _)) rfl rfl) | (exact fun env S hS => OpF.callV (Z := []) (EnF.st rfl (Args.cons rfl (Args.cons rfl Args.nil))) (htb _ (hD1 _ (fun r hr => hS r (List.Mem.tail _ hr)))) rfl rfl) | (exact fun env S hS => OpF.callV (Z := []) (EnF.st rfl (Args.cons rfl Args.nil)) (minI_spec d.G d.a1 d.c1 _ (hD1 _ (fun r hr => hS r (List.Mem.tail _ hr))).gr hD.l1 (by omega)) rfl rfl) | (exact fun env S hS => OpF.callV (Z := []) (EnF.st rfl (Args.cons rfl Args.nil)) (minI_spec d.S d.a2 d.c2 _ (hD1 _ (fun r hr => hS r (List.Mem.tail _ hr))).st hD.l2 (by omega)) rfl rfl) | (exact ObK.pure (fun env S hS => ⟨_, EvF.add64 rfl rfl rfl (by omega) (by omega), rfl⟩) rfl (fun _ => rfl)))))))
      intro env t ha' hv
      refine ⟨_, ha'.cons (hv 25 2 (Nat.le_of_ble_eq_true rfl) rfl), ?_⟩
      show X _ _ _ ((2, .bool (true && true && (decide (d.price + minL d.G + minL d.S ≥ 0)))) :: _) (⟨b1, 0, cDy d, some 65, 3⟩ :: H) _
      repeat' (first | refine X.ret rfl ?_)
      refine ret_one (by first | exact .inr rfl | exact .inl rfl) Try.results130 rfl (H' := H) (by (repeat (first | exact List.Sublist.refl _ | apply List.Sublist.cons)); done) ?_; simp only [and_true, true_and]
theorem areDays1_spec (d : Dy) (H : List Row) (hD : DyOk H d) : Fc Try.prog 129 ([.agg (cDy d).toArray] ++ []) H (fun v H' => v = .bool (!decide (dayOk d)) ∧ H' = H) := by
  show Fc Try.prog 129 [.agg (cDy d).toArray] H _
  refine Fc.mk (callable Try.call129) Try.func129 rfl Try.ntmps129 rfl ?_; dsimp only [fr]
  repeat' (first | (refine XO.op rfl ?_; (first | ((first | refine Xo.ng rfl ?_); (first | (refine Xg.call (EnF.st rfl (Args.cons rfl Args.nil)) rfl rfl (isDay_spec d _ (hD.sub (fun _ h => List.Mem.tail _ h))) ?_; rintro _ H9 ⟨rfl, hH9⟩; subst H9) | (refine Xg.ev (EvF.assign rfl rfl) rfl rfl ?_) | (refine Xg.ev (EvF.not rfl rfl) rfl rfl ?_) | (refine Xg.ev (EvF.loadV rfl rfl (LoadV.whole (te rfl) rfl (List.Mem.head _) rfl)) rfl rfl ?_) | (refine Xg.st (StF.boxAgg rfl rfl) rfl rfl ?_; rintro _ _ ⟨bx, rfl, rfl⟩))))) | (refine XO.done rfl ?_; refine hK _ _ ?_; clear hK K) | refine X.seq rfl ?_ | refine X.region rfl (fun K hK => ?_) | refine X.ret rfl ?_)
  refine ret_one (by first | exact .inr rfl | exact .inl rfl) Try.results129 rfl (H' := H) (by (repeat (first | exact List.Sublist.refl _ | apply List.Sublist.cons)); done) ?_; simp only [and_true, true_and]
theorem HDall (A : Ab) : HD A := fun d _ H' h => areDays1_spec d H' h
end Go.Proofs.Ytcjlegjchllgjaa
end
section
set_option linter.unusedVariables false
set_option linter.unusedSimpArgs false
namespace Go.Fw
open Go
theorem EvF.neSelf {P : Program} {n : Nat} {H : List Row} {F : FS} {o : Oper} {T T' : TypeId} {x y : Operand} {k : IntKind} {p : Int} (h : o.op = .binOp .neq T x y T') (hx : evF F x = some (.int k p)) (hy : evF F y = some (.int k p)) : EvF P n H F o (.bool false) := by
  have := EvF.cmp (P := P) (n := n) (H := H) h hx hy rfl
  rwa [decide_eq_true rfl] at this
end Go.Fw
namespace Go.Proofs.Ytcjlegjchllgjaa
open Go Go.Fw
set_option maxRecDepth 10000
def cmpI (a b : Int) : Int := if a < b then -1 else if b < a then 1 else 0
theorem isNaN_spec (x : Int) (H : List Row) : Fc Try.prog 148 [.int .i64 x] H (fun v H' => v = .bool false ∧ H' = H) := by
  refine Fc.mk (callable Try.call148) Try.func148 rfl Try.ntmps148 rfl ?_; dsimp only [fr]
  repeat' (first | (refine XO.op rfl ?_; (first | ((first | refine Xo.ng rfl ?_); (first | (refine Xg.ev (EvF.neSelf rfl rfl rfl) rfl rfl ?_) | (refine Xg.ev (EvF.move rfl rfl) rfl rfl ?_) | (refine Xg.ev (EvF.assign rfl rfl) rfl rfl ?_))))) | (refine XO.done rfl ?_; refine hK _ _ ?_; clear hK K) | refine X.seq rfl ?_ | refine X.region rfl (fun K hK => ?_) | refine X.ret rfl ?_)
  refine ret_one (by first | exact .inr rfl | exact .inl rfl) Try.results148 rfl (H' := H) (by (repeat (first | exact List.Sublist.refl _ | apply List.Sublist.cons)); done) ?_; simp only [and_true, true_and]
theorem compare_spec (x y : Int) (H : List Row) : Fc Try.prog 125 [.int .i64 x, .int .i64 y] H (fun v H' => v = .int .i64 (cmpI x y) ∧ H' = H) := by
  unfold cmpI
  refine Fc.mk (callable Try.call125) Try.func125 rfl Try.ntmps125 rfl ?_; dsimp only [fr]
  repeat' (first | (refine XO.op rfl ?_; (first | ((first | refine Xo.ng rfl ?_); (first | (refine Xg.call (EnF.st rfl (Args.cons rfl Args.nil)) rfl rfl (isNaN_spec _ _) ?_; rintro _ H9 ⟨rfl, hH9⟩; subst H9) | (refine Xg.ev (EvF.move rfl rfl) rfl rfl ?_) | (refine Xg.ev (EvF.assign rfl rfl) rfl rfl ?_) | (refine Xg.ev (EvF.cmp rfl rfl rfl rfl) rfl rfl ?_))))) | (refine XO.done rfl ?_; refine hK _ _ ?_; clear hK K) | refine X.seq rfl ?_ | refine X.region rfl (fun K hK => ?_) | refine X.skip rfl ?_ | refine X.ret rfl ?_ | (refine X.ite rfl rfl (fun hc => ?_); (first | (with_reducible refine Xb.f hc ?_) | (with_reducible refine Xb.case hc (fun h => ?_) (fun h => ?_))) <;> clear hc))
  all_goals try (exfalso; contradiction)
  all_goals (refine ret_one (by first | exact .inr rfl | exact .inl rfl) Try.results125 rfl (H' := H) (by (repeat (first | exact List.Sublist.refl _ | apply List.Sublist.cons)); done) ?_; simp only [and_true, true_and])
  · rw [if_pos (by assumption)]
  · rw [if_neg (by assumption), if_pos (by omega)]
  · rw [if_neg (by assumption), if_neg (by omega)]
/-- an offer on a day -/
def cMk (T : Tm) (p : Pt) (d : Dy) : List Value := cTm T p ++ cDy d
/-- what a class costs on a day; what it costs to deliver it -/
def dco (d : Dy) (c : Cl) : Int := d.price + at1 d.G c.g + at1 d.S c.s
def coF (T : Tm) (d : Dy) (c : Cl) : Int := dco d c - val T c.g c.s
def in9 (c : Cl) : Prop := (1 ≤ c.g ∧ c.g ≤ 9) ∧ (1 ≤ c.s ∧ c.s ≤ 9)
theorem dco_bd {d : Dy} (h : dayOk d) {c : Cl} (hc : in9 c) : 0 ≤ dco d c ∧ dco d c ≤ 1002000 := by
  obtain ⟨h1, h2, h3, h4⟩ := h
  have := h2.at1 hc.1
  have := h3.at1 hc.2
  have := h4 c.g c.s hc.1 hc.2
  unfold dco; omega
set_option maxHeartbeats 4000000 in
theorem costs_spec (T : Tm) (p : Pt) (d : Dy) (c : Cl) (H : List Row) (hT : TmOk H T p) (hok : tmOk T) (hD : DyOk H d) (hd : dayOk d) (hc : in9 c) :
    Fc Try.prog 91 [.agg (cMk T p d).toArray, .agg (cCl c).toArray] H (fun v H' => v = .int .i64 (coF T d c) ∧ H' = H) := by
  have hb := dco_bd hd hc
  have hv := val_bd hok c.g c.s
  obtain ⟨hp, hG, hS, hl⟩ := hd
  have h1 := at1_get hc.1 hG.1
  have h2 := at1_get hc.2 hS.1
  have q1 := hG.at1 hc.1
  have q2 := hS.at1 hc.2
  have lg := hG.1
  have ls := hS.1
  have hp' := hok.num.1
  have hc1 := hc.1
  have hc2 := hc.2
  obtain ⟨b1, o1, e1, he1, _⟩ := hD.gr.elem (i := 0) (by omega)
  obtain ⟨b2, o2, e2, he2, _⟩ := hD.st.elem (i := 0) (by omega)
  have hT2 : ∀ Z : List Row, TmOk (Z ++ H) T p := fun Z => hT.sub (fun _ h => List.mem_append_right _ h)
  have hD2 : ∀ Z : List Row, DyOk (Z ++ H) d := fun Z => hD.sub (fun _ h => List.mem_append_right _ h)
  obtain ⟨pr, G, S, a1, c1, a2, c2⟩ := d
  simp only at he1 he2 h1 h2 q1 q2 lg ls hp
  subst he1 he2
  unfold coF dco at *
  dsimp only at *
  show Fc Try.prog 91 [.agg (cTm T p ++ ([.int .i64 pr, .slice (some ⟨b1, o1, none⟩) G.length c1, .slice (some ⟨b2, o2, none⟩) S.length c2] : List Value)).toArray, .agg (cCl c).toArray] H _
  refine Fc.mk (callable Try.call91) Try.func91 rfl Try.ntmps91 rfl ?_; dsimp only [fr]
  repeat' (first | (refine XO.op rfl ?_; (first | ((first | refine Xo.ng rfl ?_); (first | (refine Xg.ev (EvF.assign rfl rfl) rfl rfl ?_) | (refine Xg.st (StF.boxAgg rfl rfl) rfl rfl ?_; rintro _ _ ⟨bx, rfl, rfl⟩))))) | (refine XO.done rfl ?_; refine hK _ _ ?_; clear hK K) | (refine XQ.op rfl ?_; (first | ((first | refine Yo.ng rfl ?_); (first | (refine Yg.ev (EvF.indexSlice rfl rfl rfl (te rfl) (te rfl) (by omega) (by omega)) rfl rfl ?_) | (refine Yg.ev (EvF.loadV rfl rfl (LoadV.el0 (hD2 [_, _]).gr h1 (te rfl) rfl (fun _ hm => hm) rfl)) rfl rfl ?_) | (refine Yg.ev (EvF.loadV rfl rfl (LoadV.el0 (hD2 [_, _]).st h2 (te rfl) rfl (fun _ hm => hm) rfl)) rfl rfl ?_) | (refine Yg.ev (EvF.loadV rfl rfl (LoadV.ownAgg (vs := cTm T p) (te rfl) rfl (List.Mem.tail _ (List.Mem.head _)) rfl rfl)) rfl rfl ?_) | (refine Yg.call (EnF.st rfl (Args.cons rfl (Args.cons rfl Args.nil))) rfl rfl (value_spec T p c _ (hT2 [_, _]) hok.gr hok.st (by omega) hc.1 hc.2) ?_) | (refine Yg.ev (EvF.assign rfl rfl) rfl rfl ?_) | (refine Yg.ev (EvF.add64 rfl rfl rfl (by omega) (by omega)) rfl rfl ?_) | (refine Yg.ev (EvF.sub64 rfl rfl rfl (by omega) (by omega)) rfl rfl ?_) | (refine Yg.ev (EvF.fieldAddr rfl rfl (te rfl) rfl (te rfl) (by decide)) rfl rfl ?_) | (refine Yg.ev (EvF.loadV rfl rfl (LoadV.own (te rfl) rfl (List.Mem.head _) rfl)) rfl rfl ?_) | (refine Yg.ev (EvF.loadV rfl rfl (LoadV.own (te rfl) rfl (List.Mem.tail _ (List.Mem.head _)) rfl)) rfl rfl ?_) | (refine Yg.ev (EvF.loadV rfl rfl (LoadV.whole (te rfl) rfl (List.Mem.head _) rfl)) rfl rfl ?_))))) | (refine XQ.done rfl ?_; refine hK _ ?_; clear hK K) | refine X.seq rfl ?_ | refine X.region rfl (fun K hK => ?_) | refine X.regionD rfl mixed (by kernel_rfl) (fun K hK => ?_) | refine X.ret rfl ?_)
  refine ret_one (by first | exact .inr rfl | exact .inl rfl) Try.results91 rfl (H' := H) (by (repeat (first | exact List.Sublist.refl _ | apply List.Sublist.cons)); done) ?_; simp only [and_true, true_and]
/-- how two classes are compared -/
def tsC1 : List TOp := [⟨some 6, [], [], []⟩, ⟨some 7, [], [], []⟩, ⟨some 8, [0, 1], [0, 1], []⟩, ⟨some 9, [], [], []⟩, ⟨some 10, [], [], []⟩, ⟨some 11, [0, 1, 2, 3, 4], [3, 4], []⟩, ⟨some 12, [0, 1, 2, 3, 4, 5], [2, 5], []⟩, ⟨some 5, [0, 1, 2, 3, 4, 5, 6], [6], []⟩]
def valC1 (b2 b3 b4 : Nat) (w : Value) (x y : Cl) (m n : Int) (k : Nat) (env : Env) : Value :=
  match k with
  | 0 => w
  | 1 => .agg (cCl x).toArray
  | 2 => .int .i64 m
  | 3 => w
  | 4 => .agg (cCl y).toArray
  | 5 => .int .i64 n
  | 6 => .int .i64 (cmpI m n)
  | 7 => .int .i64 (cmpI m n)
  | _ => undef
def rowsC1 (b2 b3 b4 : Nat) (w : Value) (x y : Cl) (m n : Int) (k : Nat) (env : Env) : List Row :=
  match k with
  | _ => []
theorem locC1 (b2 b3 b4 : Nat) (w : Value) (x y : Cl) (m n : Int) : ∀ k env i q9, i ≠ k → (tAt tsC1 k).sup.contains i = false → valC1 b2 b3 b4 w x y m n k (upd env i q9) = valC1 b2 b3 b4 w x y m n k env ∧ rowsC1 b2 b3 b4 w x y m n k (upd env i q9) = rowsC1 b2 b3 b4 w x y m n k env := by
  intro k env i q hk hs
  have hu : ∀ j, j ≠ i → upd env i q j = env j := fun j hj => by unfold upd; rw [if_neg hj]
  match k, hk, hs with
  | 0, _, _ => exact ⟨rfl, rfl⟩
  | 1, _, _ => exact ⟨rfl, rfl⟩
  | 2, _, _ => exact ⟨rfl, rfl⟩
  | 3, _, _ => exact ⟨rfl, rfl⟩
  | 4, _, _ => exact ⟨rfl, rfl⟩
  | 5, _, _ => exact ⟨rfl, rfl⟩
  | 6, _, _ => exact ⟨rfl, rfl⟩
  | 7, _, _ => exact ⟨rfl, rfl⟩
  | _ + 8, _, _ => exact ⟨rfl, rfl⟩
def fMk (T : Tm) (p : Pt) (d : Dy) : Value := .func (.func 91) #[.agg (cMk T p d).toArray] #[]
set_option maxHeartbeats 4000000 in
theorem cheapest1_spec (T : Tm) (p : Pt) (d : Dy) (x y : Cl) (b2 cap : Nat) (ow : Option Kd) (H : List Row) (hm : ⟨b2, 0, [fMk T p d], ow, cap⟩ ∈ H) (hT : TmOk H T p) (hok : tmOk T) (hD : DyOk H d) (hd : dayOk d) (hx : in9 x) (hy : in9 y) :
    Fc Try.prog 127 ([.agg (cCl x).toArray, .agg (cCl y).toArray] ++ [.pointer (some ⟨b2, 0, none⟩)]) H (fun v H' => v = .int .i64 (cmpI (coF T d x) (coF T d y)) ∧ H' = H) := by
  show Fc Try.prog 127 [.agg (cCl x).toArray, .agg (cCl y).toArray, .pointer (some ⟨b2, 0, none⟩)] H _
  refine Fc.mk (callable Try.call127) Try.func127 rfl Try.ntmps127 rfl ?_; dsimp only [fr]
  refine X.seq rfl ?_; refine X.region rfl (fun K hK => ?_); repeat' (first | (refine XO.op rfl ?_; (first | ((first | refine Xo.ng rfl ?_); (first | (refine Xg.ev (EvF.assign rfl rfl) rfl rfl ?_) | (refine Xg.st (StF.boxAgg rfl rfl) rfl rfl ?_; rintro _ _ ⟨bx, rfl, rfl⟩))))) | (refine XO.done rfl ?_; refine hK _ _ ?_; clear hK K))
  rename_i b3; rename Nat => b4
  refine X.seq rfl ?_
  refine X.regionOb tsC1 [2, 3, 4] [(2, .pointer (some ⟨b2, 0, none⟩)), (3, .pointer (some ⟨b3, 0, none⟩)), (4, .pointer (some ⟨b4, 0, none⟩))] (valC1 b2 b3 b4 (fMk T p d) x y (coF T d x) (coF T d y)) (rowsC1 b2 b3 b4 (fMk T p d) x y (coF T d x) (coF T d y)) (fun _ => (0, 0)) (⟨b4, 0, cCl y, some 23, 2⟩ :: ⟨b3, 0, cCl x, some 23, 2⟩ :: H) rfl mixed (by (repeat (first | exact Sub.nil _ | refine Sub.cons rfl ?_)); done) rfl (by kernel_rfl) (locC1 b2 b3 b4 (fMk T p d) x y (coF T d x) (coF T d y)) (List.Sublist.refl _) ?_ ?_
  · have hs : ∀ (S : List Row), (∀ r ∈ ⟨b4, 0, cCl y, some 23, 2⟩ :: ⟨b3, 0, cCl x, some 23, 2⟩ :: H, r ∈ S) → TmOk S T p := fun S hS => hT.sub (fun r hr => hS r (List.mem_append_right [_, _] hr))
    have hs2 : ∀ (S : List Row), (∀ r ∈ ⟨b4, 0, cCl y, some 23, 2⟩ :: ⟨b3, 0, cCl x, some 23, 2⟩ :: H, r ∈ S) → DyOk S d := fun S hS => hD.sub (fun r hr => hS r (List.mem_append_right [_, _] hr))
    repeat' (first | exact AllF.done rfl | (refine AllF.step rfl ?_ ?_; · (first | fail | ((first | refine Ob.ng rfl ?_); (first | exact ObK.pure (fun env R hR => by exact ⟨_, EvF.assign rfl rfl, rfl⟩) rfl (fun _ => rfl) | exact ObK.pure (fun env R hR => by exact ⟨_, EvF.loadV rfl rfl (LoadV.whole (te rfl) rfl (hR _ (List.Mem.head _)) rfl), rfl⟩) rfl (fun _ => rfl) | exact ObK.pure (fun env R hR => by exact ⟨_, EvF.loadV rfl rfl (LoadV.whole (te rfl) rfl (hR _ (List.Mem.tail _ (List.Mem.head _))) rfl), rfl⟩) rfl (fun _ => rfl) | (exact ObK.pure (fun env S hS => ⟨fMk T p d, EvF.loadV rfl rfl (LoadV.own (te rfl) rfl (hS _ (List.mem_append_right [_, _] hm)) rfl), rfl⟩) rfl (fun _ => rfl)) | (exact fun env S hS => OpF.callV (Z := []) (EnF.dyn (first := [.agg (cMk T p d).toArray]) (cap := []) rfl rfl (Args.cons rfl Args.nil)) (costs_spec T p d x _ (hs S hS) hok (hs2 S hS) hd hx) rfl rfl) | (exact fun env S hS => OpF.callV (Z := []) (EnF.dyn (first := [.agg (cMk T p d).toArray]) (cap := []) rfl rfl (Args.cons rfl Args.nil)) (costs_spec T p d y _ (hs S hS) hok (hs2 S hS) hd hy) rfl rfl) | (exact fun env S hS => OpF.callV (Z := []) (EnF.st rfl (Args.cons rfl (Args.cons rfl Args.nil))) (compare_spec _ _ _) rfl rfl))))))
  intro env t ha hv
  refine ⟨_, ha.cons (hv 7 5 (Nat.le_of_ble_eq_true rfl) rfl), ?_⟩
  show X _ _ _ ((5, .int .i64 (cmpI (coF T d x) (coF T d y))) :: _) (⟨b4, 0, cCl y, some 23, 2⟩ :: ⟨b3, 0, cCl x, some 23, 2⟩ :: H) _
  repeat' (first | refine X.ret rfl ?_)
  refine ret_one (by first | exact .inr rfl | exact .inl rfl) Try.results127 rfl (H' := H) (by (repeat (first | exact List.Sublist.refl _ | apply List.Sublist.cons)); done) ?_; simp only [and_true, true_and]
end Go.Proofs.Ytcjlegjchllgjaa
end
section
set_option linter.unusedVariables false
set_option linter.unusedSimpArgs false
namespace Go.Proofs.Ytcjlegjchllgjaa
open Go Go.Fw
set_option maxRecDepth 10000
/-- the first thing whose number is the least -/
def bst (k : Cl → Int) : List Cl → Cl
  | [] => ⟨0, 0⟩
  | c :: l => l.foldl (fun b x => if k x < k b then x else b) c
theorem bst_one {k : Cl → Int} {l : List Cl} {x : Cl} (h : fnd l = false) : bst k (l ++ [x]) = x := by rw [fnd_false h]; rfl
theorem bst_snoc {k : Cl → Int} {l : List Cl} {x : Cl} (h : fnd l = true) : bst k (l ++ [x]) = if k x < k (bst k l) then x else bst k l := by
  cases l with
  | nil => cases h
  | cons c l =>
    show (l ++ [x]).foldl _ c = _
    rw [List.foldl_append]; rfl
theorem bst_foldl_mem {k : Cl → Int} : ∀ (l : List Cl) (c : Cl), l.foldl (fun b x => if k x < k b then x else b) c ∈ c :: l
  | [], c => List.mem_cons_self
  | y :: l, c => by
    rw [List.foldl_cons]
    have := bst_foldl_mem (k := k) l (if k y < k c then y else c)
    rcases List.mem_cons.1 this with h | h
    · rw [h]; split
      · exact List.mem_cons_of_mem _ List.mem_cons_self
      · exact List.mem_cons_self
    · exact List.mem_cons_of_mem _ (List.mem_cons_of_mem _ h)
theorem bst_mem {k : Cl → Int} {l : List Cl} (h : fnd l = true) : bst k l ∈ l := by
  cases l with
  | nil => cases h
  | cons c l => exact bst_foldl_mem l c
theorem cmpI_neg (a b : Int) : cmpI a b < 0 ↔ a < b := by
  unfold cmpI
  by_cases h : a < b
  · rw [if_pos h]; exact ⟨fun _ => h, fun _ => by decide⟩
  · rw [if_neg h]
    refine ⟨fun q => ?_, fun q => absurd q h⟩
    split at q <;> exact absurd q (by decide)
def tsF7 : List TOp := [⟨some 21, [], [], []⟩, ⟨some 22, [], [], []⟩, ⟨none, [0], [0], [4]⟩, ⟨some 5, [0, 1, 2], [1], []⟩, ⟨none, [], [], []⟩]
def valF7 (b3 b4 b6 b7 : Nat) (s : Bool) (c : Cl) (k : Nat) (env : Env) : Value :=
  match k with
  | 0 => .agg (cCl c).toArray
  | 1 => .bool s
  | 2 => undef
  | 3 => .bool s
  | _ => undef
def rowsF7 (b3 b4 b6 b7 : Nat) (s : Bool) (c : Cl) (k : Nat) (env : Env) : List Row :=
  match k with
  | 2 => [⟨b4, 0, cCl c, some 23, 2⟩]
  | 4 => [⟨b4, 0, cCl ⟨0, 0⟩, some 23, 2⟩]
  | _ => []
theorem locF7 (b3 b4 b6 b7 : Nat) (s : Bool) (c : Cl) : ∀ k env i q9, i ≠ k → (tAt tsF7 k).sup.contains i = false → valF7 b3 b4 b6 b7 s c k (upd env i q9) = valF7 b3 b4 b6 b7 s c k env ∧ rowsF7 b3 b4 b6 b7 s c k (upd env i q9) = rowsF7 b3 b4 b6 b7 s c k env := by
  intro k env i q hk hs
  have hu : ∀ j, j ≠ i → upd env i q j = env j := fun j hj => by unfold upd; rw [if_neg hj]
  match k, hk, hs with
  | 0, _, _ => exact ⟨rfl, rfl⟩
  | 1, _, _ => exact ⟨rfl, rfl⟩
  | 2, _, _ => exact ⟨rfl, rfl⟩
  | 3, _, _ => exact ⟨rfl, rfl⟩
  | 4, _, _ => exact ⟨rfl, rfl⟩
  | _ + 5, _, _ => exact ⟨rfl, rfl⟩
set_option maxHeartbeats 8000000 in
theorem first_spec (f g : Nat) (cap ocap : List Value) (E H0 : List Row) (xs : List Cl) (k : Cl → Int) (hI : Itf Try.prog f cap E xs (fun c => [.agg (cCl c).toArray]))
    (hg : ∀ x y, x ∈ xs → y ∈ xs → ∀ Y : List Row, (∀ r ∈ H0, r ∈ Y) → Fc Try.prog g ([.agg (cCl x).toArray, .agg (cCl y).toArray] ++ ocap) Y (fun v H' => v = .int .i64 (cmpI (k x) (k y)) ∧ H' = Y)) :
    Fc Try.prog 126 [.func (.func f) #[] cap.toArray, .func (.func g) #[] ocap.toArray] (H0 ++ E) (fun v H' => v = .tuple #[.agg (cCl (bst k xs)).toArray, .bool (fnd xs)] ∧ H' = H0 ++ E) := by
  refine Fc.mkT (callable Try.call126) Try.func126 rfl Try.ntmps126 rfl ?_
  dsimp only [fr]
  refine XT.seq rfl (XT.of0 ?_)
  repeat' (first | (refine XO.op rfl ?_; (first | ((first | refine Xo.ng rfl ?_ | (refine Xo.g rfl rfl ?_; with_reducible refine Xw.ff ?_)); (first | (refine Xg.ev (EvF.move rfl rfl) rfl rfl ?_) | (refine Xg.ev (EvF.assign rfl rfl) rfl rfl ?_) | (refine Xg.ev (EvF.pickT rfl rfl rfl) rfl rfl ?_) | (refine Xg.ev (EvF.not rfl rfl) rfl rfl ?_) | (refine Xg.ev (EvF.loadV rfl rfl (LoadV.own (te rfl) rfl (List.Mem.tail _ (List.Mem.head _)) rfl)) rfl rfl ?_) | (refine Xg.ev (EvF.loadV rfl rfl (LoadV.own (te rfl) rfl (List.Mem.tail _ (List.Mem.tail _ (List.Mem.tail _ (List.Mem.tail _ (List.Mem.head _))))) rfl)) rfl rfl ?_) | (refine Xg.ev (EvF.loadV rfl rfl (LoadV.whole (te rfl) rfl (List.Mem.head _) rfl)) rfl rfl ?_) | (refine Xg.ev (EvF.loadV rfl rfl (LoadV.whole (te rfl) rfl (List.Mem.tail _ (List.Mem.tail _ (List.Mem.head _))) rfl)) rfl rfl ?_) | (refine Xg.st (StF.boxOne rfl rfl rfl) rfl rfl ?_; rintro _ _ ⟨bx, rfl, rfl⟩) | (refine Xg.st (StF.alloc rfl Try.zeroValue26 rfl) rfl rfl ?_; rintro _ _ ⟨bx, rfl, rfl⟩) | (refine Xg.st (StF.alloc rfl Try.zeroValue4 rfl) rfl rfl ?_; rintro _ _ ⟨bx, rfl, rfl⟩) | (refine Xg.st0 (StF.storeOne (i := 0) rfl rfl rfl rfl (te rfl) rfl rfl (Nat.le_of_ble_eq_true rfl)) rfl ?_; rintro _ _ ⟨rfl, rfl⟩; dsimp only [List.set]) | (refine Xg.st0 (StF.storeAll (i := 0) rfl rfl rfl (te rfl) rfl rfl rfl rfl) rfl ?_; rintro _ _ ⟨rfl, rfl⟩; dsimp only [List.set]) | (refine Xg.st0 (StF.storeOne (i := 1) rfl rfl rfl rfl (te rfl) rfl rfl (Nat.le_of_ble_eq_true rfl)) rfl ?_; rintro _ _ ⟨rfl, rfl⟩; dsimp only [List.set]) | (refine Xg.st0 (StF.storeAll (i := 2) rfl rfl rfl (te rfl) rfl rfl rfl rfl) rfl ?_; rintro _ _ ⟨rfl, rfl⟩; dsimp only [List.set]))) | (refine Xo.g rfl rfl ?_; (first | (with_reducible refine Xw.tf rfl rfl ?_) | (with_reducible refine Xw.caseB (fun h => ?_) (fun h => ?_) <;> simp only [h, decide_true, decide_false, Bool.not_true, Bool.not_false, and_self, and_true, true_and, and_false, false_and]))))) | (refine XO.done rfl ?_; refine hK _ _ ?_; clear hK K) | refine X.seq rfl ?_ | refine X.region rfl (fun K hK => ?_) | refine X.block rfl ?_ | refine X.ret rfl ?_ | (refine X.ite rfl rfl (fun hc => ?_); (first | (with_reducible refine Xb.t hc ?_)) <;> clear hc))
  refine XT.seq rfl (XT.of0 ?_)
  repeat' (first | (refine XO.op rfl ?_; (first | ((first | refine Xo.ng rfl ?_ | (refine Xo.g rfl rfl ?_; with_reducible refine Xw.ff ?_)); (first | (refine Xg.ev (EvF.move rfl rfl) rfl rfl ?_) | (refine Xg.ev (EvF.assign rfl rfl) rfl rfl ?_) | (refine Xg.ev (EvF.pickT rfl rfl rfl) rfl rfl ?_) | (refine Xg.ev (EvF.not rfl rfl) rfl rfl ?_) | (refine Xg.ev (EvF.loadV rfl rfl (LoadV.own (te rfl) rfl (List.Mem.tail _ (List.Mem.head _)) rfl)) rfl rfl ?_) | (refine Xg.ev (EvF.loadV rfl rfl (LoadV.own (te rfl) rfl (List.Mem.tail _ (List.Mem.tail _ (List.Mem.tail _ (List.Mem.tail _ (List.Mem.head _))))) rfl)) rfl rfl ?_) | (refine Xg.ev (EvF.loadV rfl rfl (LoadV.whole (te rfl) rfl (List.Mem.head _) rfl)) rfl rfl ?_) | (refine Xg.ev (EvF.loadV rfl rfl (LoadV.whole (te rfl) rfl (List.Mem.tail _ (List.Mem.tail _ (List.Mem.head _))) rfl)) rfl rfl ?_) | (refine Xg.st (StF.boxOne rfl rfl rfl) rfl rfl ?_; rintro _ _ ⟨bx, rfl, rfl⟩) | (refine Xg.st (StF.alloc rfl Try.zeroValue26 rfl) rfl rfl ?_; rintro _ _ ⟨bx, rfl, rfl⟩) | (refine Xg.st (StF.alloc rfl Try.zeroValue4 rfl) rfl rfl ?_; rintro _ _ ⟨bx, rfl, rfl⟩) | (refine Xg.st0 (StF.storeOne (i := 0) rfl rfl rfl rfl (te rfl) rfl rfl (Nat.le_of_ble_eq_true rfl)) rfl ?_; rintro _ _ ⟨rfl, rfl⟩; dsimp only [List.set]) | (refine Xg.st0 (StF.storeAll (i := 0) rfl rfl rfl (te rfl) rfl rfl rfl rfl) rfl ?_; rintro _ _ ⟨rfl, rfl⟩; dsimp only [List.set]) | (refine Xg.st0 (StF.storeOne (i := 1) rfl rfl rfl rfl (te rfl) rfl rfl (Nat.le_of_ble_eq_true rfl)) rfl ?_; rintro _ _ ⟨rfl, rfl⟩; dsimp only [List.set]) | (refine Xg.st0 (StF.storeAll (i := 2) rfl rfl rfl (te rfl) rfl rfl rfl rfl) rfl ?_; rintro _ _ ⟨rfl, rfl⟩; dsimp only [List.set]))) | (refine Xo.g rfl rfl ?_; (first | (with_reducible refine Xw.tf rfl rfl ?_) | (with_reducible refine Xw.caseB (fun h => ?_) (fun h => ?_) <;> simp only [h, decide_true, decide_false, Bool.not_true, Bool.not_false, and_self, and_true, true_and, and_false, false_and]))))) | (refine XO.done rfl ?_; refine hK _ _ ?_; clear hK K) | refine X.seq rfl ?_ | refine X.region rfl (fun K hK => ?_) | refine X.block rfl ?_ | refine X.ret rfl ?_ | (refine X.ite rfl rfl (fun hc => ?_); (first | (with_reducible refine Xb.t hc ?_)) <;> clear hc))
  refine XT.seq rfl (XT.of0 ?_)
  repeat' (first | (refine XO.op rfl ?_; (first | ((first | refine Xo.ng rfl ?_ | (refine Xo.g rfl rfl ?_; with_reducible refine Xw.ff ?_)); (first | (refine Xg.ev (EvF.move rfl rfl) rfl rfl ?_) | (refine Xg.ev (EvF.assign rfl rfl) rfl rfl ?_) | (refine Xg.ev (EvF.pickT rfl rfl rfl) rfl rfl ?_) | (refine Xg.ev (EvF.not rfl rfl) rfl rfl ?_) | (refine Xg.ev (EvF.loadV rfl rfl (LoadV.own (te rfl) rfl (List.Mem.tail _ (List.Mem.head _)) rfl)) rfl rfl ?_) | (refine Xg.ev (EvF.loadV rfl rfl (LoadV.own (te rfl) rfl (List.Mem.tail _ (List.Mem.tail _ (List.Mem.tail _ (List.Mem.tail _ (List.Mem.head _))))) rfl)) rfl rfl ?_) | (refine Xg.ev (EvF.loadV rfl rfl (LoadV.whole (te rfl) rfl (List.Mem.head _) rfl)) rfl rfl ?_) | (refine Xg.ev (EvF.loadV rfl rfl (LoadV.whole (te rfl) rfl (List.Mem.tail _ (List.Mem.tail _ (List.Mem.head _))) rfl)) rfl rfl ?_) | (refine Xg.st (StF.boxOne rfl rfl rfl) rfl rfl ?_; rintro _ _ ⟨bx, rfl, rfl⟩) | (refine Xg.st (StF.alloc rfl Try.zeroValue26 rfl) rfl rfl ?_; rintro _ _ ⟨bx, rfl, rfl⟩) | (refine Xg.st (StF.alloc rfl Try.zeroValue4 rfl) rfl rfl ?_; rintro _ _ ⟨bx, rfl, rfl⟩) | (refine Xg.st0 (StF.storeOne (i := 0) rfl rfl rfl rfl (te rfl) rfl rfl (Nat.le_of_ble_eq_true rfl)) rfl ?_; rintro _ _ ⟨rfl, rfl⟩; dsimp only [List.set]) | (refine Xg.st0 (StF.storeAll (i := 0) rfl rfl rfl (te rfl) rfl rfl rfl rfl) rfl ?_; rintro _ _ ⟨rfl, rfl⟩; dsimp only [List.set]) | (refine Xg.st0 (StF.storeOne (i := 1) rfl rfl rfl rfl (te rfl) rfl rfl (Nat.le_of_ble_eq_true rfl)) rfl ?_; rintro _ _ ⟨rfl, rfl⟩; dsimp only [List.set]) | (refine Xg.st0 (StF.storeAll (i := 2) rfl rfl rfl (te rfl) rfl rfl rfl rfl) rfl ?_; rintro _ _ ⟨rfl, rfl⟩; dsimp only [List.set]))) | (refine Xo.g rfl rfl ?_; (first | (with_reducible refine Xw.tf rfl rfl ?_) | (with_reducible refine Xw.caseB (fun h => ?_) (fun h => ?_) <;> simp only [h, decide_true, decide_false, Bool.not_true, Bool.not_false, and_self, and_true, true_and, and_false, false_and]))))) | (refine XO.done rfl ?_; refine hK _ _ ?_; clear hK K) | refine X.seq rfl ?_ | refine X.region rfl (fun K hK => ?_) | refine X.block rfl ?_ | refine X.ret rfl ?_ | (refine X.ite rfl rfl (fun hc => ?_); (first | (with_reducible refine Xb.t hc ?_)) <;> clear hc))
  refine XT.seq rfl (XT.seq rfl (XT.of0 ?_))
  repeat' (first | (refine XO.op rfl ?_; (first | ((first | refine Xo.ng rfl ?_ | (refine Xo.g rfl rfl ?_; with_reducible refine Xw.ff ?_)); (first | (refine Xg.ev (EvF.move rfl rfl) rfl rfl ?_) | (refine Xg.ev (EvF.assign rfl rfl) rfl rfl ?_) | (refine Xg.ev (EvF.pickT rfl rfl rfl) rfl rfl ?_) | (refine Xg.ev (EvF.not rfl rfl) rfl rfl ?_) | (refine Xg.ev (EvF.loadV rfl rfl (LoadV.own (te rfl) rfl (List.Mem.tail _ (List.Mem.head _)) rfl)) rfl rfl ?_) | (refine Xg.ev (EvF.loadV rfl rfl (LoadV.own (te rfl) rfl (List.Mem.tail _ (List.Mem.tail _ (List.Mem.tail _ (List.Mem.tail _ (List.Mem.head _))))) rfl)) rfl rfl ?_) | (refine Xg.ev (EvF.loadV rfl rfl (LoadV.whole (te rfl) rfl (List.Mem.head _) rfl)) rfl rfl ?_) | (refine Xg.ev (EvF.loadV rfl rfl (LoadV.whole (te rfl) rfl (List.Mem.tail _ (List.Mem.tail _ (List.Mem.head _))) rfl)) rfl rfl ?_) | (refine Xg.st (StF.boxOne rfl rfl rfl) rfl rfl ?_; rintro _ _ ⟨bx, rfl, rfl⟩) | (refine Xg.st (StF.alloc rfl Try.zeroValue26 rfl) rfl rfl ?_; rintro _ _ ⟨bx, rfl, rfl⟩) | (refine Xg.st (StF.alloc rfl Try.zeroValue4 rfl) rfl rfl ?_; rintro _ _ ⟨bx, rfl, rfl⟩) | (refine Xg.st0 (StF.storeOne (i := 0) rfl rfl rfl rfl (te rfl) rfl rfl (Nat.le_of_ble_eq_true rfl)) rfl ?_; rintro _ _ ⟨rfl, rfl⟩; dsimp only [List.set]) | (refine Xg.st0 (StF.storeAll (i := 0) rfl rfl rfl (te rfl) rfl rfl rfl rfl) rfl ?_; rintro _ _ ⟨rfl, rfl⟩; dsimp only [List.set]) | (refine Xg.st0 (StF.storeOne (i := 1) rfl rfl rfl rfl (te rfl) rfl rfl (Nat.le_of_ble_eq_true rfl)) rfl ?_; rintro _ _ ⟨rfl, rfl⟩; dsimp only [List.set]) | (refine Xg.st0 (StF.storeAll (i := 2) rfl rfl rfl (te rfl) rfl rfl rfl rfl) rfl ?_; rintro _ _ ⟨rfl, rfl⟩; dsimp only [List.set]))) | (refine Xo.g rfl rfl ?_; (first | (with_reducible refine Xw.tf rfl rfl ?_) | (with_reducible refine Xw.caseB (fun h => ?_) (fun h => ?_) <;> simp only [h, decide_true, decide_false, Bool.not_true, Bool.not_false, and_self, and_true, true_and, and_false, false_and]))))) | (refine XO.done rfl ?_; refine hK _ _ ?_; clear hK K) | refine X.seq rfl ?_ | refine X.region rfl (fun K hK => ?_) | refine X.block rfl ?_ | refine X.ret rfl ?_ | (refine X.ite rfl rfl (fun hc => ?_); (first | (with_reducible refine Xb.t hc ?_)) <;> clear hc))
  refine XT.block rfl ?_
  rename_i b3 b4 b6
  obtain ⟨b7, hb7⟩ : ∃ b, b = bx := ⟨_, rfl⟩
  rw [← hb7]
  clear hb7
  refine XT.weak (F' := [(3, .pointer (some ⟨b3, 0, none⟩)), (4, .pointer (some ⟨b4, 0, none⟩)), (6, .pointer (some ⟨b6, 0, none⟩)), (7, .pointer (some ⟨b7, 0, none⟩)), (9, .func (.func f) #[] cap.toArray)]) (H' := ⟨b7, 0, [.bool false], some 4, 1⟩ :: ⟨b6, 0, cCl ⟨0, 0⟩, some 23, 2⟩ :: ⟨b4, 0, cCl ⟨0, 0⟩, some 23, 2⟩ :: ⟨b3, 0, [.func (.func g) #[] ocap.toArray], some 191, 1⟩ :: (H0 ++ E)) (by (repeat (first | exact Sub.nil _ | refine Sub.cons rfl ?_)); done) (by (repeat (first | exact List.Sublist.refl _ | apply List.Sublist.cons_cons | apply List.Sublist.cons)); done) ?_
  refine XT.range (ps := [10]) rfl rfl hI rfl (fun _ => rfl) (fun pre Hb => Hb = ⟨b7, 0, [.bool (fnd pre)], some 4, 1⟩ :: ⟨b6, 0, cCl (bst k pre), some 23, 2⟩ :: ⟨b4, 0, cCl ⟨0, 0⟩, some 23, 2⟩ :: ⟨b3, 0, [.func (.func g) #[] ocap.toArray], some 191, 1⟩ :: H0) (fun _ _ => False) _ rfl rfl ?_ ?_ (fun _ _ h => h.elim) (fun _ _ _ h => h.elim) (fun _ _ h => h.elim)
  · rintro pre x _ hpre rfl Z
    have hxm : x ∈ xs := hpre.subset (List.mem_append_right _ List.mem_cons_self)
    simp only [List.cons_append]
    repeat' (first | (refine XO.op rfl ?_; (first | ((first | refine Xo.ng rfl ?_ | (refine Xo.g rfl rfl ?_; with_reducible refine Xw.ff ?_)); (first | (refine Xg.ev (EvF.move rfl rfl) rfl rfl ?_) | (refine Xg.ev (EvF.assign rfl rfl) rfl rfl ?_) | (refine Xg.ev (EvF.pickT rfl rfl rfl) rfl rfl ?_) | (refine Xg.ev (EvF.not rfl rfl) rfl rfl ?_) | (refine Xg.ev (EvF.loadV rfl rfl (LoadV.own (te rfl) rfl (List.Mem.tail _ (List.Mem.head _)) rfl)) rfl rfl ?_) | (refine Xg.ev (EvF.loadV rfl rfl (LoadV.own (te rfl) rfl (List.Mem.tail _ (List.Mem.tail _ (List.Mem.tail _ (List.Mem.tail _ (List.Mem.head _))))) rfl)) rfl rfl ?_) | (refine Xg.ev (EvF.loadV rfl rfl (LoadV.whole (te rfl) rfl (List.Mem.head _) rfl)) rfl rfl ?_) | (refine Xg.ev (EvF.loadV rfl rfl (LoadV.whole (te rfl) rfl (List.Mem.tail _ (List.Mem.tail _ (List.Mem.head _))) rfl)) rfl rfl ?_) | (refine Xg.st (StF.boxOne rfl rfl rfl) rfl rfl ?_; rintro _ _ ⟨bx, rfl, rfl⟩) | (refine Xg.st (StF.alloc rfl Try.zeroValue26 rfl) rfl rfl ?_; rintro _ _ ⟨bx, rfl, rfl⟩) | (refine Xg.st (StF.alloc rfl Try.zeroValue4 rfl) rfl rfl ?_; rintro _ _ ⟨bx, rfl, rfl⟩) | (refine Xg.st0 (StF.storeOne (i := 0) rfl rfl rfl rfl (te rfl) rfl rfl (Nat.le_of_ble_eq_true rfl)) rfl ?_; rintro _ _ ⟨rfl, rfl⟩; dsimp only [List.set]) | (refine Xg.st0 (StF.storeAll (i := 0) rfl rfl rfl (te rfl) rfl rfl rfl rfl) rfl ?_; rintro _ _ ⟨rfl, rfl⟩; dsimp only [List.set]) | (refine Xg.st0 (StF.storeOne (i := 1) rfl rfl rfl rfl (te rfl) rfl rfl (Nat.le_of_ble_eq_true rfl)) rfl ?_; rintro _ _ ⟨rfl, rfl⟩; dsimp only [List.set]) | (refine Xg.st0 (StF.storeAll (i := 2) rfl rfl rfl (te rfl) rfl rfl rfl rfl) rfl ?_; rintro _ _ ⟨rfl, rfl⟩; dsimp only [List.set]))) | (refine Xo.g rfl rfl ?_; (first | (with_reducible refine Xw.tf rfl rfl ?_) | (with_reducible refine Xw.caseB (fun h => ?_) (fun h => ?_) <;> simp only [h, decide_true, decide_false, Bool.not_true, Bool.not_false, and_self, and_true, true_and, and_false, false_and]))))) | (refine XO.done rfl ?_; refine hK _ _ ?_; clear hK K) | refine X.seq rfl ?_ | refine X.region rfl (fun K hK => ?_) | refine X.block rfl ?_ | refine X.ret rfl ?_ | (refine X.ite rfl rfl (fun hc => ?_); (first | (with_reducible refine Xb.t hc ?_)) <;> clear hc))
    refine ⟨rfl, ⟨bx, 0, cCl x, some 23, 2⟩ :: ⟨b7, 0, [.bool (fnd pre)], some 4, 1⟩ :: ⟨b6, 0, cCl (bst k pre), some 23, 2⟩ :: ⟨b4, 0, cCl ⟨0, 0⟩, some 23, 2⟩ :: ⟨b3, 0, [.func (.func g) #[] ocap.toArray], some 191, 1⟩ :: H0, List.Sublist.refl _, fun Z' => ?_⟩
    simp only [List.cons_append]
    obtain ⟨o, ho⟩ : ∃ o, fnd pre = o := ⟨_, rfl⟩
    obtain ⟨b, hb⟩ : ∃ b, bst k pre = b := ⟨_, rfl⟩
    rw [ho, hb]
    cases o
    · repeat' (first | (refine XO.op rfl ?_; (first | ((first | refine Xo.ng rfl ?_ | (refine Xo.g rfl rfl ?_; with_reducible refine Xw.ff ?_)); (first | (refine Xg.ev (EvF.move rfl rfl) rfl rfl ?_) | (refine Xg.ev (EvF.assign rfl rfl) rfl rfl ?_) | (refine Xg.ev (EvF.pickT rfl rfl rfl) rfl rfl ?_) | (refine Xg.ev (EvF.not rfl rfl) rfl rfl ?_) | (refine Xg.ev (EvF.loadV rfl rfl (LoadV.own (te rfl) rfl (List.Mem.tail _ (List.Mem.head _)) rfl)) rfl rfl ?_) | (refine Xg.ev (EvF.loadV rfl rfl (LoadV.own (te rfl) rfl (List.Mem.tail _ (List.Mem.tail _ (List.Mem.tail _ (List.Mem.tail _ (List.Mem.head _))))) rfl)) rfl rfl ?_) | (refine Xg.ev (EvF.loadV rfl rfl (LoadV.whole (te rfl) rfl (List.Mem.head _) rfl)) rfl rfl ?_) | (refine Xg.ev (EvF.loadV rfl rfl (LoadV.whole (te rfl) rfl (List.Mem.tail _ (List.Mem.tail _ (List.Mem.head _))) rfl)) rfl rfl ?_) | (refine Xg.st (StF.boxOne rfl rfl rfl) rfl rfl ?_; rintro _ _ ⟨bx, rfl, rfl⟩) | (refine Xg.st (StF.alloc rfl Try.zeroValue26 rfl) rfl rfl ?_; rintro _ _ ⟨bx, rfl, rfl⟩) | (refine Xg.st (StF.alloc rfl Try.zeroValue4 rfl) rfl rfl ?_; rintro _ _ ⟨bx, rfl, rfl⟩) | (refine Xg.st0 (StF.storeOne (i := 0) rfl rfl rfl rfl (te rfl) rfl rfl (Nat.le_of_ble_eq_true rfl)) rfl ?_; rintro _ _ ⟨rfl, rfl⟩; dsimp only [List.set]) | (refine Xg.st0 (StF.storeAll (i := 0) rfl rfl rfl (te rfl) rfl rfl rfl rfl) rfl ?_; rintro _ _ ⟨rfl, rfl⟩; dsimp only [List.set]) | (refine Xg.st0 (StF.storeOne (i := 1) rfl rfl rfl rfl (te rfl) rfl rfl (Nat.le_of_ble_eq_true rfl)) rfl ?_; rintro _ _ ⟨rfl, rfl⟩; dsimp only [List.set]) | (refine Xg.st0 (StF.storeAll (i := 2) rfl rfl rfl (te rfl) rfl rfl rfl rfl) rfl ?_; rintro _ _ ⟨rfl, rfl⟩; dsimp only [List.set]))) | (refine Xo.g rfl rfl ?_; (first | (with_reducible refine Xw.tf rfl rfl ?_) | (with_reducible refine Xw.caseB (fun h => ?_) (fun h => ?_) <;> simp only [h, decide_true, decide_false, Bool.not_true, Bool.not_false, and_self, and_true, true_and, and_false, false_and]))))) | (refine XO.done rfl ?_; refine hK _ _ ?_; clear hK K) | refine X.seq rfl ?_ | refine X.region rfl (fun K hK => ?_) | refine X.block rfl ?_ | refine X.ret rfl ?_ | (refine X.ite rfl rfl (fun hc => ?_); (first | (with_reducible refine Xb.t hc ?_)) <;> clear hc))
      all_goals try (exfalso; contradiction)
      exact ⟨⟨b7, 0, [.bool true], some 4, 1⟩ :: ⟨b6, 0, cCl x, some 23, 2⟩ :: ⟨b4, 0, cCl ⟨0, 0⟩, some 23, 2⟩ :: ⟨b3, 0, [.func (.func g) #[] ocap.toArray], some 191, 1⟩ :: H0, List.sublist_cons_self _ _, by rw [fnd_snoc, bst_one ho]⟩
    · have hbm : b ∈ xs := by rw [← hb]; exact hpre.subset (List.mem_append_left _ (bst_mem ho))
      repeat' (first | (refine XO.op rfl ?_; (first | ((first | refine Xo.ng rfl ?_ | (refine Xo.g rfl rfl ?_; with_reducible refine Xw.ff ?_)); (first | (refine Xg.call (EnF.dyn0 rfl rfl (by (repeat (first | exact Args.nil | refine Args.cons rfl ?_)); done)) rfl rfl (hg x b hxm hbm _ (fun r hr => by repeat (first | exact List.mem_append_left _ hr | apply List.Mem.tail))) ?_; rintro _ H9 ⟨rfl, hH9⟩; subst H9) | (refine Xg.ev (EvF.move rfl rfl) rfl rfl ?_) | (refine Xg.ev (EvF.pickT rfl rfl rfl) rfl rfl ?_) | (refine Xg.ev (EvF.pickF rfl rfl rfl) rfl rfl ?_) | (refine Xg.ev (EvF.cmp rfl rfl rfl rfl) rfl rfl ?_) | (refine Xg.ev (EvF.not rfl rfl) rfl rfl ?_) | (refine Xg.ev (EvF.loadV rfl rfl (LoadV.own (te rfl) rfl (List.Mem.tail _ (List.Mem.head _)) rfl)) rfl rfl ?_) | (refine Xg.ev (EvF.loadV rfl rfl (LoadV.own (te rfl) rfl (List.Mem.tail _ (List.Mem.tail _ (List.Mem.tail _ (List.Mem.tail _ (List.Mem.head _))))) rfl)) rfl rfl ?_) | (refine Xg.ev (EvF.loadV rfl rfl (LoadV.whole (te rfl) rfl (List.Mem.head _) rfl)) rfl rfl ?_) | (refine Xg.ev (EvF.loadV rfl rfl (LoadV.whole (te rfl) rfl (List.Mem.tail _ (List.Mem.tail _ (List.Mem.head _))) rfl)) rfl rfl ?_) | (refine Xg.st0 (StF.storeOne (i := 1) rfl rfl rfl rfl (te rfl) rfl rfl (Nat.le_of_ble_eq_true rfl)) rfl ?_; rintro _ _ ⟨rfl, rfl⟩; dsimp only [List.set]) | (refine Xg.st0 (StF.storeAll (i := 2) rfl rfl rfl (te rfl) rfl rfl rfl rfl) rfl ?_; rintro _ _ ⟨rfl, rfl⟩; dsimp only [List.set]))) | (refine Xo.g rfl rfl ?_; (first | (with_reducible refine Xw.tf rfl rfl ?_) | (with_reducible refine Xw.caseB (fun h => ?_) (fun h => ?_) <;> simp only [h, decide_true, decide_false, Bool.not_true, Bool.not_false, and_self, and_true, true_and, and_false, false_and]))))) | (refine XO.done rfl ?_; refine hK _ _ ?_; clear hK K) | refine X.seq rfl ?_ | refine X.region rfl (fun K hK => ?_) | refine X.block rfl ?_ | refine X.skip rfl ?_ | (refine X.ite rfl rfl (fun hc => ?_); (first | (with_reducible refine Xb.t hc ?_) | (with_reducible refine Xb.case hc (fun h => ?_) (fun h => ?_))) <;> clear hc))
      all_goals try (exfalso; contradiction)
      · exact ⟨⟨b7, 0, [.bool true], some 4, 1⟩ :: ⟨b6, 0, cCl x, some 23, 2⟩ :: ⟨b4, 0, cCl ⟨0, 0⟩, some 23, 2⟩ :: ⟨b3, 0, [.func (.func g) #[] ocap.toArray], some 191, 1⟩ :: H0, List.sublist_cons_self _ _, by rw [fnd_snoc, bst_snoc ho, hb, if_pos ((cmpI_neg _ _).1 (by assumption))]⟩
      · exact ⟨⟨b7, 0, [.bool true], some 4, 1⟩ :: ⟨b6, 0, cCl b, some 23, 2⟩ :: ⟨b4, 0, cCl ⟨0, 0⟩, some 23, 2⟩ :: ⟨b3, 0, [.func (.func g) #[] ocap.toArray], some 191, 1⟩ :: H0, List.sublist_cons_self _ _, by rw [fnd_snoc, bst_snoc ho, hb, if_neg (fun q => absurd ((cmpI_neg _ _).2 q) (by assumption))]⟩
  · rintro D _ rfl
    refine XT.seq rfl (XT.of1 ?_)
    refine X.permH (H' := ⟨b4, 0, cCl ⟨0, 0⟩, some 23, 2⟩ :: ⟨b7, 0, [.bool (fnd xs)], some 4, 1⟩ :: ⟨b6, 0, cCl (bst k xs), some 23, 2⟩ :: ⟨b3, 0, [.func (.func g) #[] ocap.toArray], some 191, 1⟩ :: (H0 ++ E ++ [dRow D])) (by (repeat (first | exact List.Perm.refl _ | refine List.Perm.trans (List.Perm.cons _ ?_) (List.perm_middle (l₁ := [])).symm | refine List.Perm.trans (List.Perm.cons _ ?_) (List.perm_middle (l₁ := [_])).symm | refine List.Perm.trans (List.Perm.cons _ ?_) (List.perm_middle (l₁ := [_, _])).symm | refine List.Perm.trans (List.Perm.cons _ ?_) (List.perm_middle (l₁ := [_, _, _])).symm | refine List.Perm.trans (List.Perm.cons _ ?_) (List.perm_middle (l₁ := [_, _, _, _])).symm | refine List.Perm.trans (List.Perm.cons _ ?_) (List.perm_middle (l₁ := [_, _, _, _, _])).symm | refine List.Perm.trans (List.Perm.cons _ ?_) (List.perm_middle (l₁ := [_, _, _, _, _, _])).symm | refine List.Perm.trans (List.Perm.cons _ ?_) (List.perm_middle (l₁ := [_, _, _, _, _, _, _])).symm | refine List.Perm.trans (List.Perm.cons _ ?_) (List.perm_middle (l₁ := [_, _, _, _, _, _, _, _])).symm )); done) ?_
    refine X.regionOb tsF7 [3, 4, 6, 7] [(3, .pointer (some ⟨b3, 0, none⟩)), (4, .pointer (some ⟨b4, 0, none⟩)), (6, .pointer (some ⟨b6, 0, none⟩)), (7, .pointer (some ⟨b7, 0, none⟩))] (valF7 b3 b4 b6 b7 (fnd xs) (bst k xs)) (rowsF7 b3 b4 b6 b7 (fnd xs) (bst k xs)) (fun _ => (0, 0)) (⟨b7, 0, [.bool (fnd xs)], some 4, 1⟩ :: ⟨b6, 0, cCl (bst k xs), some 23, 2⟩ :: ⟨b3, 0, [.func (.func g) #[] ocap.toArray], some 191, 1⟩ :: (H0 ++ E ++ [dRow D])) rfl mixed (by (repeat (first | exact Sub.nil _ | refine Sub.cons rfl ?_)); done) rfl (by kernel_rfl) (locF7 b3 b4 b6 b7 (fnd xs) (bst k xs)) (List.Sublist.refl _) ?_ ?_
    · repeat' (first | exact AllF.done rfl | (refine AllF.step rfl ?_ ?_; · (first | fail | ((first | refine Ob.ng rfl ?_); (first | exact ObK.pure (fun env R hR => by exact ⟨_, EvF.assign rfl rfl, rfl⟩) rfl (fun _ => rfl) | exact ObK.pure (fun env R hR => by exact ⟨_, EvF.loadV rfl rfl (LoadV.own (te rfl) rfl (hR _ (List.Mem.head _)) rfl), rfl⟩) rfl (fun _ => rfl) | exact ObK.pure (fun env R hR => by exact ⟨_, EvF.loadV rfl rfl (LoadV.whole (te rfl) rfl (hR _ (List.Mem.tail _ (List.Mem.head _))) rfl), rfl⟩) rfl (fun _ => rfl) | (exact fun env S hS => (StF.storeAll (i := 0) (vs := cCl (bst k xs)) (cs := cCl ⟨0, 0⟩) rfl rfl rfl (te rfl) rfl rfl rfl rfl).op.mono (fun v H' ⟨hv, hH⟩ => ⟨(0, 0), fun h => absurd rfl h, by rw [hH]; exact List.Perm.refl _⟩)))))))
    intro env t ha hv
    refine ⟨_, ha.cons (hv 3 5 (Nat.le_of_ble_eq_true rfl) rfl), ?_⟩
    refine ⟨⟨b4, 0, cCl (bst k xs), some 23, 2⟩ :: ⟨b7, 0, [.bool (fnd xs)], some 4, 1⟩ :: ⟨b6, 0, cCl (bst k xs), some 23, 2⟩ :: ⟨b3, 0, [.func (.func g) #[] ocap.toArray], some 191, 1⟩ :: (H0 ++ E), List.Sublist.refl _, XT.of1 ?_⟩
    repeat' (first | (refine XO.op rfl ?_; (first | ((first | refine Xo.ng rfl ?_ | (refine Xo.g rfl rfl ?_; with_reducible refine Xw.ff ?_)); (first | (refine Xg.ev (EvF.move rfl rfl) rfl rfl ?_) | (refine Xg.ev (EvF.assign rfl rfl) rfl rfl ?_) | (refine Xg.ev (EvF.pickT rfl rfl rfl) rfl rfl ?_) | (refine Xg.ev (EvF.not rfl rfl) rfl rfl ?_) | (refine Xg.ev (EvF.loadV rfl rfl (LoadV.own (te rfl) rfl (List.Mem.tail _ (List.Mem.head _)) rfl)) rfl rfl ?_) | (refine Xg.ev (EvF.loadV rfl rfl (LoadV.own (te rfl) rfl (List.Mem.tail _ (List.Mem.tail _ (List.Mem.tail _ (List.Mem.tail _ (List.Mem.head _))))) rfl)) rfl rfl ?_) | (refine Xg.ev (EvF.loadV rfl rfl (LoadV.whole (te rfl) rfl (List.Mem.head _) rfl)) rfl rfl ?_) | (refine Xg.ev (EvF.loadV rfl rfl (LoadV.whole (te rfl) rfl (List.Mem.tail _ (List.Mem.tail _ (List.Mem.head _))) rfl)) rfl rfl ?_) | (refine Xg.st (StF.boxOne rfl rfl rfl) rfl rfl ?_; rintro _ _ ⟨bx, rfl, rfl⟩) | (refine Xg.st (StF.alloc rfl Try.zeroValue26 rfl) rfl rfl ?_; rintro _ _ ⟨bx, rfl, rfl⟩) | (refine Xg.st (StF.alloc rfl Try.zeroValue4 rfl) rfl rfl ?_; rintro _ _ ⟨bx, rfl, rfl⟩) | (refine Xg.st0 (StF.storeOne (i := 0) rfl rfl rfl rfl (te rfl) rfl rfl (Nat.le_of_ble_eq_true rfl)) rfl ?_; rintro _ _ ⟨rfl, rfl⟩; dsimp only [List.set]) | (refine Xg.st0 (StF.storeAll (i := 0) rfl rfl rfl (te rfl) rfl rfl rfl rfl) rfl ?_; rintro _ _ ⟨rfl, rfl⟩; dsimp only [List.set]) | (refine Xg.st0 (StF.storeOne (i := 1) rfl rfl rfl rfl (te rfl) rfl rfl (Nat.le_of_ble_eq_true rfl)) rfl ?_; rintro _ _ ⟨rfl, rfl⟩; dsimp only [List.set]) | (refine Xg.st0 (StF.storeAll (i := 2) rfl rfl rfl (te rfl) rfl rfl rfl rfl) rfl ?_; rintro _ _ ⟨rfl, rfl⟩; dsimp only [List.set]))) | (refine Xo.g rfl rfl ?_; (first | (with_reducible refine Xw.tf rfl rfl ?_) | (with_reducible refine Xw.caseB (fun h => ?_) (fun h => ?_) <;> simp only [h, decide_true, decide_false, Bool.not_true, Bool.not_false, and_self, and_true, true_and, and_false, false_and]))))) | (refine XO.done rfl ?_; refine hK _ _ ?_; clear hK K) | refine X.seq rfl ?_ | refine X.region rfl (fun K hK => ?_) | refine X.block rfl ?_ | refine X.ret rfl ?_ | (refine X.ite rfl rfl (fun hc => ?_); (first | (with_reducible refine Xb.t hc ?_)) <;> clear hc))
    exact ⟨⟨b4, 0, cCl (bst k xs), some 23, 2⟩ :: ⟨b7, 0, [.bool (fnd xs)], some 4, 1⟩ :: ⟨b6, 0, cCl (bst k xs), some 23, 2⟩ :: ⟨b3, 0, [.func (.func g) #[] ocap.toArray], some 191, 1⟩ :: (H0 ++ E), List.Sublist.refl _, retT_two (v := .agg (cCl (bst k xs)).toArray) (v' := .bool (fnd xs)) (by first | exact .inr rfl | exact .inl rfl) Try.results126 ⟨_, rfl, LoadV.whole (te rfl) rfl (List.Mem.head _) rfl⟩ rfl (H' := H0 ++ E) (by (repeat (first | exact List.Sublist.refl _ | apply List.Sublist.cons)); done) ⟨rfl, rfl⟩⟩
end Go.Proofs.Ytcjlegjchllgjaa
end
section
set_option linter.unusedVariables false
set_option linter.unusedSimpArgs false
namespace Go.Proofs.Ytcjlegjchllgjaa
open Go Go.Fw
set_option maxRecDepth 10000
def l9 : Lo := ⟨1, 9, 1, 9⟩
theorem inb9 : inb l9 := by unfold inb l9; decide
theorem cls_in9 {T : Tm} {c : Cl} (hc : c ∈ cls T l9) : in9 c := cls_in inb9 hc
theorem fnd_of_mem {l : List Cl} {c : Cl} (h : c ∈ l) : fnd l = true := by cases l with | nil => exact absurd h List.not_mem_nil | cons => rfl
theorem mem_cls {T : Tm} {l : Lo} {c : Cl} (hg : l.g1 ≤ c.g ∧ c.g ≤ l.g2) (hs : l.s1 ≤ c.s ∧ c.s ≤ l.s2) (hm : may T c = true) : c ∈ cls T l := by
  unfold cls clsI rowC
  refine List.mem_flatMap.2 ⟨c.g, ?_, List.mem_filter.2 ⟨List.mem_map.2 ⟨c.s, ?_, rfl⟩, hm⟩⟩
  · unfold ir
    refine List.mem_map.2 ⟨(c.g - l.g1).toNat, List.mem_range.2 (by omega), by omega⟩
  · unfold ir
    refine List.mem_map.2 ⟨(c.s - l.s1).toNat, List.mem_range.2 (by omega), by omega⟩
theorem fnd9 {T : Tm} (h : tmOk T) : fnd (cls T l9) = true := by
  have h1 := h.cls
  refine fnd_of_mem (c := ⟨1, 9⟩) (mem_cls ⟨by decide, by decide⟩ ⟨by decide, by decide⟩ ?_)
  unfold may
  exact decide_eq_true (by dsimp only; omega)
/-- the cheapest class -/
def chp (T : Tm) (d : Dy) : Cl := bst (coF T d) (cls T l9)
theorem chp_in9 {T : Tm} (h : tmOk T) (d : Dy) : in9 (chp T d) := cls_in9 (bst_mem (fnd9 h))
theorem firstC_spec (T : Tm) (p : Pt) (d : Dy) (bl bo b3 cap : Nat) (ow : Option Kd) (S : List Row) (hm : ⟨b3, 0, [fMk T p d], ow, cap⟩ ∈ S) (hT : TmOk S T p) (hok : tmOk T) (hD : DyOk S d) (hd : dayOk d) :
    Fc Try.prog 126 [.func (.func 115) #[] #[.pointer (some ⟨bl, 0, none⟩), .pointer (some ⟨bo, 0, none⟩)], .func (.func 127) #[] #[.pointer (some ⟨b3, 0, none⟩)]] (⟨bl, 0, cLo l9, some 105, 4⟩ :: ⟨bo, 0, cTm T p, some 111, 11⟩ :: S)
      (fun v H' => v = .tuple #[.agg (cCl (chp T d)).toArray, .bool true] ∧ H' = S ++ [⟨bl, 0, cLo l9, some 105, 4⟩, ⟨bo, 0, cTm T p, some 111, 11⟩]) := by
  have h := first_spec 115 127 [.pointer (some ⟨bl, 0, none⟩), .pointer (some ⟨bo, 0, none⟩)] [.pointer (some ⟨b3, 0, none⟩)] [⟨bl, 0, cLo l9, some 105, 4⟩, ⟨bo, 0, cTm T p, some 111, 11⟩] S (cls T l9) (coF T d)
    (classes1_it T p l9 bl bo 4 11 _ _ _ (List.Mem.head _) (List.Mem.tail _ (List.Mem.head _)) (by unfold l9; decide))
    (fun x y hx hy Y hY => cheapest1_spec T p d x y b3 cap ow Y (hY _ hm) (hT.sub hY) hok (hD.sub hY) hd (cls_in9 hx) (cls_in9 hy))
  rw [fnd9 hok] at h
  exact h.permR (List.perm_append_comm (l₁ := S) (l₂ := [_, _]))
def tsCa : List TOp := [⟨some 9, [], [], []⟩, ⟨some 10, [], [], []⟩, ⟨some 11, [1], [], []⟩, ⟨some 12, [1, 2], [1, 2], []⟩, ⟨some 13, [0, 1, 2, 3], [0, 3], []⟩, ⟨some 14, [], [], []⟩, ⟨some 15, [0, 1, 2, 3, 4, 5], [4, 5], [4]⟩, ⟨some 8, [0, 1, 2, 3, 4, 5, 6], [6], []⟩, ⟨some 16, [0, 1, 2, 3, 4, 5, 6, 7], [7], []⟩, ⟨some 17, [0, 1, 2, 3, 4, 5, 6, 7], [7], []⟩, ⟨some 6, [], [], []⟩, ⟨none, [0, 1, 2, 3, 4, 5, 6, 7, 8, 10], [10, 8], [10]⟩, ⟨some 7, [0, 1, 2, 3, 4, 5, 6, 7, 8, 9, 10, 11], [9], []⟩]
def valCa (b2 b3 b4 : Nat) (T : Tm) (p : Pt) (x : Cl) (s : Bool) (k : Nat) (env : Env) : Value :=
  match k with
  | 0 => .agg (cTm T p).toArray
  | 1 => .agg (cSp ⟨1, 9⟩).toArray
  | 2 => .agg (cSp ⟨1, 9⟩).toArray
  | 3 => .agg (cLo l9).toArray
  | 4 => .func (.func 115) #[] #[.pointer (some ⟨(env 4).1, 0, none⟩), .pointer (some ⟨(env 4).2, 0, none⟩)]
  | 5 => .func (.func 127) #[] #[.pointer (some ⟨b3, 0, none⟩)]
  | 6 => .tuple #[.agg (cCl x).toArray, .bool s]
  | 7 => .tuple #[.agg (cCl x).toArray, .bool s]
  | 8 => .agg (cCl x).toArray
  | 9 => .bool s
  | 10 => .pointer (some ⟨(env 10).1, 0, none⟩)
  | 11 => undef
  | 12 => .bool s
  | _ => undef
def rowsCa (b2 b3 b4 : Nat) (T : Tm) (p : Pt) (x : Cl) (s : Bool) (k : Nat) (env : Env) : List Row :=
  match k with
  | 4 => [⟨(env 4).1, 0, cLo l9, some 105, 4⟩, ⟨(env 4).2, 0, cTm T p, some 111, 11⟩]
  | 6 => [⟨(env 4).1, 0, cLo l9, some 105, 4⟩, ⟨(env 4).2, 0, cTm T p, some 111, 11⟩]
  | 10 => [⟨(env 10).1, 0, cCl ⟨0, 0⟩, some 23, 2⟩]
  | 11 => [⟨(env 10).1, 0, cCl x, some 23, 2⟩]
  | _ => []
theorem locCa (b2 b3 b4 : Nat) (T : Tm) (p : Pt) (x : Cl) (s : Bool) : ∀ k env i q9, i ≠ k → (tAt tsCa k).sup.contains i = false → valCa b2 b3 b4 T p x s k (upd env i q9) = valCa b2 b3 b4 T p x s k env ∧ rowsCa b2 b3 b4 T p x s k (upd env i q9) = rowsCa b2 b3 b4 T p x s k env := by
  intro k env i q hk hs
  have hu : ∀ j, j ≠ i → upd env i q j = env j := fun j hj => by unfold upd; rw [if_neg hj]
  match k, hk, hs with
  | 0, _, _ => exact ⟨rfl, rfl⟩
  | 1, _, _ => exact ⟨rfl, rfl⟩
  | 2, _, _ => exact ⟨rfl, rfl⟩
  | 3, _, _ => exact ⟨rfl, rfl⟩
  | 4, hk, hs => exact ⟨by simp only [valCa, hu 4 (fun e => hk e.symm)], by simp only [rowsCa, hu 4 (fun e => hk e.symm)]⟩
  | 5, _, _ => exact ⟨rfl, rfl⟩
  | 6, hk, hs => exact ⟨by simp only [valCa, hu 4 (by rintro rfl; cases hs)], by simp only [rowsCa, hu 4 (by rintro rfl; cases hs)]⟩
  | 7, _, _ => exact ⟨rfl, rfl⟩
  | 8, _, _ => exact ⟨rfl, rfl⟩
  | 9, _, _ => exact ⟨rfl, rfl⟩
  | 10, hk, hs => exact ⟨by simp only [valCa, hu 10 (fun e => hk e.symm)], by simp only [rowsCa, hu 10 (fun e => hk e.symm)]⟩
  | 11, hk, hs => exact ⟨by simp only [valCa, hu 10 (by rintro rfl; cases hs)], by simp only [rowsCa, hu 10 (by rintro rfl; cases hs)]⟩
  | 12, _, _ => exact ⟨rfl, rfl⟩
  | _ + 13, _, _ => exact ⟨rfl, rfl⟩
def tsCb : List TOp := [⟨some 18, [], [], []⟩, ⟨some 19, [], [], []⟩, ⟨some 20, [], [], []⟩, ⟨some 21, [1, 2], [1, 2], []⟩, ⟨none, [0, 1, 2, 3], [0], [6]⟩, ⟨some 5, [0, 1, 2, 3, 4], [3], []⟩, ⟨none, [], [], []⟩]
def valCb (b2 b3 b4 b6 : Nat) (w : Value) (x : Cl) (n : Int) (k : Nat) (env : Env) : Value :=
  match k with
  | 0 => .agg (cCl x).toArray
  | 1 => w
  | 2 => .agg (cCl x).toArray
  | 3 => .int .i64 n
  | 4 => undef
  | 5 => .int .i64 n
  | _ => undef
def rowsCb (b2 b3 b4 b6 : Nat) (w : Value) (x : Cl) (n : Int) (k : Nat) (env : Env) : List Row :=
  match k with
  | 4 => [⟨b4, 0, cCl x, some 23, 2⟩]
  | 6 => [⟨b4, 0, cCl ⟨0, 0⟩, some 23, 2⟩]
  | _ => []
theorem locCb (b2 b3 b4 b6 : Nat) (w : Value) (x : Cl) (n : Int) : ∀ k env i q9, i ≠ k → (tAt tsCb k).sup.contains i = false → valCb b2 b3 b4 b6 w x n k (upd env i q9) = valCb b2 b3 b4 b6 w x n k env ∧ rowsCb b2 b3 b4 b6 w x n k (upd env i q9) = rowsCb b2 b3 b4 b6 w x n k env := by
  intro k env i q hk hs
  have hu : ∀ j, j ≠ i → upd env i q j = env j := fun j hj => by unfold upd; rw [if_neg hj]
  match k, hk, hs with
  | 0, _, _ => exact ⟨rfl, rfl⟩
  | 1, _, _ => exact ⟨rfl, rfl⟩
  | 2, _, _ => exact ⟨rfl, rfl⟩
  | 3, _, _ => exact ⟨rfl, rfl⟩
  | 4, _, _ => exact ⟨rfl, rfl⟩
  | 5, _, _ => exact ⟨rfl, rfl⟩
  | 6, _, _ => exact ⟨rfl, rfl⟩
  | _ + 7, _, _ => exact ⟨rfl, rfl⟩
set_option maxHeartbeats 8000000 in
theorem kcheap_spec (T : Tm) (p : Pt) (d : Dy) (H : List Row) (hT : TmOk H T p) (hok : tmOk T) (hD : DyOk H d) (hd : dayOk d) :
    Fc Try.prog 90 [.agg (cTm T p).toArray, fMk T p d] H (fun v H' => v = .tuple #[.agg (cCl (chp T d)).toArray, .int .i64 (coF T d (chp T d))] ∧ H' = H) := by
  have hf := fnd9 hok
  have hin := chp_in9 hok d
  refine Fc.mk (callable Try.call90) Try.func90 rfl Try.ntmps90 rfl ?_; dsimp only [fr]
  refine X.seq rfl ?_; refine X.region rfl (fun K hK => ?_); repeat' (first | (refine XO.op rfl ?_; (first | ((first | refine Xo.ng rfl ?_); (first | (refine Xg.ev (EvF.assign rfl rfl) rfl rfl ?_) | (refine Xg.st (StF.boxAgg rfl rfl) rfl rfl ?_; rintro _ _ ⟨bx, rfl, rfl⟩) | (refine Xg.st (StF.boxOne rfl rfl rfl) rfl rfl ?_; rintro _ _ ⟨bx, rfl, rfl⟩) | (refine Xg.st (StF.alloc rfl Try.zeroValue26 rfl) rfl rfl ?_; rintro _ _ ⟨bx, rfl, rfl⟩))))) | (refine XO.done rfl ?_; refine hK _ _ ?_; clear hK K))
  rename_i b2 b3; rename Nat => b4
  refine X.seq rfl ?_
  refine X.regionOb tsCa [2, 3, 4] [(2, .pointer (some ⟨b2, 0, none⟩)), (3, .pointer (some ⟨b3, 0, none⟩)), (4, .pointer (some ⟨b4, 0, none⟩))] (valCa b2 b3 b4 T p (chp T d) true) (rowsCa b2 b3 b4 T p (chp T d) true) (fun _ => (0, 0)) (⟨b4, 0, cCl ⟨0, 0⟩, some 23, 2⟩ :: ⟨b3, 0, [fMk T p d], some 119, 1⟩ :: ⟨b2, 0, cTm T p, some 111, 11⟩ :: H) rfl mixed (by (repeat (first | exact Sub.nil _ | refine Sub.cons rfl ?_)); done) rfl (by kernel_rfl) (locCa b2 b3 b4 T p (chp T d) true) (List.Sublist.refl _) ?_ ?_
  · have hs : ∀ (Y : List Row), (∀ r ∈ ⟨b4, 0, cCl ⟨0, 0⟩, some 23, 2⟩ :: ⟨b3, 0, [fMk T p d], some 119, 1⟩ :: ⟨b2, 0, cTm T p, some 111, 11⟩ :: H, r ∈ Y) → TmOk Y T p := fun S hS => hT.sub (fun r hr => hS r (List.mem_append_right [_, _, _] hr))
    have hs2 : ∀ (Y : List Row), (∀ r ∈ ⟨b4, 0, cCl ⟨0, 0⟩, some 23, 2⟩ :: ⟨b3, 0, [fMk T p d], some 119, 1⟩ :: ⟨b2, 0, cTm T p, some 111, 11⟩ :: H, r ∈ Y) → DyOk Y d := fun S hS => hD.sub (fun r hr => hS r (List.mem_append_right [_, _, _] hr))
    repeat' (first | exact AllF.done rfl | (refine AllF.step rfl ?_ ?_; · (first | fail | ((first | refine Ob.ng rfl ?_); (first | exact ObK.pure (fun env R hR => by exact ⟨_, EvF.move rfl rfl, rfl⟩) rfl (fun _ => rfl) | exact ObK.pure (fun env R hR => by exact ⟨_, EvF.assign rfl rfl, rfl⟩) rfl (fun _ => rfl) | exact ObK.pure (fun env R hR => by exact ⟨_, EvF.loadV rfl rfl (LoadV.whole (te rfl) rfl (hR _ (List.Mem.tail _ (List.Mem.tail _ (List.Mem.head _)))) rfl), rfl⟩) rfl (fun _ => rfl) | (exact ObK.pure (fun env S hS => ⟨_, EvF.build (cs := cLo l9) rfl (ArgsP.cons rfl (ArgsP.cons rfl ArgsP.nil)) (te rfl) (Places.cons (te rfl) (Places.cons (te rfl) Places.nil)) Try.zeroValue105 rfl, rfl⟩) rfl (fun _ => rfl)) | (exact ObK.pure (fun env S hS => ⟨_, EvF.makeFunc (fl := []) rfl Args.nil (Args.cons rfl Args.nil), rfl⟩) rfl (fun _ => rfl)) | (exact ObK.pure (fun env S hS => ⟨_, EvF.extract rfl rfl rfl, rfl⟩) rfl (fun _ => rfl)) | (exact fun env S hS => OpF.callV (Z := []) (EnF.st rfl Args.nil) (anyGrade_spec _) rfl rfl) | (exact fun env S hS => OpF.callV (Z := []) (EnF.st rfl Args.nil) (anyStaple_spec _) rfl rfl) | (exact fun env S hS => (OpF.call (EnF.st rfl (Args.cons rfl (Args.cons rfl Args.nil))) (classes_spec T p l9 _)).mono (fun v H' ⟨x, y, hv, hH⟩ => ⟨(x, y), fun _ => hv, by rw [hH]; exact List.Perm.refl _⟩)) | (exact fun env S hS => (OpF.call (EnF.st rfl (Args.cons rfl (Args.cons rfl Args.nil))) (firstC_spec T p d (env 4).1 (env 4).2 b3 _ _ S (hS _ (List.Mem.tail _ (List.Mem.head _))) (hs S hS) hok (hs2 S hS) hd)).mono (fun v H' ⟨hv, hH⟩ => ⟨(0, 0), fun _ => hv, by rw [hH]; exact List.perm_append_comm⟩)) | (exact fun env S hS => (StF.alloc rfl Try.zeroValue23 rfl).op.mono (fun v H' ⟨b, hv, hH⟩ => ⟨(b, 0), fun _ => hv, by rw [hH]; exact List.Perm.refl _⟩)) | (exact fun env S hS => (StF.storeAll (i := 0) (vs := cCl (chp T d)) (cs := cCl ⟨0, 0⟩) rfl rfl rfl (te rfl) rfl rfl rfl rfl).op.mono (fun v H' ⟨hv, hH⟩ => ⟨(0, 0), fun h => absurd rfl h, by rw [hH]; exact List.Perm.refl _⟩)))))))
  intro env t ha hv
  refine ⟨_, ha.cons (hv 10 6 (Nat.le_of_ble_eq_true rfl) rfl), ?_⟩
  clear hv ha
  show X _ _ _ ((6, .pointer (some ⟨(env 10).1, 0, none⟩)) :: _) (⟨(env 4).1, 0, cLo l9, some 105, 4⟩ :: ⟨(env 4).2, 0, cTm T p, some 111, 11⟩ :: ⟨(env 10).1, 0, cCl (chp T d), some 23, 2⟩ :: ⟨b4, 0, cCl ⟨0, 0⟩, some 23, 2⟩ :: ⟨b3, 0, [fMk T p d], some 119, 1⟩ :: ⟨b2, 0, cTm T p, some 111, 11⟩ :: H) _
  refine X.weakR (H' := ⟨(env 10).1, 0, cCl (chp T d), some 23, 2⟩ :: ⟨b4, 0, cCl ⟨0, 0⟩, some 23, 2⟩ :: ⟨b3, 0, [fMk T p d], some 119, 1⟩ :: ⟨b2, 0, cTm T p, some 111, 11⟩ :: H) (by (repeat (first | exact List.Sublist.refl _ | apply List.Sublist.cons_cons | apply List.Sublist.cons)); done) ?_
  refine X.permH (H' := ⟨b4, 0, cCl ⟨0, 0⟩, some 23, 2⟩ :: ⟨(env 10).1, 0, cCl (chp T d), some 23, 2⟩ :: ⟨b3, 0, [fMk T p d], some 119, 1⟩ :: ⟨b2, 0, cTm T p, some 111, 11⟩ :: H) (List.Perm.swap _ _ _) ?_
  refine X.seq rfl ?_
  refine X.regionOb tsCb [2, 3, 4, 6] [(2, .pointer (some ⟨b2, 0, none⟩)), (3, .pointer (some ⟨b3, 0, none⟩)), (4, .pointer (some ⟨b4, 0, none⟩)), (6, .pointer (some ⟨(env 10).1, 0, none⟩))] (valCb b2 b3 b4 (env 10).1 (fMk T p d) (chp T d) (coF T d (chp T d))) (rowsCb b2 b3 b4 (env 10).1 (fMk T p d) (chp T d) (coF T d (chp T d))) (fun _ => (0, 0)) (⟨(env 10).1, 0, cCl (chp T d), some 23, 2⟩ :: ⟨b3, 0, [fMk T p d], some 119, 1⟩ :: ⟨b2, 0, cTm T p, some 111, 11⟩ :: H) rfl mixed (by (repeat (first | exact Sub.nil _ | refine Sub.cons rfl ?_)); done) rfl (by kernel_rfl) (locCb b2 b3 b4 (env 10).1 (fMk T p d) (chp T d) (coF T d (chp T d))) (List.Sublist.refl _) ?_ ?_
  · have hs : ∀ (Y : List Row), (∀ r ∈ ⟨(env 10).1, 0, cCl (chp T d), some 23, 2⟩ :: ⟨b3, 0, [fMk T p d], some 119, 1⟩ :: ⟨b2, 0, cTm T p, some 111, 11⟩ :: H, r ∈ Y) → TmOk Y T p := fun S hS => hT.sub (fun r hr => hS r (List.mem_append_right [_, _, _] hr))
    have hs2 : ∀ (Y : List Row), (∀ r ∈ ⟨(env 10).1, 0, cCl (chp T d), some 23, 2⟩ :: ⟨b3, 0, [fMk T p d], some 119, 1⟩ :: ⟨b2, 0, cTm T p, some 111, 11⟩ :: H, r ∈ Y) → DyOk Y d := fun S hS => hD.sub (fun r hr => hS r (List.mem_append_right [_, _, _] hr))
    repeat' (first | exact AllF.done rfl | (refine AllF.step rfl ?_ ?_; · (first | fail | ((first | refine Ob.ng rfl ?_); (first | exact ObK.pure (fun env R hR => by exact ⟨_, EvF.assign rfl rfl, rfl⟩) rfl (fun _ => rfl) | exact ObK.pure (fun env R hR => by exact ⟨_, EvF.loadV rfl rfl (LoadV.own (te rfl) rfl (hR _ (List.Mem.tail _ (List.Mem.head _))) rfl), rfl⟩) rfl (fun _ => rfl) | exact ObK.pure (fun env R hR => by exact ⟨_, EvF.loadV rfl rfl (LoadV.whole (te rfl) rfl (hR _ (List.Mem.head _)) rfl), rfl⟩) rfl (fun _ => rfl) | (exact fun env S hS => OpF.callV (Z := []) (EnF.dyn (first := [.agg (cMk T p d).toArray]) (cap := []) rfl rfl (Args.cons rfl Args.nil)) (costs_spec T p d (chp T d) _ (hs S hS) hok (hs2 S hS) hd hin) rfl rfl) | (exact fun env S hS => (StF.storeAll (i := 0) (vs := cCl (chp T d)) (cs := cCl ⟨0, 0⟩) rfl rfl rfl (te rfl) rfl rfl rfl rfl).op.mono (fun v H' ⟨hv, hH⟩ => ⟨(0, 0), fun h => absurd rfl h, by rw [hH]; exact List.Perm.refl _⟩)))))))
  intro env2 t2 ha2 hv2
  refine ⟨_, ha2.cons (hv2 5 5 (Nat.le_of_ble_eq_true rfl) rfl), ?_⟩
  clear hv2 ha2
  show X _ _ _ ((5, .int .i64 (coF T d (chp T d))) :: _) (⟨b4, 0, cCl (chp T d), some 23, 2⟩ :: ⟨(env 10).1, 0, cCl (chp T d), some 23, 2⟩ :: ⟨b3, 0, [fMk T p d], some 119, 1⟩ :: ⟨b2, 0, cTm T p, some 111, 11⟩ :: H) _
  repeat' (first | refine X.ret rfl ?_)
  exact ret_two (v := .agg (cCl (chp T d)).toArray) (by first | exact .inr rfl | exact .inl rfl) Try.results90 ⟨_, rfl, LoadV.whole (te rfl) rfl (List.Mem.head _) rfl⟩ rfl (H' := H) (by (repeat (first | exact List.Sublist.refl _ | apply List.Sublist.cons)); done) ⟨rfl, rfl⟩
end Go.Proofs.Ytcjlegjchllgjaa
end
section
set_option linter.unusedVariables false
set_option linter.unusedSimpArgs false
namespace Go.Proofs.Ytcjlegjchllgjaa
open Go Go.Fw
set_option maxRecDepth 10000
theorem rtermsF (T : Tm) (p : Pt) (h : ¬ tmOk T) (H : List Row) (hT : TmOk H T p) : Fc Try.prog 66 [.agg (cTm T p).toArray] H (fun v H' => v = .bool false ∧ H' = H) := by
  have := rterms_spec T p H hT
  rwa [decide_eq_false h] at this
theorem rtermsT (T : Tm) (p : Pt) (h : tmOk T) (H : List Row) (hT : TmOk H T p) : Fc Try.prog 66 [.agg (cTm T p).toArray] H (fun v H' => v = .bool true ∧ H' = H) := by
  have := rterms_spec T p H hT
  rwa [decide_eq_true h] at this
end Go.Proofs.Ytcjlegjchllgjaa
end
section
set_option linter.unusedVariables false
set_option linter.unusedSimpArgs false
namespace Go.Proofs.Ytcjlegjchllgjaa
open Go Go.Fw
set_option maxRecDepth 10000
theorem elDy : ElT Try.prog 76 65 3 56 := ⟨Try.underlying76, Try.t65, .agg #[.int .i64 0, .slice none 0 0, .slice none 0 0], by kernel_rfl, by kernel_rfl, by kernel_rfl, by kernel_rfl, rfl⟩
theorem coF_bd {T : Tm} {d : Dy} (hok : tmOk T) (hd : dayOk d) {c : Cl} (hc : in9 c) : -1002000 ≤ coF T d c ∧ coF T d c ≤ 1004000 := by
  have := dco_bd hd hc
  have := val_bd hok c.g c.s
  unfold coF; omega
end Go.Proofs.Ytcjlegjchllgjaa
end
section
set_option linter.unusedVariables false
set_option linter.unusedSimpArgs false
namespace Go.Proofs.Ytcjlegjchllgjaa
open Go Go.Fw
set_option maxRecDepth 10000
set_option maxHeartbeats 4000000 in
theorem rcosts_spec (d : Dy) (c : Cl) (H : List Row) (hD : DyOk H d) (hG : tab d.G) (hS : tab d.S) (hp : 0 ≤ d.price ∧ d.price ≤ 1000000) (hc : in9 c) :
    Fc Try.prog 96 [.agg (cDy d).toArray, .agg (cCl c).toArray] H (fun v H' => v = .int .i64 (dco d c) ∧ H' = H) := by
  have h1 := at1_get hc.1 hG.1
  have h2 := at1_get hc.2 hS.1
  have q1 := hG.at1 hc.1
  have q2 := hS.at1 hc.2
  have lg := hG.1
  have ls := hS.1
  have hc1 := hc.1
  have hc2 := hc.2
  obtain ⟨b1, o1, e1, he1, _⟩ := hD.gr.elem (i := 0) (by omega)
  obtain ⟨b2, o2, e2, he2, _⟩ := hD.st.elem (i := 0) (by omega)
  have hD2 : ∀ Z : List Row, DyOk (Z ++ H) d := fun Z => hD.sub (fun _ h => List.mem_append_right _ h)
  obtain ⟨pr, G, S, a1, c1, a2, c2⟩ := d
  simp only at he1 he2 h1 h2 q1 q2 lg ls hp
  subst he1 he2
  unfold dco at *
  dsimp only at *
  show Fc Try.prog 96 [.agg ([.int .i64 pr, .slice (some ⟨b1, o1, none⟩) G.length c1, .slice (some ⟨b2, o2, none⟩) S.length c2] : List Value).toArray, .agg (cCl c).toArray] H _
  refine Fc.mk (callable Try.call96) Try.func96 rfl Try.ntmps96 rfl ?_; dsimp only [fr]
  repeat' (first | (refine XO.op rfl ?_; (first | ((first | refine Xo.ng rfl ?_); (first | (refine Xg.ev (EvF.assign rfl rfl) rfl rfl ?_) | (refine Xg.st (StF.boxAgg rfl rfl) rfl rfl ?_; rintro _ _ ⟨bx, rfl, rfl⟩))))) | (refine XO.done rfl ?_; refine hK _ _ ?_; clear hK K) | (refine XQ.op rfl ?_; (first | ((first | refine Yo.ng rfl ?_); (first | (refine Yg.ev (EvF.indexSlice rfl rfl rfl (te rfl) (te rfl) (by omega) (by omega)) rfl rfl ?_) | (refine Yg.ev (EvF.loadV rfl rfl (LoadV.el0 (hD2 [_, _]).gr h1 (te rfl) rfl (fun _ hm => hm) rfl)) rfl rfl ?_) | (refine Yg.ev (EvF.loadV rfl rfl (LoadV.el0 (hD2 [_, _]).st h2 (te rfl) rfl (fun _ hm => hm) rfl)) rfl rfl ?_) | (refine Yg.ev (EvF.assign rfl rfl) rfl rfl ?_) | (refine Yg.ev (EvF.add64 rfl rfl rfl (by omega) (by omega)) rfl rfl ?_) | (refine Yg.ev (EvF.sub64 rfl rfl rfl (by omega) (by omega)) rfl rfl ?_) | (refine Yg.ev (EvF.fieldAddr rfl rfl (te rfl) rfl (te rfl) (by decide)) rfl rfl ?_) | (refine Yg.ev (EvF.loadV rfl rfl (LoadV.own (te rfl) rfl (List.Mem.head _) rfl)) rfl rfl ?_) | (refine Yg.ev (EvF.loadV rfl rfl (LoadV.own (te rfl) rfl (List.Mem.tail _ (List.Mem.head _)) rfl)) rfl rfl ?_))))) | (refine XQ.done rfl ?_; refine hK _ ?_; clear hK K) | refine X.seq rfl ?_ | refine X.region rfl (fun K hK => ?_) | refine X.regionD rfl mixed (by kernel_rfl) (fun K hK => ?_) | refine X.ret rfl ?_)
  refine ret_one (by first | exact .inr rfl | exact .inl rfl) Try.results96 rfl (H' := H) (by (repeat (first | exact List.Sublist.refl _ | apply List.Sublist.cons)); done) ?_; simp only [and_true, true_and]
set_option maxHeartbeats 4000000 in
theorem rday_spec (d : Dy) (H : List Row) (hD : DyOk H d) : Fc Try.prog 92 [.agg (cDy d).toArray] H (fun v H' => v = .bool (decide (dayOk d)) ∧ H' = H) := by
  have hD1 : ∀ Z : List Row, DyOk (Z ++ H) d := fun Z => hD.sub (fun _ h => List.mem_append_right _ h)
  have hdd : dayOk d ↔ (0 ≤ d.price ∧ d.price ≤ 1000000) ∧ tab d.G ∧ tab d.S ∧ ∀ g s, 1 ≤ g ∧ g ≤ 9 → 1 ≤ s ∧ s ≤ 9 → 0 ≤ d.price + at1 d.G g + at1 d.S s := Iff.rfl
  refine Fc.mk (callable Try.call92) Try.func92 rfl Try.ntmps92 rfl ?_; dsimp only [fr]
  repeat' (first | (refine XO.op rfl ?_; (first | ((first | refine Xo.ng rfl ?_ | (refine Xo.g rfl rfl ?_; with_reducible refine Xw.ff ?_)); (first | (refine Xg.call (EnF.st rfl (Args.cons rfl (Args.cons rfl (Args.cons rfl Args.nil)))) rfl rfl (w4_spec _ _ _ _) ?_; rintro _ H9 ⟨rfl, hH9⟩; subst H9) | (refine Xg.call (EnF.st rfl (Args.cons rfl Args.nil)) rfl rfl (nine_spec d.G d.a1 d.c1 _ (hD1 [_]).gr hD.l1) ?_; rintro _ H9 ⟨rfl, hH9⟩; subst H9) | (refine Xg.call (EnF.st rfl (Args.cons rfl Args.nil)) rfl rfl (nine_spec d.S d.a2 d.c2 _ (hD1 [_]).st hD.l2) ?_; rintro _ H9 ⟨rfl, hH9⟩; subst H9) | (refine Xg.ev (EvF.move rfl rfl) rfl rfl ?_) | (refine Xg.ev (EvF.assign rfl rfl) rfl rfl ?_) | (refine Xg.ev (EvF.pickT rfl rfl rfl) rfl rfl ?_) | (refine Xg.ev (EvF.pickF rfl rfl rfl) rfl rfl ?_) | (refine Xg.ev (EvF.not rfl rfl) rfl rfl ?_) | (refine Xg.ev (EvF.fieldAddr rfl rfl (te rfl) rfl (te rfl) (by decide)) rfl rfl ?_) | (refine Xg.ev (EvF.loadV rfl rfl (LoadV.own (te rfl) rfl (List.Mem.head _) rfl)) rfl rfl ?_) | (refine Xg.st (StF.boxAgg rfl rfl) rfl rfl ?_; rintro _ _ ⟨bx, rfl, rfl⟩))) | (refine Xo.g rfl rfl ?_; (first | (with_reducible refine Xw.tf rfl rfl ?_) | (with_reducible refine Xw.caseN (fun h => ?_) (fun h => ?_) <;> simp only [h, decide_true, decide_false, Bool.not_true, Bool.not_false, and_self, and_true, true_and, and_false, false_and]))))) | (refine XO.done rfl ?_; refine hK _ _ ?_; clear hK K) | refine X.seq rfl ?_ | refine X.region rfl (fun K hK => ?_) | refine X.block rfl ?_ | refine X.skip rfl ?_ | refine X.ret rfl ?_ | (refine X.ite rfl rfl (fun hc => ?_); (first | (with_reducible refine Xb.t hc ?_) | (with_reducible refine Xb.caseN hc (fun h => ?_) (fun h => ?_))) <;> clear hc))
  any_goals (refine ret_one (by first | exact .inr rfl | exact .inl rfl) Try.results92 rfl (H' := H) (by (repeat (first | exact List.Sublist.refl _ | apply List.Sublist.cons)); done) ?_; simp only [and_true, true_and]; congr 1; symm; refine decide_eq_false (fun q => ?_); have q := hdd.1 q; first | exact absurd q.1 (by assumption) | exact absurd q.2.1 (by assumption) | exact absurd q.2.2.1 (by assumption))
  have hp : 0 ≤ d.price ∧ d.price ≤ 1000000 := by assumption
  have hG : tab d.G := by assumption
  have hS : tab d.S := by assumption
  refine X.lp rfl (fun m F' H' => ∃ k : Nat, m = 9 - k ∧ k ≤ 9 ∧ (∀ g s : Int, 1 ≤ g ∧ g < 1 + k → 1 ≤ s ∧ s ≤ 9 → 0 ≤ d.price + at1 d.G g + at1 d.S s) ∧ ⟨bx, 0, cDy d, some 65, 3⟩ :: H = H' ∧ F' = [(1, .pointer (some ⟨bx, 0, none⟩)), (3, .int .i64 (1 + k))])
    9 [(1, .pointer (some ⟨bx, 0, none⟩)), (3, .int .i64 (1 + (0 : Nat)))] _ (by (repeat (first | exact Sub.nil _ | refine Sub.cons rfl ?_)); done) (List.Sublist.refl _) ⟨0, by omega, by omega, (fun g s h => absurd h (by omega)), rfl, rfl⟩ ?_
  rintro _ _ _ ⟨k, rfl, hk, hn, rfl, rfl⟩
  repeat' (first | (refine XO.op rfl ?_; (first | ((first | refine Xo.ng rfl ?_); (first | (refine Xg.ev (EvF.move rfl rfl) rfl rfl ?_) | (refine Xg.ev (EvF.assign rfl rfl) rfl rfl ?_) | (refine Xg.ev (EvF.cmp rfl rfl rfl rfl) rfl rfl ?_))))) | (refine XO.done rfl ?_; refine hK _ _ ?_; clear hK K) | refine X.seq rfl ?_ | refine X.region rfl (fun K hK => ?_) | refine X.block rfl ?_ | (refine X.brk rfl ?_; repeat (first | refine blockX_hit rfl ?_ | refine blockX_miss (by decide) ?_)) | refine X.skip rfl ?_ | refine X.ret rfl ?_ | (refine X.ite rfl rfl (fun hc => ?_); (first | (with_reducible refine Xb.case hc (fun h => ?_) (fun h => ?_))) <;> clear hc))
  · have hk9 : k < 9 := by omega
    refine X.lp rfl (fun m F' H' => ∃ j : Nat, m = 9 - j ∧ j ≤ 9 ∧ (∀ s : Int, 1 ≤ s ∧ s < 1 + j → 0 ≤ d.price + at1 d.G (1 + k) + at1 d.S s) ∧ ⟨bx, 0, cDy d, some 65, 3⟩ :: H = H' ∧ F' = [(1, .pointer (some ⟨bx, 0, none⟩)), (3, .int .i64 (1 + k)), (4, .int .i64 (1 + j))])
      9 [(1, .pointer (some ⟨bx, 0, none⟩)), (3, .int .i64 (1 + k)), (4, .int .i64 (1 + (0 : Nat)))] _ (by (repeat (first | exact Sub.nil _ | refine Sub.cons rfl ?_)); done) (List.Sublist.refl _) ⟨0, by omega, by omega, (fun s h => absurd h (by omega)), rfl, rfl⟩ ?_
    rintro _ _ _ ⟨j, rfl, hj, hm, rfl, rfl⟩
    repeat' (first | (refine XO.op rfl ?_; (first | ((first | refine Xo.ng rfl ?_); (first | (refine Xg.ev (EvF.move rfl rfl) rfl rfl ?_) | (refine Xg.ev (EvF.assign rfl rfl) rfl rfl ?_) | (refine Xg.ev (EvF.cmp rfl rfl rfl rfl) rfl rfl ?_) | (refine Xg.ev (EvF.add64 rfl rfl rfl (by omega) (by omega)) rfl rfl ?_) | (refine Xg.ev (EvF.loadV rfl rfl (LoadV.whole (te rfl) rfl (List.Mem.head _) rfl)) rfl rfl ?_))))) | (refine XO.done rfl ?_; refine hK _ _ ?_; clear hK K) | refine X.seq rfl ?_ | refine X.region rfl (fun K hK => ?_) | refine X.block rfl ?_ | (refine X.brk rfl ?_; repeat (first | refine blockX_hit rfl ?_ | refine blockX_miss (by decide) ?_)) | refine X.skip rfl ?_ | (refine X.ite rfl rfl (fun hc => ?_); (first | (with_reducible refine Xb.case hc (fun h => ?_) (fun h => ?_))) <;> clear hc))
    · have hj9 : j < 9 := by omega
      have hc : in9 ⟨1 + k, 1 + j⟩ := ⟨by dsimp only; omega, by dsimp only; omega⟩
      have hv := fun H h => rcosts_spec d ⟨1 + k, 1 + j⟩ H h hG hS hp hc
      unfold dco at hv
      dsimp only at hv
      repeat' (first | (refine XO.op rfl ?_; (first | ((first | refine Xo.ng rfl ?_); (first | (refine Xg.ev (EvF.build (cs := cCl ⟨1 + k, 1 + j⟩) rfl (ArgsP.cons rfl (ArgsP.cons rfl ArgsP.nil)) (te rfl) (Places.cons (te rfl) (Places.cons (te rfl) Places.nil)) Try.zeroValue23 rfl) rfl rfl ?_) | (refine Xg.call (EnF.st rfl (Args.cons rfl (Args.cons rfl Args.nil))) rfl rfl (hv _ (hD1 [_])) ?_; rintro _ H9 ⟨rfl, hH9⟩; subst H9) | (refine Xg.ev (EvF.move rfl rfl) rfl rfl ?_) | (refine Xg.ev (EvF.assign rfl rfl) rfl rfl ?_) | (refine Xg.ev (EvF.cmp rfl rfl rfl rfl) rfl rfl ?_) | (refine Xg.ev (EvF.add64 rfl rfl rfl (by omega) (by omega)) rfl rfl ?_))))) | (refine XO.done rfl ?_; refine hK _ _ ?_; clear hK K) | refine X.seq rfl ?_ | refine X.region rfl (fun K hK => ?_) | refine X.skip rfl ?_ | refine X.ret rfl ?_ | (refine X.ite rfl rfl (fun hc => ?_); (first | (with_reducible refine Xb.case hc (fun h => ?_) (fun h => ?_))) <;> clear hc))
      · refine ret_one (by first | exact .inr rfl | exact .inl rfl) Try.results92 rfl (H' := H) (by (repeat (first | exact List.Sublist.refl _ | apply List.Sublist.cons)); done) ?_; simp only [and_true, true_and]
        congr 1; symm
        refine decide_eq_false (fun q => ?_)
        have := (hdd.1 q).2.2.2 (1 + k) (1 + j) (by omega) (by omega)
        omega
      · refine ⟨_, [(1, .pointer (some ⟨bx, 0, none⟩)), (3, .int .i64 (1 + k)), (4, .int .i64 (1 + (j + 1 : Nat)))], _, (by rw [show (1 : Int) + ((j + 1 : Nat) : Int) = 1 + j + 1 by omega]; exact (by (repeat (first | exact Sub.nil _ | refine Sub.cons rfl ?_)); done)), List.Sublist.refl _, ⟨j + 1, rfl, by omega, (fun s hs => ?_), rfl, rfl⟩, by omega⟩
        by_cases q : s < 1 + j
        · exact hm s ⟨hs.1, q⟩
        · rw [show s = 1 + j by omega]; omega
    · refine ⟨_, [(1, .pointer (some ⟨bx, 0, none⟩)), (3, .int .i64 (1 + (k + 1 : Nat)))], _, (by rw [show (1 : Int) + ((k + 1 : Nat) : Int) = 1 + k + 1 by omega]; exact (by (repeat (first | exact Sub.nil _ | refine Sub.cons rfl ?_)); done)), List.Sublist.refl _, ⟨k + 1, rfl, by omega, (fun g s hg hs => ?_), rfl, rfl⟩, by omega⟩
      by_cases q : g < 1 + k
      · exact hn g s ⟨hg.1, q⟩ hs
      · rw [show g = 1 + k by omega]; exact hm s (by omega)
  · refine ret_one (by first | exact .inr rfl | exact .inl rfl) Try.results92 rfl (H' := H) (by (repeat (first | exact List.Sublist.refl _ | apply List.Sublist.cons)); done) ?_; simp only [and_true, true_and]
    congr 1; symm
    exact decide_eq_true (hdd.2 ⟨hp, hG, hS, fun g s hg hs => hn g s (by omega) hs⟩)
end Go.Proofs.Ytcjlegjchllgjaa
end
section
set_option linter.unusedVariables false
set_option linter.unusedSimpArgs false
namespace Go.Proofs.Ytcjlegjchllgjaa
open Go Go.Fw
set_option maxRecDepth 10000
def lea (f : Cl → Int) (D : List Cl) : Int := if fnd D = true then f (bst f D) else 0
def lw (T : Tm) : Lo := ⟨1, T.worst, T.short, 9⟩
/-- the classes that may be delivered, in their order -/
theorem ir_split (a b c : Int) (h1 : a ≤ b + 1) (h2 : b ≤ c) : ir a c = ir a b ++ ir (b + 1) c := by
  unfold ir
  rw [show (c - a + 1).toNat = (b - a + 1).toNat + (c - (b + 1) + 1).toNat by omega, List.range_add, List.map_append, List.map_map]
  congr 1
  refine List.map_congr_left (fun i _ => ?_)
  show a + (((b - a + 1).toNat + i : Nat) : Int) = b + 1 + (i : Int)
  omega
theorem ir_bd {a b x : Int} (h : x ∈ ir a b) : a ≤ x ∧ x ≤ b := by
  unfold ir at h
  obtain ⟨i, hi, rfl⟩ := List.mem_map.1 h
  rw [List.mem_range] at hi
  omega
theorem rowC_l9 {T : Tm} (h : tmOk T) {g : Int} (hg : g ≤ T.worst) : rowC T g (ir 1 9) = rowA g (ir T.short 9) := by
  have hc := h.cls
  unfold rowC rowA
  rw [ir_split 1 (T.short - 1) 9 (by omega) (by omega), List.map_append, List.filter_append, show T.short - 1 + 1 = T.short by omega]
  rw [List.filter_eq_nil_iff.2 (fun c hc => ?_), List.filter_eq_self.2 (fun c hc => ?_), List.nil_append]
  · obtain ⟨s, hs, rfl⟩ := List.mem_map.1 hc
    have := ir_bd hs
    unfold may; exact decide_eq_true ⟨hg, this.1⟩
  · obtain ⟨s, hs, rfl⟩ := List.mem_map.1 hc
    have := ir_bd hs
    unfold may
    simp only [decide_eq_true_eq]
    omega
theorem rowC_no {T : Tm} {g : Int} (hg : ¬ g ≤ T.worst) (l : List Int) : rowC T g l = [] := by
  unfold rowC
  refine List.filter_eq_nil_iff.2 (fun c hc => ?_)
  obtain ⟨s, hs, rfl⟩ := List.mem_map.1 hc
  unfold may
  simp only [decide_eq_true_eq]
  exact fun q => hg q.1
theorem flatMap_congr' {α β : Type} {f g : α → List β} : ∀ {l : List α}, (∀ x ∈ l, f x = g x) → l.flatMap f = l.flatMap g
  | [], _ => rfl
  | x :: l, h => by rw [List.flatMap_cons, List.flatMap_cons, h x List.mem_cons_self, flatMap_congr' (fun y hy => h y (List.mem_cons_of_mem _ hy))]
theorem flatMap_nil' {α β : Type} {f : α → List β} : ∀ {l : List α}, (∀ x ∈ l, f x = []) → l.flatMap f = []
  | [], _ => rfl
  | x :: l, h => by rw [List.flatMap_cons, h x List.mem_cons_self, flatMap_nil' (fun y hy => h y (List.mem_cons_of_mem _ hy))]; rfl
theorem cls_l9 {T : Tm} (h : tmOk T) : cls T l9 = allC (lw T) := by
  have hc := h.cls
  unfold cls clsI allC allI l9 lw
  dsimp only
  have e : (ir 1 9).flatMap (fun g => rowC T g (ir 1 9)) = (ir 1 T.worst ++ ir (T.worst + 1) 9).flatMap (fun g => rowC T g (ir 1 9)) := congrArg (fun l => List.flatMap (fun g => rowC T g (ir 1 9)) l) (ir_split 1 T.worst 9 (by omega) (by omega))
  rw [e, List.flatMap_append]
  rw [flatMap_congr' (g := fun g => rowA g (ir T.short 9)) (fun g hg => rowC_l9 h (ir_bd hg).2), flatMap_nil' (fun g hg => rowC_no (by have := ir_bd hg; omega) _), List.append_nil]
theorem lea_snoc {f : Cl → Int} {D : List Cl} {c : Cl} : lea f (D ++ [c]) = f (bst f (D ++ [c])) := by
  unfold lea; rw [fnd_snoc, if_pos rfl]
set_option maxHeartbeats 8000000 in
theorem rcheap_spec (T : Tm) (p : Pt) (d : Dy) (H : List Row) (hT : TmOk H T p) (hok : tmOk T) (hD : DyOk H d) (hd : dayOk d) :
    Fc Try.prog 93 [.agg (cTm T p).toArray, .agg (cDy d).toArray] H (fun v H' => v = .tuple #[.agg (cCl (chp T d)).toArray, .int .i64 (coF T d (chp T d))] ∧ H' = H) := by
  have hc9 := cls_l9 hok
  have hcl := hok.cls
  have hdd : (0 ≤ d.price ∧ d.price ≤ 1000000) ∧ tab d.G ∧ tab d.S ∧ ∀ g s, 1 ≤ g ∧ g ≤ 9 → 1 ≤ s ∧ s ≤ 9 → 0 ≤ d.price + at1 d.G g + at1 d.S s := hd
  obtain ⟨f, hf⟩ : ∃ f, coF T d = f := ⟨_, rfl⟩
  have hres : .tuple #[Value.agg (cCl (chp T d)).toArray, .int .i64 (coF T d (chp T d))] = Value.tuple #[.agg (cCl (bst f (allC (lw T)))).toArray, .int .i64 (f (bst f (allC (lw T))))] := by
    unfold chp; rw [hc9, hf]
  rw [hres]
  have hfn : fnd (allC (lw T)) = true := by rw [← hc9]; exact fnd9 hok
  have hfb : ∀ c, in9 c → -1002000 ≤ f c ∧ f c ≤ 1004000 := fun c hc => by rw [← hf]; exact coF_bd hok hd hc
  refine Fc.mk (callable Try.call93) Try.func93 rfl Try.ntmps93 rfl ?_; dsimp only [fr]
  repeat' (first | (refine XO.op rfl ?_; (first | ((first | refine Xo.ng rfl ?_); (first | (refine Xg.ev (EvF.assign rfl rfl) rfl rfl ?_) | (refine Xg.st (StF.boxAgg rfl rfl) rfl rfl ?_; rintro _ _ ⟨bx, rfl, rfl⟩) | (refine Xg.st (StF.alloc rfl Try.zeroValue26 rfl) rfl rfl ?_; rintro _ _ ⟨bx, rfl, rfl⟩))))) | (refine XO.done rfl ?_; refine hK _ _ ?_; clear hK K) | refine X.seq rfl ?_ | refine X.region rfl (fun K hK => ?_) | refine X.block rfl ?_)
  rename_i b2 b3 b4
  obtain ⟨b6, hb6⟩ : ∃ b, b = bx := ⟨_, rfl⟩
  rw [← hb6]
  clear hb6
  obtain ⟨HH, hHH⟩ : ∃ HH : List Row, HH = ⟨b4, 0, cCl ⟨0, 0⟩, some 23, 2⟩ :: ⟨b3, 0, cDy d, some 65, 3⟩ :: ⟨b2, 0, cTm T p, some 28, 11⟩ :: H := ⟨_, rfl⟩
  have m3 : ∀ Z : List Row, ⟨b3, 0, cDy d, some 65, 3⟩ ∈ Z ++ HH := fun Z => List.mem_append_right _ (by rw [hHH]; exact (List.Mem.tail _ (List.Mem.head _)))
  have m2 : ∀ Z : List Row, ⟨b2, 0, cTm T p, some 28, 11⟩ ∈ Z ++ HH := fun Z => List.mem_append_right _ (by rw [hHH]; exact (List.Mem.tail _ (List.Mem.tail _ (List.Mem.head _))))
  have hTT : ∀ Z : List Row, TmOk (Z ++ HH) T p := fun Z => hT.sub (fun r hr => List.mem_append_right _ (by rw [hHH]; exact List.mem_append_right [_, _, _] hr))
  have hDD : ∀ Z : List Row, DyOk (Z ++ HH) d := fun Z => hD.sub (fun r hr => List.mem_append_right _ (by rw [hHH]; exact List.mem_append_right [_, _, _] hr))
  refine X.weakR (H' := ⟨b6, 0, cCl ⟨0, 0⟩, some 23, 2⟩ :: HH) (by rw [hHH]; exact (by (repeat (first | exact List.Sublist.refl _ | apply List.Sublist.cons_cons | apply List.Sublist.cons)); done)) ?_
  refine X.lp rfl (fun w F' H' => ∃ k : Nat, w = T.worst.toNat - k ∧ k ≤ T.worst.toNat ∧ H' = ⟨b6, 0, cCl (bst f (allI (lw T) ((ir 1 T.worst).take k))), some 23, 2⟩ :: HH ∧
      F' = [(2, .pointer (some ⟨b2, 0, none⟩)), (3, .pointer (some ⟨b3, 0, none⟩)), (4, .pointer (some ⟨b4, 0, none⟩)), (6, .pointer (some ⟨b6, 0, none⟩)), (7, .int .i64 (lea f (allI (lw T) ((ir 1 T.worst).take k)))), (8, .int .i64 (1 + k))])
    _ [(2, .pointer (some ⟨b2, 0, none⟩)), (3, .pointer (some ⟨b3, 0, none⟩)), (4, .pointer (some ⟨b4, 0, none⟩)), (6, .pointer (some ⟨b6, 0, none⟩)), (7, .int .i64 (lea f (allI (lw T) ((ir 1 T.worst).take 0)))), (8, .int .i64 (1 + (0 : Nat)))] _ (by (repeat (first | exact Sub.nil _ | refine Sub.cons rfl ?_)); done) (List.Sublist.refl _) ⟨0, rfl, by omega, rfl, rfl⟩ ?_
  rintro _ _ _ ⟨k, rfl, hk, rfl, rfl⟩
  repeat' (first | (refine XO.op rfl ?_; (first | ((first | refine Xo.ng rfl ?_); (first | (refine Xg.ev (EvF.loadV rfl rfl (LoadV.own (te rfl) rfl (m2 [_]) rfl)) rfl rfl ?_) | (refine Xg.ev (EvF.move rfl rfl) rfl rfl ?_) | (refine Xg.ev (EvF.assign rfl rfl) rfl rfl ?_) | (refine Xg.ev (EvF.cmp rfl rfl rfl rfl) rfl rfl ?_) | (refine Xg.ev (EvF.fieldAddr rfl rfl (te rfl) rfl (te rfl) (by decide)) rfl rfl ?_) | (refine Xg.ev (EvF.loadV rfl rfl (LoadV.whole (te rfl) rfl (List.Mem.head _) rfl)) rfl rfl ?_))))) | (refine XO.done rfl ?_; refine hK _ _ ?_; clear hK K) | refine X.seq rfl ?_ | refine X.region rfl (fun K hK => ?_) | refine X.block rfl ?_ | (refine X.brk rfl ?_; repeat (first | refine blockX_hit rfl ?_ | refine blockX_miss (by decide) ?_)) | refine X.skip rfl ?_ | (refine X.ite rfl rfl (fun hc => ?_); (first | (with_reducible refine Xb.case hc (fun h => ?_) (fun h => ?_))) <;> clear hc))
  · have hk1 : (k : Int) < T.worst - 1 + 1 := by omega
    refine X.lp rfl (fun w F' H' => ∃ j : Nat, w = (9 - T.short + 1).toNat - j ∧ j ≤ (9 - T.short + 1).toNat ∧ H' = ⟨b6, 0, cCl (bst f (allI (lw T) ((ir 1 T.worst).take k) ++ rowA (1 + k) ((ir T.short 9).take j))), some 23, 2⟩ :: HH ∧
        F' = [(2, .pointer (some ⟨b2, 0, none⟩)), (3, .pointer (some ⟨b3, 0, none⟩)), (4, .pointer (some ⟨b4, 0, none⟩)), (6, .pointer (some ⟨b6, 0, none⟩)), (7, .int .i64 (lea f (allI (lw T) ((ir 1 T.worst).take k) ++ rowA (1 + k) ((ir T.short 9).take j)))), (8, .int .i64 (1 + k)), (9, .int .i64 (T.short + j))])
      _ [(2, .pointer (some ⟨b2, 0, none⟩)), (3, .pointer (some ⟨b3, 0, none⟩)), (4, .pointer (some ⟨b4, 0, none⟩)), (6, .pointer (some ⟨b6, 0, none⟩)), (7, .int .i64 (lea f (allI (lw T) ((ir 1 T.worst).take k) ++ rowA (1 + k) ((ir T.short 9).take 0)))), (8, .int .i64 (1 + k)), (9, .int .i64 (T.short + (0 : Nat)))] _ (by rw [show T.short + ((0 : Nat) : Int) = T.short by omega, List.take_zero, show rowA (1 + k) [] = [] from rfl, List.append_nil]; exact (by (repeat (first | exact Sub.nil _ | refine Sub.cons rfl ?_)); done)) (by rw [List.take_zero, show rowA (1 + k) [] = [] from rfl, List.append_nil]; exact List.Sublist.refl _) ⟨0, rfl, by omega, rfl, rfl⟩ ?_
    rintro _ _ _ ⟨j, rfl, hj, rfl, rfl⟩
    repeat' (first | (refine XO.op rfl ?_; (first | ((first | refine Xo.ng rfl ?_); (first | (refine Xg.ev (EvF.move rfl rfl) rfl rfl ?_) | (refine Xg.ev (EvF.assign rfl rfl) rfl rfl ?_) | (refine Xg.ev (EvF.cmp rfl rfl rfl rfl) rfl rfl ?_) | (refine Xg.ev (EvF.add64 rfl rfl rfl (by omega) (by omega)) rfl rfl ?_))))) | (refine XO.done rfl ?_; refine hK _ _ ?_; clear hK K) | refine X.seq rfl ?_ | refine X.region rfl (fun K hK => ?_) | refine X.block rfl ?_ | (refine X.brk rfl ?_; repeat (first | refine blockX_hit rfl ?_ | refine blockX_miss (by decide) ?_)) | refine X.skip rfl ?_ | (refine X.ite rfl rfl (fun hc => ?_); (first | (with_reducible refine Xb.case hc (fun h => ?_) (fun h => ?_))) <;> clear hc))
    · have hj1 : (j : Int) < 9 - T.short + 1 := by omega
      have hsn := rowA_snoc (1 + k) (lw T) hj1
      change rowA (1 + k) ((ir T.short 9).take (j + 1)) = rowA (1 + k) ((ir T.short 9).take j) ++ [⟨1 + k, T.short + j⟩] at hsn
      have hin : in9 ⟨1 + k, T.short + j⟩ := ⟨by dsimp only; omega, by dsimp only; omega⟩
      have hDin : ∀ c ∈ allI (lw T) ((ir 1 T.worst).take k) ++ rowA (1 + k) ((ir T.short 9).take j), in9 c := by
        intro c hc
        rcases List.mem_append.1 hc with hc | hc
        · unfold allI rowA at hc
          obtain ⟨g, hg, hc⟩ := List.mem_flatMap.1 hc
          obtain ⟨s, hs, rfl⟩ := List.mem_map.1 hc
          have h1 := ir_bd (List.mem_of_mem_take hg)
          have h2 := ir_bd hs
          unfold lw at h2
          exact ⟨by dsimp only; omega, by dsimp only at h2 ⊢; omega⟩
        · unfold rowA at hc
          obtain ⟨s, hs, rfl⟩ := List.mem_map.1 hc
          have h2 := ir_bd (List.mem_of_mem_take hs)
          exact ⟨by dsimp only; omega, by dsimp only; omega⟩
      have hD2 : allI (lw T) ((ir 1 T.worst).take k) ++ rowA (1 + k) ((ir T.short 9).take (j + 1)) = allI (lw T) ((ir 1 T.worst).take k) ++ rowA (1 + k) ((ir T.short 9).take j) ++ [⟨1 + k, T.short + j⟩] := by rw [hsn, ← List.append_assoc]
      generalize allI (lw T) ((ir 1 T.worst).take k) ++ rowA (1 + k) ((ir T.short 9).take j) = D at hDin hD2 ⊢
      have hco := fun H h => rcosts_spec d ⟨1 + k, T.short + j⟩ H h hdd.2.1 hdd.2.2.1 hdd.1 hin
      have hva := fun H h => rvalue_spec T p ⟨1 + k, T.short + j⟩ H h hok.gr hok.st (by have := hok.num.1; omega) hin.1 hin.2
      have hn1 := dco_bd hd hin
      have hn2 := val_bd hok (1 + k) (T.short + j)
      have hfx : dco d ⟨1 + k, T.short + j⟩ - val T (1 + k) (T.short + j) = f ⟨1 + k, T.short + j⟩ := by rw [← hf]; rfl
      dsimp only at hva
      obtain ⟨A, hA⟩ : ∃ A, dco d ⟨1 + k, T.short + j⟩ = A := ⟨_, rfl⟩
      obtain ⟨B, hB⟩ : ∃ B, val T (1 + k) (T.short + j) = B := ⟨_, rfl⟩
      rw [hA] at hco hn1 hfx
      rw [hB] at hva hn2 hfx
      obtain ⟨o, ho⟩ : ∃ o, fnd D = o := ⟨_, rfl⟩
      cases o
      · have e1 : bst f D = ⟨0, 0⟩ := by rw [fnd_false ho]; rfl
        have e2 : lea f D = 0 := by unfold lea; rw [ho]; rfl
        rw [e1, e2]
        repeat' (first | (refine XO.op rfl ?_; (first | ((first | refine Xo.ng rfl ?_); (first | (refine Xg.ev (EvF.build (cs := cCl ⟨1 + k, T.short + j⟩) rfl (ArgsP.cons rfl (ArgsP.cons rfl ArgsP.nil)) (te rfl) (Places.cons (te rfl) (Places.cons (te rfl) Places.nil)) Try.zeroValue23 rfl) rfl rfl ?_) | (refine Xg.ev (EvF.move rfl rfl) rfl rfl ?_) | (refine Xg.ev (EvF.assign rfl rfl) rfl rfl ?_) | (refine Xg.ev (EvF.pickT rfl rfl rfl) rfl rfl ?_) | (refine Xg.ev (EvF.cmp rfl rfl rfl rfl) rfl rfl ?_) | (refine Xg.ev (EvF.add64 rfl rfl rfl (by omega) (by omega)) rfl rfl ?_) | (refine Xg.ev (EvF.fieldAddr rfl rfl (te rfl) rfl (te rfl) (by decide)) rfl rfl ?_) | (refine Xg.ev (EvF.loadV rfl rfl (LoadV.own (te rfl) rfl (List.Mem.tail _ (List.Mem.head _)) rfl)) rfl rfl ?_) | (refine Xg.ev (EvF.loadV rfl rfl (LoadV.whole (te rfl) rfl (List.Mem.head _) rfl)) rfl rfl ?_) | (refine Xg.st (StF.alloc rfl Try.zeroValue26 rfl) rfl rfl ?_; rintro _ _ ⟨bx, rfl, rfl⟩) | (refine Xg.st0 (StF.storeAll (i := 0) rfl rfl rfl (te rfl) rfl rfl rfl rfl) rfl ?_; rintro _ _ ⟨rfl, rfl⟩; dsimp only [List.set]) | (refine Xg.st0 (StF.storeAll (i := 1) rfl rfl rfl (te rfl) rfl rfl rfl rfl) rfl ?_; rintro _ _ ⟨rfl, rfl⟩; dsimp only [List.set]))) | (refine Xo.g rfl rfl ?_; (first | (with_reducible refine Xw.tf rfl rfl ?_) | (with_reducible refine Xw.case (fun h => ?_) (fun h => ?_) <;> simp only [h, decide_true, decide_false, Bool.not_true, Bool.not_false, and_self, and_true, true_and, and_false, false_and]))))) | (refine XO.done rfl ?_; refine hK _ _ ?_; clear hK K) | (refine XQ.op rfl ?_; (first | ((first | refine Yo.ng rfl ?_); (first | (refine Yg.ev (EvF.loadV rfl rfl (LoadV.whole (te rfl) rfl (m3 [_, _]) rfl)) rfl rfl ?_) | (refine Yg.ev (EvF.loadV rfl rfl (LoadV.whole (te rfl) rfl (m2 [_, _]) rfl)) rfl rfl ?_) | (refine Yg.call (EnF.st rfl (Args.cons rfl (Args.cons rfl Args.nil))) rfl rfl (hco _ (hDD [_, _])) ?_) | (refine Yg.call (EnF.st rfl (Args.cons rfl (Args.cons rfl Args.nil))) rfl rfl (hva _ (hTT [_, _])) ?_) | (refine Yg.ev (EvF.assign rfl rfl) rfl rfl ?_) | (refine Yg.ev (EvF.sub64 rfl rfl rfl (by omega) (by omega)) rfl rfl ?_) | (refine Yg.ev (EvF.loadV rfl rfl (LoadV.whole (te rfl) rfl (List.Mem.head _) rfl)) rfl rfl ?_))))) | (refine XQ.done rfl ?_; refine hK _ ?_; clear hK K) | refine X.seq rfl ?_ | refine X.region rfl (fun K hK => ?_) | refine X.regionD rfl mixed (by kernel_rfl) (fun K hK => ?_) | (refine X.ite rfl rfl (fun hc => ?_); (first | (with_reducible refine Xb.t hc ?_)) <;> clear hc))
        all_goals try (exfalso; contradiction)
        have e3 : bst f (allI (lw T) ((ir 1 T.worst).take k) ++ rowA (1 + k) ((ir T.short 9).take (j + 1))) = ⟨1 + k, T.short + j⟩ := by rw [hD2, bst_one ho]
        have e4 : lea f (allI (lw T) ((ir 1 T.worst).take k) ++ rowA (1 + k) ((ir T.short 9).take (j + 1))) = A - B := by rw [hD2, lea_snoc, bst_one ho, hfx]
        refine ⟨_, [(2, .pointer (some ⟨b2, 0, none⟩)), (3, .pointer (some ⟨b3, 0, none⟩)), (4, .pointer (some ⟨b4, 0, none⟩)), (6, .pointer (some ⟨b6, 0, none⟩)), (7, .int .i64 (A - B)), (8, .int .i64 (1 + k)), (9, .int .i64 (T.short + (j + 1 : Nat)))], ⟨b6, 0, cCl ⟨1 + k, T.short + j⟩, some 23, 2⟩ :: HH, (by rw [show T.short + ((j + 1 : Nat) : Int) = T.short + j + 1 by omega]; exact (by (repeat (first | exact Sub.nil _ | refine Sub.cons rfl ?_)); done)), (by (repeat (first | exact List.Sublist.refl _ | apply List.Sublist.cons_cons | apply List.Sublist.cons)); done), ⟨j + 1, rfl, by omega, by rw [e3], by rw [e4]⟩, by omega⟩
      · have hbi := hDin _ (bst_mem (k := f) ho)
        have e2 : lea f D = f (bst f D) := by unfold lea; rw [ho, if_pos rfl]
        rw [e2]
        obtain ⟨b, hb⟩ : ∃ b, bst f D = b := ⟨_, rfl⟩
        rw [hb] at hbi ⊢
        have hbi1 := hbi.1
        repeat' (first | (refine XO.op rfl ?_; (first | ((first | refine Xo.ng rfl ?_ | (refine Xo.g rfl rfl ?_; with_reducible refine Xw.ff ?_)); (first | (refine Xg.ev (EvF.build (cs := cCl ⟨1 + k, T.short + j⟩) rfl (ArgsP.cons rfl (ArgsP.cons rfl ArgsP.nil)) (te rfl) (Places.cons (te rfl) (Places.cons (te rfl) Places.nil)) Try.zeroValue23 rfl) rfl rfl ?_) | (refine Xg.ev (EvF.move rfl rfl) rfl rfl ?_) | (refine Xg.ev (EvF.assign rfl rfl) rfl rfl ?_) | (refine Xg.ev (EvF.pickT rfl rfl rfl) rfl rfl ?_) | (refine Xg.ev (EvF.pickF rfl rfl rfl) rfl rfl ?_) | (refine Xg.ev (EvF.cmp rfl rfl rfl rfl) rfl rfl ?_) | (refine Xg.ev (EvF.add64 rfl rfl rfl (by omega) (by omega)) rfl rfl ?_) | (refine Xg.ev (EvF.fieldAddr rfl rfl (te rfl) rfl (te rfl) (by decide)) rfl rfl ?_) | (refine Xg.ev (EvF.loadV rfl rfl (LoadV.own (te rfl) rfl (List.Mem.tail _ (List.Mem.head _)) rfl)) rfl rfl ?_) | (refine Xg.ev (EvF.loadV rfl rfl (LoadV.whole (te rfl) rfl (List.Mem.head _) rfl)) rfl rfl ?_) | (refine Xg.st (StF.alloc rfl Try.zeroValue26 rfl) rfl rfl ?_; rintro _ _ ⟨bx, rfl, rfl⟩) | (refine Xg.st0 (StF.storeAll (i := 0) rfl rfl rfl (te rfl) rfl rfl rfl rfl) rfl ?_; rintro _ _ ⟨rfl, rfl⟩; dsimp only [List.set]) | (refine Xg.st0 (StF.storeAll (i := 1) rfl rfl rfl (te rfl) rfl rfl rfl rfl) rfl ?_; rintro _ _ ⟨rfl, rfl⟩; dsimp only [List.set]))) | (refine Xo.g rfl rfl ?_; (first | (with_reducible refine Xw.tf rfl rfl ?_) | (with_reducible refine Xw.case (fun h => ?_) (fun h => ?_) <;> simp only [h, decide_true, decide_false, Bool.not_true, Bool.not_false, and_self, and_true, true_and, and_false, false_and]))))) | (refine XO.done rfl ?_; refine hK _ _ ?_; clear hK K) | (refine XQ.op rfl ?_; (first | ((first | refine Yo.ng rfl ?_); (first | (refine Yg.ev (EvF.loadV rfl rfl (LoadV.whole (te rfl) rfl (m3 [_, _]) rfl)) rfl rfl ?_) | (refine Yg.ev (EvF.loadV rfl rfl (LoadV.whole (te rfl) rfl (m2 [_, _]) rfl)) rfl rfl ?_) | (refine Yg.call (EnF.st rfl (Args.cons rfl (Args.cons rfl Args.nil))) rfl rfl (hco _ (hDD [_, _])) ?_) | (refine Yg.call (EnF.st rfl (Args.cons rfl (Args.cons rfl Args.nil))) rfl rfl (hva _ (hTT [_, _])) ?_) | (refine Yg.ev (EvF.assign rfl rfl) rfl rfl ?_) | (refine Yg.ev (EvF.sub64 rfl rfl rfl (by omega) (by omega)) rfl rfl ?_) | (refine Yg.ev (EvF.loadV rfl rfl (LoadV.whole (te rfl) rfl (List.Mem.head _) rfl)) rfl rfl ?_))))) | (refine XQ.done rfl ?_; refine hK _ ?_; clear hK K) | refine X.seq rfl ?_ | refine X.region rfl (fun K hK => ?_) | refine X.regionD rfl mixed (by kernel_rfl) (fun K hK => ?_) | refine X.skip rfl ?_ | (refine X.ite rfl rfl (fun hc => ?_); (first | (with_reducible refine Xb.t hc ?_) | (with_reducible refine Xb.case hc (fun h => ?_) (fun h => ?_))) <;> clear hc))
        all_goals try (exfalso; omega)
        · have e3 : bst f (allI (lw T) ((ir 1 T.worst).take k) ++ rowA (1 + k) ((ir T.short 9).take (j + 1))) = ⟨1 + k, T.short + j⟩ := by rw [hD2, bst_snoc ho, hb, if_pos (by rw [← hfx]; assumption)]
          have e4 : lea f (allI (lw T) ((ir 1 T.worst).take k) ++ rowA (1 + k) ((ir T.short 9).take (j + 1))) = A - B := by rw [hD2, lea_snoc, bst_snoc ho, hb, if_pos (by rw [← hfx]; assumption), hfx]
          refine ⟨_, [(2, .pointer (some ⟨b2, 0, none⟩)), (3, .pointer (some ⟨b3, 0, none⟩)), (4, .pointer (some ⟨b4, 0, none⟩)), (6, .pointer (some ⟨b6, 0, none⟩)), (7, .int .i64 (A - B)), (8, .int .i64 (1 + k)), (9, .int .i64 (T.short + (j + 1 : Nat)))], ⟨b6, 0, cCl ⟨1 + k, T.short + j⟩, some 23, 2⟩ :: HH, (by rw [show T.short + ((j + 1 : Nat) : Int) = T.short + j + 1 by omega]; exact (by (repeat (first | exact Sub.nil _ | refine Sub.cons rfl ?_)); done)), (by (repeat (first | exact List.Sublist.refl _ | apply List.Sublist.cons_cons | apply List.Sublist.cons)); done), ⟨j + 1, rfl, by omega, by rw [e3], by rw [e4]⟩, by omega⟩
        · have e3 : bst f (allI (lw T) ((ir 1 T.worst).take k) ++ rowA (1 + k) ((ir T.short 9).take (j + 1))) = b := by rw [hD2, bst_snoc ho, hb, if_neg (by rw [← hfx]; assumption)]
          have e4 : lea f (allI (lw T) ((ir 1 T.worst).take k) ++ rowA (1 + k) ((ir T.short 9).take (j + 1))) = f b := by rw [hD2, lea_snoc, bst_snoc ho, hb, if_neg (by rw [← hfx]; assumption)]
          refine ⟨_, [(2, .pointer (some ⟨b2, 0, none⟩)), (3, .pointer (some ⟨b3, 0, none⟩)), (4, .pointer (some ⟨b4, 0, none⟩)), (6, .pointer (some ⟨b6, 0, none⟩)), (7, .int .i64 (f b)), (8, .int .i64 (1 + k)), (9, .int .i64 (T.short + (j + 1 : Nat)))], ⟨b6, 0, cCl b, some 23, 2⟩ :: HH, (by rw [show T.short + ((j + 1 : Nat) : Int) = T.short + j + 1 by omega]; exact (by (repeat (first | exact Sub.nil _ | refine Sub.cons rfl ?_)); done)), (by (repeat (first | exact List.Sublist.refl _ | apply List.Sublist.cons_cons | apply List.Sublist.cons)); done), ⟨j + 1, rfl, by omega, by rw [e3], by rw [e4]⟩, by omega⟩
    · rw [List.take_of_length_le (i := j) (by rw [ir_len]; omega), show allI (lw T) ((ir 1 T.worst).take k) ++ rowA (1 + k) (ir T.short 9) = allI (lw T) ((ir 1 T.worst).take (k + 1)) from (allI_snoc (lw T) hk1).symm]
      repeat' (first | fail)
      refine ⟨_, [(2, .pointer (some ⟨b2, 0, none⟩)), (3, .pointer (some ⟨b3, 0, none⟩)), (4, .pointer (some ⟨b4, 0, none⟩)), (6, .pointer (some ⟨b6, 0, none⟩)), (7, .int .i64 (lea f (allI (lw T) ((ir 1 T.worst).take (k + 1))))), (8, .int .i64 (1 + (k + 1 : Nat)))], _, (by rw [show (1 : Int) + ((k + 1 : Nat) : Int) = 1 + k + 1 by omega]; exact (by (repeat (first | exact Sub.nil _ | refine Sub.cons rfl ?_)); done)), List.Sublist.refl _, ⟨k + 1, rfl, by omega, rfl, rfl⟩, by omega⟩
  · rw [List.take_of_length_le (i := k) (by rw [ir_len]; omega)]
    have hal : allI (lw T) (ir 1 T.worst) = allC (lw T) := rfl
    have hle : lea f (allC (lw T)) = f (bst f (allC (lw T))) := by unfold lea; rw [hfn, if_pos rfl]
    rw [hal, hle]
    clear hTT hDD m2 m3
    subst hHH
    repeat' (first | (refine XO.op rfl ?_; (first | ((first | refine Xo.ng rfl ?_); (first | (refine Xg.ev (EvF.assign rfl rfl) rfl rfl ?_) | (refine Xg.st0 (StF.storeAll (i := 1) rfl rfl rfl (te rfl) rfl rfl rfl rfl) rfl ?_; rintro _ _ ⟨rfl, rfl⟩; dsimp only [List.set]))))) | (refine XO.done rfl ?_; refine hK _ _ ?_; clear hK K) | refine X.ret rfl ?_)
    exact ret_two (v := .agg (cCl (bst f (allC (lw T)))).toArray) (by first | exact .inr rfl | exact .inl rfl) Try.results93 ⟨_, rfl, LoadV.whole (te rfl) rfl (List.Mem.tail _ (List.Mem.head _)) rfl⟩ rfl (H' := H) (by (repeat (first | exact List.Sublist.refl _ | apply List.Sublist.cons)); done) ⟨rfl, rfl⟩
end Go.Proofs.Ytcjlegjchllgjaa
end
section
set_option linter.unusedVariables false
set_option linter.unusedSimpArgs false
namespace Go.Proofs.Ytcjlegjchllgjaa
open Go Go.Fw
set_option maxRecDepth 10000
theorem greatD_spec (d : Dy) (H : List Row) : Fc Try.prog 29 [.agg (cDy d).toArray] H (fun v H' => v = .bool (decide (d.G.length > 30 ∨ d.S.length > 30)) ∧ H' = H) := by
  refine Fc.mk (callable Try.call29) Try.func29 rfl Try.ntmps29 rfl ?_; dsimp only [fr]
  repeat' (first | (refine XO.op rfl ?_; (first | ((first | refine Xo.ng rfl ?_ | (refine Xo.g rfl rfl ?_; with_reducible refine Xw.ff ?_)); (first | (refine Xg.ev (EvF.move rfl rfl) rfl rfl ?_) | (refine Xg.ev (EvF.assign rfl rfl) rfl rfl ?_) | (refine Xg.ev (EvF.pickT rfl rfl rfl) rfl rfl ?_) | (refine Xg.ev (EvF.pickF rfl rfl rfl) rfl rfl ?_) | (refine Xg.ev (EvF.cmp rfl rfl rfl rfl) rfl rfl ?_) | (refine Xg.ev (EvF.fieldAddr rfl rfl (te rfl) rfl (te rfl) (by decide)) rfl rfl ?_) | (refine Xg.ev (EvF.lenSlice rfl rfl (te rfl)) rfl rfl ?_) | (refine Xg.ev (EvF.loadV rfl rfl (LoadV.own (te rfl) rfl (List.Mem.head _) rfl)) rfl rfl ?_) | (refine Xg.ev (EvF.loadV rfl rfl (LoadV.whole (te rfl) rfl (List.Mem.tail _ (List.Mem.tail _ (List.Mem.head _))) rfl)) rfl rfl ?_) | (refine Xg.st (StF.boxAgg rfl rfl) rfl rfl ?_; rintro _ _ ⟨bx, rfl, rfl⟩) | (refine Xg.st0 (StF.storeAll (i := 3) rfl rfl rfl (te rfl) rfl rfl rfl rfl) rfl ?_; rintro _ _ ⟨rfl, rfl⟩; dsimp only [List.set]))) | (refine Xo.g rfl rfl ?_; (first | (with_reducible refine Xw.tf rfl rfl ?_) | (with_reducible refine Xw.case (fun h => ?_) (fun h => ?_) <;> simp only [h, decide_true, decide_false, Bool.not_true, Bool.not_false, and_self, and_true, true_and, and_false, false_and]))))) | (refine XO.done rfl ?_; refine hK _ _ ?_; clear hK K) | refine X.seq rfl ?_ | refine X.region rfl (fun K hK => ?_) | refine X.ret rfl ?_)
  all_goals (refine ret_one (by first | exact .inr rfl | exact .inl rfl) Try.results29 rfl (H' := H) (by (repeat (first | exact List.Sublist.refl _ | apply List.Sublist.cons)); done) ?_; simp only [and_true, true_and])
  all_goals (congr 1; first | exact decide_eq_decide.2 (by omega) | (symm; exact decide_eq_true (by omega)) | (symm; exact decide_eq_false (by omega)))
def dyP (d : Dy) (t1 k1 t2 k2 : Nat) : Dy := { d with a1 := some ⟨t1, 0, none⟩, c1 := k1, a2 := some ⟨t2, 0, none⟩, c2 := k2 }
def dyQ (d : Dy) (t1 k1 : Nat) : Dy := { d with a1 := some ⟨t1, 0, none⟩, c1 := k1 }
def tsTd : List TOp := [⟨some 3, [], [], []⟩, ⟨some 4, [], [], []⟩, ⟨some 5, [1], [1], []⟩, ⟨some 6, [0, 1, 2], [0, 2], [0]⟩, ⟨some 7, [], [], []⟩, ⟨some 8, [], [], []⟩, ⟨some 9, [5], [5], []⟩, ⟨some 10, [0, 1, 2, 3, 4, 5, 6], [4, 6], [4]⟩, ⟨some 11, [0, 1, 2, 3, 5, 6], [], []⟩, ⟨none, [0, 1, 2, 3, 4, 5, 6, 7, 8], [8, 3], [12]⟩, ⟨some 12, [0, 1, 2, 3, 4, 5, 6, 7, 8, 9], [], []⟩, ⟨none, [0, 1, 2, 3, 4, 5, 6, 7, 8, 9, 10], [10, 7], [9]⟩, ⟨none, [], [], []⟩]
def valTd (b1 b2 : Nat) (d : Dy) (k : Nat) (env : Env) : Value :=
  match k with
  | 0 => .slice (some ⟨(env 0).1, 0, none⟩) 0 0
  | 1 => .pointer (some ⟨b1, 1, none⟩)
  | 2 => .slice d.a1 d.G.length d.c1
  | 3 => .slice (some ⟨(env 3).1, 0, none⟩) d.G.length (env 3).2
  | 4 => .slice (some ⟨(env 4).1, 0, none⟩) 0 0
  | 5 => .pointer (some ⟨b1, 2, none⟩)
  | 6 => .slice d.a2 d.S.length d.c2
  | 7 => .slice (some ⟨(env 7).1, 0, none⟩) d.S.length (env 7).2
  | 8 => .pointer (some ⟨b1, 1, none⟩)
  | 9 => undef
  | 10 => .pointer (some ⟨b1, 2, none⟩)
  | 11 => undef
  | _ => undef
def rowsTd (b1 b2 : Nat) (d : Dy) (k : Nat) (env : Env) : List Row :=
  match k with
  | 0 => [⟨(env 0).1, 0, [], some 3, 0 * 1⟩]
  | 3 => [rI d.G (env 3).1 (env 3).2]
  | 4 => [⟨(env 4).1, 0, [], some 3, 0 * 1⟩]
  | 7 => [rI d.S (env 7).1 (env 7).2]
  | 9 => [⟨b1, 0, cDy (dyQ d (env 3).1 (env 3).2), some 65, 3⟩]
  | 11 => [⟨b1, 0, cDy (dyP d (env 3).1 (env 3).2 (env 7).1 (env 7).2), some 65, 3⟩]
  | 12 => [⟨b1, 0, cDy d, some 65, 3⟩]
  | _ => []
theorem locTd (b1 b2 : Nat) (d : Dy) : ∀ k env i q9, i ≠ k → (tAt tsTd k).sup.contains i = false → valTd b1 b2 d k (upd env i q9) = valTd b1 b2 d k env ∧ rowsTd b1 b2 d k (upd env i q9) = rowsTd b1 b2 d k env := by
  intro k env i q hk hs
  have hu : ∀ j, j ≠ i → upd env i q j = env j := fun j hj => by unfold upd; rw [if_neg hj]
  match k, hk, hs with
  | 0, hk, hs => exact ⟨by simp only [valTd, hu 0 (fun e => hk e.symm)], by simp only [rowsTd, hu 0 (fun e => hk e.symm)]⟩
  | 1, _, _ => exact ⟨rfl, rfl⟩
  | 2, _, _ => exact ⟨rfl, rfl⟩
  | 3, hk, hs => exact ⟨by simp only [valTd, hu 3 (fun e => hk e.symm)], by simp only [rowsTd, hu 3 (fun e => hk e.symm)]⟩
  | 4, hk, hs => exact ⟨by simp only [valTd, hu 4 (fun e => hk e.symm)], by simp only [rowsTd, hu 4 (fun e => hk e.symm)]⟩
  | 5, _, _ => exact ⟨rfl, rfl⟩
  | 6, _, _ => exact ⟨rfl, rfl⟩
  | 7, hk, hs => exact ⟨by simp only [valTd, hu 7 (fun e => hk e.symm)], by simp only [rowsTd, hu 7 (fun e => hk e.symm)]⟩
  | 8, _, _ => exact ⟨rfl, rfl⟩
  | 9, hk, hs => exact ⟨by simp only [valTd, hu 3 (by rintro rfl; cases hs)], by simp only [rowsTd, hu 3 (by rintro rfl; cases hs)]⟩
  | 10, _, _ => exact ⟨rfl, rfl⟩
  | 11, hk, hs => exact ⟨by simp only [valTd, hu 3 (by rintro rfl; cases hs), hu 7 (by rintro rfl; cases hs)], by simp only [rowsTd, hu 3 (by rintro rfl; cases hs), hu 7 (by rintro rfl; cases hs)]⟩
  | 12, _, _ => exact ⟨rfl, rfl⟩
  | _ + 13, _, _ => exact ⟨rfl, rfl⟩
def rdTd (k : Nat) : List Nat := match k with
  | 2 => [12]
  | 6 => [12]
  | _ => []
set_option maxHeartbeats 4000000 in
theorem twinD_spec (d : Dy) (H : List Row) (hD : DyOk H d) : Fc Try.prog 30 [.agg (cDy d).toArray] H (fun v H' => ∃ t1 k1 t2 k2, v = .agg (cDy (dyP d t1 k1 t2 k2)).toArray ∧ H' = rI d.G t1 k1 :: rI d.S t2 k2 :: H) := by
  have l1 := hD.l1
  have l2 := hD.l2
  refine Fc.mk (callable Try.call30) Try.func30 rfl Try.ntmps30 rfl ?_; dsimp only [fr]
  refine X.seq rfl ?_; refine X.region rfl (fun K hK => ?_); repeat' (first | (refine XO.op rfl ?_; (first | ((first | refine Xo.ng rfl ?_); (first | (refine Xg.st (StF.boxAgg rfl rfl) rfl rfl ?_; rintro _ _ ⟨bx, rfl, rfl⟩) | (refine Xg.st (StF.alloc rfl Try.zeroValue65 rfl) rfl rfl ?_; rintro _ _ ⟨bx, rfl, rfl⟩))))) | (refine XO.done rfl ?_; refine hK _ _ ?_; clear hK K))
  rename_i b1; rename Nat => b2
  refine X.seq rfl ?_
  refine X.permH (H' := ⟨b1, 0, cDy d, some 65, 3⟩ :: ⟨b2, 0, [.int .i64 0, .slice none 0 0, .slice none 0 0], some 65, 3⟩ :: H) (List.Perm.swap _ _ _) ?_
  refine X.regionRd tsTd rdTd [1, 2] [(1, .pointer (some ⟨b1, 0, none⟩)), (2, .pointer (some ⟨b2, 0, none⟩))] (valTd b1 b2 d) (rowsTd b1 b2 d) (fun _ => (0, 0)) (⟨b2, 0, [.int .i64 0, .slice none 0 0, .slice none 0 0], some 65, 3⟩ :: H) rfl mixed (by (repeat (first | exact Sub.nil _ | refine Sub.cons rfl ?_)); done) rfl (by kernel_rfl) (by kernel_rfl) (locTd b1 b2 d) (List.Sublist.refl _) ?_ ?_
  · have hs : ∀ (S Z : List Row), (∀ r ∈ ⟨b2, 0, [.int .i64 0, .slice none 0 0, .slice none 0 0], some 65, 3⟩ :: H, r ∈ S) → DyOk (Z ++ S) d := fun S Z hS => hD.sub (fun r hr => List.mem_append_right _ (hS r (List.mem_cons_of_mem _ hr)))
    repeat' (first | exact AllF.done rfl | (refine AllF.step rfl ?_ ?_; · (first | exact (Ob.ng rfl (ObK.pure (fun env R hR => by exact ⟨_, EvF.fieldAddr rfl rfl (te rfl) rfl (te rfl) (by decide), rfl⟩) rfl (fun _ => rfl))).toR | (refine ObR.ng rfl ?_; (first | (exact fun env S hS hrd => (StF.buildNil rfl elI).op.mono (fun v H' ⟨b, hv, hH⟩ => ⟨(b, 0), fun _ => hv, by rw [hH]; exact List.Perm.refl _⟩)) | (exact fun env S hS hrd => (StF.ofEv (EvF.loadV rfl rfl (LoadV.own (te rfl) rfl (hrd 12 (List.Mem.head _) _ (List.Mem.head _)) rfl))).op.mono (fun v H' ⟨hv, hH⟩ => ⟨(0, 0), fun _ => hv, by rw [hH]; exact List.Perm.refl _⟩)) | (exact fun env S hS hrd => (StF.appendSl (i := 0) rfl elI rfl rfl rfl (hs S [_] hS).gr (fun e _ => one_i e) rfl (by decide) (by omega)).op.mono (fun v H' ⟨b, c, hv, hH⟩ => ⟨(b, c), fun _ => by rw [hv, Nat.zero_add]; rfl, by rw [hH]; exact List.Perm.refl _⟩)) | (exact fun env S hS hrd => (StF.appendSl (i := 0) rfl elI rfl rfl rfl (hs S [_] hS).st (fun e _ => one_i e) rfl (by decide) (by omega)).op.mono (fun v H' ⟨b, c, hv, hH⟩ => ⟨(b, c), fun _ => by rw [hv, Nat.zero_add]; rfl, by rw [hH]; exact List.Perm.refl _⟩)) | (exact fun env S hS hrd => (StF.storeOne (i := 0) (cs := cDy d) rfl rfl rfl rfl (te rfl) rfl rfl (Nat.le_of_ble_eq_true rfl)).op.mono (fun v H' ⟨hv, hH⟩ => ⟨(0, 0), fun h => absurd rfl h, by rw [hH]; exact List.Perm.refl _⟩)) | (exact fun env S hS hrd => (StF.storeOne (i := 0) (cs := cDy (dyQ d (env 3).1 (env 3).2)) rfl rfl rfl rfl (te rfl) rfl rfl (Nat.le_of_ble_eq_true rfl)).op.mono (fun v H' ⟨hv, hH⟩ => ⟨(0, 0), fun h => absurd rfl h, by rw [hH]; exact List.Perm.refl _⟩)))))))
  · intro env t ha hv
    refine ⟨_, ha, ?_⟩
    show X _ _ _ _ (rI d.G (env 3).1 (env 3).2 :: rI d.S (env 7).1 (env 7).2 :: ⟨b1, 0, cDy (dyP d (env 3).1 (env 3).2 (env 7).1 (env 7).2), some 65, 3⟩ :: ⟨b2, 0, [.int .i64 0, .slice none 0 0, .slice none 0 0], some 65, 3⟩ :: H) _
    repeat' (first | (refine XO.op rfl ?_; (first | ((first | refine Xo.ng rfl ?_ | (refine Xo.g rfl rfl ?_; with_reducible refine Xw.ff ?_)); (first | (refine Xg.ev (EvF.move rfl rfl) rfl rfl ?_) | (refine Xg.ev (EvF.assign rfl rfl) rfl rfl ?_) | (refine Xg.ev (EvF.pickT rfl rfl rfl) rfl rfl ?_) | (refine Xg.ev (EvF.pickF rfl rfl rfl) rfl rfl ?_) | (refine Xg.ev (EvF.cmp rfl rfl rfl rfl) rfl rfl ?_) | (refine Xg.ev (EvF.fieldAddr rfl rfl (te rfl) rfl (te rfl) (by decide)) rfl rfl ?_) | (refine Xg.ev (EvF.lenSlice rfl rfl (te rfl)) rfl rfl ?_) | (refine Xg.ev (EvF.loadV rfl rfl (LoadV.own (te rfl) rfl (List.Mem.head _) rfl)) rfl rfl ?_) | (refine Xg.ev (EvF.loadV rfl rfl (LoadV.whole (te rfl) rfl (List.Mem.tail _ (List.Mem.tail _ (List.Mem.head _))) rfl)) rfl rfl ?_) | (refine Xg.st (StF.boxAgg rfl rfl) rfl rfl ?_; rintro _ _ ⟨bx, rfl, rfl⟩) | (refine Xg.st0 (StF.storeAll (i := 3) rfl rfl rfl (te rfl) rfl rfl rfl rfl) rfl ?_; rintro _ _ ⟨rfl, rfl⟩; dsimp only [List.set]))) | (refine Xo.g rfl rfl ?_; (first | (with_reducible refine Xw.tf rfl rfl ?_) | (with_reducible refine Xw.case (fun h => ?_) (fun h => ?_) <;> simp only [h, decide_true, decide_false, Bool.not_true, Bool.not_false, and_self, and_true, true_and, and_false, false_and]))))) | (refine XO.done rfl ?_; refine hK _ _ ?_; clear hK K) | refine X.seq rfl ?_ | refine X.region rfl (fun K hK => ?_) | refine X.ret rfl ?_)
    exact ret_one (v := .agg (cDy (dyP d (env 3).1 (env 3).2 (env 7).1 (env 7).2)).toArray) (by first | exact .inr rfl | exact .inl rfl) Try.results30 ⟨_, rfl, LoadV.whole (te rfl) rfl (List.Mem.tail _ (List.Mem.tail _ (List.Mem.tail _ (List.Mem.head _)))) rfl⟩ (H' := rI d.G (env 3).1 (env 3).2 :: rI d.S (env 7).1 (env 7).2 :: H) (by (repeat (first | exact List.Sublist.refl _ | apply List.Sublist.cons_cons | apply List.Sublist.cons)); done) ⟨_, _, _, _, rfl, rfl⟩
end Go.Proofs.Ytcjlegjchllgjaa
end
section
set_option linter.unusedVariables false
set_option linter.unusedSimpArgs false
namespace Go.Proofs.Ytcjlegjchllgjaa
open Go Go.Fw
set_option maxRecDepth 10000
theorem greatDT (d : Dy) (h : d.G.length > 30 ∨ d.S.length > 30) (H : List Row) : Fc Try.prog 29 [.agg (cDy d).toArray] H (fun v H' => v = .bool true ∧ H' = H) := by
  have := greatD_spec d H
  rwa [decide_eq_true h] at this
theorem greatDF (d : Dy) (h : ¬ (d.G.length > 30 ∨ d.S.length > 30)) (H : List Row) : Fc Try.prog 29 [.agg (cDy d).toArray] H (fun v H' => v = .bool false ∧ H' = H) := by
  have := greatD_spec d H
  rwa [decide_eq_false h] at this
end Go.Proofs.Ytcjlegjchllgjaa
end
section
set_option linter.unusedVariables false
namespace Go.Fw
open Go Go.RowKit
def okOp3 (sm : List Nat) (ts : List TOp) (dom : List Nat) (n m : Nat) (i : Nat) (o : Oper) : Bool :=
  let T := tAt ts i
  (match o.guard with | some (j, _) => T.sup.contains j | none => true) && (o.dst == T.dst) &&
  (match T.dst with | some d => decide (d < n) && (!dom.contains d || sm.contains i) && (List.range i).all (fun j => (tAt ts j).dst != some d) | none => true) &&
  o.after.toList.all (fun e => !Region.binds .any e || decide (e.on < i)) &&
  T.sup.all (fun j => decide (j < i) && o.after.toList.any (fun e => Region.binds .any e && (e.on == j || (tAt ts e.on).sup.contains j))) &&
  T.deps.all (fun j => T.sup.contains j) && T.kills.all (fun k => T.sup.contains k || decide (m ≤ k ∧ k < ts.length))
def okReg3 (sm : List Nat) (ops : Array Oper) (ts : List TOp) (dom : List Nat) (n : Nat) : Bool :=
  decide (ops.size ≤ ts.length) && ops.toList.zipIdx.all (fun p => okOp3 sm ts dom n ops.size p.2 p.1) && decide ((ts.flatMap (·.kills)).Nodup) && (ts.drop ops.size).all (fun T => T.kills.isEmpty && T.sup.isEmpty)


theorem wpAny_ob3 {P : Program} {n : Nat} {ops : Array Oper} {ts : List TOp} {dom : List Nat} {F0 : FS} {sm : List Nat} (hd : F0.map (·.1) = dom) (hok : okReg3 sm ops ts dom n = true) (rd : Nat → List Nat) (hrd : okRd ts rd ops.size = true) (val : Nat → Env → Value) (rows : Nat → Env → List Row)
    (hloc : ∀ k env i p, i ≠ k → (tAt ts k).sup.contains i = false → val k (upd env i p) = val k env ∧ rows k (upd env i p) = rows k env)
    (hsm : ∀ i d, sm.contains i = true → (tAt ts i).dst = some d → ∀ env v, lk F0 d = some v → val i env = v)
    (R0 : List Row) (hob : ∀ i o, opAt ops.toList i = some o → ObR P n ts rd val rows F0 R0 i o)
    {Q : QT} (hQ : ∀ env t, Ag n F0 t → (∀ i d, i < ops.size → (tAt ts i).dst = some d → t[d]? = some (val i env)) → Q .normal t ((alive ts).flatMap (fun k => rows k env) ++ R0))
    {ρ : Option Nat} {ds : List Deferred} {B : Nat} {w0 : World} :
    ∀ (fuel : Nat) (listed : Array Bool) (U A : List Nat) (t : List Value) (H : List Row) (w : World) (env : Env), listed.size = ops.size → U.length = fuel → U.Nodup → (∀ k, k ∈ U ↔ k < ops.size ∧ listed.getD k true = false) →
      (∀ k, k < ops.size → listed.getD k true = true → ∀ j, (tAt ts k).sup.contains j = true → listed.getD j true = true) →
      A.Nodup → (∀ k, k ∈ A ↔ k < ts.length ∧ listed.getD k true = true ∧ ∀ j, j < ops.size → listed.getD j true = true → k ∉ (tAt ts j).kills) →
      Ag n F0 t → (∀ k d, k < ops.size → listed.getD k true = true → (tAt ts k).dst = some d → t[d]? = some (val k env)) →
      St B w0 H w → H.Perm (R0 ++ A.flatMap (fun k => rows k env)) → wpAnyIn (wf ρ) 0 P .any ops (lift ds B w0 Q) fuel listed ⟨t.toArray, ds⟩ w := by
  unfold okReg3 at hok
  simp only [Bool.and_eq_true, decide_eq_true_eq] at hok
  obtain ⟨⟨⟨hlen, hops⟩, hkn⟩, hps⟩ := hok
  have hopAt : ∀ i o, ops[i]? = some o → okOp3 sm ts dom n ops.size i o = true := by
    intro i o hi
    have := List.all_eq_true.1 hops (o, i) (by
      rw [List.mem_zipIdx_iff_getElem?]; simpa using hi)
    exact this
  intro fuel
  induction fuel with
  | zero =>
    intro listed U A t H w env hls hUl hUn hU hcl hAn hA hag hv hS hH
    have hU0 : U = [] := List.eq_nil_of_length_eq_zero hUl
    subst hU0
    have hall : ∀ k, listed.getD k true = true := by
      intro k
      cases hk : listed.getD k true with
      | true => rfl
      | false =>
        by_cases h1 : k < ops.size
        · exact absurd ((hU k).2 ⟨h1, hk⟩) (by simp)
        · rw [Array.getD_eq_getD_getElem?, Array.getElem?_eq_none (by omega)] at hk; cases hk
    refine ⟨?_, rfl, _, ?_, hS.perm (H' := (alive ts).flatMap (fun k => rows k env) ++ R0) ?_⟩
    · unfold Region.ready
      rw [List.filter_eq_nil_iff]
      intro k _
      rw [hall]; simp
    · have := hQ env t hag (fun i d hi hd => hv i d hi (hall i) hd)
      simpa using this
    · refine List.perm_append_comm.trans ((List.Perm.append_left R0 (List.Perm.flatMap_right _ ?_)).trans hH.symm)
      refine perm_of_mem ((List.nodup_range).sublist List.filter_sublist) hAn fun k => ?_
      rw [hA, alive, List.mem_filter, List.mem_range]
      simp only [hall, true_and, Bool.not_eq_true', List.contains_eq_mem, decide_eq_false_iff_not, true_implies]
      refine and_congr_right fun _ => ⟨fun h j _ hj => h (tAt_mem hj), fun h hm => ?_⟩
      obtain ⟨T, hT, hk⟩ := List.mem_flatMap.1 hm
      obtain ⟨j, hj, rfl⟩ := List.mem_iff_getElem.1 hT
      by_cases hj' : j < ops.size
      · exact h j hj' (by unfold tAt; simp [List.getD, hj, hk])
      · have := List.all_eq_true.1 hps ts[j] (by
          rw [List.mem_iff_getElem?]
          exact ⟨j - ops.size, by rw [List.getElem?_drop, show ops.size + (j - ops.size) = j by omega, List.getElem?_eq_getElem hj]⟩)
        simp only [Bool.and_eq_true, List.isEmpty_iff] at this
        rw [this.1] at hk; cases hk
  | succ fuel ih =>
    intro listed U A t H w env hls hUl hUn hU hcl hAn hA hag hv hS hH
    have hge : ∀ k, ops.size ≤ k → listed.getD k true = true := fun k hk => by rw [Array.getD_eq_getD_getElem?, Array.getElem?_eq_none (by omega)]; rfl
    have hgd : ∀ k, k < ops.size → listed.getD k false = listed.getD k true := fun k hk => by
      rw [Array.getD_eq_getD_getElem?, Array.getD_eq_getD_getElem?, Array.getElem?_eq_getElem (by omega)]; rfl
    refine ⟨fun h0 => ?_, fun i hi => ?_⟩
    · exfalso
      have key : ∀ m, m ∈ U → False := by
        intro m
        induction m using Nat.strongRecOn with
        | _ m ihm =>
          intro hm
          obtain ⟨hms, hml⟩ := (hU m).1 hm
          obtain ⟨o, ho⟩ : ∃ o, ops[m]? = some o := ⟨ops[m], Array.getElem?_eq_getElem hms⟩
          have hc := hopAt m o ho
          unfold okOp3 at hc
          simp only [Bool.and_eq_true] at hc
          obtain ⟨⟨⟨⟨_, haf⟩, _⟩, _⟩, _⟩ := hc
          by_cases hal : o.after.all (fun e => !Region.binds .any e || listed.getD e.on false) = true
          · have : m ∈ Region.ready .any ops listed := by
              unfold Region.ready
              rw [List.mem_filter]
              refine ⟨List.mem_range.2 hms, ?_⟩
              rw [hml, ho]
              simp only [Option.map_some, Option.getD_some, Bool.not_false, Bool.true_and]
              exact hal
            rw [h0] at this; cases this
          · have : ∃ e ∈ o.after, ¬ ((!Region.binds .any e || listed.getD e.on false) = true) := by
              rw [Array.all_eq_true_iff_forall_mem] at hal
              simpa using hal
            obtain ⟨e, he, hne⟩ := this
            have h1 := List.all_eq_true.1 haf e (Array.mem_toList_iff.2 he)
            simp only [Bool.or_eq_true, Bool.not_eq_true', not_or, Bool.not_eq_false, Bool.not_eq_true] at hne h1
            have h2 : e.on < m := by
              rcases h1 with h1 | h1
              · rw [hne.1] at h1; cases h1
              · simpa using h1
            refine ihm e.on h2 ((hU e.on).2 ⟨by omega, ?_⟩)
            rw [← hgd e.on (by omega)]; exact hne.2
      cases U with
      | nil => simp at hUl
      | cons u U => exact key u (List.mem_cons_self ..)
    · unfold Region.ready at hi
      rw [List.mem_filter, List.mem_range] at hi
      obtain ⟨his, hi2⟩ := hi
      obtain ⟨o, ho⟩ : ∃ o, ops[i]? = some o := ⟨ops[i], Array.getElem?_eq_getElem his⟩
      simp only [ho, Option.map_some, Option.getD_some, Bool.and_eq_true, Bool.not_eq_true'] at hi2
      obtain ⟨hil, hia⟩ := hi2
      have hc := hopAt i o ho
      unfold okOp3 at hc
      simp only [Bool.and_eq_true] at hc
      obtain ⟨⟨⟨⟨⟨⟨hgu, hdst⟩, hds⟩, haf⟩, hsup⟩, hdeps⟩, hkil⟩ := hc
      have hdst' : o.dst = (tAt ts i).dst := by simpa using hdst
      rw [Array.all_eq_true_iff_forall_mem] at hia
      have hson : ∀ j, (tAt ts i).sup.contains j = true → j < i ∧ listed.getD j true = true := by
        intro j hj
        have h1 := List.all_eq_true.1 hsup j (by simpa using hj)
        simp only [Bool.and_eq_true, decide_eq_true_eq, List.any_eq_true] at h1
        obtain ⟨hji, e, he', hb, h2⟩ := h1
        have he := Array.mem_toList_iff.1 he'
        refine ⟨hji, ?_⟩
        have h3 := hia e he
        rw [hb] at h3
        have h4 := List.all_eq_true.1 haf e he'
        rw [hb] at h4
        simp only [Bool.not_true, Bool.false_or, decide_eq_true_eq] at h3 h4
        rw [hgd e.on (by omega)] at h3
        simp only [Bool.or_eq_true, beq_iff_eq] at h2
        rcases h2 with h2 | h2
        · rw [← h2]; exact h3
        · exact hcl e.on (by omega) h3 j h2
      have hks : ∀ k ∈ (tAt ts i).kills, k ∈ A := by
        intro k hk
        rw [hA]
        have h1 := List.all_eq_true.1 hkil k hk
        simp only [Bool.or_eq_true, decide_eq_true_eq] at h1
        refine ⟨?_, ?_, fun j hj hjl hkj => ?_⟩
        · rcases h1 with h1 | h1
          · have := (hson k h1).1; omega
          · omega
        · rcases h1 with h1 | h1
          · exact (hson k h1).2
          · exact hge k h1.1
        · have := kills_once hkn hk hkj
          subst this
          rw [hil] at hjl; cases hjl
      have hkin : (tAt ts i).kills.Nodup := by
        unfold tAt List.getD
        cases hti : ts[i]? with
        | none => simp
        | some T =>
          simp only [Option.getD_some]
          exact kills_nodup hkn (List.mem_of_getElem? hti)
      obtain ⟨A', hp, hA'n, hA'm⟩ := take_out _ A hkin hAn hks
      have hH1 : ((tAt ts i).kills.flatMap (fun k => rows k env) ++ (R0 ++ A'.flatMap (fun k => rows k env))).Perm H := by
        refine List.Perm.trans ?_ hH.symm
        refine List.Perm.trans ?_ (List.Perm.append_left R0 (List.Perm.flatMap_right _ hp.symm))
        rw [List.flatMap_append, ← List.append_assoc, ← List.append_assoc]
        exact List.Perm.append_right _ List.perm_append_comm
      have hdp : ∀ k ∈ (tAt ts i).deps, ∀ d, (tAt ts k).dst = some d → t[d]? = some (val k env) := by
        intro k hk d hd
        have h1 := List.all_eq_true.1 hdeps k hk
        obtain ⟨h2, h3⟩ := hson k h1
        exact hv k d (by omega) h3 hd
      have hst := hob i o (by rw [opAt_eq]; simpa using ho)
      have hreads : ∀ k ∈ rd i, ∀ r ∈ rows k env, r ∈ R0 ++ A'.flatMap (fun k => rows k env) := by
        intro k hk r hr
        refine List.mem_append_right _ (List.mem_flatMap.2 ⟨k, ?_, hr⟩)
        have h1 := List.all_eq_true.1 (List.all_eq_true.1 hrd i (List.mem_range.2 his)) k hk
        simp only [Bool.and_eq_true, Bool.or_eq_true, decide_eq_true_eq, Bool.not_eq_true'] at h1
        obtain ⟨⟨h1, h2⟩, h3⟩ := h1
        rw [hA'm, hA]
        refine ⟨⟨?_, ?_, fun j hj hjl hkj => ?_⟩, by simpa using h2⟩
        · rcases h1 with h1 | h1
          · have := (hson k h1).1; omega
          · omega
        · rcases h1 with h1 | h1
          · exact (hson k h1).2
          · exact hge k h1.1
        · have h4 := List.all_eq_true.1 h3 j (List.mem_range.2 hj)
          simp only [Bool.or_eq_true, Bool.not_eq_true'] at h4
          rcases h4 with h4 | h4
          · rw [List.contains_iff_mem.2 hkj] at h4; cases h4
          · have := hcl j hj hjl i h4
            rw [hil] at this; cases this
      have hyv : ∀ j ww, o.guard = some (j, ww) → (tAt ts j).dst ≠ none → yielded ops t.toArray j = bv (val j env) := by
        intro j ww hg hj
        rw [hg] at hgu
        obtain ⟨h1, h2⟩ := hson j hgu
        obtain ⟨d, hd'⟩ := Option.ne_none_iff_exists'.1 hj
        have hoj : ops[j]? = some ops[j] := Array.getElem?_eq_getElem (by omega)
        have hcj := hopAt j _ hoj
        unfold okOp3 at hcj
        simp only [Bool.and_eq_true] at hcj
        have hdj : (ops[j]).dst = (tAt ts j).dst := by simpa using hcj.1.1.1.1.1.2
        exact yielded_bv hoj (by rw [hdj, hd']) (hv j d (by omega) h2 hd')
      have hnext : ∀ (v : Value) (w' : World) (H' : List Row), St B w0 H' w' → (∃ p, ((tAt ts i).dst ≠ none → v = val i (upd env i p)) ∧ H'.Perm (rows i (upd env i p) ++ (R0 ++ A'.flatMap (fun k => rows k env)))) → wpAnyIn (wf ρ) 0 P .any ops (lift ds B w0 Q) fuel (listed.setIfInBounds i true) ⟨(put t o.dst v).toArray, ds⟩ w' := by
        rintro v w' H' hS' ⟨p, hval, hH'⟩
        have hl' : ∀ k, (listed.setIfInBounds i true).getD k true = if k = i then true else listed.getD k true := by
          intro k
          rw [Array.getD_eq_getD_getElem?, Array.getD_eq_getD_getElem?, Array.getElem?_setIfInBounds]
          by_cases hki : k = i
          · subst hki; simp; split <;> rfl
          · rw [if_neg (fun e => hki e.symm), if_neg hki]
        have hnot : ∀ k, listed.getD k true = true → (tAt ts k).sup.contains i = false := by
          intro k hk
          by_cases hks' : k < ops.size
          · cases hcs : (tAt ts k).sup.contains i with
            | false => rfl
            | true => have := hcl k hks' hk i hcs; rw [hil] at this; cases this
          · by_cases hkt : k < ts.length
            · have := List.all_eq_true.1 hps ts[k] (by
                rw [List.mem_iff_getElem?]
                exact ⟨k - ops.size, by rw [List.getElem?_drop, show ops.size + (k - ops.size) = k by omega, List.getElem?_eq_getElem hkt]⟩)
              simp only [Bool.and_eq_true, List.isEmpty_iff] at this
              have e : tAt ts k = ts[k] := by unfold tAt; simp [List.getD, hkt]
              rw [e, this.2]; rfl
            · have e : tAt ts k = ⟨none, [], [], []⟩ := by unfold tAt; simp [List.getD, List.getElem?_eq_none (by omega : ts.length ≤ k)]
              rw [e]; rfl
        have hiA : i ∉ A := fun h => by have := ((hA i).1 h).2.1; rw [hil] at this; cases this
        refine ih (listed.setIfInBounds i true) (U.erase i) (i :: A') (put t o.dst v) H' w' (upd env i p) (by simpa using hls) ?_ (hUn.sublist List.erase_sublist) ?_ ?_ ?_ ?_ ?_ ?_ hS' ?_
        · rw [List.length_erase_of_mem ((hU i).2 ⟨his, hil⟩)]; omega
        · intro k
          rw [hUn.mem_erase_iff, hU, hl']
          by_cases hki : k = i
          · simp [hki]
          · simp [hki]
        · intro k hk hkl j hj
          rw [hl'] at hkl ⊢
          split
          · rfl
          · by_cases hki : k = i
            · subst hki; exact (hson j hj).2
            · rw [if_neg hki] at hkl; exact hcl k hk hkl j hj
        · exact List.nodup_cons.2 ⟨fun h => hiA ((hA'm i).1 h).1, hA'n⟩
        · intro k
          rw [List.mem_cons, hA'm, hA, hl']
          by_cases hki : k = i
          · subst hki
            simp only [true_or, if_true, true_and, true_iff]
            refine ⟨by omega, fun j hj hjl hkj => ?_⟩
            have h1 : ops[j]? = some ops[j] := Array.getElem?_eq_getElem hj
            have hcj := hopAt j _ h1
            unfold okOp3 at hcj
            simp only [Bool.and_eq_true] at hcj
            have h2 := List.all_eq_true.1 hcj.2 k hkj
            simp only [Bool.or_eq_true, decide_eq_true_eq] at h2
            rw [hl'] at hjl
            rcases h2 with h2 | h2
            · by_cases hjk : j = k
              · subst hjk; have := (hson j h2).1; omega
              · rw [if_neg hjk] at hjl
                have := hcl j hj hjl k h2
                rw [hil] at this; cases this
            · omega
          · simp only [hki, false_or, if_false]
            constructor
            · rintro ⟨⟨h1, h2, h3⟩, h4⟩
              refine ⟨h1, h2, fun j hj hjl => ?_⟩
              rw [hl'] at hjl
              by_cases hji : j = i
              · subst hji; exact h4
              · rw [if_neg hji] at hjl; exact h3 j hj hjl
            · rintro ⟨h1, h2, h3⟩
              exact ⟨⟨h1, h2, fun j hj hjl => h3 j hj (by rw [hl']; split; rfl; exact hjl)⟩, h3 i his (by rw [hl', if_pos rfl])⟩
        · cases hdd : o.dst with
          | none => exact hag
          | some d =>
            rw [hdst'] at hdd
            rw [hdd] at hds
            simp only [Bool.and_eq_true, decide_eq_true_eq] at hds
            refine ⟨by simpa [put] using hag.1, fun s u hs => ?_⟩
            have h1 := hag.2 s u hs
            simp only [put, List.getElem?_set]
            by_cases hsd : d = s
            · subst hsd
              have : d ∈ dom := by
                rw [← hd]
                exact lk_mem hs
              have h2 := hds.1.2
              have hsi : sm.contains i = true := by simpa [this] using h2
              have e : v = u := (hval (by rw [hdd]; simp)).trans (hsm i d hsi hdd _ u hs)
              rw [if_pos rfl, e]
              exact if_pos (by rw [hag.1]; exact hds.1.1)
            · rw [if_neg hsd]
              exact h1
        · intro k d hk hkl hkd
          rw [hl'] at hkl
          by_cases hki : k = i
          · subst hki
            rw [hdst', hkd]
            rw [hkd] at hds
            simp only [Bool.and_eq_true, decide_eq_true_eq] at hds
            simp only [put, List.getElem?_set, if_true]
            rw [if_pos (by rw [hag.1]; exact hds.1.1), hval (by rw [hkd]; simp)]
          · rw [if_neg hki] at hkl
            rw [(hloc k env i p (fun e => hki e.symm) (hnot k hkl)).1]
            have h1 := hv k d hk hkl hkd
            cases hdd : o.dst with
            | none => exact h1
            | some d' =>
              simp only [put, List.getElem?_set]
              rw [if_neg]
              · exact h1
              · rintro rfl
                rw [hdst'] at hdd
                rcases Nat.lt_or_gt_of_ne hki with hlt | hlt
                · rw [hdd] at hds
                  simp only [Bool.and_eq_true] at hds
                  have := List.all_eq_true.1 hds.2 k (List.mem_range.2 hlt)
                  simp [hkd] at this
                · have hck := hopAt k _ (Array.getElem?_eq_getElem hk)
                  unfold okOp3 at hck
                  simp only [Bool.and_eq_true] at hck
                  have hdk := hck.1.1.1.1.2
                  rw [hkd] at hdk
                  simp only [Bool.and_eq_true] at hdk
                  have := List.all_eq_true.1 hdk.2 i (List.mem_range.2 hlt)
                  simp [hdd] at this
        · refine hH'.trans ?_
          have e : A'.flatMap (fun k => rows k (upd env i p)) = A'.flatMap (fun k => rows k env) := by
            have : ∀ k ∈ A', rows k (upd env i p) = rows k env := fun k hk => by
              have h1 := (hA'm k).1 hk
              have h2 := ((hA k).1 h1.1).2.1
              exact (hloc k env i p (fun e => hiA (e ▸ h1.1)) (hnot k h2)).2
            exact flatMap_congr' this
          rw [List.flatMap_cons, e, ← List.append_assoc, ← List.append_assoc]
          exact List.Perm.append_right _ List.perm_append_comm
      unfold wpOpIn
      simp only [ho]
      rcases hst with ⟨hgr, hst⟩ | ⟨j, ww, hg, hj, hbv, hki, hvi, hri⟩
      · have hwant : Region.wanted o (yielded ops t.toArray) = true := by
          unfold Region.wanted
          rcases hgr with hgr | ⟨j, ww, hg, hj, hb⟩
          · rw [hgr]
          · rw [hg]; simp only [hyv j ww hg hj, hb]; simp
        simp only [hwant, if_true]
        exact hst env (R0 ++ A'.flatMap (fun k => rows k env)) (fun r hr => List.mem_append_left _ hr) hreads t (ag_fdeps hag _ hdp) ρ ds B w0 w (hS.perm hH1) _ _ hnext
      · have hwant : Region.wanted o (yielded ops t.toArray) = false := by
          unfold Region.wanted
          rw [hg]; simp only [hyv j ww hg hj]
          simpa using hbv env
        simp only [hwant, Bool.false_eq_true, if_false]
        rw [put_act]
        refine ⟨fun _ _ => trivial, hnext undef w _ hS ⟨(0, 0), fun _ => (hvi _).symm, ?_⟩⟩
        --, fun _ => (hvi _).symm, ?_⟩
        rw [hri, List.nil_append]
        rw [hki] at hH1
        simpa using hH1.symm

theorem X.regionSm {P : Program} {n : Nat} {c : Code} {F : FS} {H : List Row} {Q : QX} (sm : List Nat) (ts : List TOp) (rd : Nat → List Nat) (dom : List Nat) (F0 : FS) (val : Nat → Env → Value) (rows : Nat → Env → List Row) (env0 : Env) (R0 : List Row)
    (h : c = .region (cid c) (cops c) true) (hm : P.follows .mixedOrders = true) (hsub : Sub F0 F) (hd : F0.map (·.1) = dom) (hok : okReg3 sm (cops c) ts dom n = true) (hrd : okRd ts rd (cops c).size = true)
    (hloc : ∀ k env i p, i ≠ k → (tAt ts k).sup.contains i = false → val k (upd env i p) = val k env ∧ rows k (upd env i p) = rows k env)
    (hsm : ∀ i d, sm.contains i = true → (tAt ts i).dst = some d → ∀ env v, lk F0 d = some v → val i env = v)
    (hH : (((List.range ts.length).drop (cops c).size).flatMap (fun k => rows k env0) ++ R0).Sublist H)
    (hob' : AllF (cops c).toList 0 fun i o => ObR P n ts rd val rows F0 R0 i o)
    (hQ : ∀ env t, Ag n F0 t → (∀ i d, i < (cops c).size → (tAt ts i).dst = some d → t[d]? = some (val i env)) → exQ n Q .normal t ((alive ts).flatMap (fun k => rows k env) ++ R0)) : X P n c F H Q := by
  have hob := fun i o ho => hob' i o (Nat.zero_le i) ho
  unfold X W
  intro t ha ρ ds B w0 w hS
  rw [h]
  refine wpIn_region_any hm ?_
  have hlen : (cops c).size ≤ ts.length := by
    have := hok
    unfold okReg3 at this
    simp only [Bool.and_eq_true, decide_eq_true_eq] at this
    exact this.1.1.1
  have hl : ∀ k d, (Array.replicate (cops c).size false).getD k d = if k < (cops c).size then false else d := by
    intro k d
    rw [Array.getD_eq_getD_getElem?, Array.getElem?_replicate]
    split <;> rfl
  have hdm : ∀ k, k ∈ (List.range ts.length).drop (cops c).size ↔ (cops c).size ≤ k ∧ k < ts.length := by
    intro k
    rw [List.mem_iff_getElem?]
    constructor
    · rintro ⟨j, hj⟩
      rw [List.getElem?_drop] at hj
      have := List.getElem?_eq_some_iff.1 hj
      obtain ⟨h1, h2⟩ := this
      simp at h1 h2
      omega
    · rintro ⟨h1, h2⟩
      exact ⟨k - (cops c).size, by rw [List.getElem?_drop, show (cops c).size + (k - (cops c).size) = k by omega, List.getElem?_range h2]⟩
  refine wpAny_ob3 hd hok rd hrd val rows hloc hsm R0 hob hQ (cops c).size _ (List.range (cops c).size) ((List.range ts.length).drop (cops c).size) t _ _ env0 (by simp) (by simp) List.nodup_range ?_ ?_ ((List.nodup_range).sublist (List.drop_sublist _ _)) ?_ (ha.sub hsub) ?_ ((hS.drewN 1).sub hH) List.perm_append_comm
  · intro k
    rw [List.mem_range, hl]
    by_cases hk : k < (cops c).size <;> simp [hk]
  · intro k hk hkl
    rw [hl, if_pos hk] at hkl
    cases hkl
  · intro k
    rw [hdm, hl]
    constructor
    · rintro ⟨h1, h2⟩
      refine ⟨h2, by rw [if_neg (by omega)], fun j hj hjl => ?_⟩
      rw [hl, if_pos hj] at hjl
      cases hjl
    · rintro ⟨h1, h2, _⟩
      refine ⟨?_, h1⟩
      by_cases hk : k < (cops c).size
      · rw [if_pos hk] at h2; cases h2
      · omega
  · intro k d hk hkl
    rw [hl, if_pos hk] at hkl
    cases hkl

end Go.Fw
end
