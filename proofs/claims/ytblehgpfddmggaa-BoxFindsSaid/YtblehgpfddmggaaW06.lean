/- Own work: contracts of functions, from rows of what is known of the memory; contracts of functions, from rows of what is known of the memory; contracts of functions, from rows of what is known of the memory; contracts of functions, from rows of what is known of the memory; The reference: differ.; contracts of functions, from rows of what is known of the memory; contracts of functions, from rows of what is known of the memory; contracts of functions, from rows of what is known of the memory; contracts of functions, from rows of what is known of the memory; contracts of functions, from rows of what is known of the memory; contracts of functions, from rows of what is known of the memory; contracts of functions, from rows of what is known of the memory; contracts of functions, from rows of what is known -/
import Derived.Test.YtblehgpfddmggaaW05
section
set_option linter.unusedVariables false
set_option linter.unusedSimpArgs false
namespace Go.Proofs.Ytblehgpfddmggaa
open Go Go.Fw
set_option maxRecDepth 10000
theorem inj2 : ∀ (a b m n : Nat), 2 ^ a * (2 * m + 1) = 2 ^ b * (2 * n + 1) → a = b ∧ m = n
  | 0, 0, m, n, h => by simp only [Nat.pow_zero, Nat.one_mul] at h; exact ⟨rfl, by omega⟩
  | 0, b + 1, m, n, h => by
    rw [Nat.pow_succ, Nat.mul_comm (2 ^ b) 2, Nat.mul_assoc] at h
    simp only [Nat.pow_zero, Nat.one_mul] at h
    omega
  | a + 1, 0, m, n, h => by
    rw [Nat.pow_succ, Nat.mul_comm (2 ^ a) 2, Nat.mul_assoc] at h
    simp only [Nat.pow_zero, Nat.one_mul] at h
    omega
  | a + 1, b + 1, m, n, h => by
    rw [Nat.pow_succ, Nat.mul_comm (2 ^ a) 2, Nat.mul_assoc, Nat.pow_succ, Nat.mul_comm (2 ^ b) 2, Nat.mul_assoc] at h
    obtain ⟨h1, h2⟩ := inj2 a b m n (by omega)
    exact ⟨by omega, h2⟩
def eI (i : Int) : Nat := if 0 ≤ i then 2 * i.toNat else 2 * (-i).toNat + 1
theorem eI_inj {i j : Int} (h : eI i = eI j) : i = j := by unfold eI at h; split at h <;> split at h <;> omega
def eSp (s : Sp) : Nat := 2 ^ eI s.lo * (2 * eI s.hi + 1)
theorem eSp_inj {s t : Sp} (h : eSp s = eSp t) : s = t := by
  obtain ⟨h1, h2⟩ := inj2 _ _ _ _ h
  cases s; cases t
  have := eI_inj h1
  have := eI_inj h2
  simp_all
def eLs : List Sp → Nat
  | [] => 0
  | s :: l => 2 ^ eSp s * (2 * eLs l + 1)
theorem eLs_inj : ∀ (l r : List Sp), eLs l = eLs r → l = r
  | [], [], _ => rfl
  | [], s :: r, h => by
    have : 0 < 2 ^ eSp s := Nat.pow_pos (by omega)
    have : 0 < 2 ^ eSp s * (2 * eLs r + 1) := Nat.mul_pos this (by omega)
    unfold eLs at h; omega
  | s :: l, [], h => by
    have : 0 < 2 ^ eSp s := Nat.pow_pos (by omega)
    have : 0 < 2 ^ eSp s * (2 * eLs l + 1) := Nat.mul_pos this (by omega)
    unfold eLs at h; omega
  | s :: l, t :: r, h => by
    obtain ⟨h1, h2⟩ := inj2 _ _ _ _ h
    rw [eSp_inj h1, eLs_inj l r h2]
theorem drawn {α : Type} (e : α → Nat) (inj : ∀ a b, e a = e b → a = b) (Φ : α → Prop) (h : ∃ a, Φ a) : ∃ d : Nat → α, (∀ n, Φ (d n)) ∧ ∀ a, Φ a → ∃ n, d n = a := by
  classical
  obtain ⟨a0, h0⟩ := h
  refine ⟨fun n => if q : ∃ a, Φ a ∧ e a = n then q.choose else a0, fun n => ?_, fun a ha => ⟨e a, ?_⟩⟩
  · dsimp only
    split
    · rename_i q; exact q.choose_spec.1
    · exact h0
  · have q : ∃ b, Φ b ∧ e b = e a := ⟨a, ha, rfl⟩
    dsimp only
    rw [dif_pos q]
    exact inj _ _ q.choose_spec.2
open Classical in
noncomputable def chartOf (R : Rm) (f : Bx → Int → Sp) : List Sp := (List.range 48).map (fun k => if h : ∃ q : Bx × Int, there R q.1 q.2 ∧ cel R ⟨q.1.id, q.2⟩ = k then f h.choose.1 h.choose.2 else ⟨0, 0⟩)
theorem chartOf_len (R : Rm) (f : Bx → Int → Sp) : (chartOf R f).length = 48 := by unfold chartOf; simp
theorem chartOf_get {R : Rm} {f : Bx → Int → Sp} {k : Nat} (h : k < 48) : ∃ s, sat (chartOf R f) k = s ∧ ((∃ b m, there R b m ∧ cel R ⟨b.id, m⟩ = k ∧ s = f b m) ∨ s = ⟨0, 0⟩) := by
  refine ⟨_, rfl, ?_⟩
  unfold sat chartOf
  rw [List.getD_eq_getElem?_getD, List.getElem?_map, List.getElem?_range h]
  simp only [Option.map_some, Option.getD_some]
  split
  · rename_i q; exact .inl ⟨_, _, q.choose_spec.1, q.choose_spec.2, rfl⟩
  · exact .inr rfl
theorem chartOf_at {R : Rm} (hr : okRm R) {f : Bx → Int → Sp} {b : Bx} {m : Int} (ht : there R b m) : sat (chartOf R f) (cel R ⟨b.id, m⟩) = f b m := by
  unfold sat chartOf
  rw [List.getD_eq_getElem?_getD, List.getElem?_map, List.getElem?_range (cel_lt hr ht)]
  simp only [Option.map_some, Option.getD_some]
  have q : ∃ q : Bx × Int, there R q.1 q.2 ∧ cel R ⟨q.1.id, q.2⟩ = cel R ⟨b.id, m⟩ := ⟨(b, m), ht, rfl⟩
  rw [dif_pos q]
  obtain ⟨h1, h2⟩ := cel_inj hr q.choose_spec.1 ht q.choose_spec.2
  rw [h1, h2]
theorem chartOf_ok {R : Rm} {f : Bx → Int → Sp} (h : ∀ b m, there R b m → 0 ≤ (f b m).lo ∧ (f b m).lo ≤ (f b m).hi ∧ (f b m).hi ≤ 60) (k : Nat) : 0 ≤ (sat (chartOf R f) k).lo ∧ (sat (chartOf R f) k).lo ≤ (sat (chartOf R f) k).hi ∧ (sat (chartOf R f) k).hi ≤ 60 := by
  by_cases hk : k < 48
  · obtain ⟨s, h1, h2⟩ := chartOf_get (R := R) (f := f) hk
    rw [h1]
    rcases h2 with ⟨b, m, ht, _, rfl⟩ | rfl
    · exact h b m ht
    · exact ⟨by decide, by decide, by decide⟩
  · have : sat (chartOf R f) k = ⟨0, 0⟩ := by
      unfold sat
      rw [List.getD_eq_getElem?_getD, List.getElem?_eq_none (by rw [chartOf_len]; omega)]
      rfl
    rw [this]
    exact ⟨by decide, by decide, by decide⟩
theorem first_ex {R : Rm} (hr : okRm R) : ∃ l, FirstC R l := ⟨chartOf R (fun b m => R.ages.getD (m - b.made).toNat ⟨0, 0⟩), chartOf_len _ _, fun b m ht => chartOf_at hr ht, chartOf_ok (fun b m ht => hr.age ht)⟩
/-- what is known by all matches -/
structure Fd (R : Rm) (x : List Sp × Bool) : Prop where
  len : x.1.length = 48
  yes : x.2 = true → hasT R R.mats ∧ GoodC R R.mats x.1 ∧ ∀ b m, there R b m → ExR R R.mats ⟨b.id, m⟩ zp (sat x.1 (cel R ⟨b.id, m⟩))
  no : x.2 = false → ¬ hasT R R.mats
theorem ex_mem {R : Rm} (hr : okRm R) (hm : matsThere R R.mats) (hT : hasT R R.mats) {a b : Pk} (ha : a ∈ plcs R) (hb : b ∈ plcs R) : ExR R R.mats a b (rng R R.mats a b) := by
  obtain ⟨tx, htx⟩ := (hasT_iff hr hm (pidx_lt ha)).1 hT
  obtain ⟨ty, hty⟩ := (hasT_iff hr hm (pidx_lt hb)).1 hT
  exact (most_rng hr ha hb (most_some hr hm (pidx_lt hb) hty) (most_some hr hm (pidx_lt ha) htx)).rng
theorem fd_ex {R : Rm} (hr : okRm R) (hm : matsThere R R.mats) : ∃ x, Fd R x := by
  by_cases hT : hasT R R.mats
  · have hx : ∀ b m, there R b m → ExR R R.mats ⟨b.id, m⟩ zp (rng R R.mats ⟨b.id, m⟩ zp) := fun b m ht => ex_mem hr hm hT (plcs_mem ht) (zp_mem R)
    have hx2 : ∀ b m, there R b m → (R.ages.getD (m - b.made).toNat ⟨0, 0⟩).lo ≤ (rng R R.mats ⟨b.id, m⟩ zp).lo ∧ (rng R R.mats ⟨b.id, m⟩ zp).hi ≤ (R.ages.getD (m - b.made).toNat ⟨0, 0⟩).hi ∧ (rng R R.mats ⟨b.id, m⟩ zp).lo ≤ (rng R R.mats ⟨b.id, m⟩ zp).hi := fun b m ht => by
      obtain ⟨z1, t1, e1⟩ := (hx b m ht).lo
      obtain ⟨z2, t2, e2⟩ := (hx b m ht).hi
      have a1 := t1.age b m ht
      have a2 := t2.age b m ht
      have a3 := (hx b m ht).all z2 t2
      rw [t1.zero] at e1
      rw [t2.zero] at e2 a3
      omega
    obtain ⟨l, hl, hat, hok⟩ : ∃ l : List Sp, l.length = 48 ∧ (∀ b m, there R b m → sat l (cel R ⟨b.id, m⟩) = rng R R.mats ⟨b.id, m⟩ zp) ∧ ∀ k, 0 ≤ (sat l k).lo ∧ (sat l k).lo ≤ (sat l k).hi ∧ (sat l k).hi ≤ 60 :=
      ⟨chartOf R (fun b m => rng R R.mats ⟨b.id, m⟩ zp), chartOf_len _ _, fun b m ht => chartOf_at hr ht, chartOf_ok (fun b m ht => by
        have h1 := hx2 b m ht
        have h2 := hr.age ht
        omega)⟩
    refine ⟨(l, true), hl, fun _ => ⟨hT, ⟨hl, fun b m ht => ?_, fun z hz b m ht => ?_, hok⟩, fun b m ht => ?_⟩, fun h => by cases h⟩
    · show _ ≤ (sat l _).lo ∧ (sat l _).hi ≤ _ ∧ (sat l _).lo ≤ (sat l _).hi
      rw [hat b m ht]; exact hx2 b m ht
    · show holds (sat l _) _
      rw [hat b m ht]
      have := (hx b m ht).all z hz
      rw [hz.zero] at this
      unfold holds
      omega
    · show ExR R R.mats _ zp (sat l _)
      rw [hat b m ht]; exact hx b m ht
  · exact ⟨(List.replicate 48 ⟨0, 0⟩, false), by simp, (fun h => by cases h), fun _ => hT⟩
theorem Fd.yes_of {R : Rm} {c l : List Sp} (hr : okRm R) (hm : matsThere R R.mats) (hf : FirstC R c) (h : ClosedT R R.mats c l) : Fd R (l, true) :=
  ⟨h.len, fun _ => ⟨⟨_, h.fix.zlo hr hm (h.ages (hf.ages hr))⟩, h.good (hf.good hr), fun b m ht => h.ex hr hm (hf.ages hr) hf.inn ht⟩, fun h => by cases h⟩
theorem Fd.no_of {R : Rm} {c l : List Sp} (hf : FirstC R c) (hl : l.length = 48) (h : ∀ z, Tru R R.mats z → ¬ Inn R c z) : Fd R (l, false) :=
  ⟨hl, (fun h => by cases h), fun _ ⟨z, hz⟩ => h z hz (hf.inn z hz)⟩
def eX (x : List Sp × Bool) : Nat := 2 * eLs x.1 + (if x.2 then 1 else 0)
theorem eX_inj (a b : List Sp × Bool) (h : eX a = eX b) : a = b := by
  obtain ⟨a, p⟩ := a
  obtain ⟨b, q⟩ := b
  unfold eX at h
  dsimp only at h
  have h1 : p = q := by cases p <;> cases q <;> simp_all <;> omega
  subst h1
  rw [eLs_inj a b (by omega)]
end Go.Proofs.Ytblehgpfddmggaa
end
section
set_option linter.unusedVariables false
set_option linter.unusedSimpArgs false
namespace Go.Proofs.Ytblehgpfddmggaa
open Go Go.Fw
set_option maxRecDepth 10000
theorem Fd.dec {R : Rm} {x : List Sp × Bool} (h : Fd R x) : x.2 = decide (hasT R R.mats) := by
  by_cases q : hasT R R.mats
  · rw [decide_eq_true q]
    cases e : x.2
    · exact absurd q (h.no e)
    · rfl
  · rw [decide_eq_false q]
    cases e : x.2
    · rfl
    · exact absurd (h.yes e).1 q
theorem Fd.len96 {R : Rm} {x : List Sp × Bool} (h : Fd R x) : (x.1.flatMap cSp).length = 96 := by rw [sp_len, h.len]
def tsFo : List TOp := [⟨some 4, [], [], []⟩, ⟨some 5, [], [], []⟩, ⟨some 6, [1], [1], []⟩, ⟨some 7, [], [], []⟩, ⟨some 8, [3], [3], []⟩, ⟨some 9, [0, 1, 2, 3, 4], [0, 2, 4], []⟩, ⟨some 10, [0, 1, 2, 3, 4, 5], [5], []⟩, ⟨some 11, [0, 1, 2, 3, 4, 5], [5], []⟩, ⟨none, [0, 1, 2, 3, 4, 5, 6, 7], [6], [10]⟩, ⟨some 3, [0, 1, 2, 3, 4, 5, 6, 7, 8], [7], []⟩, ⟨none, [], [], []⟩]
def valFo (b1 b2 : Nat) (R : Rm) (p : Pl) (dc : Nat → List Sp) (dx : Nat → List Sp × Bool) (k : Nat) (env : Env) : Value :=
  match k with
  | 0 => .agg (cRm R p).toArray
  | 1 => .pointer (some ⟨b1, 4, none⟩)
  | 2 => .slice p.a3 R.mats.length p.c3
  | 3 => .agg (cRm R p).toArray
  | 4 => .agg ((dc (env 4).1).flatMap cSp).toArray
  | 5 => .tuple #[.agg ((dx (env 5).1).1.flatMap cSp).toArray, .bool (dx (env 5).1).2]
  | 6 => .agg ((dx (env 5).1).1.flatMap cSp).toArray
  | 7 => .bool ((dx (env 5).1).2)
  | 8 => undef
  | 9 => .bool ((dx (env 5).1).2)
  | _ => undef
def rowsFo (b1 b2 : Nat) (R : Rm) (p : Pl) (dc : Nat → List Sp) (dx : Nat → List Sp × Bool) (k : Nat) (env : Env) : List Row :=
  match k with
  | 8 => [⟨b2, 0, (dx (env 5).1).1.flatMap cSp, some 107, 96⟩]
  | 10 => [⟨b2, 0, zRc.flatMap cSp, some 107, 96⟩]
  | _ => []
theorem locFo (b1 b2 : Nat) (R : Rm) (p : Pl) (dc : Nat → List Sp) (dx : Nat → List Sp × Bool) : ∀ k env i q9, i ≠ k → (tAt tsFo k).sup.contains i = false → valFo b1 b2 R p dc dx k (upd env i q9) = valFo b1 b2 R p dc dx k env ∧ rowsFo b1 b2 R p dc dx k (upd env i q9) = rowsFo b1 b2 R p dc dx k env := by
  intro k env i q hk hs
  have hu : ∀ j, j ≠ i → upd env i q j = env j := fun j hj => by unfold upd; rw [if_neg hj]
  match k, hk, hs with
  | 0, _, _ => exact ⟨rfl, rfl⟩
  | 1, _, _ => exact ⟨rfl, rfl⟩
  | 2, _, _ => exact ⟨rfl, rfl⟩
  | 3, _, _ => exact ⟨rfl, rfl⟩
  | 4, hk, hs => exact ⟨by simp only [valFo, hu 4 (fun e => hk e.symm)], by simp only [rowsFo, hu 4 (fun e => hk e.symm)]⟩
  | 5, hk, hs => exact ⟨by simp only [valFo, hu 5 (fun e => hk e.symm)], by simp only [rowsFo, hu 5 (fun e => hk e.symm)]⟩
  | 6, hk, hs => exact ⟨by simp only [valFo, hu 5 (by rintro rfl; cases hs)], by simp only [rowsFo, hu 5 (by rintro rfl; cases hs)]⟩
  | 7, hk, hs => exact ⟨by simp only [valFo, hu 5 (by rintro rfl; cases hs)], by simp only [rowsFo, hu 5 (by rintro rfl; cases hs)]⟩
  | 8, hk, hs => exact ⟨by simp only [valFo, hu 5 (by rintro rfl; cases hs)], by simp only [rowsFo, hu 5 (by rintro rfl; cases hs)]⟩
  | 9, hk, hs => exact ⟨by simp only [valFo, hu 5 (by rintro rfl; cases hs)], by simp only [rowsFo, hu 5 (by rintro rfl; cases hs)]⟩
  | 10, _, _ => exact ⟨rfl, rfl⟩
  | _ + 11, _, _ => exact ⟨rfl, rfl⟩
set_option maxHeartbeats 4000000 in
theorem found_spec (R : Rm) (p : Pl) (H : List Row) (hr : okRm R) (hm : matsThere R R.mats) (hlm : R.mats.length ≤ 100) (hR : RmOk H R p) :
    Fc Try.prog 76 [.agg (cRm R p).toArray] H (fun v H' => ∃ x, Fd R x ∧ v = .tuple #[.agg (x.1.flatMap cSp).toArray, .bool x.2] ∧ H' = H) := by
  obtain ⟨dc, hdc1, hdc2⟩ := drawn eLs eLs_inj (FirstC R) (first_ex hr)
  obtain ⟨dx, hdx1, hdx2⟩ := drawn eX eX_inj (Fd R) (fd_ex hr hm)
  have hl96 : ∀ n, ((dx n).1.flatMap cSp).length = 96 := fun n => by rw [sp_len, (hdx1 n).len]
  have hfs : ∀ S, RmOk S R p → Fc Try.prog 121 [.agg (cRm R p).toArray] S (fun v H' => ∃ n, v = .agg ((dc n).flatMap cSp).toArray ∧ H' = S) := fun S hS => (first_spec R p S hr hS).mono fun v H' ⟨l, hl, hv, hH⟩ => by
    obtain ⟨n, hn⟩ := hdc2 l hl
    exact ⟨n, by rw [hn]; exact hv, hH⟩
  have hcs : ∀ n S, RmOk S R p → Fc Try.prog 84 [.agg (cRm R p).toArray, .slice p.a3 R.mats.length p.c3, .agg ((dc n).flatMap cSp).toArray] S (fun v H' => ∃ n, v = .tuple #[.agg ((dx n).1.flatMap cSp).toArray, .bool (dx n).2] ∧ H' = S) := fun n S hS => (closed_spec R p R.mats p.a3 p.c3 (dc n) S hr hS hS.mats hlm hm (hdc1 _).len (hdc1 _).ok).mono fun v H' ⟨l, hH, h⟩ => by
    have hq : ∃ x, Fd R x ∧ v = .tuple #[.agg (x.1.flatMap cSp).toArray, .bool x.2] := by
      rcases h with ⟨h1, hv⟩ | ⟨h1, h2, hv⟩
      · exact ⟨(l, true), Fd.yes_of hr hm (hdc1 _) h1, hv⟩
      · exact ⟨(l, false), Fd.no_of (hdc1 _) h1 h2, hv⟩
    obtain ⟨x, hx, hv⟩ := hq
    obtain ⟨n, hn⟩ := hdx2 x hx
    exact ⟨n, by rw [hn]; exact hv, hH⟩
  refine Fc.mk (callable Try.call76) Try.func76 rfl Try.ntmps76 rfl ?_; dsimp only [fr]
  repeat' (first | (refine XO.op rfl ?_; (first | ((first | refine Xo.ng rfl ?_); (first | (refine Xg.ev (EvF.assign rfl rfl) rfl rfl ?_) | (refine Xg.st (StF.boxAgg rfl rfl) rfl rfl ?_; rintro _ _ ⟨bx, rfl, rfl⟩) | (refine Xg.st (StF.alloc rfl Try.zeroValue107 rfl) rfl rfl ?_; rintro _ _ ⟨bx, rfl, rfl⟩))))) | (refine XO.done rfl ?_; refine hK _ _ ?_; clear hK K) | refine X.seq rfl ?_ | refine X.region rfl (fun K hK => ?_))
  rename_i b1
  generalize bx = b2
  have hRs : ∀ S : List Row, (∀ r ∈ ⟨b1, 0, cRm R p, some 26, 5⟩ :: H, r ∈ S) → RmOk S R p := fun S hS => hR.sub (fun r h => hS r (List.mem_cons_of_mem _ h))
  refine X.regionOb tsFo [1, 2] [(1, .pointer (some ⟨b1, 0, none⟩)), (2, .pointer (some ⟨b2, 0, none⟩))] (valFo b1 b2 R p dc dx) (rowsFo b1 b2 R p dc dx) (fun _ => (0, 0)) (⟨b1, 0, cRm R p, some 26, 5⟩ :: H) rfl mixed (by (repeat (first | exact Sub.nil _ | refine Sub.cons rfl ?_)); done) rfl (by kernel_rfl) (locFo b1 b2 R p dc dx) (List.Sublist.refl _) ?_ ?_
  · repeat' (first | exact AllF.done rfl | (refine AllF.step rfl ?_ ?_; · (first | fail | ((first | refine Ob.ng rfl ?_); (first | exact ObK.pure (fun env R hR => by exact ⟨_, EvF.assign rfl rfl, rfl⟩) rfl (fun _ => rfl) | exact ObK.pure (fun env R hR => by exact ⟨_, EvF.fieldAddr rfl rfl (te rfl) rfl (te rfl) (by decide), rfl⟩) rfl (fun _ => rfl) | exact ObK.pure (fun env R hR => by exact ⟨_, EvF.loadV rfl rfl (LoadV.own (te rfl) rfl (hR _ (List.Mem.head _)) rfl), rfl⟩) rfl (fun _ => rfl) | exact ObK.pure (fun env R hR => by exact ⟨_, EvF.loadV rfl rfl (LoadV.whole (te rfl) rfl (hR _ (List.Mem.head _)) rfl), rfl⟩) rfl (fun _ => rfl) | (exact fun env S hS => (OpF.call (EnF.st rfl (Args.cons rfl Args.nil)) (hfs S (hRs S hS))).mono (fun v H' ⟨n, hv, hH⟩ => ⟨(n, 0), fun _ => hv, by rw [hH]; exact List.Perm.refl _⟩)) | (exact fun env S hS => (OpF.call (EnF.st rfl (Args.cons rfl (Args.cons rfl (Args.cons rfl Args.nil)))) (hcs (env 4).1 S (hRs S hS))).mono (fun v H' ⟨n, hv, hH⟩ => ⟨(n, 0), fun _ => hv, by rw [hH]; exact List.Perm.refl _⟩)) | (exact fun env S hS => (StF.storeAll (i := 0) (vs := (dx (env 5).1).1.flatMap cSp) (cs := zRc.flatMap cSp) rfl rfl rfl (te rfl) rfl (hl96 _) (sp_one _) (by rw [hl96, sp_len]; rfl)).op.mono (fun v H' ⟨hv, hH⟩ => ⟨(0, 0), fun h => absurd rfl h, by rw [hH]; exact List.Perm.refl _⟩)) | (exact ObK.pure (fun env S hS => ⟨_, EvF.extract rfl rfl rfl, rfl⟩) rfl (fun _ => rfl)))))))
  intro env t ha2 hv; refine ⟨_, ha2.cons (hv 9 3 (Nat.le_of_ble_eq_true rfl) rfl), ?_⟩; clear hv ha2
  show X _ _ _ [(3, .bool (dx (env 5).1).2), (1, .pointer (some ⟨b1, 0, none⟩)), (2, .pointer (some ⟨b2, 0, none⟩))] (⟨b2, 0, (dx (env 5).1).1.flatMap cSp, some 107, 96⟩ :: ⟨b1, 0, cRm R p, some 26, 5⟩ :: H) _
  have hx := hdx1 (env 5).1
  have hl := hl96 (env 5).1
  generalize dx (env 5).1 = x at hx hl
  clear env
  repeat' (first | refine X.ret rfl ?_)
  exact ret_two (v := .agg (x.1.flatMap cSp).toArray) (by first | exact .inr rfl | exact .inl rfl) Try.results76 ⟨_, rfl, LoadV.whole (te rfl) rfl (List.Mem.head _) hl⟩ rfl (H' := H) (by (repeat (first | exact List.Sublist.refl _ | apply List.Sublist.cons_cons | apply List.Sublist.cons)); done) ⟨x, hx, rfl, rfl⟩
theorem true_spec (R : Rm) (p : Pl) (H : List Row) (hr : okRm R) (hm : matsThere R R.mats) (hlm : R.mats.length ≤ 100) (hR : RmOk H R p) :
    Fc Try.prog 58 [.agg (cRm R p).toArray] H (fun v H' => v = .bool (decide (hasT R R.mats)) ∧ H' = H) := by
  refine Fc.mk (callable Try.call58) Try.func58 rfl Try.ntmps58 rfl ?_; dsimp only [fr]
  repeat' (first | (refine XO.op rfl ?_; (first | ((first | refine Xo.ng rfl ?_); (first | (refine Xg.ev (EvF.loadV rfl rfl (LoadV.whole (te rfl) rfl (List.Mem.head _) rfl)) rfl rfl ?_) | (refine Xg.call (EnF.st rfl (by (repeat (first | exact Args.nil | refine Args.cons rfl ?_)); done)) rfl rfl (found_spec R p _ hr hm hlm (hR.sub (fun _ h => by repeat (first | exact h | apply List.Mem.tail)))) ?_; rintro _ _ ⟨x, hx, rfl, rfl⟩) | (refine Xg.ev (EvF.extract rfl rfl rfl) rfl rfl ?_) | (refine Xg.st0 (StF.storeAll (i := 0) (vs := x.1.flatMap cSp) (cs := zRc.flatMap cSp) rfl rfl rfl (te rfl) rfl hx.len96 (sp_one _) (by rw [hx.len96, sp_len]; rfl)) rfl ?_; rintro _ _ ⟨rfl, rfl⟩; dsimp only [List.set]) | (refine Xg.ev (EvF.move rfl rfl) rfl rfl ?_) | (refine Xg.ev (EvF.assign rfl rfl) rfl rfl ?_) | (refine Xg.st (StF.boxAgg rfl rfl) rfl rfl ?_; rintro _ _ ⟨bx, rfl, rfl⟩) | (refine Xg.st (StF.alloc rfl Try.zeroValue107 rfl) rfl rfl ?_; rintro _ _ ⟨bx, rfl, rfl⟩))))) | (refine XO.done rfl ?_; refine hK _ _ ?_; clear hK K) | refine X.seq rfl ?_ | refine X.region rfl (fun K hK => ?_) | refine X.ret rfl ?_)
  exact ret_one (v := .bool x.2) (by first | exact .inr rfl | exact .inl rfl) Try.results58 rfl (H' := H) (by (repeat (first | exact List.Sublist.refl _ | apply List.Sublist.cons_cons | apply List.Sublist.cons)); done) ⟨congrArg Value.bool hx.dec, rfl⟩
theorem rCan_spec (R : Rm) (p : Pl) (H : List Row) (hR : RmOk H R p) : Fc Try.prog 17 [.agg (cRm R p).toArray] H (fun v H' => v = canF R ∧ H' = H) := by
  unfold canF
  by_cases hok : roomOk R
  · rw [if_pos hok]
    have hlm : R.mats.length ≤ 100 := by have := hok.1.2.2.2.2.2.2; omega
    have hrs : ∀ r1, Fc Try.prog 47 [.agg (cRm R p).toArray] (r1 :: H) (fun v H' => v = .bool true ∧ H' = r1 :: H) := fun r1 => by
      have := room_spec R p (r1 :: H) (hR.sub (fun _ h => List.Mem.tail _ h))
      rwa [decide_eq_true hok] at this
    refine Fc.mk (callable Try.call17) Try.func17 rfl Try.ntmps17 rfl ?_; dsimp only [fr]
    repeat' (first | (refine XO.op rfl ?_; (first | ((first | refine Xo.ng rfl ?_); (first | (refine Xg.ev (EvF.loadV rfl rfl (LoadV.whole (te rfl) rfl (List.Mem.head _) rfl)) rfl rfl ?_) | (refine Xg.call (EnF.st rfl (Args.cons rfl Args.nil)) rfl rfl (hrs _) ?_; rintro _ H9 ⟨rfl, hH9⟩; subst H9) | (refine Xg.call (EnF.st rfl (Args.cons rfl Args.nil)) rfl rfl (true_spec R p _ hok.ok hok.mats hlm (hR.sub (fun _ h => by repeat (first | exact h | apply List.Mem.tail)))) ?_; rintro _ H9 ⟨rfl, hH9⟩; subst H9) | (refine Xg.ev (EvF.assign rfl rfl) rfl rfl ?_) | (refine Xg.ev (EvF.not rfl rfl) rfl rfl ?_) | (refine Xg.st (StF.boxAgg rfl rfl) rfl rfl ?_; rintro _ _ ⟨bx, rfl, rfl⟩))))) | (refine XO.done rfl ?_; refine hK _ _ ?_; clear hK K) | refine X.seq rfl ?_ | refine X.region rfl (fun K hK => ?_) | refine X.skip rfl ?_ | refine X.ret rfl ?_ | (refine X.ite rfl rfl (fun hc => ?_); (first | (with_reducible refine Xb.caseB hc (fun h => ?_) (fun h => ?_))) <;> clear hc))
    all_goals try (exfalso; contradiction)
    exact ret_two (v := .bool (decide (hasT R R.mats))) (by first | exact .inr rfl | exact .inl rfl) Try.results17 rfl rfl (H' := H) (by (repeat (first | exact List.Sublist.refl _ | apply List.Sublist.cons_cons | apply List.Sublist.cons)); done) ⟨rfl, rfl⟩
  · rw [if_neg hok]
    have hrs : ∀ r1, Fc Try.prog 47 [.agg (cRm R p).toArray] (r1 :: H) (fun v H' => v = .bool false ∧ H' = r1 :: H) := fun r1 => by
      have := room_spec R p (r1 :: H) (hR.sub (fun _ h => List.Mem.tail _ h))
      rwa [decide_eq_false hok] at this
    refine Fc.mk (callable Try.call17) Try.func17 rfl Try.ntmps17 rfl ?_; dsimp only [fr]
    repeat' (first | (refine XO.op rfl ?_; (first | ((first | refine Xo.ng rfl ?_); (first | (refine Xg.ev (EvF.loadV rfl rfl (LoadV.whole (te rfl) rfl (List.Mem.head _) rfl)) rfl rfl ?_) | (refine Xg.call (EnF.st rfl (Args.cons rfl Args.nil)) rfl rfl (hrs _) ?_; rintro _ H9 ⟨rfl, hH9⟩; subst H9) | (refine Xg.ev (EvF.assign rfl rfl) rfl rfl ?_) | (refine Xg.ev (EvF.not rfl rfl) rfl rfl ?_) | (refine Xg.st (StF.boxAgg rfl rfl) rfl rfl ?_; rintro _ _ ⟨bx, rfl, rfl⟩))))) | (refine XO.done rfl ?_; refine hK _ _ ?_; clear hK K) | refine X.seq rfl ?_ | refine X.region rfl (fun K hK => ?_) | refine X.skip rfl ?_ | refine X.ret rfl ?_ | (refine X.ite rfl rfl (fun hc => ?_); (first | (with_reducible refine Xb.caseB hc (fun h => ?_) (fun h => ?_))) <;> clear hc))
    all_goals try (exfalso; contradiction)
    exact ret_two (v := .bool false) (by first | exact .inr rfl | exact .inl rfl) Try.results17 rfl rfl (H' := H) (by (repeat (first | exact List.Sublist.refl _ | apply List.Sublist.cons_cons | apply List.Sublist.cons)); done) ⟨rfl, rfl⟩
end Go.Proofs.Ytblehgpfddmggaa
end
section
set_option linter.unusedVariables false
set_option linter.unusedSimpArgs false
namespace Go.Proofs.Ytblehgpfddmggaa
open Go Go.Fw
set_option maxRecDepth 10000
theorem rThere_spec (R : Rm) (p : Pl) (id m : Int) (H : List Row) (hR : RmOk H R p) (hm : 1 ≤ R.months ∧ R.months ≤ 12) (hi : 0 ≤ index R.boxes id) : Fc Try.prog 77 [.agg (cRm R p).toArray, .int .i64 (index R.boxes id), .int .i64 m] H (fun v H' => v = .bool (decide ((0 ≤ m ∧ m ≤ R.months - 1) ∧ (bxAt R.boxes id).made ≤ m)) ∧ H' = H) := by
  have hlt := index_lt R.boxes id
  have he := index_get hi
  obtain ⟨a1, c1, a2, c2, a3, c3⟩ := p
  obtain ⟨b, off, _, rfl, _⟩ := hR.boxes.elem (i := 0) (by omega)
  have hbx : ∀ r, SlE (r :: H) _ cBx 2 R.boxes := fun r => hR.boxes.sub (fun _ h => List.mem_cons_of_mem _ h)
  refine Fc.mk (callable Try.call77) Try.func77 rfl Try.ntmps77 rfl ?_; dsimp only [fr]
  repeat' (first | (refine XO.op rfl ?_; (first | ((first | refine Xo.ng rfl ?_ | (refine Xo.g rfl rfl ?_; with_reducible refine Xw.tt ?_)); (first | (refine Xg.call (EnF.st rfl (by (repeat (first | exact Args.nil | refine Args.cons rfl ?_)); done)) rfl rfl (within_spec _ _ _ _) ?_; rintro _ H9 ⟨rfl, hH9⟩; subst H9) | (refine Xg.ev (EvF.loadV rfl rfl (LoadV.el1 (hbx _) he (te rfl) rfl (fun _ hm => hm) rfl)) rfl rfl ?_) | (refine Xg.ev (EvF.move rfl rfl) rfl rfl ?_) | (refine Xg.ev (EvF.assign rfl rfl) rfl rfl ?_) | (refine Xg.ev (EvF.pickT rfl rfl rfl) rfl rfl ?_) | (refine Xg.ev (EvF.pickF rfl rfl rfl) rfl rfl ?_) | (refine Xg.ev (EvF.cmp rfl rfl rfl rfl) rfl rfl ?_) | (refine Xg.ev (EvF.sub64 rfl rfl rfl (by omega) (by omega)) rfl rfl ?_) | (refine Xg.ev (EvF.fieldAddr rfl rfl (te rfl) rfl (te rfl) (by decide)) rfl rfl ?_) | (refine Xg.ev (EvF.indexSlice rfl rfl rfl (te rfl) (te rfl) (by omega) (by omega)) rfl rfl ?_) | (refine Xg.ev (EvF.loadV rfl rfl (LoadV.own (te rfl) rfl (List.Mem.head _) rfl)) rfl rfl ?_) | (refine Xg.st (StF.boxAgg rfl rfl) rfl rfl ?_; rintro _ _ ⟨bx, rfl, rfl⟩))) | (refine Xo.g rfl rfl ?_; (first | (with_reducible refine Xw.ft rfl rfl ?_) | (with_reducible refine Xw.case (fun h => ?_) (fun h => ?_) <;> simp only [h, decide_true, decide_false, Bool.not_true, Bool.not_false, and_self, and_true, true_and, and_false, false_and]))))) | (refine XO.done rfl ?_; refine hK _ _ ?_; clear hK K) | refine X.seq rfl ?_ | refine X.region rfl (fun K hK => ?_) | refine X.ret rfl ?_)
  all_goals (refine ret_one (by first | exact .inr rfl | exact .inl rfl) Try.results77 rfl (H' := H) (by (repeat (first | exact List.Sublist.refl _ | apply List.Sublist.cons)); done) ?_; simp only [and_true, true_and])
  all_goals (congr 1; symm)
  all_goals first
    | exact decide_eq_false (fun q => absurd q.1 (by assumption))
    | exact decide_eq_decide.2 ⟨fun q => q.2, fun q => ⟨by assumption, q⟩⟩
    | (simp_all)
def okId (R : Rm) (i m : Int) : Prop := (0 ≤ m ∧ m ≤ R.months - 1) ∧ (bxAt R.boxes i).made ≤ m
instance (R : Rm) (i m : Int) : Decidable (okId R i m) := by unfold okId; infer_instance
theorem inTime_iff {R : Rm} {l : List Int} {m : Int} (hr : okRm R) (ha : allThere R l) (hm : 0 ≤ m ∧ m ≤ R.months - 1) : inTime R l [m] ↔ ∀ i ∈ l, okId R i m := by
  constructor
  · intro h i hi
    refine ⟨hm, ?_⟩
    have hx := (index_ge R.boxes i).2 (ha i hi)
    refine Classical.byContradiction fun q => (h m (List.mem_singleton.2 rfl)).2 ⟨bxAt R.boxes i, bxAt_mem hx, by omega, by rw [bxAt_id _ _ hx]; exact hi⟩
  · intro h q hq
    rw [List.mem_singleton] at hq
    subst hq
    refine ⟨hm, ?_⟩
    rintro ⟨b, hb, h1, h2⟩
    obtain ⟨j, hj⟩ := box_at hb
    have h3 := (h b.id h2).2
    have hi0 : 0 ≤ index R.boxes b.id := by rw [index_box hr.bx hj]; omega
    have h4 := index_get hi0
    rw [index_box hr.bx hj] at h4
    have h5 : R.boxes[((j : Nat) : Int).toNat]? = some b := hj
    rw [h5] at h4
    rw [← Option.some.inj h4] at h3
    omega
structure As (R : Rm) (e : Int) (l : List Sp) : Prop where
  hT : hasT R R.mats
  good : GoodC R R.mats l
  ex : ∀ b m, there R b m → ExR R R.mats ⟨b.id, m⟩ zp (sat l (cel R ⟨b.id, m⟩))
def tsAk : List TOp := [⟨some 43, [], [], []⟩, ⟨some 44, [], [], []⟩, ⟨some 45, [], [], []⟩, ⟨some 46, [1, 2], [1, 2], []⟩, ⟨some 47, [], [], []⟩, ⟨some 48, [0, 1, 2, 3, 4], [0, 3, 4], []⟩, ⟨some 49, [0, 1, 2, 3, 4, 5], [5], []⟩]
def valAk (b3 b6 : Nat) (R : Rm) (p : Pl) (x m ix : Int) (w : Bool) (v1 v37 v38 v39 : Value) (k : Nat) (env : Env) : Value :=
  match k with
  | 0 => .agg (cRm R p).toArray
  | 1 => .agg (cRm R p).toArray
  | 2 => .int .i64 x
  | 3 => .int .i64 ix
  | 4 => .int .i64 m
  | 5 => .bool w
  | 6 => .bool (!w)
  | _ => undef
def rowsAk (b3 b6 : Nat) (R : Rm) (p : Pl) (x m ix : Int) (w : Bool) (v1 v37 v38 v39 : Value) (k : Nat) (env : Env) : List Row :=
  match k with
  | _ => []
theorem locAk (b3 b6 : Nat) (R : Rm) (p : Pl) (x m ix : Int) (w : Bool) (v1 v37 v38 v39 : Value) : ∀ k env i q9, i ≠ k → (tAt tsAk k).sup.contains i = false → valAk b3 b6 R p x m ix w v1 v37 v38 v39 k (upd env i q9) = valAk b3 b6 R p x m ix w v1 v37 v38 v39 k env ∧ rowsAk b3 b6 R p x m ix w v1 v37 v38 v39 k (upd env i q9) = rowsAk b3 b6 R p x m ix w v1 v37 v38 v39 k env := by
  intro k env i q hk hs
  have hu : ∀ j, j ≠ i → upd env i q j = env j := fun j hj => by unfold upd; rw [if_neg hj]
  match k, hk, hs with
  | 0, _, _ => exact ⟨rfl, rfl⟩
  | 1, _, _ => exact ⟨rfl, rfl⟩
  | 2, _, _ => exact ⟨rfl, rfl⟩
  | 3, _, _ => exact ⟨rfl, rfl⟩
  | 4, _, _ => exact ⟨rfl, rfl⟩
  | 5, _, _ => exact ⟨rfl, rfl⟩
  | 6, _, _ => exact ⟨rfl, rfl⟩
  | _ + 7, _, _ => exact ⟨rfl, rfl⟩
set_option maxHeartbeats 8000000 in
theorem rAsked_spec (R : Rm) (p : Pl) (l : List Int) (a : Option Addr) (cl : Nat) (m : Int) (H : List Row) (hR : RmOk H R p) (hl : SlE H a cI 1 l) (hll : l.length ≤ 1000000) :
    Fc Try.prog 61 [.agg (cRm R p).toArray, .slice a l.length cl, .int .i64 m] H (fun v H' => ∃ c, c.length = 48 ∧ (openE R l [m] = 0 → As R 0 c) ∧ v = .tuple #[.agg (c.flatMap cSp).toArray, .int .i64 (openE R l [m])] ∧ H' = H) := by
  classical
  by_cases hok : roomOk R
  · have hr := hok.ok
    have hm12 := hr.m12
    have hm1 := hr.m1
    have hlm : R.mats.length ≤ 100 := by have := hok.1.2.2.2.2.2.2; omega
    have hrs : ∀ r1 r2, Fc Try.prog 47 [.agg (cRm R p).toArray] (r1 :: r2 :: H) (fun v H' => v = .bool true ∧ H' = r1 :: r2 :: H) := fun r1 r2 => by
      have := room_spec R p (r1 :: r2 :: H) (hR.sub (fun _ h => List.Mem.tail _ (List.Mem.tail _ h)))
      rwa [decide_eq_true hok] at this
    refine Fc.mk (callable Try.call61) Try.func61 rfl Try.ntmps61 rfl ?_; dsimp only [fr]
    repeat' (first | (refine XO.op rfl ?_; (first | ((first | refine Xo.ng rfl ?_); (first | (refine Xg.ev (EvF.loadV rfl rfl (LoadV.whole (T := 26) (cs := cRm R p) (te rfl) rfl (by repeat (first | exact List.Mem.head _ | apply List.Mem.tail)) rfl)) rfl rfl ?_) | (refine Xg.call (EnF.st rfl (Args.cons rfl Args.nil)) rfl rfl (hrs _ _) ?_; rintro _ H9 ⟨rfl, hH9⟩; subst H9) | (refine Xg.ev (EvF.move rfl rfl) rfl rfl ?_) | (refine Xg.ev (EvF.assign rfl rfl) rfl rfl ?_) | (refine Xg.ev (EvF.not rfl rfl) rfl rfl ?_) | (refine Xg.ev (EvF.lenSlice rfl rfl (te rfl)) rfl rfl ?_) | (refine Xg.st (StF.boxAgg rfl rfl) rfl rfl ?_; rintro _ _ ⟨bx, rfl, rfl⟩) | (refine Xg.st (StF.alloc rfl Try.zeroValue107 rfl) rfl rfl ?_; rintro _ _ ⟨bx, rfl, rfl⟩))))) | (refine XO.done rfl ?_; refine hK _ _ ?_; clear hK K) | refine X.seq rfl ?_ | refine X.region rfl (fun K hK => ?_) | refine X.block rfl ?_ | refine X.skip rfl ?_ | (refine X.ite rfl rfl (fun hc => ?_); (first | (with_reducible refine Xb.caseB hc (fun h => ?_) (fun h => ?_))) <;> clear hc))
    · exact absurd (by assumption : (!true) = true) (by decide)
    rename_i b3
    generalize bx = b6
    refine X.lp rfl (fun q F' H' => ∃ (i : Nat), q = l.length - i ∧ i ≤ l.length ∧ (∀ j x, j < i → l[j]? = some x → 0 ≤ index R.boxes x) ∧ H' = ⟨b6, 0, zRc.flatMap cSp, some 107, 96⟩ :: ⟨b3, 0, cRm R p, some 26, 5⟩ :: H ∧ F' = [(1, .slice a l.length cl), (2, .int .i64 m), (3, .pointer (some ⟨b3, 0, none⟩)), (6, .pointer (some ⟨b6, 0, none⟩)), (7, .int .i64 0), (18, .slice a l.length cl), (19, .int .i64 l.length), (20, .int .i64 i)])
      l.length [(1, .slice a l.length cl), (2, .int .i64 m), (3, .pointer (some ⟨b3, 0, none⟩)), (6, .pointer (some ⟨b6, 0, none⟩)), (7, .int .i64 0), (18, .slice a l.length cl), (19, .int .i64 l.length), (20, .int .i64 (0 : Nat))] (⟨b6, 0, zRc.flatMap cSp, some 107, 96⟩ :: ⟨b3, 0, cRm R p, some 26, 5⟩ :: H) (by (repeat (first | exact Sub.nil _ | refine Sub.cons rfl ?_)); done) (List.Sublist.refl _) ⟨0, by omega, by omega, fun j _ h => absurd h (Nat.not_lt_zero _), rfl, rfl⟩ ?_
    rintro _ _ _ ⟨i, rfl, hi, hall, rfl, rfl⟩
    repeat' (first | (refine XO.op rfl ?_; (first | ((first | refine Xo.ng rfl ?_); (first | (refine Xg.ev (EvF.move rfl rfl) rfl rfl ?_) | (refine Xg.ev (EvF.cmp rfl rfl rfl rfl) rfl rfl ?_) | (refine Xg.ev (EvF.sub64 rfl rfl rfl (by omega) (by omega)) rfl rfl ?_) | (refine Xg.ev (EvF.fieldAddr rfl rfl (te rfl) rfl (te rfl) (by decide)) rfl rfl ?_) | (refine Xg.ev (EvF.loadV rfl rfl (LoadV.own (te rfl) rfl (List.Mem.tail _ (List.Mem.head _)) rfl)) rfl rfl ?_))))) | (refine XO.done rfl ?_; refine hK _ _ ?_; clear hK K) | refine X.seq rfl ?_ | refine X.region rfl (fun K hK => ?_) | refine X.block rfl ?_ | (refine X.brk rfl ?_; repeat (first | refine blockX_hit rfl ?_ | refine blockX_miss (by decide) ?_)) | refine X.skip rfl ?_ | (refine X.ite rfl rfl (fun hc => ?_); (first | (with_reducible refine Xb.case hc (fun h => ?_) (fun h => ?_))) <;> clear hc))
    · obtain ⟨bl, ol, x, rfl, he⟩ := hl.elem (i := i) (by omega)
      have hsub : ∀ r1 r2, SlE (r1 :: r2 :: H) (some ⟨bl, ol, none⟩) cI 1 l := fun r1 r2 => hl.sub (fun _ h => List.Mem.tail _ (List.Mem.tail _ h))
      repeat' (first | (refine XO.op rfl ?_; (first | ((first | refine Xo.ng rfl ?_); (first | (refine Xg.ev (EvF.loadV rfl rfl (LoadV.el0 (hsub _ _) he (te rfl) rfl (fun _ hm => hm) rfl)) rfl rfl ?_) | (refine Xg.ev (EvF.loadV rfl rfl (LoadV.whole (T := 26) (cs := cRm R p) (te rfl) rfl (by repeat (first | exact List.Mem.head _ | apply List.Mem.tail)) rfl)) rfl rfl ?_) | (refine Xg.call (EnF.st rfl (Args.cons rfl (Args.cons rfl Args.nil))) rfl rfl (index_spec R p x _ (hR.sub (fun _ h => by repeat (first | exact h | apply List.Mem.tail)))) ?_; rintro _ H9 ⟨rfl, hH9⟩; subst H9) | (refine Xg.ev (EvF.buildArr (zs := zRc.flatMap cSp) (cs := zRc.flatMap cSp) rfl ArgsP.nil (te rfl) (te rfl) Try.zeroValue107 rfl) rfl rfl ?_) | (refine Xg.st0 (StF.storeAll (i := 0) (vs := zRc.flatMap cSp) (cs := zRc.flatMap cSp) rfl rfl rfl (te rfl) rfl rfl rfl rfl) rfl ?_; rintro _ _ ⟨rfl, rfl⟩; dsimp only [List.set]) | (refine Xg.ev (EvF.move rfl rfl) rfl rfl ?_) | (refine Xg.ev (EvF.assign rfl rfl) rfl rfl ?_) | (refine Xg.ev (EvF.cmp rfl rfl rfl rfl) rfl rfl ?_) | (refine Xg.ev (EvF.add64 rfl rfl rfl (by omega) (by omega)) rfl rfl ?_) | (refine Xg.ev (EvF.indexSlice rfl rfl rfl (te rfl) (te rfl) (by omega) (by omega)) rfl rfl ?_))))) | (refine XO.done rfl ?_; refine hK _ _ ?_; clear hK K) | refine X.seq rfl ?_ | refine X.region rfl (fun K hK => ?_) | refine X.skip rfl ?_ | refine X.ret rfl ?_ | (refine X.ite rfl rfl (fun hc => ?_); (first | (with_reducible refine Xb.case hc (fun h => ?_) (fun h => ?_))) <;> clear hc))
      · have h6 : openE R l [m] = 6 := by
          unfold openE
          rw [if_pos hok, if_neg (fun q => by have := (index_ge R.boxes x).2 (q x (List.mem_of_getElem? he)); omega)]
        exact ret_two (v := .agg (zRc.flatMap cSp).toArray) (by first | exact .inr rfl | exact .inl rfl) Try.results61 ⟨_, rfl, LoadV.whole (te rfl) rfl (List.Mem.head _) rfl⟩ rfl (H' := H) (by (repeat (first | exact List.Sublist.refl _ | apply List.Sublist.cons_cons | apply List.Sublist.cons)); done) ⟨zRc, rfl, (fun h => absurd h (by rw [h6]; decide)), by rw [h6], rfl⟩
      · exact ⟨_, [(1, .slice (some ⟨bl, ol, none⟩) l.length cl), (2, .int .i64 m), (3, .pointer (some ⟨b3, 0, none⟩)), (6, .pointer (some ⟨b6, 0, none⟩)), (7, .int .i64 0), (18, .slice (some ⟨bl, ol, none⟩) l.length cl), (19, .int .i64 l.length), (20, .int .i64 (i + 1 : Nat))], ⟨b6, 0, zRc.flatMap cSp, some 107, 96⟩ :: ⟨b3, 0, cRm R p, some 26, 5⟩ :: H, (by (repeat (first | exact Sub.nil _ | refine Sub.cons rfl ?_)); done), (by (repeat (first | exact List.Sublist.refl _ | apply List.Sublist.cons_cons | apply List.Sublist.cons)); done), ⟨i + 1, rfl, by omega, fun j y hj hy => by
          by_cases e : j < i
          · exact hall j y e hy
          · rw [show j = i by omega, he] at hy
            cases hy
            omega, rfl, rfl⟩, by omega⟩
    · have hal : allThere R l := fun x hx => by
        obtain ⟨j, hj, ex⟩ := List.mem_iff_getElem.1 hx
        exact (index_ge R.boxes x).1 (hall j x (by omega) (by rw [List.getElem?_eq_getElem hj, ex]))
      repeat' (first | (refine XO.op rfl ?_; (first | ((first | refine Xo.ng rfl ?_); (first | (refine Xg.call (EnF.st rfl (Args.cons rfl (Args.cons rfl (Args.cons rfl Args.nil)))) rfl rfl (within_spec _ _ _ _) ?_; rintro _ H9 ⟨rfl, hH9⟩; subst H9) | (refine Xg.ev (EvF.buildArr (zs := zRc.flatMap cSp) (cs := zRc.flatMap cSp) rfl ArgsP.nil (te rfl) (te rfl) Try.zeroValue107 rfl) rfl rfl ?_) | (refine Xg.st0 (StF.storeAll (i := 0) (vs := zRc.flatMap cSp) (cs := zRc.flatMap cSp) rfl rfl rfl (te rfl) rfl rfl rfl rfl) rfl ?_; rintro _ _ ⟨rfl, rfl⟩; dsimp only [List.set]) | (refine Xg.ev (EvF.move rfl rfl) rfl rfl ?_) | (refine Xg.ev (EvF.assign rfl rfl) rfl rfl ?_) | (refine Xg.ev (EvF.not rfl rfl) rfl rfl ?_) | (refine Xg.ev (EvF.lenSlice rfl rfl (te rfl)) rfl rfl ?_))))) | (refine XO.done rfl ?_; refine hK _ _ ?_; clear hK K) | refine X.seq rfl ?_ | refine X.region rfl (fun K hK => ?_) | refine X.block rfl ?_ | refine X.skip rfl ?_ | refine X.ret rfl ?_ | (refine X.ite rfl rfl (fun hc => ?_); (first | (with_reducible refine Xb.caseN hc (fun h => ?_) (fun h => ?_))) <;> clear hc))
      · have h11 : openE R l [m] = 11 := by
          unfold openE
          rw [if_pos hok, if_pos hal, if_neg (fun q => absurd (q m (List.mem_singleton.2 rfl)).1 (by simp_all))]
        exact ret_two (v := .agg (zRc.flatMap cSp).toArray) (by first | exact .inr rfl | exact .inl rfl) Try.results61 ⟨_, rfl, LoadV.whole (te rfl) rfl (List.Mem.head _) rfl⟩ rfl (H' := H) (by (repeat (first | exact List.Sublist.refl _ | apply List.Sublist.cons_cons | apply List.Sublist.cons)); done) ⟨zRc, rfl, (fun h => absurd h (by rw [h11]; decide)), by rw [h11], rfl⟩
      · have hw : 0 ≤ m ∧ m ≤ R.months - 1 := by simp_all
        have hit := inTime_iff hr hal hw
        refine X.lp rfl (fun q F' H' => ∃ (i : Nat), q = l.length - i ∧ i ≤ l.length ∧ (∀ j x, j < i → l[j]? = some x → okId R x m) ∧ H' = ⟨b6, 0, zRc.flatMap cSp, some 107, 96⟩ :: ⟨b3, 0, cRm R p, some 26, 5⟩ :: H ∧ F' = [(1, .slice a l.length cl), (2, .int .i64 m), (3, .pointer (some ⟨b3, 0, none⟩)), (6, .pointer (some ⟨b6, 0, none⟩)), (7, .int .i64 0), (37, .slice a l.length cl), (38, .int .i64 l.length), (39, .int .i64 i)])
          l.length [(1, .slice a l.length cl), (2, .int .i64 m), (3, .pointer (some ⟨b3, 0, none⟩)), (6, .pointer (some ⟨b6, 0, none⟩)), (7, .int .i64 0), (37, .slice a l.length cl), (38, .int .i64 l.length), (39, .int .i64 (0 : Nat))] (⟨b6, 0, zRc.flatMap cSp, some 107, 96⟩ :: ⟨b3, 0, cRm R p, some 26, 5⟩ :: H) (by (repeat (first | exact Sub.nil _ | refine Sub.cons rfl ?_)); done) (List.Sublist.refl _) ⟨0, by omega, by omega, fun j _ h => absurd h (Nat.not_lt_zero _), rfl, rfl⟩ ?_
        rintro _ _ _ ⟨k, rfl, hk, hok2, rfl, rfl⟩
        repeat' (first | (refine XO.op rfl ?_; (first | ((first | refine Xo.ng rfl ?_); (first | (refine Xg.ev (EvF.cmp rfl rfl rfl rfl) rfl rfl ?_) | (refine Xg.ev (EvF.loadV rfl rfl (LoadV.whole (te rfl) rfl (List.Mem.tail _ (List.Mem.head _)) rfl)) rfl rfl ?_))))) | (refine XO.done rfl ?_; refine hK _ _ ?_; clear hK K) | refine X.seq rfl ?_ | refine X.region rfl (fun K hK => ?_) | refine X.block rfl ?_ | (refine X.brk rfl ?_; repeat (first | refine blockX_hit rfl ?_ | refine blockX_miss (by decide) ?_)) | refine X.skip rfl ?_ | (refine X.ite rfl rfl (fun hc => ?_); (first | (with_reducible refine Xb.case hc (fun h => ?_) (fun h => ?_))) <;> clear hc))
        · obtain ⟨bl, ol, x, rfl, he⟩ := hl.elem (i := k) (by omega)
          have hsub : ∀ r1 r2, SlE (r1 :: r2 :: H) (some ⟨bl, ol, none⟩) cI 1 l := fun r1 r2 => hl.sub (fun _ h => List.Mem.tail _ (List.Mem.tail _ h))
          repeat' (first | (refine XO.op rfl ?_; (first | ((first | refine Xo.ng rfl ?_); (first | (refine Xg.ev (EvF.loadV rfl rfl (LoadV.el0 (hsub _ _) he (te rfl) rfl (fun _ hm => hm) rfl)) rfl rfl ?_) | (refine Xg.ev (EvF.assign rfl rfl) rfl rfl ?_) | (refine Xg.ev (EvF.indexSlice rfl rfl rfl (te rfl) (te rfl) (by omega) (by omega)) rfl rfl ?_))))) | (refine XO.done rfl ?_; refine hK _ _ ?_; clear hK K) | refine X.seq rfl ?_)
          have hx0 := (index_ge R.boxes x).2 (hal x (List.mem_of_getElem? he))
          have hRs : ∀ S : List Row, (∀ r ∈ ⟨b6, 0, zRc.flatMap cSp, some 107, 96⟩ :: ⟨b3, 0, cRm R p, some 26, 5⟩ :: H, r ∈ S) → RmOk S R p := fun S hS => hR.sub (fun r h => hS r (List.mem_append_right [_, _] h))
          obtain ⟨w, hww⟩ : ∃ w, w = decide (okId R x m) := ⟨_, rfl⟩
          have hth : ∀ S, RmOk S R p → Fc Try.prog 77 [.agg (cRm R p).toArray, .int .i64 (index R.boxes x), .int .i64 m] S (fun v H' => v = .bool w ∧ H' = S) := fun S h => by
            have := rThere_spec R p x m S h ⟨hm1, hm12⟩ hx0
            rw [hww, show decide (okId R x m) = decide ((0 ≤ m ∧ m ≤ R.months - 1) ∧ (bxAt R.boxes x).made ≤ m) from decide_eq_decide.2 Iff.rfl]
            exact this
          refine X.regionOb tsAk [1, 2, 3, 6, 7, 11, 37, 38, 39] [(1, (.slice (some ⟨bl, ol, none⟩) l.length cl)), (2, .int .i64 m), (3, .pointer (some ⟨b3, 0, none⟩)), (6, .pointer (some ⟨b6, 0, none⟩)), (7, .int .i64 0), (11, .int .i64 x), (37, (.slice (some ⟨bl, ol, none⟩) l.length cl)), (38, (.int .i64 l.length)), (39, (.int .i64 k))] (valAk b3 b6 R p x m (index R.boxes x) w (.slice (some ⟨bl, ol, none⟩) l.length cl) (.slice (some ⟨bl, ol, none⟩) l.length cl) (.int .i64 l.length) (.int .i64 k)) (rowsAk b3 b6 R p x m (index R.boxes x) w (.slice (some ⟨bl, ol, none⟩) l.length cl) (.slice (some ⟨bl, ol, none⟩) l.length cl) (.int .i64 l.length) (.int .i64 k)) (fun _ => (0, 0)) (⟨b6, 0, zRc.flatMap cSp, some 107, 96⟩ :: ⟨b3, 0, cRm R p, some 26, 5⟩ :: H) rfl mixed (by (repeat (first | exact Sub.nil _ | refine Sub.cons rfl ?_)); done) rfl (by kernel_rfl) (locAk b3 b6 R p x m (index R.boxes x) w (.slice (some ⟨bl, ol, none⟩) l.length cl) (.slice (some ⟨bl, ol, none⟩) l.length cl) (.int .i64 l.length) (.int .i64 k)) (List.Sublist.refl _) ?_ ?_
          · repeat' (first | exact AllF.done rfl | (refine AllF.step rfl ?_ ?_; · (first | fail | ((first | refine Ob.ng rfl ?_); (first | exact ObK.pure (fun env R hR => by exact ⟨_, EvF.move rfl rfl, rfl⟩) rfl (fun _ => rfl) | exact ObK.pure (fun env R hR => by exact ⟨_, EvF.not rfl rfl, rfl⟩) rfl (fun _ => rfl) | exact ObK.pure (fun env R hR => by exact ⟨_, EvF.loadV rfl rfl (LoadV.whole (te rfl) rfl (hR _ (List.Mem.tail _ (List.Mem.head _))) rfl), rfl⟩) rfl (fun _ => rfl) | (exact fun env S hS => OpF.callV (Z := []) (EnF.st rfl (Args.cons rfl (Args.cons rfl Args.nil))) (index_spec R p x _ (hRs _ hS)) rfl rfl) | (exact fun env S hS => OpF.callV (Z := []) (EnF.st rfl (Args.cons rfl (Args.cons rfl (Args.cons rfl Args.nil)))) (hth _ (hRs _ hS)) rfl rfl))))))
          intro env t ha2 hv; refine ⟨_, ha2.cons (hv 6 49 (Nat.le_of_ble_eq_true rfl) rfl), ?_⟩; clear hv ha2
          show X _ _ _ [(49, .bool !w), (1, .slice (some ⟨bl, ol, none⟩) l.length cl), (2, .int .i64 m), (3, .pointer (some ⟨b3, 0, none⟩)), (6, .pointer (some ⟨b6, 0, none⟩)), (7, .int .i64 0), (11, .int .i64 x), (37, .slice (some ⟨bl, ol, none⟩) l.length cl), (38, .int .i64 l.length), (39, .int .i64 k)] (⟨b6, 0, zRc.flatMap cSp, some 107, 96⟩ :: ⟨b3, 0, cRm R p, some 26, 5⟩ :: H) _
          clear env
          cases w with
          | false =>
            have h11 : openE R l [m] = 11 := by
              unfold openE
              rw [if_pos hok, if_pos hal, if_neg (fun q => absurd (hit.1 q x (List.mem_of_getElem? he)) (of_decide_eq_false hww.symm))]
            repeat' (first | (refine XO.op rfl ?_; (first | ((first | refine Xo.ng rfl ?_); (first | (refine Xg.ev (EvF.buildArr (zs := zRc.flatMap cSp) (cs := zRc.flatMap cSp) rfl ArgsP.nil (te rfl) (te rfl) Try.zeroValue107 rfl) rfl rfl ?_) | (refine Xg.st0 (StF.storeAll (i := 0) (vs := zRc.flatMap cSp) (cs := zRc.flatMap cSp) rfl rfl rfl (te rfl) rfl rfl rfl rfl) rfl ?_; rintro _ _ ⟨rfl, rfl⟩; dsimp only [List.set]) | (refine Xg.ev (EvF.move rfl rfl) rfl rfl ?_) | (refine Xg.ev (EvF.assign rfl rfl) rfl rfl ?_) | (refine Xg.ev (EvF.add64 rfl rfl rfl (by omega) (by omega)) rfl rfl ?_))))) | (refine XO.done rfl ?_; refine hK _ _ ?_; clear hK K) | refine X.seq rfl ?_ | refine X.region rfl (fun K hK => ?_) | refine X.skip rfl ?_ | refine X.ret rfl ?_ | (refine X.ite rfl rfl (fun hc => ?_); (first | (with_reducible refine Xb.caseB hc (fun h => ?_) (fun h => ?_))) <;> clear hc))
            all_goals try (exfalso; contradiction)
            exact ret_two (v := .agg (zRc.flatMap cSp).toArray) (by first | exact .inr rfl | exact .inl rfl) Try.results61 ⟨_, rfl, LoadV.whole (te rfl) rfl (List.Mem.head _) rfl⟩ rfl (H' := H) (by (repeat (first | exact List.Sublist.refl _ | apply List.Sublist.cons_cons | apply List.Sublist.cons)); done) ⟨zRc, rfl, (fun h => absurd h (by rw [h11]; decide)), by rw [h11], rfl⟩
          | true =>
            have hx1 := of_decide_eq_true hww.symm
            repeat' (first | (refine XO.op rfl ?_; (first | ((first | refine Xo.ng rfl ?_); (first | (refine Xg.ev (EvF.move rfl rfl) rfl rfl ?_) | (refine Xg.ev (EvF.add64 rfl rfl rfl (by omega) (by omega)) rfl rfl ?_))))) | (refine XO.done rfl ?_; refine hK _ _ ?_; clear hK K) | refine X.seq rfl ?_ | refine X.region rfl (fun K hK => ?_) | refine X.skip rfl ?_ | (refine X.ite rfl rfl (fun hc => ?_); (first | (with_reducible refine Xb.caseB hc (fun h => ?_) (fun h => ?_))) <;> clear hc))
            all_goals try (exfalso; contradiction)
            exact ⟨_, [(1, .slice (some ⟨bl, ol, none⟩) l.length cl), (2, .int .i64 m), (3, .pointer (some ⟨b3, 0, none⟩)), (6, .pointer (some ⟨b6, 0, none⟩)), (7, .int .i64 0), (37, .slice (some ⟨bl, ol, none⟩) l.length cl), (38, .int .i64 l.length), (39, .int .i64 (k + 1 : Nat))], ⟨b6, 0, zRc.flatMap cSp, some 107, 96⟩ :: ⟨b3, 0, cRm R p, some 26, 5⟩ :: H, (by (repeat (first | exact Sub.nil _ | refine Sub.cons rfl ?_)); done), (by (repeat (first | exact List.Sublist.refl _ | apply List.Sublist.cons_cons | apply List.Sublist.cons)); done), ⟨k + 1, rfl, by omega, fun j y hj hy => by
              by_cases e : j < k
              · exact hok2 j y e hy
              · rw [show j = k by omega, he] at hy
                cases hy
                exact hx1, rfl, rfl⟩, by omega⟩
        · have hit2 : inTime R l [m] := hit.2 (fun x hx => by
            obtain ⟨j, hj, ex⟩ := List.mem_iff_getElem.1 hx
            exact hok2 j x (by omega) (by rw [List.getElem?_eq_getElem hj, ex]))
          have hE : openE R l [m] = if hasT R R.mats then 0 else 8 := by unfold openE; rw [if_pos hok, if_pos hal, if_pos hit2]
          repeat' (first | (refine XO.op rfl ?_; (first | ((first | refine Xo.ng rfl ?_); (first | (refine Xg.call (EnF.st rfl (by (repeat (first | exact Args.nil | refine Args.cons rfl ?_)); done)) rfl rfl (found_spec R p _ hr hok.mats hlm (hR.sub (fun _ h => by repeat (first | exact h | apply List.Mem.tail)))) ?_; rintro _ _ ⟨c, hc, rfl, rfl⟩) | (refine Xg.ev (EvF.extract rfl rfl rfl) rfl rfl ?_) | (refine Xg.st0 (StF.storeAll (i := 0) (vs := c.1.flatMap cSp) (cs := zRc.flatMap cSp) rfl rfl rfl (te rfl) rfl hc.len96 (sp_one _) (by rw [hc.len96, sp_len]; rfl)) rfl ?_; rintro _ _ ⟨rfl, rfl⟩; dsimp only [List.set]) | (refine Xg.ev (EvF.loadV rfl rfl (LoadV.whole (T := 107) (cs := c.1.flatMap cSp) (te rfl) rfl (List.Mem.head _) hc.len96)) rfl rfl ?_) | (refine Xg.st0 (StF.storeAll (i := 1) (vs := c.1.flatMap cSp) (cs := zRc.flatMap cSp) rfl rfl rfl (te rfl) rfl hc.len96 (sp_one _) (by rw [hc.len96, sp_len]; rfl)) rfl ?_; rintro _ _ ⟨rfl, rfl⟩; dsimp only [List.set]) | (refine Xg.ev (EvF.move rfl rfl) rfl rfl ?_) | (refine Xg.ev (EvF.assign rfl rfl) rfl rfl ?_) | (refine Xg.ev (EvF.not rfl rfl) rfl rfl ?_) | (refine Xg.st (StF.alloc rfl Try.zeroValue107 rfl) rfl rfl ?_; rintro _ _ ⟨bx, rfl, rfl⟩))))) | (refine XO.done rfl ?_; refine hK _ _ ?_; clear hK K) | refine X.seq rfl ?_ | refine X.region rfl (fun K hK => ?_) | refine X.skip rfl ?_ | refine X.ret rfl ?_ | (refine X.ite rfl rfl (fun hc => ?_); (first | (with_reducible refine Xb.caseB hc (fun h => ?_) (fun h => ?_))) <;> clear hc))
          · have hn : ¬ hasT R R.mats := hc.no (by simpa using (by assumption : (!c.2) = true))
            rw [if_neg hn] at hE
            exact ret_two (v := .agg (c.1.flatMap cSp).toArray) (by first | exact .inr rfl | exact .inl rfl) Try.results61 ⟨_, rfl, LoadV.whole (te rfl) rfl (List.Mem.tail _ (List.Mem.head _)) hc.len96⟩ rfl (H' := H) (by (repeat (first | exact List.Sublist.refl _ | apply List.Sublist.cons_cons | apply List.Sublist.cons)); done) ⟨c.1, hc.len, (fun q => absurd q (by rw [hE]; decide)), by rw [hE], rfl⟩
          · obtain ⟨y1, y2, y3⟩ := hc.yes (by simpa using (by assumption : (!c.2) = false))
            rw [if_pos y1] at hE
            exact ret_two (v := .agg (c.1.flatMap cSp).toArray) (by first | exact .inr rfl | exact .inl rfl) Try.results61 ⟨_, rfl, LoadV.whole (te rfl) rfl (List.Mem.tail _ (List.Mem.head _)) hc.len96⟩ rfl (H' := H) (by (repeat (first | exact List.Sublist.refl _ | apply List.Sublist.cons_cons | apply List.Sublist.cons)); done) ⟨c.1, hc.len, (fun _ => ⟨y1, y2, y3⟩), by rw [hE], rfl⟩
  · have h10 : openE R l [m] = 10 := by unfold openE; rw [if_neg hok]
    have hrs : ∀ r1 r2, Fc Try.prog 47 [.agg (cRm R p).toArray] (r1 :: r2 :: H) (fun v H' => v = .bool false ∧ H' = r1 :: r2 :: H) := fun r1 r2 => by
      have := room_spec R p (r1 :: r2 :: H) (hR.sub (fun _ h => List.Mem.tail _ (List.Mem.tail _ h)))
      rwa [decide_eq_false hok] at this
    refine Fc.mk (callable Try.call61) Try.func61 rfl Try.ntmps61 rfl ?_; dsimp only [fr]
    repeat' (first | (refine XO.op rfl ?_; (first | ((first | refine Xo.ng rfl ?_); (first | (refine Xg.ev (EvF.loadV rfl rfl (LoadV.whole (T := 26) (cs := cRm R p) (te rfl) rfl (by repeat (first | exact List.Mem.head _ | apply List.Mem.tail)) rfl)) rfl rfl ?_) | (refine Xg.call (EnF.st rfl (Args.cons rfl Args.nil)) rfl rfl (hrs _ _) ?_; rintro _ H9 ⟨rfl, hH9⟩; subst H9) | (refine Xg.ev (EvF.buildArr (zs := zRc.flatMap cSp) (cs := zRc.flatMap cSp) rfl ArgsP.nil (te rfl) (te rfl) Try.zeroValue107 rfl) rfl rfl ?_) | (refine Xg.st0 (StF.storeAll (i := 0) (vs := zRc.flatMap cSp) (cs := zRc.flatMap cSp) rfl rfl rfl (te rfl) rfl rfl rfl rfl) rfl ?_; rintro _ _ ⟨rfl, rfl⟩; dsimp only [List.set]) | (refine Xg.ev (EvF.move rfl rfl) rfl rfl ?_) | (refine Xg.ev (EvF.assign rfl rfl) rfl rfl ?_) | (refine Xg.ev (EvF.not rfl rfl) rfl rfl ?_) | (refine Xg.ev (EvF.lenSlice rfl rfl (te rfl)) rfl rfl ?_) | (refine Xg.st (StF.boxAgg rfl rfl) rfl rfl ?_; rintro _ _ ⟨bx, rfl, rfl⟩) | (refine Xg.st (StF.alloc rfl Try.zeroValue107 rfl) rfl rfl ?_; rintro _ _ ⟨bx, rfl, rfl⟩))))) | (refine XO.done rfl ?_; refine hK _ _ ?_; clear hK K) | refine X.seq rfl ?_ | refine X.region rfl (fun K hK => ?_) | refine X.block rfl ?_ | refine X.skip rfl ?_ | refine X.ret rfl ?_ | (refine X.ite rfl rfl (fun hc => ?_); (first | (with_reducible refine Xb.caseB hc (fun h => ?_) (fun h => ?_))) <;> clear hc))
    all_goals try (exfalso; contradiction)
    exact ret_two (v := .agg (zRc.flatMap cSp).toArray) (by first | exact .inr rfl | exact .inl rfl) Try.results61 ⟨_, rfl, LoadV.whole (te rfl) rfl (List.Mem.head _) rfl⟩ rfl (H' := H) (by (repeat (first | exact List.Sublist.refl _ | apply List.Sublist.cons_cons | apply List.Sublist.cons)); done) ⟨zRc, rfl, (fun h => absurd h (by rw [h10]; decide)), by rw [h10], rfl⟩
end Go.Proofs.Ytblehgpfddmggaa
end
section
set_option linter.unusedVariables false
set_option linter.unusedSimpArgs false
namespace Go.Proofs.Ytblehgpfddmggaa
open Go Go.Fw
set_option maxRecDepth 10000
theorem sp_len96 {l : List Sp} (h : l.length = 48) : (l.flatMap cSp).length = 96 := by rw [sp_len, h]
theorem there_ix {R : Rm} (hr : okRm R) {l : List Int} {a m : Int} (h : openE R l [m] = 0) (ha : a ∈ l) : ∃ (b : Bx) (ia : Nat), there R b m ∧ b.id = a ∧ R.boxes[ia]? = some b ∧ index R.boxes a = ia ∧ ia < R.boxes.length ∧ 0 ≤ m ∧ m ≤ 11 ∧ cel R ⟨a, m⟩ = ia * 12 + m.toNat := by
  obtain ⟨b, ht, rfl⟩ := there_of h ha (List.mem_singleton.2 rfl)
  obtain ⟨ia, hia⟩ := box_at ht.1
  have h1 := there_bd hr ht
  exact ⟨b, ia, ht, rfl, hia, index_box hr.bx hia, (List.getElem?_eq_some_iff.1 hia).1, h1.1, h1.2, cel_box hr.bx hia m⟩
set_option maxHeartbeats 4000000 in
theorem rYellow_spec (R : Rm) (p : Pl) (a m : Int) (H : List Row) (hR : RmOk H R p) : Fc Try.prog 19 [.agg (cRm R p).toArray, .int .i64 a, .int .i64 m] H (fun v H' => v = .tuple #[.agg (cSp (yelF R a m).1).toArray, .int .i64 (yelF R a m).2] ∧ H' = H) := by
  obtain ⟨e, he⟩ : ∃ e, openE R [a] [m] = e := ⟨_, rfl⟩
  have has : ∀ (H' : List Row) (b1 : Nat), RmOk H' R p → ⟨b1, 0, [.int .i64 a], some 3, 1 * 1⟩ ∈ H' → Fc Try.prog 61 [.agg (cRm R p).toArray, .slice (some ⟨b1, 0, none⟩) 1 1, .int .i64 m] H' (fun v H'' => ∃ c, c.length = 48 ∧ (e = 0 → As R 0 c) ∧ v = .tuple #[.agg (c.flatMap cSp).toArray, .int .i64 e] ∧ H'' = H') := fun H' b1 q1 q2 => by
    have := rAsked_spec R p [a] (some ⟨b1, 0, none⟩) 1 m H' q1 (SlE.ofRow (l := [a]) q2 (fun _ _ => rfl)) (Nat.le_of_ble_eq_true rfl)
    rw [he] at this
    exact this
  by_cases h0 : e = 0
  · subst h0
    obtain ⟨hok, _, _, hT⟩ := openE_ok he
    have hr := hok.ok
    have hb4 := hr.b4
    obtain ⟨b, ia, ht, hba, hia, hix, hil, hm0, hm1, hce⟩ := there_ix hr he (List.mem_singleton.2 rfl)
    have hy : yelF R a m = (rng R R.mats ⟨a, m⟩ zp, 0) := by unfold yelF; rw [if_pos he]
    have hixs := fun H' hH' => index_spec R p a H' hH'
    rw [hix] at hixs
    rw [hy]
    refine Fc.mk (callable Try.call19) Try.func19 rfl Try.ntmps19 rfl ?_; dsimp only [fr]
    repeat' (first | (refine XO.op rfl ?_; (first | ((first | refine Xo.ng rfl ?_); (first | (refine Xg.st (StF.buildOne (v0 := .int .i64 a) rfl el55 rfl rfl rfl (by decide) (by decide)) rfl rfl ?_; rintro _ _ ⟨b1, rfl, rfl⟩) | (refine Xg.ev (EvF.loadV rfl rfl (LoadV.whole (T := 26) (cs := cRm R p) (te rfl) rfl (by repeat (first | exact List.Mem.head _ | apply List.Mem.tail)) rfl)) rfl rfl ?_) | (refine Xg.call (EnF.st rfl (by (repeat (first | exact Args.nil | refine Args.cons rfl ?_)); done)) rfl rfl (has _ b1 (hR.sub (fun _ h => by repeat (first | exact h | apply List.Mem.tail))) (List.Mem.head _)) ?_; rintro _ _ ⟨c, hc, hA, rfl, rfl⟩) | (refine Xg.ev (EvF.extract rfl rfl rfl) rfl rfl ?_) | (refine Xg.st (StF.alloc rfl Try.zeroValue107 rfl) rfl rfl ?_; rintro _ _ ⟨b8, rfl, rfl⟩) | (refine Xg.st0 (StF.storeAll (i := 0) (vs := c.flatMap cSp) (cs := zRc.flatMap cSp) rfl rfl rfl (te rfl) rfl (sp_len96 hc) (sp_one _) (by rw [sp_len96 hc, sp_len]; rfl)) rfl ?_; rintro _ _ ⟨rfl, rfl⟩; dsimp only [List.set]) | (refine Xg.call (EnF.st rfl (Args.cons rfl (Args.cons rfl Args.nil))) rfl rfl (hixs _ (hR.sub (fun _ h => by repeat (first | exact h | apply List.Mem.tail)))) ?_; rintro _ H9 ⟨rfl, hH9⟩; subst H9) | (refine Xg.ev (EvF.indexArray (i := (ia : Int)) (off := 0) (b := b8) (T := 107) (e := 105) (len := 4) rfl rfl rfl (te rfl) (te rfl) (by omega) (by omega)) rfl rfl ?_) | (refine Xg.ev (EvF.indexArray (i := m) (off := 0 + ia * 24) (b := b8) (T := 105) (e := 35) (len := 12) rfl rfl rfl (te rfl) (te rfl) (by omega) (by omega)) rfl rfl ?_) | (refine Xg.ev (EvF.loadV rfl rfl (LoadV.ownAgg (te rfl) rfl (List.Mem.head _) (sp_at (l := c) (k := ia * 12 + m.toNat) (j := 0 + ia * 24 + m.toNat * 2) (by omega) (by omega)) rfl)) rfl rfl ?_) | (refine Xg.ev (EvF.move rfl rfl) rfl rfl ?_) | (refine Xg.ev (EvF.assign rfl rfl) rfl rfl ?_) | (refine Xg.ev (EvF.cmp rfl rfl rfl rfl) rfl rfl ?_) | (refine Xg.st (StF.boxAgg rfl rfl) rfl rfl ?_; rintro _ _ ⟨bx, rfl, rfl⟩) | (refine Xg.st (StF.alloc rfl Try.zeroValue35 rfl) rfl rfl ?_; rintro _ _ ⟨bx, rfl, rfl⟩) | (refine Xg.st0 (StF.storeAll (i := 2) rfl rfl rfl (te rfl) rfl rfl rfl rfl) rfl ?_; rintro _ _ ⟨rfl, rfl⟩; dsimp only [List.set]))))) | (refine XO.done rfl ?_; refine hK _ _ ?_; clear hK K) | refine X.seq rfl ?_ | refine X.region rfl (fun K hK => ?_) | refine X.skip rfl ?_ | refine X.ret rfl ?_ | (refine X.ite rfl rfl (fun hc => ?_); (first | (with_reducible refine Xb.caseN hc (fun h => ?_) (fun h => ?_))) <;> clear hc))
    all_goals try (exfalso; omega)
    have hx := (hA rfl).ex b m ht
    rw [hba, hce] at hx
    refine ret_two (v := .agg (cSp (sat c (ia * 12 + m.toNat))).toArray) (by first | exact .inr rfl | exact .inl rfl) Try.results19 ⟨_, rfl, LoadV.whole (te rfl) rfl (by repeat (first | exact List.Mem.head _ | apply List.Mem.tail)) rfl⟩ rfl (H' := H) (by (repeat (first | exact List.Sublist.refl _ | apply List.Sublist.cons_cons | apply List.Sublist.cons)); done) ⟨?_, rfl⟩
    rw [rng_eq hx]
  · have hy : yelF R a m = (⟨0, 0⟩, e) := by unfold yelF; rw [if_neg (by rw [he]; exact h0), he]
    rw [hy]
    refine Fc.mk (callable Try.call19) Try.func19 rfl Try.ntmps19 rfl ?_; dsimp only [fr]
    repeat' (first | (refine XO.op rfl ?_; (first | ((first | refine Xo.ng rfl ?_); (first | (refine Xg.st (StF.buildOne (v0 := .int .i64 a) rfl el55 rfl rfl rfl (by decide) (by decide)) rfl rfl ?_; rintro _ _ ⟨b1, rfl, rfl⟩) | (refine Xg.ev (EvF.loadV rfl rfl (LoadV.whole (T := 26) (cs := cRm R p) (te rfl) rfl (by repeat (first | exact List.Mem.head _ | apply List.Mem.tail)) rfl)) rfl rfl ?_) | (refine Xg.call (EnF.st rfl (by (repeat (first | exact Args.nil | refine Args.cons rfl ?_)); done)) rfl rfl (has _ b1 (hR.sub (fun _ h => by repeat (first | exact h | apply List.Mem.tail))) (List.Mem.head _)) ?_; rintro _ _ ⟨c, hc, hA, rfl, rfl⟩) | (refine Xg.ev (EvF.extract rfl rfl rfl) rfl rfl ?_) | (refine Xg.st (StF.alloc rfl Try.zeroValue107 rfl) rfl rfl ?_; rintro _ _ ⟨b8, rfl, rfl⟩) | (refine Xg.st0 (StF.storeAll (i := 0) (vs := c.flatMap cSp) (cs := zRc.flatMap cSp) rfl rfl rfl (te rfl) rfl (sp_len96 hc) (sp_one _) (by rw [sp_len96 hc, sp_len]; rfl)) rfl ?_; rintro _ _ ⟨rfl, rfl⟩; dsimp only [List.set]) | (refine Xg.ev (EvF.build (cs := cSp ⟨0, 0⟩) rfl ArgsP.nil (te rfl) (Places.cons (te rfl) (Places.cons (te rfl) Places.nil)) Try.zeroValue35 rfl) rfl rfl ?_) | (refine Xg.ev (EvF.move rfl rfl) rfl rfl ?_) | (refine Xg.ev (EvF.assign rfl rfl) rfl rfl ?_) | (refine Xg.ev (EvF.cmp rfl rfl rfl rfl) rfl rfl ?_) | (refine Xg.st (StF.boxAgg rfl rfl) rfl rfl ?_; rintro _ _ ⟨bx, rfl, rfl⟩) | (refine Xg.st (StF.alloc rfl Try.zeroValue35 rfl) rfl rfl ?_; rintro _ _ ⟨bx, rfl, rfl⟩) | (refine Xg.st0 (StF.storeAll (i := 2) rfl rfl rfl (te rfl) rfl rfl rfl rfl) rfl ?_; rintro _ _ ⟨rfl, rfl⟩; dsimp only [List.set]))))) | (refine XO.done rfl ?_; refine hK _ _ ?_; clear hK K) | refine X.seq rfl ?_ | refine X.region rfl (fun K hK => ?_) | refine X.skip rfl ?_ | refine X.ret rfl ?_ | (refine X.ite rfl rfl (fun hc => ?_); (first | (with_reducible refine Xb.caseN hc (fun h => ?_) (fun h => ?_))) <;> clear hc))
    all_goals try (exfalso; simp_all; done)
    exact ret_two (v := .agg (cSp ⟨0, 0⟩).toArray) (by first | exact .inr rfl | exact .inl rfl) Try.results19 ⟨_, rfl, LoadV.whole (te rfl) rfl (by repeat (first | exact List.Mem.head _ | apply List.Mem.tail)) rfl⟩ rfl (H' := H) (by (repeat (first | exact List.Sublist.refl _ | apply List.Sublist.cons_cons | apply List.Sublist.cons)); done) ⟨rfl, rfl⟩
end Go.Proofs.Ytblehgpfddmggaa
end
section
set_option linter.unusedVariables false
set_option linter.unusedSimpArgs false
namespace Go.Proofs.Ytblehgpfddmggaa
open Go Go.Fw
set_option maxRecDepth 10000
def tsDr : List TOp := [⟨some 52, [], [], []⟩, ⟨some 53, [], [], []⟩, ⟨some 54, [0], [0], []⟩, ⟨some 55, [0, 1, 2], [2, 1], []⟩, ⟨some 56, [0, 1, 2, 3], [3], []⟩, ⟨some 57, [0, 1, 2, 3, 4], [4], []⟩, ⟨some 58, [], [], []⟩, ⟨some 59, [0, 1, 2, 3, 4, 5, 6], [5, 6], []⟩, ⟨some 60, [], [], []⟩, ⟨some 61, [], [], []⟩, ⟨some 62, [8], [8], []⟩, ⟨some 63, [8, 9, 10], [10, 9], []⟩, ⟨some 64, [8, 9, 10, 11], [11], []⟩, ⟨some 65, [8, 9, 10, 11, 12], [12], []⟩, ⟨some 66, [], [], []⟩, ⟨some 67, [8, 9, 10, 11, 12, 13, 14], [13, 14], []⟩, ⟨some 68, [0, 1, 2, 3, 4, 5, 6, 7, 8, 9, 10, 11, 12, 13, 14, 15], [7, 15], []⟩, ⟨some 17, [], [], []⟩, ⟨none, [0, 1, 2, 3, 4, 5, 6, 7, 8, 9, 10, 11, 12, 13, 14, 15, 16, 17], [17, 16], [17]⟩]
def valDr (b5 b6 b10 b11 b14 b15 ii kk : Nat) (m v : Int) (s : Sp) (g : Bool) (k : Nat) (env : Env) : Value :=
  match k with
  | 0 => .int .i64 (ii : Nat)
  | 1 => .int .i64 m
  | 2 => .pointer (some ⟨b15, 0 + ii * 24, none⟩)
  | 3 => .pointer (some ⟨b15, 0 + ii * 24 + m.toNat * 2, none⟩)
  | 4 => .pointer (some ⟨b15, 0 + ii * 24 + m.toNat * 2, none⟩)
  | 5 => .int .i64 s.lo
  | 6 => .int .i64 v
  | 7 => .int .i64 (s.lo - v)
  | 8 => .int .i64 (ii : Nat)
  | 9 => .int .i64 m
  | 10 => .pointer (some ⟨b15, 0 + ii * 24, none⟩)
  | 11 => .pointer (some ⟨b15, 0 + ii * 24 + m.toNat * 2, none⟩)
  | 12 => .pointer (some ⟨b15, 0 + ii * 24 + m.toNat * 2 + 1, none⟩)
  | 13 => .int .i64 s.hi
  | 14 => .int .i64 v
  | 15 => .int .i64 (s.hi - v)
  | 16 => .agg (cSp ⟨s.lo - v, s.hi - v⟩).toArray
  | 17 => .pointer (some ⟨(env 17).1, 0, none⟩)
  | 18 => undef
  | _ => undef
def rowsDr (b5 b6 b10 b11 b14 b15 ii kk : Nat) (m v : Int) (s : Sp) (g : Bool) (k : Nat) (env : Env) : List Row :=
  match k with
  | 17 => [⟨(env 17).1, 0, cSp ⟨0, 0⟩, some 35, 2⟩]
  | 18 => [⟨(env 17).1, 0, cSp ⟨s.lo - v, s.hi - v⟩, some 35, 2⟩]
  | _ => []
theorem locDr (b5 b6 b10 b11 b14 b15 ii kk : Nat) (m v : Int) (s : Sp) (g : Bool) : ∀ k env i q9, i ≠ k → (tAt tsDr k).sup.contains i = false → valDr b5 b6 b10 b11 b14 b15 ii kk m v s g k (upd env i q9) = valDr b5 b6 b10 b11 b14 b15 ii kk m v s g k env ∧ rowsDr b5 b6 b10 b11 b14 b15 ii kk m v s g k (upd env i q9) = rowsDr b5 b6 b10 b11 b14 b15 ii kk m v s g k env := by
  intro k env i q hk hs
  have hu : ∀ j, j ≠ i → upd env i q j = env j := fun j hj => by unfold upd; rw [if_neg hj]
  match k, hk, hs with
  | 0, _, _ => exact ⟨rfl, rfl⟩
  | 1, _, _ => exact ⟨rfl, rfl⟩
  | 2, _, _ => exact ⟨rfl, rfl⟩
  | 3, _, _ => exact ⟨rfl, rfl⟩
  | 4, _, _ => exact ⟨rfl, rfl⟩
  | 5, _, _ => exact ⟨rfl, rfl⟩
  | 6, _, _ => exact ⟨rfl, rfl⟩
  | 7, _, _ => exact ⟨rfl, rfl⟩
  | 8, _, _ => exact ⟨rfl, rfl⟩
  | 9, _, _ => exact ⟨rfl, rfl⟩
  | 10, _, _ => exact ⟨rfl, rfl⟩
  | 11, _, _ => exact ⟨rfl, rfl⟩
  | 12, _, _ => exact ⟨rfl, rfl⟩
  | 13, _, _ => exact ⟨rfl, rfl⟩
  | 14, _, _ => exact ⟨rfl, rfl⟩
  | 15, _, _ => exact ⟨rfl, rfl⟩
  | 16, _, _ => exact ⟨rfl, rfl⟩
  | 17, hk, hs => exact ⟨by simp only [valDr, hu 17 (fun e => hk e.symm)], by simp only [rowsDr, hu 17 (fun e => hk e.symm)]⟩
  | 18, hk, hs => exact ⟨by simp only [valDr, hu 17 (by rintro rfl; cases hs)], by simp only [rowsDr, hu 17 (by rintro rfl; cases hs)]⟩
  | _ + 19, _, _ => exact ⟨rfl, rfl⟩
/-- a pinned chart, closed -/
structure Pn (R : Rm) (c : List Sp) (x : List Sp × Bool) : Prop where
  len : x.1.length = 48
  yes : x.2 = true → ClosedT R R.mats c x.1
  no : x.2 = false → ∀ z, Tru R R.mats z → ¬ Inn R c z
set_option maxHeartbeats 16000000 in
theorem rdiffer_spec (R : Rm) (p : Pl) (c : List Sp) (a b : Bx) (i k : Nat) (m : Int) (H : List Row) (hr : okRm R) (hR : RmOk H R p) (hm : matsThere R R.mats) (hlm : R.mats.length ≤ 100) (hc : c.length = 48) (hA : As R 0 c) (hta : there R a m) (htb : there R b m) (hi : R.boxes[i]? = some a) (hk : R.boxes[k]? = some b) :
    Fc Try.prog 64 [.agg (cRm R p).toArray, .agg (c.flatMap cSp).toArray, .int .i64 i, .int .i64 k, .int .i64 m] H (fun v H' => v = .agg (cSp (rng R R.mats ⟨a.id, m⟩ ⟨b.id, m⟩)).toArray ∧ H' = H) := by
  have hb4 := hr.b4
  have hm0 := there_bd hr hta
  have hil := (List.getElem?_eq_some_iff.1 hi).1
  have hkl := (List.getElem?_eq_some_iff.1 hk).1
  have ca : cel R ⟨a.id, m⟩ = i * 12 + m.toNat := cel_box hr.bx hi m
  have cb : cel R ⟨b.id, m⟩ = k * 12 + m.toNat := cel_box hr.bx hk m
  have hcl : (c.flatMap cSp).length = 96 := sp_len96 hc
  obtain ⟨_, hlo, hhi⟩ := sp_cells c (k * 12 + m.toNat) (by omega)
  obtain ⟨t, ht⟩ : ∃ t, t = sat c (k * 12 + m.toNat) := ⟨_, rfl⟩
  rw [← ht, show (k * 12 + m.toNat) * 2 = 0 + k * 24 + m.toNat * 2 by omega] at hlo hhi
  have htk := hA.good.ok (k * 12 + m.toNat)
  rw [← ht] at htk
  have hpin : ∀ v : Int, splice (c.flatMap cSp) (0 + k * 24 + m.toNat * 2) (cSp ⟨v, v⟩) = (pin c (k * 12 + m.toNat) v).flatMap cSp := fun v => by
    rw [show 0 + k * 24 + m.toNat * 2 = (k * 12 + m.toNat) * 2 by omega]
    exact sp_splice c (k * 12 + m.toNat) ⟨v, v⟩ (by omega)
  have hpl : ∀ v : Int, ((pin c (k * 12 + m.toNat) v).flatMap cSp).length = 96 := fun v => sp_len96 (by unfold pin; rw [List.length_set]; exact hc)
  have hcs : ∀ (v : Int) S, t.lo ≤ v → v ≤ t.hi → RmOk S R p → Fc Try.prog 84 [.agg (cRm R p).toArray, .slice p.a3 R.mats.length p.c3, .agg ((pin c (k * 12 + m.toNat) v).flatMap cSp).toArray] S (fun u H' => ∃ x, Pn R (pin c (k * 12 + m.toNat) v) x ∧ u = .tuple #[.agg (x.1.flatMap cSp).toArray, .bool x.2] ∧ H' = S) := fun v S h1 h2 hS => by
    obtain ⟨p1, p2, _⟩ := pin_ok hA.good (k := k * 12 + m.toNat) (v := v) (by omega) (by rw [← ht]; exact ⟨h1, h2⟩)
    refine (closed_spec R p R.mats p.a3 p.c3 (pin c (k * 12 + m.toNat) v) S hr hS hS.mats hlm hm p1 p2).mono fun u H' ⟨l, hH, h⟩ => ?_
    rcases h with ⟨h1, hv⟩ | ⟨h1, h2, hv⟩
    · exact ⟨(l, true), ⟨h1.len, fun _ => h1, (fun h => by cases h)⟩, hv, hH⟩
    · exact ⟨(l, false), ⟨h1, (fun h => by cases h), fun _ => h2⟩, hv, hH⟩
  refine Fc.mk (callable Try.call64) Try.func64 rfl Try.ntmps64 rfl ?_; dsimp only [fr]
  repeat' (first | (refine XO.op rfl ?_; (first | ((first | refine Xo.ng rfl ?_); (first | (refine Xg.ev (EvF.indexArray (i := (k : Int)) (off := 0) (T := 107) (e := 105) (len := 4) rfl rfl rfl (te rfl) (te rfl) (by omega) (by omega)) rfl rfl ?_) | (refine Xg.ev (EvF.indexArray (i := m) (off := 0 + k * 24) (T := 105) (e := 35) (len := 12) rfl rfl rfl (te rfl) (te rfl) (by omega) (by omega)) rfl rfl ?_) | (refine Xg.ev (EvF.loadV rfl rfl (LoadV.own (te rfl) rfl (by repeat (first | exact List.Mem.head _ | apply List.Mem.tail)) hlo)) rfl rfl ?_) | (refine Xg.ev (EvF.move rfl rfl) rfl rfl ?_) | (refine Xg.ev (EvF.assign rfl rfl) rfl rfl ?_) | (refine Xg.ev (EvF.fieldAddr rfl rfl (te rfl) rfl (te rfl) (by decide)) rfl rfl ?_) | (refine Xg.st (StF.boxAgg rfl rfl) rfl rfl ?_; rintro _ _ ⟨bx, rfl, rfl⟩) | (refine Xg.st (StF.alloc rfl Try.zeroValue35 rfl) rfl rfl ?_; rintro _ _ ⟨bx, rfl, rfl⟩))))) | (refine XO.done rfl ?_; refine hK _ _ ?_; clear hK K) | refine X.seq rfl ?_ | refine X.region rfl (fun K hK => ?_) | refine X.block rfl ?_)
  rename_i b5 b6 b10
  generalize bx = b11
  rw [hcl]
  refine X.lp rfl (fun q F' H' => ∃ (v : Int) (out : Sp) (any : Bool), q = (t.hi + 1 - v).toNat ∧ t.lo ≤ v ∧ v ≤ t.hi + 1 ∧ Acc R R.mats ⟨a.id, m⟩ ⟨b.id, m⟩ t.lo v out any ∧ H' = ⟨b11, 0, cSp out, some 35, 2⟩ :: ⟨b10, 0, cSp ⟨0, 0⟩, some 35, 2⟩ :: ⟨b6, 0, c.flatMap cSp, some 107, 96⟩ :: ⟨b5, 0, cRm R p, some 26, 5⟩ :: H ∧ F' = [(2, .int .i64 i), (3, .int .i64 k), (4, .int .i64 m), (5, .pointer (some ⟨b5, 0, none⟩)), (6, .pointer (some ⟨b6, 0, none⟩)), (10, .pointer (some ⟨b10, 0, none⟩)), (11, .pointer (some ⟨b11, 0, none⟩)), (12, .bool any), (13, .int .i64 v)])
    (t.hi + 1 - t.lo).toNat [(2, .int .i64 i), (3, .int .i64 k), (4, .int .i64 m), (5, .pointer (some ⟨b5, 0, none⟩)), (6, .pointer (some ⟨b6, 0, none⟩)), (10, .pointer (some ⟨b10, 0, none⟩)), (11, .pointer (some ⟨b11, 0, none⟩)), (12, .bool false), (13, .int .i64 t.lo)] (⟨b11, 0, cSp ⟨0, 0⟩, some 35, 2⟩ :: ⟨b10, 0, cSp ⟨0, 0⟩, some 35, 2⟩ :: ⟨b6, 0, c.flatMap cSp, some 107, 96⟩ :: ⟨b5, 0, cRm R p, some 26, 5⟩ :: H) (by (repeat (first | exact Sub.nil _ | refine Sub.cons rfl ?_)); done) (List.Sublist.refl _) ⟨t.lo, ⟨0, 0⟩, false, rfl, by omega, by omega, Acc.zero _ _ _ _ _ _, rfl, rfl⟩ ?_
  rintro _ _ _ ⟨v, out, any, rfl, hv1, hv2, hAc, rfl, rfl⟩
  repeat' (first | (refine XO.op rfl ?_; (first | ((first | refine Xo.ng rfl ?_); (first | (refine Xg.ev (EvF.indexArray (i := (k : Int)) (off := 0) (T := 107) (e := 105) (len := 4) rfl rfl rfl (te rfl) (te rfl) (by omega) (by omega)) rfl rfl ?_) | (refine Xg.ev (EvF.indexArray (i := m) (off := 0 + k * 24) (T := 105) (e := 35) (len := 12) rfl rfl rfl (te rfl) (te rfl) (by omega) (by omega)) rfl rfl ?_) | (refine Xg.ev (EvF.loadV rfl rfl (LoadV.own (te rfl) rfl (by repeat (first | exact List.Mem.head _ | apply List.Mem.tail)) hhi)) rfl rfl ?_) | (refine Xg.ev (EvF.loadV rfl rfl (LoadV.whole (T := 107) (cs := c.flatMap cSp) (te rfl) rfl (by repeat (first | exact List.Mem.head _ | apply List.Mem.tail)) hcl)) rfl rfl ?_) | (refine Xg.ev (EvF.loadV rfl rfl (LoadV.whole (T := 26) (cs := cRm R p) (te rfl) rfl (by repeat (first | exact List.Mem.head _ | apply List.Mem.tail)) rfl)) rfl rfl ?_) | (refine Xg.st (StF.alloc rfl Try.zeroValue107 rfl) rfl rfl ?_; rintro _ _ ⟨b14, rfl, rfl⟩) | (refine Xg.st0 (StF.storeAll (i := 0) (vs := c.flatMap cSp) (cs := zRc.flatMap cSp) rfl rfl rfl (te rfl) rfl hcl (sp_one _) (by rw [hcl, sp_len]; rfl)) rfl ?_; rintro _ _ ⟨rfl, rfl⟩; dsimp only [List.set]) | (refine Xg.ev (EvF.build (cs := cSp ⟨v, v⟩) rfl (ArgsP.cons rfl (ArgsP.cons rfl ArgsP.nil)) (te rfl) (Places.cons (te rfl) (Places.cons (te rfl) Places.nil)) Try.zeroValue35 rfl) rfl rfl ?_) | (refine Xg.st0 (StF.storeAt (q := 0) (j := 0 + k * 24 + m.toNat * 2) (vs := cSp ⟨v, v⟩) (cs := c.flatMap cSp) rfl rfl rfl (te rfl) rfl rfl rfl (by rw [hcl]; show 0 + k * 24 + m.toNat * 2 + 2 ≤ 96; omega)) rfl ?_; rintro _ _ ⟨rfl, rfl⟩; dsimp only [List.set]; rw [hpin v]) | (refine Xg.ev (EvF.loadV rfl rfl (LoadV.whole (T := 107) (cs := (pin c (k * 12 + m.toNat) v).flatMap cSp) (te rfl) rfl (by repeat (first | exact List.Mem.head _ | apply List.Mem.tail)) (hpl v))) rfl rfl ?_) | (refine Xg.call (EnF.st rfl (by (repeat (first | exact Args.nil | refine Args.cons rfl ?_)); done)) rfl rfl (hcs v _ hv1 (by omega) (hR.sub (fun _ h => by repeat (first | exact h | apply List.Mem.tail)))) ?_; rintro _ _ ⟨x, hx, rfl, rfl⟩) | (refine Xg.ev (EvF.extract rfl rfl rfl) rfl rfl ?_) | (refine Xg.st0 (StF.storeAll (i := 0) (vs := x.1.flatMap cSp) (cs := zRc.flatMap cSp) rfl rfl rfl (te rfl) rfl (sp_len96 hx.len) (sp_one _) (by rw [sp_len96 hx.len, sp_len]; rfl)) rfl ?_; rintro _ _ ⟨rfl, rfl⟩; dsimp only [List.set]) | (refine Xg.ev (EvF.move rfl rfl) rfl rfl ?_) | (refine Xg.ev (EvF.assign rfl rfl) rfl rfl ?_) | (refine Xg.ev (EvF.cmp rfl rfl rfl rfl) rfl rfl ?_) | (refine Xg.ev (EvF.add64 rfl rfl rfl (by omega) (by omega)) rfl rfl ?_) | (refine Xg.ev (EvF.not rfl rfl) rfl rfl ?_) | (refine Xg.ev (EvF.fieldAddr rfl rfl (te rfl) rfl (te rfl) (by decide)) rfl rfl ?_) | (refine Xg.ev (EvF.loadV rfl rfl (LoadV.own (te rfl) rfl (List.Mem.tail _ (List.Mem.tail _ (List.Mem.tail _ (List.Mem.tail _ (List.Mem.head _))))) rfl)) rfl rfl ?_) | (refine Xg.ev (EvF.loadV rfl rfl (LoadV.whole (te rfl) rfl (List.Mem.head _) rfl)) rfl rfl ?_) | (refine Xg.st0 (StF.storeAll (i := 1) rfl rfl rfl (te rfl) rfl rfl rfl rfl) rfl ?_; rintro _ _ ⟨rfl, rfl⟩; dsimp only [List.set]))))) | (refine XO.done rfl ?_; refine hK _ _ ?_; clear hK K) | refine X.seq rfl ?_ | refine X.region rfl (fun K hK => ?_) | refine X.block rfl ?_ | (refine X.brk rfl ?_; repeat (first | refine blockX_hit rfl ?_ | refine blockX_miss (by decide) ?_)) | refine X.skip rfl ?_ | refine X.ret rfl ?_ | (refine X.ite rfl rfl (fun hc => ?_); (first | (with_reducible refine Xb.case hc (fun h => ?_) (fun h => ?_)) | (with_reducible refine Xb.caseB hc (fun h => ?_) (fun h => ?_))) <;> clear hc))
  · rename_i hv3 bp
    exact ⟨_, _, ⟨b11, 0, cSp out, some 35, 2⟩ :: ⟨b10, 0, cSp ⟨0, 0⟩, some 35, 2⟩ :: ⟨b6, 0, c.flatMap cSp, some 107, 96⟩ :: ⟨b5, 0, cRm R p, some 26, 5⟩ :: H, (by (repeat (first | exact Sub.nil _ | refine Sub.cons rfl ?_)); done), (by (repeat (first | exact List.Sublist.refl _ | apply List.Sublist.cons_cons | apply List.Sublist.cons)); done), ⟨v + 1, out, any, rfl, by omega, by omega, hAc.skip (fun z hz he => hx.no (by simpa using h) z hz (by rw [← cb]; exact pin_inn hr hA.good htb hz he)), rfl, rfl⟩, by omega⟩
  · rename_i hv3 bp
    generalize b14 = b15
    have hxl := hx.len
    obtain ⟨s, hs⟩ : ∃ s, s = sat x.1 (i * 12 + m.toNat) := ⟨_, rfl⟩
    obtain ⟨_, hslo, hshi⟩ := sp_cells x.1 (i * 12 + m.toNat) (by omega)
    rw [← hs, show (i * 12 + m.toNat) * 2 = 0 + i * 24 + m.toNat * 2 by omega] at hslo hshi
    have hX := hx.yes (by simpa using h)
    have hsok := And.intro (hX.sub (i * 12 + m.toNat)) (hX.full (i * 12 + m.toNat))
    rw [← hs] at hsok
    have hpo := (pin_ok hA.good (k := k * 12 + m.toNat) (v := v) (by omega) (by rw [← ht]; exact ⟨hv1, hv3⟩)).2.1 (i * 12 + m.toNat)
    have hsb : 0 ≤ s.lo ∧ s.lo ≤ s.hi ∧ s.hi ≤ 60 := by obtain ⟨q1, q2⟩ := hsok; omega
    have hX2 := hX
    rw [← cb] at hX2
    obtain ⟨e1, e2, e3⟩ := pin_closed hr hm hA.good hta htb (by rw [cb, ← ht]; exact ⟨hv1, hv3⟩) hX2
    rw [ca, ← hs] at e1 e2 e3
    have hadd := hAc.add (s := ⟨s.lo - v, s.hi - v⟩) e1 e2 e3
    refine X.regionOb tsDr [2, 3, 4, 5, 6, 10, 11, 12, 13, 14, 15] [(2, .int .i64 (i : Nat)), (3, .int .i64 (k : Nat)), (4, .int .i64 m), (5, .pointer (some ⟨b5, 0, none⟩)), (6, .pointer (some ⟨b6, 0, none⟩)), (10, .pointer (some ⟨b10, 0, none⟩)), (11, .pointer (some ⟨b11, 0, none⟩)), (12, .bool any), (13, .int .i64 v), (14, .pointer (some ⟨bp, 0, none⟩)), (15, .pointer (some ⟨b15, 0, none⟩))] (valDr b5 b6 b10 b11 bp b15 i k m v s any) (rowsDr b5 b6 b10 b11 bp b15 i k m v s any) (fun _ => (0, 0)) (⟨b15, 0, x.1.flatMap cSp, some 107, 96⟩ :: ⟨bp, 0, (pin c (k * 12 + m.toNat) v).flatMap cSp, some 107, 96⟩ :: ⟨b11, 0, cSp out, some 35, 2⟩ :: ⟨b10, 0, cSp ⟨0, 0⟩, some 35, 2⟩ :: ⟨b6, 0, c.flatMap cSp, some 107, 96⟩ :: ⟨b5, 0, cRm R p, some 26, 5⟩ :: H) rfl mixed (by (repeat (first | exact Sub.nil _ | refine Sub.cons rfl ?_)); done) rfl (by kernel_rfl) (locDr b5 b6 b10 b11 bp b15 i k m v s any) (List.Sublist.refl _) ?_ ?_
    · repeat' (first | exact AllF.done rfl | (refine AllF.step rfl ?_ ?_; · (first | fail | ((first | refine Ob.ng rfl ?_); (first | exact ObK.pure (fun env R hR => by exact ⟨_, EvF.move rfl rfl, rfl⟩) rfl (fun _ => rfl) | exact ObK.pure (fun env R hR => by exact ⟨_, EvF.fieldAddr rfl rfl (te rfl) rfl (te rfl) (by decide), rfl⟩) rfl (fun _ => rfl) | ((refine ObK.pure (fun env S hS => ⟨.pointer (some ⟨b15, 0 + i * 24, none⟩), ?_, rfl⟩) rfl (fun _ => rfl); exact EvF.indexArray (i := (i : Int)) (off := 0) (b := b15) (T := 107) (e := 105) (len := 4) rfl rfl rfl (te rfl) (te rfl) (by omega) (by omega))) | ((refine ObK.pure (fun env S hS => ⟨.pointer (some ⟨b15, 0 + i * 24 + m.toNat * 2, none⟩), ?_, rfl⟩) rfl (fun _ => rfl); exact EvF.indexArray (i := m) (off := 0 + i * 24) (b := b15) (T := 105) (e := 35) (len := 12) rfl rfl rfl (te rfl) (te rfl) (by omega) (by omega))) | (exact ObK.pure (fun env S hS => ⟨_, EvF.loadV rfl rfl (LoadV.own (te rfl) rfl (hS _ (List.Mem.head _)) hslo), rfl⟩) rfl (fun _ => rfl)) | (exact ObK.pure (fun env S hS => ⟨_, EvF.loadV rfl rfl (LoadV.own (te rfl) rfl (hS _ (List.Mem.head _)) hshi), rfl⟩) rfl (fun _ => rfl)) | (exact ObK.pure (fun env S hS => ⟨_, EvF.build (cs := cSp ⟨s.lo - v, s.hi - v⟩) rfl (ArgsP.cons rfl (ArgsP.cons rfl ArgsP.nil)) (te rfl) (Places.cons (te rfl) (Places.cons (te rfl) Places.nil)) Try.zeroValue35 rfl, rfl⟩) rfl (fun _ => rfl)) | (exact fun env S hS => (StF.alloc rfl Try.zeroValue35 rfl).op.mono (fun v H' ⟨b, hv, hH⟩ => ⟨(b, 0), fun _ => hv, by rw [hH]; exact List.Perm.refl _⟩)) | (exact fun env S hS => (StF.storeAll (i := 0) (vs := cSp ⟨s.lo - v, s.hi - v⟩) (cs := cSp ⟨0, 0⟩) rfl rfl rfl (te rfl) rfl rfl rfl rfl).op.mono (fun v H' ⟨hv, hH⟩ => ⟨(0, 0), fun h => absurd rfl h, by rw [hH]; exact List.Perm.refl _⟩)) | (exact ObK.pure (fun env S hS => ⟨_, EvF.sub64 rfl rfl rfl (by omega) (by omega), rfl⟩) rfl (fun _ => rfl)))))))
    intro env t ha2 hv; refine ⟨_, ha2.cons (hv 17 17 (Nat.le_of_ble_eq_true rfl) rfl), ?_⟩; clear hv ha2
    show X _ _ _ [(17, .pointer (some ⟨(env 17).1, 0, none⟩)), (2, .int .i64 i), (3, .int .i64 k), (4, .int .i64 m), (5, .pointer (some ⟨b5, 0, none⟩)), (6, .pointer (some ⟨b6, 0, none⟩)), (10, .pointer (some ⟨b10, 0, none⟩)), (11, .pointer (some ⟨b11, 0, none⟩)), (12, .bool any), (13, .int .i64 v), (14, .pointer (some ⟨bp, 0, none⟩)), (15, .pointer (some ⟨b15, 0, none⟩))] (⟨(env 17).1, 0, cSp ⟨s.lo - v, s.hi - v⟩, some 35, 2⟩ :: ⟨b15, 0, x.1.flatMap cSp, some 107, 96⟩ :: ⟨bp, 0, (pin c (k * 12 + m.toNat) v).flatMap cSp, some 107, 96⟩ :: ⟨b11, 0, cSp out, some 35, 2⟩ :: ⟨b10, 0, cSp ⟨0, 0⟩, some 35, 2⟩ :: ⟨b6, 0, c.flatMap cSp, some 107, 96⟩ :: ⟨b5, 0, cRm R p, some 26, 5⟩ :: H) _
    generalize (env 17).1 = b17
    clear env
    cases any with
    | false =>
      repeat' (first | (refine XO.op rfl ?_; (first | ((first | refine Xo.ng rfl ?_); (first | (refine Xg.ev (EvF.move rfl rfl) rfl rfl ?_) | (refine Xg.ev (EvF.assign rfl rfl) rfl rfl ?_) | (refine Xg.ev (EvF.add64 rfl rfl rfl (by omega) (by omega)) rfl rfl ?_) | (refine Xg.ev (EvF.loadV rfl rfl (LoadV.whole (te rfl) rfl (List.Mem.head _) rfl)) rfl rfl ?_) | (refine Xg.st0 (StF.storeAll (i := 3) rfl rfl rfl (te rfl) rfl rfl rfl rfl) rfl ?_; rintro _ _ ⟨rfl, rfl⟩; dsimp only [List.set]))))) | (refine XO.done rfl ?_; refine hK _ _ ?_; clear hK K) | refine X.seq rfl ?_ | refine X.region rfl (fun K hK => ?_) | refine X.skip rfl ?_ | (refine X.ite rfl rfl (fun hc => ?_); (first | (with_reducible refine Xb.f hc ?_)) <;> clear hc))
      all_goals try (exfalso; contradiction)
      exact ⟨_, _, ⟨b11, 0, cSp ⟨s.lo - v, s.hi - v⟩, some 35, 2⟩ :: ⟨b10, 0, cSp ⟨0, 0⟩, some 35, 2⟩ :: ⟨b6, 0, c.flatMap cSp, some 107, 96⟩ :: ⟨b5, 0, cRm R p, some 26, 5⟩ :: H, (by (repeat (first | exact Sub.nil _ | refine Sub.cons rfl ?_)); done), (by (repeat (first | exact List.Sublist.refl _ | apply List.Sublist.cons_cons | apply List.Sublist.cons)); done), ⟨v + 1, _, true, rfl, by omega, by omega, by simpa using hadd, rfl, rfl⟩, by omega⟩
    | true =>
      repeat' (first | (refine XO.op rfl ?_; (first | ((first | refine Xo.ng rfl ?_); (first | (refine Xg.ev (EvF.min64 rfl rfl rfl) rfl rfl ?_) | (refine Xg.ev (EvF.max64 rfl rfl rfl) rfl rfl ?_) | (refine Xg.ev (EvF.build (cs := cSp ⟨min (s.lo - v) out.lo, max (s.hi - v) out.hi⟩) rfl (ArgsP.cons rfl (ArgsP.cons rfl ArgsP.nil)) (te rfl) (Places.cons (te rfl) (Places.cons (te rfl) Places.nil)) Try.zeroValue35 rfl) rfl rfl ?_) | (refine Xg.ev (EvF.move rfl rfl) rfl rfl ?_) | (refine Xg.ev (EvF.assign rfl rfl) rfl rfl ?_) | (refine Xg.ev (EvF.add64 rfl rfl rfl (by omega) (by omega)) rfl rfl ?_) | (refine Xg.ev (EvF.fieldAddr rfl rfl (te rfl) rfl (te rfl) (by decide)) rfl rfl ?_) | (refine Xg.ev (EvF.loadV rfl rfl (LoadV.own (te rfl) rfl (List.Mem.head _) rfl)) rfl rfl ?_) | (refine Xg.ev (EvF.loadV rfl rfl (LoadV.own (te rfl) rfl (List.Mem.tail _ (List.Mem.tail _ (List.Mem.tail _ (List.Mem.head _)))) rfl)) rfl rfl ?_) | (refine Xg.ev (EvF.loadV rfl rfl (LoadV.whole (te rfl) rfl (List.Mem.head _) rfl)) rfl rfl ?_) | (refine Xg.st0 (StF.storeAll (i := 0) rfl rfl rfl (te rfl) rfl rfl rfl rfl) rfl ?_; rintro _ _ ⟨rfl, rfl⟩; dsimp only [List.set]) | (refine Xg.st0 (StF.storeAll (i := 3) rfl rfl rfl (te rfl) rfl rfl rfl rfl) rfl ?_; rintro _ _ ⟨rfl, rfl⟩; dsimp only [List.set]))))) | (refine XO.done rfl ?_; refine hK _ _ ?_; clear hK K) | refine X.seq rfl ?_ | refine X.region rfl (fun K hK => ?_) | (refine X.ite rfl rfl (fun hc => ?_); (first | (with_reducible refine Xb.t hc ?_)) <;> clear hc))
      all_goals try (exfalso; contradiction)
      exact ⟨_, _, ⟨b11, 0, cSp ⟨min (s.lo - v) out.lo, max (s.hi - v) out.hi⟩, some 35, 2⟩ :: ⟨b10, 0, cSp ⟨0, 0⟩, some 35, 2⟩ :: ⟨b6, 0, c.flatMap cSp, some 107, 96⟩ :: ⟨b5, 0, cRm R p, some 26, 5⟩ :: H, (by (repeat (first | exact Sub.nil _ | refine Sub.cons rfl ?_)); done), (by (repeat (first | exact List.Sublist.refl _ | apply List.Sublist.cons_cons | apply List.Sublist.cons)); done), ⟨v + 1, _, true, rfl, by omega, by omega, by simpa using hadd, rfl, rfl⟩, by omega⟩
  · have hex := hAc.ex hA.hT (fun z hz => by
      have := hA.good.inn z hz b m htb
      rw [cb, ← ht] at this
      unfold holds at this
      omega)
    refine ret_one (v := .agg (cSp out).toArray) (by first | exact .inr rfl | exact .inl rfl) Try.results64 ⟨_, rfl, LoadV.whole (te rfl) rfl (by repeat (first | exact List.Mem.head _ | apply List.Mem.tail)) rfl⟩ (H' := H) (by (repeat (first | exact List.Sublist.refl _ | apply List.Sublist.cons_cons | apply List.Sublist.cons)); done) ⟨?_, rfl⟩
    rw [rng_eq hex]
end Go.Proofs.Ytblehgpfddmggaa
end
section
set_option linter.unusedVariables false
set_option linter.unusedSimpArgs false
namespace Go.Proofs.Ytblehgpfddmggaa
open Go Go.Fw
set_option maxRecDepth 10000
def tsDh : List TOp := [⟨some 29, [], [], []⟩, ⟨some 30, [], [], []⟩, ⟨some 31, [], [], []⟩, ⟨some 32, [], [], []⟩, ⟨some 33, [2, 3], [2, 3], []⟩, ⟨some 34, [], [], []⟩, ⟨some 35, [], [], []⟩, ⟨some 36, [2, 3, 4, 5, 6], [5, 6], []⟩, ⟨some 37, [], [], []⟩, ⟨some 38, [0, 1, 2, 3, 4, 5, 6, 7, 8], [0, 1, 4, 7, 8], []⟩, ⟨none, [0, 1, 2, 3, 4, 5, 6, 7, 8, 9], [9], [12]⟩, ⟨some 9, [0, 1, 2, 3, 4, 5, 6, 7, 8, 9, 10], [], []⟩, ⟨none, [], [], []⟩]
def valDh (b4 b8 b10 ia ib : Nat) (R : Rm) (p : Pl) (c : List Sp) (x y m : Int) (s : Sp) (k : Nat) (env : Env) : Value :=
  match k with
  | 0 => .agg (cRm R p).toArray
  | 1 => .agg (c.flatMap cSp).toArray
  | 2 => .agg (cRm R p).toArray
  | 3 => .int .i64 x
  | 4 => .int .i64 (ia : Nat)
  | 5 => .agg (cRm R p).toArray
  | 6 => .int .i64 y
  | 7 => .int .i64 (ib : Nat)
  | 8 => .int .i64 m
  | 9 => .agg (cSp s).toArray
  | 10 => undef
  | 11 => .int .i64 0
  | _ => undef
def rowsDh (b4 b8 b10 ia ib : Nat) (R : Rm) (p : Pl) (c : List Sp) (x y m : Int) (s : Sp) (k : Nat) (env : Env) : List Row :=
  match k with
  | 10 => [⟨b8, 0, cSp s, some 35, 2⟩]
  | 12 => [⟨b8, 0, cSp ⟨0, 0⟩, some 35, 2⟩]
  | _ => []
theorem locDh (b4 b8 b10 ia ib : Nat) (R : Rm) (p : Pl) (c : List Sp) (x y m : Int) (s : Sp) : ∀ k env i q9, i ≠ k → (tAt tsDh k).sup.contains i = false → valDh b4 b8 b10 ia ib R p c x y m s k (upd env i q9) = valDh b4 b8 b10 ia ib R p c x y m s k env ∧ rowsDh b4 b8 b10 ia ib R p c x y m s k (upd env i q9) = rowsDh b4 b8 b10 ia ib R p c x y m s k env := by
  intro k env i q hk hs
  have hu : ∀ j, j ≠ i → upd env i q j = env j := fun j hj => by unfold upd; rw [if_neg hj]
  match k, hk, hs with
  | 0, _, _ => exact ⟨rfl, rfl⟩
  | 1, _, _ => exact ⟨rfl, rfl⟩
  | 2, _, _ => exact ⟨rfl, rfl⟩
  | 3, _, _ => exact ⟨rfl, rfl⟩
  | 4, _, _ => exact ⟨rfl, rfl⟩
  | 5, _, _ => exact ⟨rfl, rfl⟩
  | 6, _, _ => exact ⟨rfl, rfl⟩
  | 7, _, _ => exact ⟨rfl, rfl⟩
  | 8, _, _ => exact ⟨rfl, rfl⟩
  | 9, _, _ => exact ⟨rfl, rfl⟩
  | 10, _, _ => exact ⟨rfl, rfl⟩
  | 11, _, _ => exact ⟨rfl, rfl⟩
  | 12, _, _ => exact ⟨rfl, rfl⟩
  | _ + 13, _, _ => exact ⟨rfl, rfl⟩
set_option maxHeartbeats 4000000 in
theorem rDiffer_spec (R : Rm) (p : Pl) (a b m : Int) (H : List Row) (hR : RmOk H R p) : Fc Try.prog 21 [.agg (cRm R p).toArray, .int .i64 a, .int .i64 b, .int .i64 m] H (fun v H' => v = .tuple #[.agg (cSp (difF R a b m).1).toArray, .int .i64 (difF R a b m).2] ∧ H' = H) := by
  obtain ⟨e, he⟩ : ∃ e, openE R [a, b] [m] = e := ⟨_, rfl⟩
  have has : ∀ (H' : List Row) (b1 : Nat), RmOk H' R p → ⟨b1, 0, [.int .i64 a, .int .i64 b], some 3, 2 * 1⟩ ∈ H' → Fc Try.prog 61 [.agg (cRm R p).toArray, .slice (some ⟨b1, 0, none⟩) 2 2, .int .i64 m] H' (fun v H'' => ∃ c, c.length = 48 ∧ (e = 0 → As R 0 c) ∧ v = .tuple #[.agg (c.flatMap cSp).toArray, .int .i64 e] ∧ H'' = H') := fun H' b1 q1 q2 => by
    have := rAsked_spec R p [a, b] (some ⟨b1, 0, none⟩) 2 m H' q1 (SlE.ofRow (l := [a, b]) q2 (fun _ _ => rfl)) (Nat.le_of_ble_eq_true rfl)
    rw [he] at this
    exact this
  by_cases h0 : e = 0
  · subst h0
    obtain ⟨hok, _, _, hT⟩ := openE_ok he
    have hr := hok.ok
    have hb4 := hr.b4
    have hlm : R.mats.length ≤ 100 := by have := hok.1.2.2.2.2.2.2; omega
    obtain ⟨xa, ia, hta, rfl, hia, hixa, hila, hm0, hm1, hca⟩ := there_ix hr he (show a ∈ [a, b] from List.mem_cons_self)
    obtain ⟨xb, ib, htb, rfl, hib, hixb, hilb, _, _, hcb⟩ := there_ix hr he (show b ∈ [xa.id, b] from List.mem_cons_of_mem _ List.mem_cons_self)
    have hixsa := fun H' hH' => index_spec R p xa.id H' hH'
    have hixsb := fun H' hH' => index_spec R p xb.id H' hH'
    rw [hixa] at hixsa
    rw [hixb] at hixsb
    obtain ⟨r, hr9⟩ : ∃ r, r = difF R xa.id xb.id m := ⟨_, rfl⟩
    rw [← hr9]
    unfold difF at hr9
    rw [if_pos he] at hr9
    refine Fc.mk (callable Try.call21) Try.func21 rfl Try.ntmps21 rfl ?_; dsimp only [fr]
    repeat' (first | (refine XO.op rfl ?_; (first | ((first | refine Xo.ng rfl ?_); (first | (refine Xg.st (StF.buildTwo rfl el55 rfl rfl rfl rfl rfl rfl (by decide) (by decide)) rfl rfl ?_; rintro _ _ ⟨b1, rfl, rfl⟩) | (refine Xg.ev (EvF.loadV rfl rfl (LoadV.whole (T := 26) (cs := cRm R p) (te rfl) rfl (by repeat (first | exact List.Mem.head _ | apply List.Mem.tail)) rfl)) rfl rfl ?_) | (refine Xg.call (EnF.st rfl (by (repeat (first | exact Args.nil | refine Args.cons rfl ?_)); done)) rfl rfl (has _ b1 (hR.sub (fun _ h => by repeat (first | exact h | apply List.Mem.tail))) (List.Mem.head _)) ?_; rintro _ _ ⟨c, hc, hA, rfl, rfl⟩) | (refine Xg.ev (EvF.extract rfl rfl rfl) rfl rfl ?_) | (refine Xg.st (StF.alloc rfl Try.zeroValue107 rfl) rfl rfl ?_; rintro _ _ ⟨b10, rfl, rfl⟩) | (refine Xg.st0 (StF.storeAll (i := 0) (vs := c.flatMap cSp) (cs := zRc.flatMap cSp) rfl rfl rfl (te rfl) rfl (sp_len96 hc) (sp_one _) (by rw [sp_len96 hc, sp_len]; rfl)) rfl ?_; rintro _ _ ⟨rfl, rfl⟩; dsimp only [List.set]) | (refine Xg.ev (EvF.build (cs := cSp ⟨0, 0⟩) rfl ArgsP.nil (te rfl) (Places.cons (te rfl) (Places.cons (te rfl) Places.nil)) Try.zeroValue35 rfl) rfl rfl ?_) | (refine Xg.ev (EvF.move rfl rfl) rfl rfl ?_) | (refine Xg.ev (EvF.assign rfl rfl) rfl rfl ?_) | (refine Xg.ev (EvF.cmp rfl rfl rfl rfl) rfl rfl ?_) | (refine Xg.st (StF.boxAgg rfl rfl) rfl rfl ?_; rintro _ _ ⟨bx, rfl, rfl⟩) | (refine Xg.st (StF.alloc rfl Try.zeroValue35 rfl) rfl rfl ?_; rintro _ _ ⟨bx, rfl, rfl⟩) | (refine Xg.st0 (StF.storeAll (i := 2) rfl rfl rfl (te rfl) rfl rfl rfl rfl) rfl ?_; rintro _ _ ⟨rfl, rfl⟩; dsimp only [List.set]))))) | (refine XO.done rfl ?_; refine hK _ _ ?_; clear hK K) | refine X.seq rfl ?_ | refine X.region rfl (fun K hK => ?_) | refine X.skip rfl ?_ | refine X.ret rfl ?_ | (refine X.ite rfl rfl (fun hc => ?_); (first | (with_reducible refine Xb.case hc (fun h => ?_) (fun h => ?_)) | (with_reducible refine Xb.caseN hc (fun h => ?_) (fun h => ?_))) <;> clear hc))
    all_goals try (exfalso; omega)
    · rw [if_pos (by assumption)] at hr9
      subst hr9
      exact ret_two (v := .agg (cSp ⟨0, 0⟩).toArray) (by first | exact .inr rfl | exact .inl rfl) Try.results21 ⟨_, rfl, LoadV.whole (te rfl) rfl (by repeat (first | exact List.Mem.head _ | apply List.Mem.tail)) rfl⟩ rfl (H' := H) (by (repeat (first | exact List.Sublist.refl _ | apply List.Sublist.cons_cons | apply List.Sublist.cons)); done) ⟨rfl, rfl⟩
    · rw [if_neg (by assumption)] at hr9
      subst hr9
      rename_i b4 h9
      generalize bx = b8
      refine X.weakR (H' := ⟨b10, 0, c.flatMap cSp, some 107, 96⟩ :: ⟨b8, 0, cSp ⟨0, 0⟩, some 35, 2⟩ :: ⟨b4, 0, cRm R p, some 26, 5⟩ :: H) (List.Sublist.cons_cons _ (List.Sublist.cons _ (List.Sublist.refl _))) ?_
      refine X.permH (H' := ⟨b8, 0, cSp ⟨0, 0⟩, some 35, 2⟩ :: ⟨b10, 0, c.flatMap cSp, some 107, 96⟩ :: ⟨b4, 0, cRm R p, some 26, 5⟩ :: H) (List.Perm.swap _ _ _) ?_
      have hcl := sp_len96 hc
      have hRs : ∀ S : List Row, (∀ r ∈ ⟨b10, 0, c.flatMap cSp, some 107, 96⟩ :: ⟨b4, 0, cRm R p, some 26, 5⟩ :: H, r ∈ S) → RmOk S R p := fun S hS => hR.sub (fun r h => hS r (List.mem_append_right [_, _] h))
      obtain ⟨s, hs⟩ : ∃ s, s = rng R R.mats ⟨xa.id, m⟩ ⟨xb.id, m⟩ := ⟨_, rfl⟩
      have hds := fun S hS => rdiffer_spec R p c xa xb ia ib m S hr hS hok.mats hlm hc (hA rfl) hta htb hia hib
      rw [← hs] at hds ⊢
      refine X.regionOb tsDh [1, 2, 3, 4, 8, 10] [(1, .int .i64 xa.id), (2, .int .i64 xb.id), (3, .int .i64 m), (4, .pointer (some ⟨b4, 0, none⟩)), (8, .pointer (some ⟨b8, 0, none⟩)), (10, .pointer (some ⟨b10, 0, none⟩))] (valDh b4 b8 b10 ia ib R p c xa.id xb.id m s) (rowsDh b4 b8 b10 ia ib R p c xa.id xb.id m s) (fun _ => (0, 0)) (⟨b10, 0, c.flatMap cSp, some 107, 96⟩ :: ⟨b4, 0, cRm R p, some 26, 5⟩ :: H) rfl mixed (by (repeat (first | exact Sub.nil _ | refine Sub.cons rfl ?_)); done) rfl (by kernel_rfl) (locDh b4 b8 b10 ia ib R p c xa.id xb.id m s) (List.Sublist.refl _) ?_ ?_
      · repeat' (first | exact AllF.done rfl | (refine AllF.step rfl ?_ ?_; · (first | fail | ((first | refine Ob.ng rfl ?_); (first | exact ObK.pure (fun env R hR => by exact ⟨_, EvF.move rfl rfl, rfl⟩) rfl (fun _ => rfl) | exact ObK.pure (fun env R hR => by exact ⟨_, EvF.assign rfl rfl, rfl⟩) rfl (fun _ => rfl) | exact ObK.pure (fun env R hR => by exact ⟨_, EvF.loadV rfl rfl (LoadV.whole (te rfl) rfl (hR _ (List.Mem.tail _ (List.Mem.head _))) rfl), rfl⟩) rfl (fun _ => rfl) | (exact ObK.pure (fun env S hS => ⟨_, EvF.loadV rfl rfl (LoadV.whole (T := 107) (cs := c.flatMap cSp) (te rfl) rfl (hS _ (List.Mem.head _)) hcl), rfl⟩) rfl (fun _ => rfl)) | (exact fun env S hS => OpF.callV (Z := []) (EnF.st rfl (Args.cons rfl (Args.cons rfl Args.nil))) (hixsa _ (hRs _ hS)) rfl rfl) | (exact fun env S hS => OpF.callV (Z := []) (EnF.st rfl (Args.cons rfl (Args.cons rfl Args.nil))) (hixsb _ (hRs _ hS)) rfl rfl) | (exact fun env S hS => OpF.callV (Z := []) (EnF.st rfl (Args.cons rfl (Args.cons rfl (Args.cons rfl (Args.cons rfl (Args.cons rfl Args.nil)))))) (hds _ (hRs _ hS)) rfl rfl) | (exact fun env S hS => (StF.storeAll (i := 0) (vs := cSp s) (cs := cSp ⟨0, 0⟩) rfl rfl rfl (te rfl) rfl rfl rfl rfl).op.mono (fun v H' ⟨hv, hH⟩ => ⟨(0, 0), fun h => absurd rfl h, by rw [hH]; exact List.Perm.refl _⟩)))))))
      intro env t ha2 hv; refine ⟨_, ha2.cons (hv 11 9 (Nat.le_of_ble_eq_true rfl) rfl), ?_⟩; clear hv ha2
      show X _ _ _ [(9, .int .i64 0), (1, .int .i64 xa.id), (2, .int .i64 xb.id), (3, .int .i64 m), (4, .pointer (some ⟨b4, 0, none⟩)), (8, .pointer (some ⟨b8, 0, none⟩)), (10, .pointer (some ⟨b10, 0, none⟩))] (⟨b8, 0, cSp s, some 35, 2⟩ :: ⟨b10, 0, c.flatMap cSp, some 107, 96⟩ :: ⟨b4, 0, cRm R p, some 26, 5⟩ :: H) _
      clear env
      repeat' (first | refine X.ret rfl ?_)
      exact ret_two (v := .agg (cSp s).toArray) (by first | exact .inr rfl | exact .inl rfl) Try.results21 ⟨_, rfl, LoadV.whole (te rfl) rfl (List.Mem.head _) rfl⟩ rfl (H' := H) (by (repeat (first | exact List.Sublist.refl _ | apply List.Sublist.cons_cons | apply List.Sublist.cons)); done) ⟨rfl, rfl⟩
  · have hy : difF R a b m = (⟨0, 0⟩, e) := by unfold difF; rw [if_neg (by rw [he]; exact h0), he]
    rw [hy]
    refine Fc.mk (callable Try.call21) Try.func21 rfl Try.ntmps21 rfl ?_; dsimp only [fr]
    repeat' (first | (refine XO.op rfl ?_; (first | ((first | refine Xo.ng rfl ?_); (first | (refine Xg.st (StF.buildTwo rfl el55 rfl rfl rfl rfl rfl rfl (by decide) (by decide)) rfl rfl ?_; rintro _ _ ⟨b1, rfl, rfl⟩) | (refine Xg.ev (EvF.loadV rfl rfl (LoadV.whole (T := 26) (cs := cRm R p) (te rfl) rfl (by repeat (first | exact List.Mem.head _ | apply List.Mem.tail)) rfl)) rfl rfl ?_) | (refine Xg.call (EnF.st rfl (by (repeat (first | exact Args.nil | refine Args.cons rfl ?_)); done)) rfl rfl (has _ b1 (hR.sub (fun _ h => by repeat (first | exact h | apply List.Mem.tail))) (List.Mem.head _)) ?_; rintro _ _ ⟨c, hc, hA, rfl, rfl⟩) | (refine Xg.ev (EvF.extract rfl rfl rfl) rfl rfl ?_) | (refine Xg.st (StF.alloc rfl Try.zeroValue107 rfl) rfl rfl ?_; rintro _ _ ⟨b8, rfl, rfl⟩) | (refine Xg.st0 (StF.storeAll (i := 0) (vs := c.flatMap cSp) (cs := zRc.flatMap cSp) rfl rfl rfl (te rfl) rfl (sp_len96 hc) (sp_one _) (by rw [sp_len96 hc, sp_len]; rfl)) rfl ?_; rintro _ _ ⟨rfl, rfl⟩; dsimp only [List.set]) | (refine Xg.ev (EvF.build (cs := cSp ⟨0, 0⟩) rfl ArgsP.nil (te rfl) (Places.cons (te rfl) (Places.cons (te rfl) Places.nil)) Try.zeroValue35 rfl) rfl rfl ?_) | (refine Xg.ev (EvF.move rfl rfl) rfl rfl ?_) | (refine Xg.ev (EvF.assign rfl rfl) rfl rfl ?_) | (refine Xg.ev (EvF.cmp rfl rfl rfl rfl) rfl rfl ?_) | (refine Xg.st (StF.boxAgg rfl rfl) rfl rfl ?_; rintro _ _ ⟨bx, rfl, rfl⟩) | (refine Xg.st (StF.alloc rfl Try.zeroValue35 rfl) rfl rfl ?_; rintro _ _ ⟨bx, rfl, rfl⟩) | (refine Xg.st0 (StF.storeAll (i := 2) rfl rfl rfl (te rfl) rfl rfl rfl rfl) rfl ?_; rintro _ _ ⟨rfl, rfl⟩; dsimp only [List.set]))))) | (refine XO.done rfl ?_; refine hK _ _ ?_; clear hK K) | (refine XQ.op rfl ?_; (first | ((first | refine Yo.ng rfl ?_); (first | (refine Yg.ev (EvF.loadV rfl rfl (LoadV.whole (T := 26) (cs := cRm R p) (te rfl) rfl (by repeat (first | exact List.Mem.head _ | apply List.Mem.tail)) rfl)) rfl rfl ?_))))) | refine X.seq rfl ?_ | refine X.region rfl (fun K hK => ?_) | refine X.regionD rfl mixed (by kernel_rfl) (fun K hK => ?_) | refine X.skip rfl ?_ | refine X.ret rfl ?_ | (refine X.ite rfl rfl (fun hc => ?_); (first | (with_reducible refine Xb.case hc (fun h => ?_) (fun h => ?_)) | (with_reducible refine Xb.caseN hc (fun h => ?_) (fun h => ?_))) <;> clear hc))
    all_goals try (exfalso; simp_all; done)
    exact ret_two (v := .agg (cSp ⟨0, 0⟩).toArray) (by first | exact .inr rfl | exact .inl rfl) Try.results21 ⟨_, rfl, LoadV.whole (te rfl) rfl (by repeat (first | exact List.Mem.head _ | apply List.Mem.tail)) rfl⟩ rfl (H' := H) (by (repeat (first | exact List.Sublist.refl _ | apply List.Sublist.cons_cons | apply List.Sublist.cons)); done) ⟨rfl, rfl⟩
end Go.Proofs.Ytblehgpfddmggaa
end
section
set_option linter.unusedVariables false
set_option linter.unusedSimpArgs false
namespace Go.Proofs.Ytblehgpfddmggaa
open Go Go.Fw
set_option maxRecDepth 10000
def fstM (P : Nat → Bool) : Nat → Nat → Option Nat
  | _, 0 => none
  | k, n + 1 => if P k then some k else fstM P (k + 1) n
theorem fstM_hit {P : Nat → Bool} {k n : Nat} (h : P k = true) (hn : 0 < n) : fstM P k n = some k := by
  cases n with
  | zero => omega
  | succ n => unfold fstM; rw [h]; rfl
theorem fstM_no {P : Nat → Bool} {k n : Nat} (h : P k = false) (hn : 0 < n) : fstM P k n = fstM P (k + 1) (n - 1) := by
  cases n with
  | zero => omega
  | succ n => conv => lhs; unfold fstM
              rw [h]; simp
open Classical in
noncomputable def sinP (R : Rm) (a : Int) (f : Sp → Bool) (k : Nat) : Bool := decide (∃ b, there R b k ∧ b.id = a) && f (rng R R.mats ⟨a, k⟩ zp)
end Go.Proofs.Ytblehgpfddmggaa
end
section
set_option linter.unusedVariables false
set_option linter.unusedSimpArgs false
namespace Go.Proofs.Ytblehgpfddmggaa
open Go Go.Fw
set_option maxRecDepth 10000
theorem Tru.mono {R : Rm} {M M' : List Mt} {z : Pk → Int} (h : Tru R M z) (hs : ∀ x ∈ M', x ∈ M) : Tru R M' z := ⟨h.zero, h.age, h.step, fun x hx => h.mat x (hs x hx)⟩
theorem hasT.mono {R : Rm} {M M' : List Mt} (h : hasT R M) (hs : ∀ x ∈ M', x ∈ M) : hasT R M' := ⟨_, h.choose_spec.mono hs⟩
theorem rng_self {R : Rm} {M : List Mt} {a : Pk} (hT : hasT R M) : rng R M a a = ⟨0, 0⟩ := by
  obtain ⟨z, hz⟩ := hT
  exact rng_eq ⟨fun z _ => by dsimp only; omega, ⟨z, hz, by dsimp only; omega⟩, ⟨z, hz, by dsimp only; omega⟩⟩
theorem fresh_iff {R : Rm} (hr : okRm R) (hm : matsThere R R.mats) (hT : hasT R R.mats) {x : Bx} {m : Int} (hx : there R x m) {E : List Mt} (hE : ∀ e, e ∈ E ↔ ∃ y, there R y m ∧ y.id ≠ x.id ∧ e = ⟨0, m, y.id, x.id, 0, 60⟩) :
    hasT R (R.mats ++ E) ↔ ∀ y, there R y m → (rng R R.mats ⟨x.id, m⟩ ⟨y.id, m⟩).lo ≤ 0 := by
  constructor
  · rintro ⟨z, hz⟩ y hy
    have hz0 := hz.mono (M' := R.mats) (fun e he => List.mem_append_left _ he)
    by_cases e : y.id = x.id
    · rw [e, rng_self hT]; exact Int.le_refl _
    · have h1 := hz.mat _ (List.mem_append_right _ ((hE _).2 ⟨y, hy, e, rfl⟩))
      have h2 := (ex_mem hr hm hT (plcs_mem hx) (plcs_mem hy)).all z hz0
      dsimp only at h1
      omega
  · intro h
    obtain ⟨tx, htx⟩ := (hasT_iff hr hm (pidx_lt (plcs_mem hx))).1 hT
    have hpx := most_some hr hm (pidx_lt (plcs_mem hx)) htx
    have hz := hpx.tru hr
    refine ⟨fun p => gt0 tx (pidx R p) - gt0 tx 0, hz.zero, hz.age, hz.step, fun e he => ?_⟩
    rcases List.mem_append.1 he with he | he
    · exact hz.mat e he
    · obtain ⟨y, hy, _, rfl⟩ := (hE e).1 he
      have hl := h y hy
      obtain ⟨z', t', e'⟩ := (ex_mem hr hm hT (plcs_mem hx) (plcs_mem hy)).lo
      have h1 := hpx.top z' t' _ (pidx_lt (plcs_mem hy))
      have gx : (plcs R).getD (pidx R ⟨x.id, m⟩) zp = ⟨x.id, m⟩ := by simp [List.getD_eq_getElem?_getD, pidx_get (plcs_mem hx)]
      have gy : (plcs R).getD (pidx R ⟨y.id, m⟩) zp = ⟨y.id, m⟩ := by simp [List.getD_eq_getElem?_getD, pidx_get (plcs_mem hy)]
      rw [gx, gy] at h1
      have h0 := hpx.at0
      have b1 := hz.in60 hr (plcs_mem hx)
      have b2 := hz.in60 hr (plcs_mem hy)
      dsimp only at b1 b2 ⊢
      omega
def thI (R : Rm) (m : Int) : List Int := (R.boxes.filter (fun b => decide (b.made ≤ m))).map (·.id)
theorem mem_thI {R : Rm} {m i : Int} (h : m ≤ R.months - 1) : i ∈ thI R m ↔ ∃ b, there R b m ∧ b.id = i := by
  unfold thI
  constructor
  · intro q
    obtain ⟨b, hb, rfl⟩ := List.mem_map.1 q
    have := List.mem_filter.1 hb
    exact ⟨b, ⟨this.1, of_decide_eq_true this.2, h⟩, rfl⟩
  · rintro ⟨b, hb, rfl⟩
    exact List.mem_map.2 ⟨b, List.mem_filter.2 ⟨hb.1, decide_eq_true hb.2.1⟩, rfl⟩
noncomputable def stale (R : Rm) (m a : Int) : Bool := (thI R m).any (fun b => decide (0 < (rng R R.mats ⟨a, m⟩ ⟨b, m⟩).lo))
noncomputable def freL (R : Rm) (m : Int) : List Int := (thI R m).filter (fun a => !stale R m a)
theorem stale_iff {R : Rm} {m : Int} (h : m ≤ R.months - 1) (a : Int) : stale R m a = false ↔ ∀ y, there R y m → (rng R R.mats ⟨a, m⟩ ⟨y.id, m⟩).lo ≤ 0 := by
  unfold stale
  rw [Bool.eq_false_iff]
  simp only [ne_eq, List.any_eq_true, decide_eq_true_eq, not_exists, not_and]
  constructor
  · intro q y hy
    have := q y.id ((mem_thI h).2 ⟨y, hy, rfl⟩)
    omega
  · intro q i hi
    obtain ⟨b, hb, rfl⟩ := (mem_thI h).1 hi
    have := q b hb
    omega
noncomputable def freF (R : Rm) (m : Int) : List Int × Int := if openE R [] [m] = 0 then (freL R m, 0) else ([], openE R [] [m])
theorem freL_boxes (R : Rm) (m : Int) : freL R m = (R.boxes.filter (fun b => decide (b.made ≤ m) && !stale R m b.id)).map (·.id) := by
  unfold freL
  rw [thI, List.filter_map, List.filter_filter]
  congr 1
  congr 1
  funext b
  simp only [Function.comp]
  rw [Bool.and_comm]
def askI (w : Int → Int → Int) (x : Int) : List Int → Int × Int × Int → Int × Int × Int
  | [], acc => acc
  | y :: t, acc => askI w x t (if acc.2.2 < w x y then (x, y, w x y) else acc)
def askO (w : Int → Int → Int) : List Int → Int × Int × Int → Int × Int × Int
  | [], acc => acc
  | x :: t, acc => askO w t (askI w x t acc)
noncomputable def wid2 (R : Rm) (m a b : Int) : Int := (rng R R.mats ⟨a, m⟩ ⟨b, m⟩).hi - (rng R R.mats ⟨a, m⟩ ⟨b, m⟩).lo
theorem askI_ge (w : Int → Int → Int) (x : Int) : ∀ (l : List Int) (acc : Int × Int × Int), acc.2.2 ≤ (askI w x l acc).2.2
  | [], _ => Int.le_refl _
  | y :: t, acc => by
    have := askI_ge w x t (if acc.2.2 < w x y then (x, y, w x y) else acc)
    unfold askI
    split at this <;> rename_i h
    · rw [if_pos h]; dsimp only at this; omega
    · rw [if_neg h]; exact this
theorem askO_ge (w : Int → Int → Int) : ∀ (l : List Int) (acc : Int × Int × Int), acc.2.2 ≤ (askO w l acc).2.2
  | [], _ => Int.le_refl _
  | x :: t, acc => Int.le_trans (askI_ge w x t acc) (askO_ge w t _)
theorem askO_two (w : Int → Int → Int) (x y : Int) (t : List Int) (acc : Int × Int × Int) : w x y ≤ (askO w (x :: y :: t) acc).2.2 := by
  have h1 := askO_ge w (y :: t) (askI w x (y :: t) acc)
  have h2 := askI_ge w x t (if acc.2.2 < w x y then (x, y, w x y) else acc)
  have h3 : askI w x (y :: t) acc = askI w x t (if acc.2.2 < w x y then (x, y, w x y) else acc) := rfl
  rw [← h3] at h2
  have h4 : askO w (x :: y :: t) acc = askO w (y :: t) (askI w x (y :: t) acc) := rfl
  rw [h4]
  split at h2
  · dsimp only at h2; omega
  · omega
noncomputable def askF (R : Rm) (m : Int) : (Int × Int × Int) × Int := if openE R [] [m] = 0 then (if (thI R m).length < 2 then ((0, 0, 0), 6) else (askO (wid2 R m) (thI R m) (0, 0, -1), 0)) else ((0, 0, 0), openE R [] [m])
def dueS (L : Nat → List Int) : Nat → Nat → Int × List Int × Int
  | _, 0 => (0, [], 6)
  | k, q + 1 => if (L k).length = 0 then dueS L (k + 1) q else (k, L k, 0)
noncomputable def dueL (R : Rm) (n : Int) (k : Nat) : List Int := (R.boxes.filter (fun b => decide (b.made ≤ (k : Int)) && decide (n < (rng R R.mats ⟨b.id, k⟩ zp).hi))).map (·.id)
def dueP (n : Int) (s : Sp) : Bool := decide (n < s.hi)
noncomputable def lateL (R : Rm) (n : Int) (l : List Bx) (k : Nat) : List Int := (l.filter (fun b => decide (fstM (sinP R b.id (dueP n)) 0 R.months.toNat = some k))).map (·.id)
noncomputable def dueF (R : Rm) (n : Int) : Int × List Int × Int := if openE R [] [] = 0 then dueS (dueL R n) 0 R.months.toNat else (0, [], openE R [] [])
theorem fstM_iff (P : Nat → Bool) : ∀ (q k j : Nat), fstM P k q = some j ↔ (k ≤ j ∧ j < k + q ∧ P j = true ∧ ∀ i, k ≤ i → i < j → P i = false)
  | 0, k, j => by unfold fstM; simp; omega
  | q + 1, k, j => by
    unfold fstM
    by_cases h : P k = true
    · rw [if_pos h]
      constructor
      · intro e; cases e; exact ⟨Nat.le_refl _, by omega, h, fun i h1 h2 => by omega⟩
      · rintro ⟨h1, h2, h3, h4⟩
        by_cases e : k = j
        · rw [e]
        · have := h4 k (Nat.le_refl _) (by omega); rw [h] at this; cases this
    · rw [if_neg h, fstM_iff P q (k + 1) j]
      have hf : P k = false := Bool.eq_false_iff.2 h
      constructor
      · rintro ⟨h1, h2, h3, h4⟩
        refine ⟨by omega, by omega, h3, fun i g1 g2 => ?_⟩
        by_cases e : i = k
        · rw [e]; exact hf
        · exact h4 i (by omega) g2
      · rintro ⟨h1, h2, h3, h4⟩
        refine ⟨?_, by omega, h3, fun i g1 g2 => h4 i (by omega) g2⟩
        by_cases e : k = j
        · subst e; rw [hf] at h3; cases h3
        · omega
theorem sinP_box {R : Rm} {f : Sp → Bool} {b : Bx} (hr : okRm R) (hb : b ∈ R.boxes) {k : Nat} (hk : (k : Int) < R.months) : sinP R b.id f k = (decide (b.made ≤ (k : Int)) && f (rng R R.mats ⟨b.id, k⟩ zp)) := by
  classical
  unfold sinP
  by_cases h : b.made ≤ (k : Int)
  · rw [decide_eq_true h, decide_eq_true ⟨b, ⟨hb, h, by omega⟩, rfl⟩]
  · rw [decide_eq_false h, decide_eq_false]
    rintro ⟨c, hc, e⟩
    have := rises_inj_bx hr.bx c hc.1 b hb e
    subst this
    exact h hc.2.1
theorem late_due {R : Rm} (hr : okRm R) (n : Int) : ∀ (q k : Nat), k + q = R.months.toNat → (∀ i, i < k → dueL R n i = []) → dueS (lateL R n R.boxes) k q = dueS (dueL R n) k q
  | 0, _, _, _ => rfl
  | q + 1, k, hk, h => by
    have hkk : lateL R n R.boxes k = dueL R n k := by
      unfold lateL dueL
      congr 1
      refine List.filter_congr fun b hb => ?_
      have hs := sinP_box (f := dueP n) hr hb (k := k) (by omega)
      by_cases e : sinP R b.id (dueP n) k = true
      · rw [decide_eq_true ((fstM_iff _ _ _ _).2 ⟨Nat.zero_le _, by omega, e, fun i _ hi => ?_⟩)]
        · rw [← e, hs]; rfl
        · have h1 := h i hi
          unfold dueL at h1
          have h2 := List.map_eq_nil_iff.1 h1
          have h3 := List.filter_eq_nil_iff.1 h2 b hb
          rw [sinP_box hr hb (by omega)]
          exact Bool.eq_false_iff.2 h3
      · rw [decide_eq_false (fun q' => e ((fstM_iff _ _ _ _).1 q').2.2.1)]
        have e' := Bool.eq_false_iff.2 e
        rw [← e', hs]; rfl
    unfold dueS
    rw [hkk]
    split
    · rename_i h0
      refine late_due hr n q (k + 1) (by omega) (fun i hi => ?_)
      by_cases e : i = k
      · rw [e]; exact List.length_eq_zero_iff.1 h0
      · exact h i (by omega)
    · rfl
theorem agesOf_month {R : Rm} {b : Bx} (hr : okRm R) (hb : b ∈ R.boxes) {m : Int} (hm : m ≤ R.months - 1) : ((agesOf R b).filter (fun p => decide (p.month = m))).map (·.box) = if b.made ≤ m then [b.id] else [] := by
  have hn : ∀ (n : Nat), (((List.range n).map (fun (a : Nat) => (⟨b.id, b.made + a⟩ : Pk))).filter (fun p => decide (p.month = m))).map (·.box) = if b.made ≤ m ∧ m < b.made + n then [b.id] else [] := by
    intro n
    induction n with
    | zero => rw [if_neg (by omega)]; rfl
    | succ n ih =>
      rw [List.range_succ, List.map_append, List.filter_append, List.map_append, ih]
      simp only [List.map_cons, List.map_nil]
      by_cases e : b.made + (n : Int) = m
      · rw [if_neg (by omega), if_pos (by omega), List.filter_cons_of_pos (by simpa using e)]
        rfl
      · rw [List.filter_cons_of_neg (by simpa using e)]
        by_cases g : b.made ≤ m ∧ m < b.made + n
        · rw [if_pos g, if_pos (by omega)]; rfl
        · rw [if_neg g, if_neg (by omega)]; rfl
  unfold agesOf
  rw [hn]
  have := okBoxes_mem _ _ _ hr.bx b hb
  unfold nAge
  by_cases e : b.made ≤ m
  · rw [if_pos (by omega), if_pos e]
  · rw [if_neg (by omega), if_neg e]
/-- the places behind the first one that are of a month -/
theorem plcs_month {R : Rm} (hr : okRm R) {m : Int} (hm : m ≤ R.months - 1) : (((plcs R).drop 1).filter (fun p => decide (p.month = m))).map (·.box) = thI R m := by
  have hg : ∀ (l : List Bx), (∀ b ∈ l, b ∈ R.boxes) → ((l.flatMap (agesOf R)).filter (fun p => decide (p.month = m))).map (·.box) = (l.filter (fun b => decide (b.made ≤ m))).map (·.id) := by
    intro l
    induction l with
    | nil => intro _; rfl
    | cons b l ih =>
      intro h
      rw [List.flatMap_cons, List.filter_append, List.map_append, ih (fun c hc => h c (List.mem_cons_of_mem _ hc)), agesOf_month hr (h b List.mem_cons_self) hm]
      by_cases e : b.made ≤ m
      · rw [if_pos e, List.filter_cons_of_pos (by simpa using e)]; rfl
      · rw [if_neg e, List.filter_cons_of_neg (by simpa using e)]; rfl
  exact hg R.boxes (fun _ h => h)
end Go.Proofs.Ytblehgpfddmggaa
end
section
set_option linter.unusedVariables false
set_option linter.unusedSimpArgs false
namespace Go.Proofs.Ytblehgpfddmggaa
open Go Go.Fw
set_option maxRecDepth 10000
def TrvI (l : List Int) (out : Value) (Z : List Row) : Prop := (l = [] ∧ out = .slice none 0 0 ∧ Z = []) ∨ ∃ b q, out = .slice (some ⟨b, 0, none⟩) l.length q ∧ Z = [⟨b, 0, l.flatMap cI, some 3, q * 1⟩]
theorem TrvI.sl {l : List Int} {out : Value} {Z H : List Row} (h : TrvI l out Z) : ∃ a c, out = .slice a l.length c ∧ SlE (Z ++ H) a cI 1 l := by
  rcases h with ⟨rfl, rfl, rfl⟩ | ⟨b, q, rfl, rfl⟩
  · exact ⟨none, 0, rfl, sleNil⟩
  · exact ⟨_, _, rfl, SlE.ofRow (List.Mem.head _) (fun _ _ => rfl)⟩
end Go.Proofs.Ytblehgpfddmggaa
end
section
set_option linter.unusedVariables false
set_option linter.unusedSimpArgs false
namespace Go.Proofs.Ytblehgpfddmggaa
open Go Go.Fw
set_option maxRecDepth 10000
theorem StF.storeSp {P : Program} {n : Nat} {H : List Row} {F : FS} {o : Oper} {T : TypeId} {a x : Operand} {q b j cap : Nat} {el : TypeId} {cs : List Value} {y : Int} {ti : TI} (h : o.op = .store T a x) (hx : evF F a = some (.pointer (some ⟨b, j, none⟩))) (hv : evF F x = some (.int .i64 y)) (hT : tiOf P T = some ti) (hi : H[q]? = some ⟨b, 0, cs, some el, cap⟩)
    (hn : 1 = ti.size) (hl : j + 1 ≤ cs.length) : StF P n H F o (fun u H' => u = undef ∧ H' = H.set q ⟨b, 0, splice cs j (cI y), some el, cap⟩) := by
  unfold StF
  intro t ha
  exact StepOp.store h (ha.ev hx) hT (by rw [ha.ev hv]; rfl) hi hn rfl hl
theorem filter_snoc_tInt {p : Int → Bool} {l : List Int} {j : Nat} {e : Int} (he : l[j]? = some e) (hp : p e = true) : (l.take (j + 1)).filter (fun e => !p e) = (l.take j).filter (fun e => !p e) := by
  rw [take_snoc he, List.filter_append]; simp [hp]
theorem filter_snoc_fInt {p : Int → Bool} {l : List Int} {j : Nat} {e : Int} (he : l[j]? = some e) (hp : p e = false) : (l.take (j + 1)).filter (fun e => !p e) = (l.take j).filter (fun e => !p e) ++ [e] := by
  rw [take_snoc he, List.filter_append]; simp [hp]
theorem honeInt (z : Value) (w : World) (h : (zeroValue 3).run Try.prog w = .ok z w) : z.cells.all (·.oneCell') = true := by
  rw [Try.zeroValue3] at h
  cases h
  first | decide | simp [Value.cells, Value.oneCell'] | kernel_rfl
set_option maxHeartbeats 4000000 in
theorem deleteFunc_specInt (l : List Int) (b c g : Nat) (p : Int → Bool) (cap : List Value) (H : List Row) (hb : l.length ≤ 1000000) (hf : ∀ Z, ∀ e ∈ l, Fc Try.prog g ([.int .i64 e] ++ cap) (Z ++ H) (fun v H' => v = .bool (p e) ∧ H' = Z ++ H)) :
    Fc Try.prog 82 [.slice (some ⟨b, 0, none⟩) l.length c, .func (.func g) #[] cap.toArray] (⟨b, 0, l.flatMap cI, some 3, c * 1⟩ :: H)
      (fun v H' => v = .slice (some ⟨b, 0, none⟩) (l.filter (fun e => !p e)).length c ∧ H' = ⟨b, 0, (l.filter (fun e => !p e)).flatMap cI, some 3, c * 1⟩ :: H) := by
  have hlen := lenI l
  refine Fc.mk (callable Try.call82) Try.func82 rfl Try.ntmps82 rfl ?_; dsimp only [fr]
  refine X.reveal (q := 0) rfl (fun rest hrest => ?_)
  refine X.forget (q := 0) (cs := l.flatMap cI) (cs' := rest) rfl ?_
  dsimp only [List.set]
  have hlc : l.length ≤ c := by
    rw [List.length_append, hlen] at hrest
    omega
  clear hrest
  repeat' (first | (refine XO.op rfl ?_; (first | ((first | refine Xo.ng rfl ?_); (first | (refine Xg.call (EnF.st rfl (by (repeat (first | exact Args.nil | refine Args.cons rfl ?_)); done)) rfl rfl (indexFunc_specI l _ _ g p cap _ (SlE.ofRow (List.Mem.head _) (fun _ _ => rfl)) (by omega) (fun e he => hf [_] e he)) ?_; rintro _ H9 ⟨⟨z, rfl, hz⟩, hH9⟩; subst H9; rcases hz with ⟨rfl, hz⟩ | ⟨k, e0, rfl, he0, hp0, hz⟩; rotate_left; have hk0 := (List.getElem?_eq_some_iff.1 he0).1; rotate_right) | (refine Xg.ev (EvF.move rfl rfl) rfl rfl ?_) | (refine Xg.ev (EvF.assign rfl rfl) rfl rfl ?_) | (refine Xg.ev (EvF.cmp rfl rfl rfl rfl) rfl rfl ?_) | (refine Xg.ev (EvF.add64 rfl rfl rfl (by omega) (by omega)) rfl rfl ?_))))) | (refine XO.done rfl ?_; refine hK _ _ ?_; clear hK K) | refine X.seq rfl ?_ | refine X.region rfl (fun K hK => ?_) | refine X.block rfl ?_ | refine X.skip rfl ?_ | refine X.ret rfl ?_ | (refine X.ite rfl rfl (fun hc => ?_); (first | (with_reducible refine Xb.case hc (fun h => ?_) (fun h => ?_))) <;> clear hc))
  any_goals (exfalso; omega)
  · have e1 : l.filter (fun e => !p e) = l := List.filter_eq_self.2 (fun e he => by simp [hz e he])
    refine ret_one (by first | exact .inr rfl | exact .inl rfl) Try.results82 rfl (H' := ⟨b, 0, l.flatMap cI, some 3, c * 1⟩ :: H) (List.Sublist.refl _) ?_
    rw [e1]
    exact ⟨rfl, rfl⟩
  have e1 : (l.take k).filter (fun e => !p e) = l.take k := List.filter_eq_self.2 (fun e he => by
    obtain ⟨i, hi⟩ := List.getElem?_of_mem he
    rw [List.getElem?_take] at hi
    split at hi
    · simp [hz i e (by assumption) hi]
    · cases hi)
  refine X.lp rfl (fun q F' H' => ∃ (i j : Nat) (M : List Value), q = l.length - j ∧ j ≤ l.length ∧ i < j ∧ i = ((l.take j).filter (fun e => !p e)).length ∧ M.length = (j - i) * 1 ∧
      ⟨b, 0, ((l.take j).filter (fun e => !p e)).flatMap cI ++ M ++ (l.drop j).flatMap cI, some 3, c * 1⟩ :: H = H' ∧
      F' = [(0, .slice (some ⟨b, 0, none⟩) l.length c), (1, .func (.func g) #[] cap.toArray), (5, .int .i64 i), (6, .int .i64 j)])
    (l.length - (k + 1)) [(0, .slice (some ⟨b, 0, none⟩) l.length c), (1, .func (.func g) #[] cap.toArray), (5, .int .i64 k), (6, .int .i64 (k + 1 : Nat))] _ (by (repeat (first | exact Sub.nil _ | refine Sub.cons rfl ?_)); done) (List.Sublist.refl _) ⟨k, k + 1, cI e0, rfl, by omega, by omega, ?_, ?_, ?_, rfl⟩ ?_
  · rw [filter_snoc_tInt he0 hp0, e1, List.length_take]; omega
  · show 1 = _; omega
  · rw [filter_snoc_tInt he0 hp0, e1]
    congr 2
    rw [show l.flatMap cI = (l.take k ++ l.drop k).flatMap cI by rw [List.take_append_drop], drop_cons he0, List.flatMap_append, List.flatMap_cons, List.append_assoc]
  rintro _ _ H2 ⟨i, j, M, rfl, hj, hij, hi, hM, hH, rfl⟩
  subst hH
  have hF : (((l.take j).filter (fun e => !p e)).flatMap cI).length = i * 1 := by rw [lenI, ← hi]
  repeat' (first | (refine XO.op rfl ?_; (first | ((first | refine Xo.ng rfl ?_); (first | (refine Xg.ev (EvF.move rfl rfl) rfl rfl ?_) | (refine Xg.ev (EvF.cmp rfl rfl rfl rfl) rfl rfl ?_) | (refine Xg.ev (EvF.lenSlice rfl rfl (te rfl)) rfl rfl ?_) | (refine Xg.ev (EvF.indexSlice rfl rfl rfl (te rfl) (te rfl) (by omega) (by omega)) rfl rfl ?_))))) | (refine XO.done rfl ?_; refine hK _ _ ?_; clear hK K) | refine X.seq rfl ?_ | refine X.region rfl (fun K hK => ?_) | refine X.block rfl ?_ | (refine X.brk rfl ?_; repeat (first | refine blockX_hit rfl ?_ | refine blockX_miss (by decide) ?_)) | refine X.skip rfl ?_ | (refine X.ite rfl rfl (fun hc => ?_); (first | (with_reducible refine Xb.case hc (fun h => ?_) (fun h => ?_))) <;> clear hc))
  · have hjl : j < l.length := by omega
    obtain ⟨e, he⟩ : ∃ e, l[j]? = some e := ⟨_, List.getElem?_eq_getElem hjl⟩
    rw [drop_cons he, List.flatMap_cons]
    have hload : (((l.take j).filter (fun e => !p e)).flatMap cI ++ M ++ (cI e ++ (l.drop (j + 1)).flatMap cI))[0 + (j : Int).toNat * 1]? = some (.int .i64 e) := by
      rw [List.getElem?_append_right (by rw [List.length_append, hF, hM]; show _ ≤ 0 + j * 1; omega), List.length_append, hF, hM, show 0 + (j : Int).toNat * 1 - (i * 1 + (j - i) * 1) = 0 by show 0 + j * 1 - _ = 0; omega]
      rfl
    repeat' (first | (refine XO.op rfl ?_; (first | ((first | refine Xo.ng rfl ?_); (first | (refine Xg.ev (EvF.loadV rfl rfl (LoadV.own (te rfl) rfl (List.Mem.head _) hload)) rfl rfl ?_) | (refine Xg.call (EnF.dyn0 rfl rfl (by (repeat (first | exact Args.nil | refine Args.cons rfl ?_)); done)) rfl rfl (hf [_] e (List.mem_of_getElem? he)) ?_; rintro _ H9 ⟨rfl, hH9⟩; subst H9) | (refine Xg.st0 (StF.storeSp (q := 0) rfl rfl rfl (te rfl) rfl rfl (by rw [List.length_append, List.length_append, hF, hM]; show 0 + i * 1 + 1 ≤ _; omega)) rfl ?_; rintro _ _ ⟨rfl, rfl⟩; dsimp only [List.set]) | (refine Xg.ev (EvF.move rfl rfl) rfl rfl ?_) | (refine Xg.ev (EvF.assign rfl rfl) rfl rfl ?_) | (refine Xg.ev (EvF.add64 rfl rfl rfl (by omega) (by omega)) rfl rfl ?_) | (refine Xg.ev (EvF.not rfl rfl) rfl rfl ?_) | (refine Xg.ev (EvF.indexSlice rfl rfl rfl (te rfl) (te rfl) (by omega) (by omega)) rfl rfl ?_))))) | (refine XO.done rfl ?_; refine hK _ _ ?_; clear hK K) | refine X.seq rfl ?_ | refine X.region rfl (fun K hK => ?_) | refine X.skip rfl ?_ | (refine X.ite rfl rfl (fun hc => ?_); (first | (with_reducible refine Xb.caseB hc (fun h => ?_) (fun h => ?_))) <;> clear hc))
    · have hp : p e = false := by simpa using h
      refine ⟨_, [(0, .slice (some ⟨b, 0, none⟩) l.length c), (1, .func (.func g) #[] cap.toArray), (5, .int .i64 (i + 1 : Nat)), (6, .int .i64 (j + 1 : Nat))], _, (by (repeat (first | exact Sub.nil _ | refine Sub.cons rfl ?_)); done), ?_, ⟨i + 1, j + 1, M.drop 1 ++ cI e, rfl, by omega, by omega, ?_, ?_, rfl, rfl⟩, by omega⟩
      · rw [filter_snoc_fInt he hp, List.flatMap_append]
        have := splice_at (xs := ((l.take j).filter (fun e => !p e)).flatMap cI) (ys := M.take 1) (zs := M.drop 1 ++ (cI e ++ (l.drop (j + 1)).flatMap cI)) (vs := cI e) (j := 0 + (i : Int).toNat * 1) (by rw [hF]; show _ = 0 + i * 1; omega) (by rw [List.length_take, hM]; show 1 = _; omega)
        rw [show ((l.take j).filter (fun e => !p e)).flatMap cI ++ M.take 1 ++ (M.drop 1 ++ (cI e ++ (l.drop (j + 1)).flatMap cI)) = ((l.take j).filter (fun e => !p e)).flatMap cI ++ M ++ (cI e ++ (l.drop (j + 1)).flatMap cI) by
          rw [List.append_assoc, ← List.append_assoc (M.take 1), List.take_append_drop, List.append_assoc]] at this
        rw [this]
        rw [show ((l.take j).filter (fun e => !p e)).flatMap cI ++ cI e ++ (M.drop 1 ++ (cI e ++ (l.drop (j + 1)).flatMap cI)) = ((l.take j).filter (fun e => !p e)).flatMap cI ++ [e].flatMap cI ++ (M.drop 1 ++ cI e) ++ (l.drop (j + 1)).flatMap cI by
          rw [List.flatMap_singleton]; simp only [List.append_assoc]]
        exact (by (repeat (first | exact List.Sublist.refl _ | apply List.Sublist.cons_cons | apply List.Sublist.cons)); done)
      · rw [filter_snoc_fInt he hp, List.length_append, ← hi]; rfl
      · rw [List.length_append, List.length_drop, hM]; show _ + 1 = _; omega
    · have hp : p e = true := by simpa using h
      refine ⟨_, [(0, .slice (some ⟨b, 0, none⟩) l.length c), (1, .func (.func g) #[] cap.toArray), (5, .int .i64 i), (6, .int .i64 (j + 1 : Nat))], _, (by (repeat (first | exact Sub.nil _ | refine Sub.cons rfl ?_)); done), ?_, ⟨i, j + 1, M ++ cI e, rfl, by omega, by omega, ?_, ?_, rfl, rfl⟩, by omega⟩
      · rw [filter_snoc_tInt he hp, List.append_assoc, List.append_assoc, List.append_assoc]
        exact (by (repeat (first | exact List.Sublist.refl _ | apply List.Sublist.cons_cons | apply List.Sublist.cons)); done)
      · rw [filter_snoc_tInt he hp]; exact hi
      · rw [List.length_append, hM]; show _ + 1 = _; omega
  · obtain rfl : j = l.length := by omega
    rw [List.take_length] at hi hF ⊢
    rw [List.drop_length, List.flatMap_nil, List.append_nil]
    repeat' (first | (refine XO.op rfl ?_; (first | ((first | refine Xo.ng rfl ?_); (first | (refine Xg.ev (EvF.sliceFromL (lo := i) rfl rfl (te rfl) (te rfl) rfl (by omega) (by omega) (by omega)) rfl rfl ?_) | (refine Xg.st0 (StF.clear (q := 0) rfl el55 rfl rfl (by rw [List.length_append, hF, hM]; show 0 + i * 1 + _ ≤ _; omega) honeInt) rfl ?_; rintro _ _ ⟨zs, hzs, rfl⟩; dsimp only [List.set]) | (refine Xg.ev (EvF.move rfl rfl) rfl rfl ?_))))) | (refine XO.done rfl ?_; refine hK _ _ ?_; clear hK K) | refine X.seq rfl ?_ | refine X.region rfl (fun K hK => ?_))
    have e2 : splice ((l.filter (fun e => !p e)).flatMap cI ++ M) (0 + i * 1) zs = (l.filter (fun e => !p e)).flatMap cI ++ zs := by
      have := splice_at (xs := (l.filter (fun e => !p e)).flatMap cI) (ys := M) (zs := []) (vs := zs) (j := 0 + i * 1) (by rw [hF]; omega) (by rw [hzs, hM])
      rwa [List.append_nil, List.append_nil] at this
    rw [e2]
    refine XO.forget (q := 0) rfl ?_
    dsimp only [List.set]
    repeat' (first | (refine XO.op rfl ?_; (first | ((first | refine Xo.ng rfl ?_); (first | (refine Xg.ev (EvF.sliceTo (hh := i) rfl rfl (te rfl) (te rfl) rfl (by omega)) rfl rfl ?_) | (refine Xg.ev (EvF.assign rfl rfl) rfl rfl ?_))))) | (refine XO.done rfl ?_; refine hK _ _ ?_; clear hK K) | refine X.ret rfl ?_)
    refine ret_one (by first | exact .inr rfl | exact .inl rfl) Try.results82 rfl (H' := ⟨b, 0, (l.filter (fun e => !p e)).flatMap cI, some 3, c * 1⟩ :: H) (List.Sublist.refl _) ⟨?_, rfl⟩
    rw [hi]
end Go.Proofs.Ytblehgpfddmggaa
end
section
set_option linter.unusedVariables false
set_option linter.unusedSimpArgs false
namespace Go.Proofs.Ytblehgpfddmggaa
open Go Go.Fw
set_option maxRecDepth 10000
/-- a list of numbers and an error -/
def LstR (l : List Int) (e : Int) (H : List Row) (v : Value) (H' : List Row) : Prop := ∃ a c Z, v = .tuple #[.slice a l.length c, .int .i64 e] ∧ SlE (Z ++ H) a cI 1 l ∧ H' = Z ++ H
def mOf (m : Int) (l : List Pk) : List Int := (l.filter (fun p => decide (p.month = m))).map (·.box)
theorem mOf_snoc {m : Int} {l : List Pk} {k : Nat} {e : Pk} (he : l[k]? = some e) : mOf m (l.take (k + 1)) = mOf m (l.take k) ++ (if e.month = m then [e.box] else []) := by
  unfold mOf
  rw [take_snoc he, List.filter_append, List.map_append]
  by_cases h : e.month = m
  · rw [if_pos h, List.filter_cons_of_pos (by simpa using h)]; rfl
  · rw [if_neg h, List.filter_cons_of_neg (by simpa using h)]; rfl
set_option maxHeartbeats 4000000 in
theorem there_spec (R : Rm) (p : Pl) (a : Option Addr) (c : Nat) (m : Int) (H : List Row) (hr : okRm R) (hC : CtOk H R p a) (hpc : (plcs R).length ≤ c) :
    Fc Try.prog 78 [.agg (cCt R p a c).toArray, .int .i64 m] H (fun v H' => ∃ Z, TrvI (mOf m ((plcs R).drop 1)) v Z ∧ H' = Z ++ H) := by
  have hpl := plcs_len hr
  obtain ⟨pb, po, q0, hpa, hq0, _⟩ := hC.pl.elem (i := 0) (by unfold plcs; simp)
  subst hpa
  have hp1 : 1 ≤ (plcs R).length := by unfold plcs; simp
  have hdl : ((plcs R).drop 1).length = (plcs R).length - 1 := List.length_drop
  have hS1 : SlE H (sfrom (some ⟨pb, po, none⟩) c 1 2) cPk 2 ((plcs R).drop 1) := sleFrom hC.pl hpc 1
  obtain ⟨a9, ha9⟩ : ∃ a9, a9 = sfrom (some ⟨pb, po, none⟩) c 1 2 := ⟨_, rfl⟩
  obtain ⟨L, hL⟩ : ∃ L, L = (plcs R).drop 1 := ⟨_, rfl⟩
  refine Fc.mk (callable Try.call78) Try.func78 rfl Try.ntmps78 rfl ?_; dsimp only [fr]
  repeat' (first | (refine XO.op rfl ?_; (first | ((first | refine Xo.ng rfl ?_); (first | (refine Xg.ev (EvF.sliceFrom (lo := 1) rfl rfl (te rfl) (te rfl) rfl (by omega) hpc) rfl rfl ?_) | (refine Xg.ev (EvF.move rfl rfl) rfl rfl ?_) | (refine Xg.ev (EvF.assign rfl rfl) rfl rfl ?_) | (refine Xg.ev (EvF.fieldAddr rfl rfl (te rfl) rfl (te rfl) (by decide)) rfl rfl ?_) | (refine Xg.ev (EvF.lenSlice rfl rfl (te rfl)) rfl rfl ?_) | (refine Xg.ev (EvF.loadV rfl rfl (LoadV.own (te rfl) rfl (List.Mem.head _) rfl)) rfl rfl ?_) | (refine Xg.st (StF.boxAgg rfl rfl) rfl rfl ?_; rintro _ _ ⟨bx, rfl, rfl⟩))))) | (refine XO.done rfl ?_; refine hK _ _ ?_; clear hK K) | refine X.seq rfl ?_ | refine X.region rfl (fun K hK => ?_) | refine X.block rfl ?_)
  generalize bx = b2
  rw [← ha9, ← hdl, ← hL]
  rw [← ha9, ← hL] at hS1
  have hLl : L.length ≤ 48 := by rw [hL, hdl]; omega
  clear hL hdl ha9
  refine X.lp rfl (fun q F' H' => ∃ (k : Nat) (out : Value) (Z : List Row), q = L.length - k ∧ k ≤ L.length ∧ TrvI (mOf m (L.take k)) out Z ∧ H' = Z ++ ⟨b2, 0, cCt R p (some ⟨pb, po, none⟩) c, some 96, 6⟩ :: H ∧
      F' = [(1, .int .i64 m), (5, out), (10, .slice a9 L.length (c - 1)), (11, .int .i64 L.length), (12, .int .i64 k)])
    L.length [(1, .int .i64 m), (5, .slice none 0 0), (10, .slice a9 L.length (c - 1)), (11, .int .i64 L.length), (12, .int .i64 (0 : Nat))] (⟨b2, 0, cCt R p (some ⟨pb, po, none⟩) c, some 96, 6⟩ :: H) (by (repeat (first | exact Sub.nil _ | refine Sub.cons rfl ?_)); done) (List.Sublist.refl _) ⟨0, _, [], by omega, by omega, .inl ⟨rfl, rfl, rfl⟩, rfl, rfl⟩ ?_
  rintro _ _ _ ⟨k, out, Z, rfl, hk, hT, rfl, rfl⟩
  by_cases hlt : k < L.length
  · obtain ⟨b9, o9, e, hq9, he⟩ := hS1.elem (i := k) hlt
    subst hq9
    have hsn := mOf_snoc (m := m) he
    rcases hT with ⟨h0, rfl, rfl⟩ | ⟨b0, q0, rfl, rfl⟩
    · simp only [List.nil_append]
      rw [h0, List.nil_append] at hsn
      repeat' (first | (refine XO.op rfl ?_; (first | ((first | refine Xo.ng rfl ?_); (first | (refine Xg.ev (EvF.cmp (b := true) rfl rfl rfl (congrArg some (decide_eq_true (by omega)))) rfl rfl ?_) | (refine Xg.ev (EvF.loadV rfl rfl (LoadV.elA0 (hS1.sub (fun _ h => by repeat (first | exact h | apply List.Mem.tail))) he (te rfl) rfl (fun _ hm => hm) rfl)) rfl rfl ?_) | (refine Xg.st (StF.buildOne rfl el55 rfl rfl rfl (by decide) (by decide)) rfl rfl ?_; rintro _ _ ⟨bs, rfl, rfl⟩) | (refine Xg.st (StF.appendNew rfl el55 rfl rfl (by decide) rfl (Rd.own (List.Mem.head _)) (by decide)) rfl rfl ?_; rintro _ _ ⟨bn, kn, rfl, rfl⟩) | (refine Xg.ev (EvF.move rfl rfl) rfl rfl ?_) | (refine Xg.ev (EvF.assign rfl rfl) rfl rfl ?_) | (refine Xg.ev (EvF.cmp rfl rfl rfl rfl) rfl rfl ?_) | (refine Xg.ev (EvF.add64 rfl rfl rfl (by omega) (by omega)) rfl rfl ?_) | (refine Xg.ev (EvF.fieldAddr rfl rfl (te rfl) rfl (te rfl) (by decide)) rfl rfl ?_) | (refine Xg.ev (EvF.indexSlice rfl rfl rfl (te rfl) (te rfl) (by omega) (by omega)) rfl rfl ?_) | (refine Xg.ev (EvF.loadV rfl rfl (LoadV.own (te rfl) rfl (List.Mem.head _) rfl)) rfl rfl ?_) | (refine Xg.st (StF.alloc rfl Try.zeroValue35 rfl) rfl rfl ?_; rintro _ _ ⟨bx, rfl, rfl⟩) | (refine Xg.st0 (StF.storeAll (i := 0) rfl rfl rfl (te rfl) rfl rfl rfl rfl) rfl ?_; rintro _ _ ⟨rfl, rfl⟩; dsimp only [List.set]))))) | (refine XO.done rfl ?_; refine hK _ _ ?_; clear hK K) | refine X.seq rfl ?_ | refine X.region rfl (fun K hK => ?_) | refine X.block rfl ?_ | refine X.skip rfl ?_ | (refine X.ite rfl rfl (fun hc => ?_); (first | (with_reducible refine Xb.t hc ?_) | (with_reducible refine Xb.case hc (fun h => ?_) (fun h => ?_))) <;> clear hc))
      all_goals try (exfalso; contradiction)
      · rw [if_pos (by assumption)] at hsn
        refine ⟨_, _, ⟨bn, 0, (mOf m (L.take (k + 1))).flatMap cI, some 3, kn * 1⟩ :: ⟨b2, 0, cCt R p (some ⟨pb, po, none⟩) c, some 96, 6⟩ :: H, (by (repeat (first | exact Sub.nil _ | refine Sub.cons rfl ?_)); done), ?_, ⟨k + 1, _, [_], rfl, by omega, .inr ⟨bn, kn, by rw [hsn]; rfl, rfl⟩, rfl, rfl⟩, by omega⟩
        rw [hsn]
        exact (by (repeat (first | exact List.Sublist.refl _ | apply List.Sublist.cons_cons | apply List.Sublist.cons)); done)
      · rw [if_neg (by assumption)] at hsn
        exact ⟨_, _, ⟨b2, 0, cCt R p (some ⟨pb, po, none⟩) c, some 96, 6⟩ :: H, (by (repeat (first | exact Sub.nil _ | refine Sub.cons rfl ?_)); done), (by (repeat (first | exact List.Sublist.refl _ | apply List.Sublist.cons_cons | apply List.Sublist.cons)); done), ⟨k + 1, _, [], rfl, by omega, .inl ⟨hsn, rfl, rfl⟩, rfl, rfl⟩, by omega⟩
    · have hlen : ((mOf m (L.take k)).flatMap cI).length = (mOf m (L.take k)).length * 1 := lenI _
      have hll : (mOf m (L.take k)).length ≤ 48 := by
        unfold mOf
        rw [List.length_map]
        have h1 := List.length_filter_le (fun p : Pk => decide (p.month = m)) (L.take k)
        have h2 := List.length_take (i := k) (l := L)
        omega
      simp only [List.cons_append, List.nil_append]
      repeat' (first | (refine XO.op rfl ?_; (first | ((first | refine Xo.ng rfl ?_); (first | (refine Xg.ev (EvF.cmp (b := true) rfl rfl rfl (congrArg some (decide_eq_true (by omega)))) rfl rfl ?_) | (refine Xg.ev (EvF.loadV rfl rfl (LoadV.elA0 (hS1.sub (fun _ h => by repeat (first | exact h | apply List.Mem.tail))) he (te rfl) rfl (fun _ hm => hm) rfl)) rfl rfl ?_) | (refine Xg.st (StF.buildOne rfl el55 rfl rfl rfl (by decide) (by decide)) rfl rfl ?_; rintro _ _ ⟨bs, rfl, rfl⟩) | (refine Xg.st (StF.appendOwn (i := 2) rfl el55 rfl rfl rfl hlen rfl (Rd.own (List.Mem.head _)) rfl (by omega)) rfl rfl ?_; rintro _ _ ⟨bn, kn, rfl, rfl⟩; dsimp only [List.eraseIdx]) | (refine Xg.ev (EvF.move rfl rfl) rfl rfl ?_) | (refine Xg.ev (EvF.assign rfl rfl) rfl rfl ?_) | (refine Xg.ev (EvF.cmp rfl rfl rfl rfl) rfl rfl ?_) | (refine Xg.ev (EvF.add64 rfl rfl rfl (by omega) (by omega)) rfl rfl ?_) | (refine Xg.ev (EvF.fieldAddr rfl rfl (te rfl) rfl (te rfl) (by decide)) rfl rfl ?_) | (refine Xg.ev (EvF.indexSlice rfl rfl rfl (te rfl) (te rfl) (by omega) (by omega)) rfl rfl ?_) | (refine Xg.ev (EvF.loadV rfl rfl (LoadV.own (te rfl) rfl (List.Mem.head _) rfl)) rfl rfl ?_) | (refine Xg.st (StF.alloc rfl Try.zeroValue35 rfl) rfl rfl ?_; rintro _ _ ⟨bx, rfl, rfl⟩) | (refine Xg.st0 (StF.storeAll (i := 0) rfl rfl rfl (te rfl) rfl rfl rfl rfl) rfl ?_; rintro _ _ ⟨rfl, rfl⟩; dsimp only [List.set]))))) | (refine XO.done rfl ?_; refine hK _ _ ?_; clear hK K) | refine X.seq rfl ?_ | refine X.region rfl (fun K hK => ?_) | refine X.block rfl ?_ | refine X.skip rfl ?_ | (refine X.ite rfl rfl (fun hc => ?_); (first | (with_reducible refine Xb.t hc ?_) | (with_reducible refine Xb.case hc (fun h => ?_) (fun h => ?_))) <;> clear hc))
      all_goals try (exfalso; contradiction)
      · rw [if_pos (by assumption)] at hsn
        refine ⟨_, _, ⟨bn, 0, (mOf m (L.take (k + 1))).flatMap cI, some 3, kn * 1⟩ :: ⟨b2, 0, cCt R p (some ⟨pb, po, none⟩) c, some 96, 6⟩ :: H, (by (repeat (first | exact Sub.nil _ | refine Sub.cons rfl ?_)); done), ?_, ⟨k + 1, _, [_], rfl, by omega, .inr ⟨bn, kn, by rw [hsn, List.length_append]; rfl, rfl⟩, rfl, rfl⟩, by omega⟩
        rw [hsn, List.flatMap_append]
        exact (by (repeat (first | exact List.Sublist.refl _ | apply List.Sublist.cons_cons | apply List.Sublist.cons)); done)
      · rw [if_neg (by assumption), List.append_nil] at hsn
        exact ⟨_, _, ⟨b0, 0, (mOf m (L.take k)).flatMap cI, some 3, q0 * 1⟩ :: ⟨b2, 0, cCt R p (some ⟨pb, po, none⟩) c, some 96, 6⟩ :: H, (by (repeat (first | exact Sub.nil _ | refine Sub.cons rfl ?_)); done), (by (repeat (first | exact List.Sublist.refl _ | apply List.Sublist.cons_cons | apply List.Sublist.cons)); done), ⟨k + 1, _, [_], rfl, by omega, .inr ⟨b0, q0, by rw [hsn], by rw [hsn]⟩, rfl, rfl⟩, by omega⟩
  · obtain rfl : k = L.length := by omega
    rw [List.take_length] at hT
    repeat' (first | (refine XO.op rfl ?_; (first | ((first | refine Xo.ng rfl ?_); (first | (refine Xg.ev (EvF.cmp (b := false) rfl rfl rfl (congrArg some (decide_eq_false (by omega)))) rfl rfl ?_) | (refine Xg.ev (EvF.move rfl rfl) rfl rfl ?_) | (refine Xg.ev (EvF.assign rfl rfl) rfl rfl ?_))))) | (refine XO.done rfl ?_; refine hK _ _ ?_; clear hK K) | refine X.seq rfl ?_ | refine X.region rfl (fun K hK => ?_) | (refine X.brk rfl ?_; repeat (first | refine blockX_hit rfl ?_ | refine blockX_miss (by decide) ?_)) | refine X.ret rfl ?_ | (refine X.ite rfl rfl (fun hc => ?_); (first | (with_reducible refine Xb.f hc ?_)) <;> clear hc))
    all_goals try (exfalso; contradiction)
    exact ret_one (by first | exact .inr rfl | exact .inl rfl) Try.results78 rfl (H' := Z ++ H) (List.Sublist.append (List.Sublist.refl _) (List.sublist_cons_self _ _)) ⟨Z, hT, rfl⟩
theorem fresh11_spec (R : Rm) (p : Pl) (a : Option Addr) (c : Nat) (m x y : Int) (bc ba bm : Nat) (w1 w2 w3 : Option Kd) (k1 k2 k3 : Nat) (H : List Row) (hr : okRm R) (hm : matsThere R R.mats) (hC : CtOk H R p a) (hla : R.ages.length ≤ 1000) (hlm : R.mats.length ≤ 1000) (hpc : (plcs R).length ≤ c) (hT : hasT R R.mats)
    (hx : (⟨x, m⟩ : Pk) ∈ plcs R) (hy : (⟨y, m⟩ : Pk) ∈ plcs R) (mc : ⟨bc, 0, cCt R p a c, w1, k1⟩ ∈ H) (ma : ⟨ba, 0, [.int .i64 x], w2, k2⟩ ∈ H) (mm : ⟨bm, 0, [.int .i64 m], w3, k3⟩ ∈ H) :
    Fc Try.prog 81 ([.int .i64 y] ++ [.pointer (some ⟨bc, 0, none⟩), .pointer (some ⟨ba, 0, none⟩), .pointer (some ⟨bm, 0, none⟩)]) H (fun v H' => v = .bool (decide (0 < (rng R R.mats ⟨x, m⟩ ⟨y, m⟩).lo)) ∧ H' = H) := by
  show Fc Try.prog 81 [.int .i64 y, .pointer (some ⟨bc, 0, none⟩), .pointer (some ⟨ba, 0, none⟩), .pointer (some ⟨bm, 0, none⟩)] H _
  have hd := fun H' hC' => differ_spec R p a c ⟨x, m⟩ ⟨y, m⟩ H' hr hm hC' hla hlm hpc hx hy hT
  obtain ⟨s, hs⟩ : ∃ s, s = rng R R.mats ⟨x, m⟩ ⟨y, m⟩ := ⟨_, rfl⟩
  rw [← hs] at hd ⊢
  refine Fc.mk (callable Try.call81) Try.func81 rfl Try.ntmps81 rfl ?_; dsimp only [fr]
  repeat' (first | (refine XO.op rfl ?_; (first | ((first | refine Xo.ng rfl ?_); (first | (refine Xg.ev (EvF.loadV rfl rfl (LoadV.whole (T := 96) (cs := cCt R p a c) (te rfl) rfl mc rfl)) rfl rfl ?_) | (refine Xg.ev (EvF.loadV rfl rfl (LoadV.own (te rfl) rfl ma rfl)) rfl rfl ?_) | (refine Xg.ev (EvF.loadV rfl rfl (LoadV.own (te rfl) rfl mm rfl)) rfl rfl ?_) | (refine Xg.ev (EvF.build (cs := cPk ⟨x, m⟩) rfl (ArgsP.cons rfl (ArgsP.cons rfl ArgsP.nil)) (te rfl) (Places.cons (te rfl) (Places.cons (te rfl) Places.nil)) Try.zeroValue104 rfl) rfl rfl ?_) | (refine Xg.ev (EvF.build (cs := cPk ⟨y, m⟩) rfl (ArgsP.cons rfl (ArgsP.cons rfl ArgsP.nil)) (te rfl) (Places.cons (te rfl) (Places.cons (te rfl) Places.nil)) Try.zeroValue104 rfl) rfl rfl ?_) | (refine Xg.call (EnF.st rfl (Args.cons rfl (Args.cons rfl (Args.cons rfl Args.nil)))) rfl rfl (hd _ (hC.sub (fun _ h => by repeat (first | exact h | apply List.Mem.tail)))) ?_; rintro _ H9 ⟨rfl, hH9⟩; subst H9) | (refine Xg.ev (EvF.move rfl rfl) rfl rfl ?_) | (refine Xg.ev (EvF.assign rfl rfl) rfl rfl ?_) | (refine Xg.ev (EvF.cmp rfl rfl rfl rfl) rfl rfl ?_) | (refine Xg.ev (EvF.field rfl rfl (te rfl) rfl (te rfl) rfl rfl) rfl rfl ?_))))) | (refine XO.done rfl ?_; refine hK _ _ ?_; clear hK K) | refine X.seq rfl ?_ | refine X.region rfl (fun K hK => ?_) | refine X.ret rfl ?_)
  exact ret_one (by first | exact .inr rfl | exact .inl rfl) Try.results81 rfl (H' := H) (by (repeat (first | exact List.Sublist.refl _ | apply List.Sublist.cons_cons | apply List.Sublist.cons)); done) ⟨rfl, rfl⟩
theorem any_dec {α : Type} (l : List α) (p : α → Bool) [Decidable (∃ e ∈ l, p e = true)] : decide (∃ e ∈ l, p e = true) = l.any p := by
  by_cases h : ∃ e ∈ l, p e = true
  · rw [decide_eq_true h]; exact (List.any_eq_true.2 h).symm
  · rw [decide_eq_false h]; exact (Bool.eq_false_iff.2 (fun q => h (List.any_eq_true.1 q))).symm
theorem fresh1_spec (R : Rm) (p : Pl) (a a' : Option Addr) (c c' : Nat) (m x : Int) (bt bc bm : Nat) (w1 w2 w3 : Option Kd) (k1 k2 k3 : Nat) (H : List Row) (hr : okRm R) (hm : matsThere R R.mats) (hC : CtOk H R p a) (hla : R.ages.length ≤ 1000) (hlm : R.mats.length ≤ 1000) (hpc : (plcs R).length ≤ c) (hT : hasT R R.mats) (hmm : m ≤ R.months - 1)
    (hx : x ∈ thI R m) (hl : SlE H a' cI 1 (thI R m)) (mt : ⟨bt, 0, [.slice a' (thI R m).length c'], w1, k1⟩ ∈ H) (mc : ⟨bc, 0, cCt R p a c, w2, k2⟩ ∈ H) (mm : ⟨bm, 0, [.int .i64 m], w3, k3⟩ ∈ H) :
    Fc Try.prog 79 ([.int .i64 x] ++ [.pointer (some ⟨bt, 0, none⟩), .pointer (some ⟨bc, 0, none⟩), .pointer (some ⟨bm, 0, none⟩)]) H (fun v H' => v = .bool (stale R m x) ∧ H' = H) := by
  show Fc Try.prog 79 [.int .i64 x, .pointer (some ⟨bt, 0, none⟩), .pointer (some ⟨bc, 0, none⟩), .pointer (some ⟨bm, 0, none⟩)] H _
  have hin : ∀ y ∈ thI R m, (⟨y, m⟩ : Pk) ∈ plcs R := fun y hy => by
    obtain ⟨b, hb, rfl⟩ := (mem_thI hmm).1 hy
    exact plcs_mem hb
  have hll : (thI R m).length ≤ 4 := by
    unfold thI
    rw [List.length_map]
    exact Nat.le_trans (List.length_filter_le _ _) hr.b4
  have hst : stale R m x = decide (∃ y ∈ thI R m, decide (0 < (rng R R.mats ⟨x, m⟩ ⟨y, m⟩).lo) = true) := (any_dec _ _).symm
  rw [hst]
  refine Fc.mk (callable Try.call79) Try.func79 rfl Try.ntmps79 rfl ?_; dsimp only [fr]
  repeat' (first | (refine XO.op rfl ?_; (first | ((first | refine Xo.ng rfl ?_); (first | (refine Xg.ev (EvF.loadV rfl rfl (LoadV.own (te rfl) rfl (List.Mem.tail _ mt) rfl)) rfl rfl ?_) | (refine Xg.ev (EvF.makeFunc (fl := []) rfl Args.nil (Args.cons rfl (Args.cons rfl (Args.cons rfl Args.nil)))) rfl rfl ?_) | (refine Xg.call (EnF.st rfl (Args.cons rfl (Args.cons rfl Args.nil))) rfl rfl (containsFunc_specI (thI R m) a' c' 81 (fun y => decide (0 < (rng R R.mats ⟨x, m⟩ ⟨y, m⟩).lo)) [_, _, _] _ (hl.sub (fun _ h => by repeat (first | exact h | apply List.Mem.tail))) (by omega) (fun y hy => fresh11_spec R p a c m x y bc _ bm _ _ _ _ _ _ _ hr hm (hC.sub (fun _ h => by repeat (first | exact h | apply List.Mem.tail))) hla hlm hpc hT (hin x hx) (hin y hy) (List.Mem.tail _ mc) (List.Mem.head _) (List.Mem.tail _ mm))) ?_; rintro _ H9 ⟨rfl, hH9⟩; subst H9) | (refine Xg.ev (EvF.assign rfl rfl) rfl rfl ?_) | (refine Xg.st (StF.boxOne rfl rfl rfl) rfl rfl ?_; rintro _ _ ⟨bx, rfl, rfl⟩))))) | (refine XO.done rfl ?_; refine hK _ _ ?_; clear hK K) | refine X.seq rfl ?_ | refine X.region rfl (fun K hK => ?_) | refine X.ret rfl ?_)
  exact ret_one (by first | exact .inr rfl | exact .inl rfl) Try.results79 rfl (H' := H) (by (repeat (first | exact List.Sublist.refl _ | apply List.Sublist.cons_cons | apply List.Sublist.cons)); done) ⟨rfl, rfl⟩
theorem EvF.eqNilT {P : Program} {n : Nat} {H : List Row} {F : FS} {o : Oper} {T T' e : TypeId} {x : Operand} {len cap s y : Nat} (h : o.op = .binOp .eql T x (.const (.slice none 0 0)) T') (hx : evF F x = some (.slice none len cap)) (hT : tiOf P T = some ⟨.sl e, s, y⟩) : EvF P n H F o (.bool true) := by
  unfold EvF EvOp
  intro t ha B w0 w hS
  have hu := ti_slice hT
  have h1 : (binOp .eql T (.slice none len cap) (.slice none 0 0)).run P w = .ok (.bool true) w := by
    show Sem.run P (do pure (Value.bool (← Op.equalIn 10000 T (.slice none len cap) (.slice none 0 0)))) w = _
    rw [show (10000 : Nat) = 9999 + 1 from rfl]
    unfold Op.equalIn
    simp [underlying, hu]
  have hxv := ha.ev hx
  simp [execOp, h, hxv, show Fw.ev t (.const (.slice none 0 0)) = .slice none 0 0 from rfl, eqGuard, h1]
theorem cloneNilI (H : List Row) : Fc Try.prog 83 [.slice none 0 0] H (fun v H' => v = .slice none 0 0 ∧ H' = H) := by
  refine Fc.mk (callable Try.call83) Try.func83 rfl Try.ntmps83 rfl ?_; dsimp only [fr]
  repeat' (first | (refine XO.op rfl ?_; (first | ((first | refine Xo.ng rfl ?_); (first | (refine Xg.ev (EvF.eqNilT rfl rfl (te rfl)) rfl rfl ?_) | (refine Xg.ev (EvF.move rfl rfl) rfl rfl ?_) | (refine Xg.ev (EvF.assign rfl rfl) rfl rfl ?_))))) | (refine XO.done rfl ?_; refine hK _ _ ?_; clear hK K) | refine X.seq rfl ?_ | refine X.region rfl (fun K hK => ?_) | refine X.ret rfl ?_ | (refine X.ite rfl rfl (fun hc => ?_); (first | (with_reducible refine Xb.t hc ?_)) <;> clear hc))
  all_goals try (exfalso; contradiction)
  exact ret_one (by first | exact .inr rfl | exact .inl rfl) Try.results83 rfl (H' := H) (by (repeat (first | exact List.Sublist.refl _ | apply List.Sublist.cons_cons | apply List.Sublist.cons)); done) ⟨rfl, rfl⟩
theorem deleteNilI (g : Nat) (cap : List Value) (H : List Row) : Fc Try.prog 82 [.slice none 0 0, .func (.func g) #[] cap.toArray] H (fun v H' => v = .slice none 0 0 ∧ H' = H) := by
  have hi := indexFunc_specI [] none 0 g (fun _ => false) cap H sleNil (Nat.zero_le _) (fun e he => absurd he List.not_mem_nil)
  have hi' : Fc Try.prog 122 [.slice none 0 0, .func (.func g) #[] cap.toArray] H (fun v H' => v = .int .i64 (-1) ∧ H' = H) := hi.mono fun v H' ⟨⟨z, hv, hz⟩, hH⟩ => ⟨by
    rcases hz with ⟨rfl, _⟩ | ⟨k, e, _, he, _⟩
    · exact hv
    · simp at he, hH⟩
  refine Fc.mk (callable Try.call82) Try.func82 rfl Try.ntmps82 rfl ?_; dsimp only [fr]
  repeat' (first | (refine XO.op rfl ?_; (first | ((first | refine Xo.ng rfl ?_); (first | (refine Xg.ev (EvF.cmp (b := true) rfl rfl rfl (congrArg some (decide_eq_true (by omega)))) rfl rfl ?_) | (refine Xg.call (EnF.st rfl (Args.cons rfl (Args.cons rfl Args.nil))) rfl rfl (hi') ?_; rintro _ H9 ⟨rfl, hH9⟩; subst H9) | (refine Xg.ev (EvF.move rfl rfl) rfl rfl ?_) | (refine Xg.ev (EvF.assign rfl rfl) rfl rfl ?_))))) | (refine XO.done rfl ?_; refine hK _ _ ?_; clear hK K) | refine X.seq rfl ?_ | refine X.region rfl (fun K hK => ?_) | refine X.ret rfl ?_ | (refine X.ite rfl rfl (fun hc => ?_); (first | (with_reducible refine Xb.t hc ?_)) <;> clear hc))
  all_goals try (exfalso; contradiction)
  exact ret_one (by first | exact .inr rfl | exact .inl rfl) Try.results82 rfl (H' := H) (by (repeat (first | exact List.Sublist.refl _ | apply List.Sublist.cons_cons | apply List.Sublist.cons)); done) ⟨rfl, rfl⟩
end Go.Proofs.Ytblehgpfddmggaa
end
section
set_option linter.unusedVariables false
set_option linter.unusedSimpArgs false
namespace Go.Proofs.Ytblehgpfddmggaa
open Go Go.Fw
set_option maxRecDepth 10000
theorem thI_len {R : Rm} (hr : okRm R) (m : Int) : (thI R m).length ≤ 4 := by
  unfold thI
  rw [List.length_map]
  exact Nat.le_trans (List.length_filter_le _ _) hr.b4
theorem thereI_spec (R : Rm) (p : Pl) (b k : Nat) (m : Int) (H : List Row) (hr : okRm R) (hmm : m ≤ R.months - 1) (hC : CtOk H R p (some ⟨b, 0, none⟩)) (hpc : (plcs R).length ≤ k) :
    Fc Try.prog 78 [.agg (cCt R p (some ⟨b, 0, none⟩) k).toArray, .int .i64 m] H (fun v H' => (thI R m = [] ∧ v = .slice none 0 0 ∧ H' = H) ∨ ∃ bt kt, v = .slice (some ⟨bt, 0, none⟩) (thI R m).length kt ∧ H' = ⟨bt, 0, (thI R m).flatMap cI, some 3, kt * 1⟩ :: H) := by
  have := there_spec R p (some ⟨b, 0, none⟩) k m H hr hC hpc
  rw [show mOf m ((plcs R).drop 1) = thI R m from plcs_month hr hmm] at this
  refine this.mono fun v H' ⟨Z, hZ, hH⟩ => ?_
  rcases hZ with ⟨h0, hv, rfl⟩ | ⟨bt, kt, hv, rfl⟩
  · exact .inl ⟨h0, hv, hH⟩
  · exact .inr ⟨bt, kt, hv, hH⟩
set_option maxHeartbeats 8000000 in
theorem kFresh_spec (R : Rm) (p : Pl) (m : Int) (H : List Row) (hR : RmOk H R p) (h2 : R.boxes.length ≤ 1000000) : Fc Try.prog 35 [.agg (cRm R p).toArray, .int .i64 m] H (LstR (freF R m).1 (freF R m).2 H) := by
  obtain ⟨e, he⟩ : ∃ e, openE R [] [m] = e := ⟨_, rfl⟩
  have hbt : ∀ (H' : List Row) (b1 : Nat), ⟨b1, 0, [.int .i64 m], some 3, 1 * 1⟩ ∈ H' → BtOk H' ⟨[], none, 0, [m], some ⟨b1, 0, none⟩, 1⟩ := fun H' b1 q1 => ⟨sleNil, SlE.ofRow (l := [m]) q1 (fun _ _ => rfl), Nat.le_of_ble_eq_true rfl, Nat.le_of_ble_eq_true rfl⟩
  by_cases h0 : e = 0
  · subst h0
    obtain ⟨hok, _, hin, hT⟩ := openE_ok he
    have hmm : m ≤ R.months - 1 := (hin m (List.mem_singleton.2 rfl)).1.2
    have hF : freF R m = (freL R m, 0) := by unfold freF; rw [if_pos he]
    have htl := thI_len hok.ok m
    rw [hF]
    refine Fc.mk (callable Try.call35) Try.func35 rfl Try.ntmps35 rfl ?_; dsimp only [fr]
    repeat' (first | (refine XO.op rfl ?_; (first | ((first | refine Xo.ng rfl ?_); (first | (refine Xg.ev (EvF.cmp (b := false) rfl rfl rfl (congrArg some (nd_f (by omega)))) rfl rfl ?_) | (refine Xg.st (StF.buildOne (v0 := .int .i64 m) rfl el55 rfl rfl rfl (by decide) (by decide)) rfl rfl ?_; rintro _ _ ⟨b1, rfl, rfl⟩) | (refine Xg.ev (EvF.build (cs := cBt ⟨[], none, 0, [m], some ⟨b1, 0, none⟩, 1⟩) rfl (ArgsP.cons rfl ArgsP.nil) (te rfl) (Places.cons (te rfl) (Places.cons (te rfl) Places.nil)) Try.zeroValue101 rfl) rfl rfl ?_) | (refine Xg.call (EnF.st rfl (by (repeat (first | exact Args.nil | refine Args.cons rfl ?_)); done)) rfl rfl (openY (hR.sub (fun _ h => by repeat (first | exact h | apply List.Mem.tail))) (hbt _ b1 (List.Mem.head _)) h2 he) ?_; rintro _ _ ⟨b, k, hbk, rfl, rfl⟩) | (refine Xg.st (StF.alloc rfl Try.zeroValue96 rfl) rfl rfl ?_; rintro _ _ ⟨b8, rfl, rfl⟩) | (refine Xg.st0 (StF.storeAll (i := 0) (vs := cCt R p (some ⟨b, 0, none⟩) k) rfl rfl rfl (te rfl) rfl rfl rfl rfl) rfl ?_; rintro _ _ ⟨rfl, rfl⟩; dsimp only [List.set]) | (refine Xg.ev (EvF.loadV rfl rfl (LoadV.whole (T := 96) (cs := cCt R p (some ⟨b, 0, none⟩) k) (te rfl) rfl (by repeat (first | exact List.Mem.head _ | apply List.Mem.tail)) rfl)) rfl rfl ?_) | (refine Xg.st (StF.alloc rfl Try.zeroValue55 rfl) rfl rfl ?_; rintro _ _ ⟨b9, rfl, rfl⟩) | (refine Xg.ev (EvF.makeFunc (fl := []) rfl Args.nil (Args.cons rfl (Args.cons rfl (Args.cons rfl Args.nil)))) rfl rfl ?_) | (refine Xg.call (EnF.st rfl (by (repeat (first | exact Args.nil | refine Args.cons rfl ?_)); done)) rfl rfl (thereI_spec R p b k m _ hok.ok hmm ⟨hR.sub (fun _ h => by repeat (first | exact h | apply List.Mem.tail)), SlE.ofRow (List.Mem.tail _ (List.Mem.head _)) (fun _ _ => rfl)⟩ hbk) ?_; rintro _ _ (⟨ht, rfl, rfl⟩ | ⟨bt, kt, rfl, rfl⟩)) | (refine Xg.call (EnF.st rfl (Args.cons rfl Args.nil)) rfl rfl (cloneNilI _) ?_; rintro _ H9 ⟨rfl, hH9⟩; subst H9) | (refine Xg.call (EnF.st rfl (Args.cons rfl (Args.cons rfl Args.nil))) rfl rfl (deleteNilI _ [_, _, _] _) ?_; rintro _ H9 ⟨rfl, hH9⟩; subst H9) | (refine Xg.call (EnF.st rfl (by (repeat (first | exact Args.nil | refine Args.cons rfl ?_)); done)) rfl rfl (clone_specInt (thI R m) ⟨bt, 0, none⟩ kt _ (SlE.ofRow (by repeat (first | exact List.Mem.head _ | apply List.Mem.tail)) (fun _ _ => rfl)) (by omega)) ?_; rintro _ _ ⟨bc, kc, rfl, rfl⟩) | (refine Xg.call (EnF.st rfl (Args.cons rfl (Args.cons rfl Args.nil))) rfl rfl (deleteFunc_specInt (thI R m) bc kc 79 (stale R m) [_, _, _] _ (by omega) (fun Z x hx => fresh1_spec R p (some ⟨b, 0, none⟩) (some ⟨bt, 0, none⟩) k kt m x _ _ _ _ _ _ _ _ _ (Z ++ _) hok.ok hok.mats ⟨hR.sub (fun _ h => List.mem_append_right _ (by repeat (first | exact h | apply List.Mem.tail))), SlE.ofRow (List.mem_append_right _ (by repeat (first | exact List.Mem.head _ | apply List.Mem.tail))) (fun _ _ => rfl)⟩ hok.lens.ages hok.lens.mats hbk hT hmm hx (SlE.ofRow (List.mem_append_right _ (by repeat (first | exact List.Mem.head _ | apply List.Mem.tail))) (fun _ _ => rfl)) (List.mem_append_right _ (by repeat (first | exact List.Mem.head _ | apply List.Mem.tail))) (List.mem_append_right _ (by repeat (first | exact List.Mem.head _ | apply List.Mem.tail))) (List.mem_append_right _ (by repeat (first | exact List.Mem.head _ | apply List.Mem.tail))))) ?_; rintro _ _ ⟨rfl, rfl⟩) | (refine Xg.ev (EvF.move rfl rfl) rfl rfl ?_) | (refine Xg.ev (EvF.assign rfl rfl) rfl rfl ?_) | (refine Xg.ev (EvF.loadV rfl rfl (LoadV.own (te rfl) rfl (List.Mem.head _) rfl)) rfl rfl ?_) | (refine Xg.ev (EvF.loadV rfl rfl (LoadV.own (te rfl) rfl (List.Mem.tail _ (List.Mem.tail _ (List.Mem.tail _ (List.Mem.head _)))) rfl)) rfl rfl ?_) | (refine Xg.ev (EvF.loadV rfl rfl (LoadV.whole (te rfl) rfl (List.Mem.tail _ (List.Mem.head _)) rfl)) rfl rfl ?_) | (refine Xg.ev (EvF.extract rfl rfl rfl) rfl rfl ?_) | (refine Xg.st (StF.boxAgg rfl rfl) rfl rfl ?_; rintro _ _ ⟨bx, rfl, rfl⟩) | (refine Xg.st (StF.boxOne rfl rfl rfl) rfl rfl ?_; rintro _ _ ⟨bx, rfl, rfl⟩) | (refine Xg.st0 (StF.storeOne (i := 0) rfl rfl rfl rfl (te rfl) rfl rfl (Nat.le_of_ble_eq_true rfl)) rfl ?_; rintro _ _ ⟨rfl, rfl⟩; dsimp only [List.set]))))) | (refine XO.done rfl ?_; refine hK _ _ ?_; clear hK K) | refine X.seq rfl ?_ | refine X.region rfl (fun K hK => ?_) | refine X.skip rfl ?_ | refine X.ret rfl ?_ | (refine X.ite rfl rfl (fun hc => ?_); (first | (with_reducible refine Xb.f hc ?_)) <;> clear hc))
    all_goals try (exfalso; contradiction)
    · have e0 : freL R m = [] := by unfold freL; rw [ht]; rfl
      rw [e0]
      exact ret_two (by first | exact .inr rfl | exact .inl rfl) Try.results35 rfl rfl (H' := H) (by (repeat (first | exact List.Sublist.refl _ | apply List.Sublist.cons)); done) ⟨none, 0, [], rfl, sleNil, rfl⟩
    · exact ret_two (by first | exact .inr rfl | exact .inl rfl) Try.results35 rfl rfl (H' := ⟨bc, 0, (freL R m).flatMap cI, some 3, kc * 1⟩ :: H) (by (repeat (first | exact List.Sublist.refl _ | apply List.Sublist.cons_cons | apply List.Sublist.cons)); done) ⟨some ⟨bc, 0, none⟩, kc, [_], rfl, SlE.ofRow (List.Mem.head _) (fun _ _ => rfl), rfl⟩
  · have hF : freF R m = ([], e) := by unfold freF; rw [if_neg (by rw [he]; exact h0), he]
    rw [hF]
    refine Fc.mk (callable Try.call35) Try.func35 rfl Try.ntmps35 rfl ?_; dsimp only [fr]
    repeat' (first | (refine XO.op rfl ?_; (first | ((first | refine Xo.ng rfl ?_); (first | (refine Xg.ev (EvF.cmp (b := true) rfl rfl rfl (congrArg some (nd_t (by omega)))) rfl rfl ?_) | (refine Xg.st (StF.buildOne (v0 := .int .i64 m) rfl el55 rfl rfl rfl (by decide) (by decide)) rfl rfl ?_; rintro _ _ ⟨b1, rfl, rfl⟩) | (refine Xg.ev (EvF.build (cs := cBt ⟨[], none, 0, [m], some ⟨b1, 0, none⟩, 1⟩) rfl (ArgsP.cons rfl ArgsP.nil) (te rfl) (Places.cons (te rfl) (Places.cons (te rfl) Places.nil)) Try.zeroValue101 rfl) rfl rfl ?_) | (refine Xg.call (EnF.st rfl (Args.cons rfl (Args.cons rfl Args.nil))) rfl rfl (openN (hR.sub (fun _ h => by repeat (first | exact h | apply List.Mem.tail))) (hbt _ b1 (List.Mem.head _)) h2 he h0) ?_; rintro _ H9 ⟨rfl, hH9⟩; subst H9) | (refine Xg.st (StF.alloc rfl Try.zeroValue96 rfl) rfl rfl ?_; rintro _ _ ⟨b8, rfl, rfl⟩) | (refine Xg.st0 (StF.storeAll (i := 0) (vs := zCt) rfl rfl rfl (te rfl) rfl rfl rfl rfl) rfl ?_; rintro _ _ ⟨rfl, rfl⟩; dsimp only [List.set]) | (refine Xg.ev (EvF.move rfl rfl) rfl rfl ?_) | (refine Xg.ev (EvF.assign rfl rfl) rfl rfl ?_) | (refine Xg.ev (EvF.loadV rfl rfl (LoadV.own (te rfl) rfl (List.Mem.head _) rfl)) rfl rfl ?_) | (refine Xg.ev (EvF.loadV rfl rfl (LoadV.whole (te rfl) rfl (List.Mem.tail _ (List.Mem.head _)) rfl)) rfl rfl ?_) | (refine Xg.ev (EvF.extract rfl rfl rfl) rfl rfl ?_) | (refine Xg.st (StF.boxAgg rfl rfl) rfl rfl ?_; rintro _ _ ⟨bx, rfl, rfl⟩) | (refine Xg.st (StF.boxOne rfl rfl rfl) rfl rfl ?_; rintro _ _ ⟨bx, rfl, rfl⟩))))) | (refine XO.done rfl ?_; refine hK _ _ ?_; clear hK K) | refine X.seq rfl ?_ | refine X.region rfl (fun K hK => ?_) | refine X.ret rfl ?_ | (refine X.ite rfl rfl (fun hc => ?_); (first | (with_reducible refine Xb.t hc ?_)) <;> clear hc))
    all_goals try (exfalso; contradiction)
    exact ret_two (by first | exact .inr rfl | exact .inl rfl) Try.results35 rfl rfl (H' := H) (by (repeat (first | exact List.Sublist.refl _ | apply List.Sublist.cons)); done) ⟨none, 0, [], rfl, sleNil, rfl⟩
end Go.Proofs.Ytblehgpfddmggaa
end
section
set_option linter.unusedVariables false
set_option linter.unusedSimpArgs false
namespace Go.Proofs.Ytblehgpfddmggaa
open Go Go.Fw
set_option maxRecDepth 10000
def firV : Option Nat → Int
  | some k => k
  | none => 0
set_option maxHeartbeats 4000000 in
theorem kfirst_spec (R : Rm) (p : Pl) (a : Option Addr) (c : Nat) (x : Int) (g : Nat) (cap : List Value) (f : Sp → Bool) (H : List Row) (hr : okRm R) (hm : matsThere R R.mats) (hC : CtOk H R p a) (hla : R.ages.length ≤ 1000) (hlm : R.mats.length ≤ 1000) (hpc : (plcs R).length ≤ c) (hT : hasT R R.mats) (hx : ∃ b ∈ R.boxes, b.id = x)
    (hf : ∀ s H', (∀ r ∈ H, r ∈ H') → Fc Try.prog g ([.agg (cSp s).toArray] ++ cap) H' (fun v H'' => v = .bool (f s) ∧ H'' = H')) :
    Fc Try.prog 74 [.agg (cCt R p a c).toArray, .int .i64 x, .func (.func g) #[] cap.toArray] H (fun v H' => v = .tuple #[.int .i64 (firV (fstM (sinP R x f) 0 R.months.toNat)), .bool (fstM (sinP R x f) 0 R.months.toNat).isSome] ∧ H' = H) := by
  have hm12 := hr.m12
  have hm1 := hr.m1
  obtain ⟨b0, hb0, rfl⟩ := hx
  have hb0x := okBoxes_mem _ _ _ hr.bx b0 hb0
  obtain ⟨P, hP⟩ : ∃ P, P = sinP R b0.id f := ⟨_, rfl⟩
  obtain ⟨r, hr9⟩ : ∃ r, r = fstM P 0 R.months.toNat := ⟨_, rfl⟩
  have hin : ∀ m : Nat, (⟨b0.id, m⟩ : Pk) ∈ plcs R → P m = f (rng R R.mats ⟨b0.id, m⟩ zp) := fun m h => by
    classical
    rw [hP]; unfold sinP
    rw [decide_eq_true]
    · rfl
    · rcases mem_plcs h with h | ⟨b, h1, h2⟩
      · have : b0.id = 0 := congrArg Pk.box h
        omega
      · exact ⟨b, h1, h2.symm⟩
  have hout : ∀ m : Nat, (⟨b0.id, m⟩ : Pk) ∉ plcs R → P m = false := fun m h => by
    classical
    rw [hP]; unfold sinP
    rw [decide_eq_false]
    · rfl
    · rintro ⟨b, h1, h2⟩
      exact h (by rw [← h2]; exact plcs_mem h1)
  rw [← hP, ← hr9]
  clear hP
  refine Fc.mk (callable Try.call74) Try.func74 rfl Try.ntmps74 rfl ?_; dsimp only [fr]
  repeat' (first | (refine XO.op rfl ?_; (first | ((first | refine Xo.ng rfl ?_); (first | (refine Xg.ev (EvF.move rfl rfl) rfl rfl ?_) | (refine Xg.ev (EvF.assign rfl rfl) rfl rfl ?_) | (refine Xg.ev (EvF.fieldAddr rfl rfl (te rfl) rfl (te rfl) (by decide)) rfl rfl ?_) | (refine Xg.ev (EvF.loadV rfl rfl (LoadV.own (te rfl) rfl (List.Mem.head _) rfl)) rfl rfl ?_) | (refine Xg.st (StF.boxAgg rfl rfl) rfl rfl ?_; rintro _ _ ⟨bx, rfl, rfl⟩))))) | (refine XO.done rfl ?_; refine hK _ _ ?_; clear hK K) | refine X.seq rfl ?_ | refine X.region rfl (fun K hK => ?_) | refine X.block rfl ?_)
  refine X.lp rfl (fun q F' H' => ∃ (m : Nat), q = R.months.toNat - m ∧ (m : Int) ≤ R.months ∧ fstM P m (R.months.toNat - m) = r ∧ H' = ⟨bx, 0, cCt R p a c, some 96, 6⟩ :: H ∧ F' = [(1, .int .i64 b0.id), (2, .func (.func g) #[] cap.toArray), (3, .pointer (some ⟨bx, 0, none⟩)), (11, .int .i64 R.months), (12, .int .i64 m)])
    R.months.toNat [(1, .int .i64 b0.id), (2, .func (.func g) #[] cap.toArray), (3, .pointer (some ⟨bx, 0, none⟩)), (11, .int .i64 R.months), (12, .int .i64 (0 : Nat))] (⟨bx, 0, cCt R p a c, some 96, 6⟩ :: H) (by (repeat (first | exact Sub.nil _ | refine Sub.cons rfl ?_)); done) (List.Sublist.refl _) ⟨0, rfl, by omega, by rw [hr9]; rfl, rfl, rfl⟩ ?_
  rintro _ _ _ ⟨m, rfl, hm2, hfm, rfl, rfl⟩
  by_cases hlt : (m : Int) < R.months
  · by_cases hp : (⟨b0.id, m⟩ : Pk) ∈ plcs R
    · have hPm := hin m hp
      have hat := fun H' hH' => at_spec R p a c b0.id m H' hr hH'
      rw [show atZ R ⟨b0.id, m⟩ = ((pidx R ⟨b0.id, m⟩ : Nat) : Int) by unfold atZ; rw [if_pos hp]] at hat
      have hye := fun H' hC' => yellow_spec R p a c ⟨b0.id, m⟩ H' hr hm hC' hla hlm hpc hp hT
      obtain ⟨s, hs⟩ : ∃ s, s = rng R R.mats ⟨b0.id, m⟩ zp := ⟨_, rfl⟩
      rw [← hs] at hPm hye
      obtain ⟨w, hw⟩ : ∃ w, w = f s := ⟨_, rfl⟩
      have hfs := hf s
      rw [← hw] at hfs hPm
      cases w with
      | true =>
        repeat' (first | (refine XO.op rfl ?_; (first | ((first | refine Xo.ng rfl ?_ | (refine Xo.g rfl rfl ?_; with_reducible refine Xw.tt ?_)); (first | (refine Xg.ev (EvF.cmp (b := true) rfl rfl rfl (congrArg some (decide_eq_true (by omega)))) rfl rfl ?_) | (refine Xg.ev (EvF.loadV rfl rfl (LoadV.whole (T := 96) (cs := cCt R p a c) (te rfl) rfl (by repeat (first | exact List.Mem.head _ | apply List.Mem.tail)) rfl)) rfl rfl ?_) | (refine Xg.call (EnF.st rfl (Args.cons rfl (Args.cons rfl (Args.cons rfl Args.nil)))) rfl rfl (hat _ (hC.sub (fun _ h => by repeat (first | exact h | apply List.Mem.tail)))) ?_; rintro _ H9 ⟨rfl, hH9⟩; subst H9) | (refine Xg.ev (EvF.build (cs := cPk ⟨b0.id, m⟩) rfl (ArgsP.cons rfl (ArgsP.cons rfl ArgsP.nil)) (te rfl) (Places.cons (te rfl) (Places.cons (te rfl) Places.nil)) Try.zeroValue104 rfl) rfl rfl ?_) | (refine Xg.call (EnF.st rfl (Args.cons rfl (Args.cons rfl Args.nil))) rfl rfl (hye _ (hC.sub (fun _ h => by repeat (first | exact h | apply List.Mem.tail)))) ?_; rintro _ H9 ⟨rfl, hH9⟩; subst H9) | (refine Xg.call (EnF.dyn0 rfl rfl (by (repeat (first | exact Args.nil | refine Args.cons rfl ?_)); done)) rfl rfl (hfs _ (fun _ h => by repeat (first | exact h | apply List.Mem.tail))) ?_; rintro _ H9 ⟨rfl, hH9⟩; subst H9) | (refine Xg.ev (EvF.move rfl rfl) rfl rfl ?_) | (refine Xg.ev (EvF.assign rfl rfl) rfl rfl ?_) | (refine Xg.ev (EvF.pickT rfl rfl rfl) rfl rfl ?_))))) | (refine XO.done rfl ?_; refine hK _ _ ?_; clear hK K) | refine X.seq rfl ?_ | refine X.region rfl (fun K hK => ?_) | refine X.block rfl ?_ | refine X.skip rfl ?_ | refine X.ret rfl ?_ | (refine X.ite rfl rfl (fun hc => ?_); (first | (with_reducible refine Xb.t hc ?_)) <;> clear hc))
        all_goals try (exfalso; contradiction)
        refine ret_two (by first | exact .inr rfl | exact .inl rfl) Try.results74 rfl rfl (H' := H) (by (repeat (first | exact List.Sublist.refl _ | apply List.Sublist.cons_cons | apply List.Sublist.cons)); done) ⟨?_, rfl⟩
        rw [← hfm, fstM_hit hPm (by omega)]
        rfl
      | false =>
        repeat' (first | (refine XO.op rfl ?_; (first | ((first | refine Xo.ng rfl ?_ | (refine Xo.g rfl rfl ?_; with_reducible refine Xw.tt ?_)); (first | (refine Xg.ev (EvF.cmp (b := true) rfl rfl rfl (congrArg some (decide_eq_true (by omega)))) rfl rfl ?_) | (refine Xg.ev (EvF.loadV rfl rfl (LoadV.whole (T := 96) (cs := cCt R p a c) (te rfl) rfl (by repeat (first | exact List.Mem.head _ | apply List.Mem.tail)) rfl)) rfl rfl ?_) | (refine Xg.call (EnF.st rfl (Args.cons rfl (Args.cons rfl (Args.cons rfl Args.nil)))) rfl rfl (hat _ (hC.sub (fun _ h => by repeat (first | exact h | apply List.Mem.tail)))) ?_; rintro _ H9 ⟨rfl, hH9⟩; subst H9) | (refine Xg.ev (EvF.build (cs := cPk ⟨b0.id, m⟩) rfl (ArgsP.cons rfl (ArgsP.cons rfl ArgsP.nil)) (te rfl) (Places.cons (te rfl) (Places.cons (te rfl) Places.nil)) Try.zeroValue104 rfl) rfl rfl ?_) | (refine Xg.call (EnF.st rfl (Args.cons rfl (Args.cons rfl Args.nil))) rfl rfl (hye _ (hC.sub (fun _ h => by repeat (first | exact h | apply List.Mem.tail)))) ?_; rintro _ H9 ⟨rfl, hH9⟩; subst H9) | (refine Xg.call (EnF.dyn0 rfl rfl (by (repeat (first | exact Args.nil | refine Args.cons rfl ?_)); done)) rfl rfl (hfs _ (fun _ h => by repeat (first | exact h | apply List.Mem.tail))) ?_; rintro _ H9 ⟨rfl, hH9⟩; subst H9) | (refine Xg.ev (EvF.move rfl rfl) rfl rfl ?_) | (refine Xg.ev (EvF.assign rfl rfl) rfl rfl ?_) | (refine Xg.ev (EvF.pickT rfl rfl rfl) rfl rfl ?_) | (refine Xg.ev (EvF.add64 rfl rfl rfl (by omega) (by omega)) rfl rfl ?_))))) | (refine XO.done rfl ?_; refine hK _ _ ?_; clear hK K) | refine X.seq rfl ?_ | refine X.region rfl (fun K hK => ?_) | refine X.block rfl ?_ | refine X.skip rfl ?_ | (refine X.ite rfl rfl (fun hc => ?_); (first | (with_reducible refine Xb.t hc ?_) | (with_reducible refine Xb.f hc ?_)) <;> clear hc))
        all_goals try (exfalso; contradiction)
        have hno := fstM_no (n := R.months.toNat - m) hPm (by omega)
        rw [Nat.sub_sub] at hno
        exact ⟨_, _, ⟨bx, 0, cCt R p a c, some 96, 6⟩ :: H, (by (repeat (first | exact Sub.nil _ | refine Sub.cons rfl ?_)); done), (by (repeat (first | exact List.Sublist.refl _ | apply List.Sublist.cons_cons | apply List.Sublist.cons)); done), ⟨m + 1, rfl, by omega, by rw [← hfm, hno], rfl, rfl⟩, by omega⟩
    · have hPm := hout m hp
      have hat := fun H' hH' => at_spec R p a c b0.id m H' hr hH'
      rw [show atZ R ⟨b0.id, m⟩ = -1 by unfold atZ; rw [if_neg hp]] at hat
      repeat' (first | (refine XO.op rfl ?_; (first | ((first | refine Xo.ng rfl ?_); (first | (refine Xg.ev (EvF.cmp (b := true) rfl rfl rfl (congrArg some (decide_eq_true (by omega)))) rfl rfl ?_) | (refine Xg.ev (EvF.cmp (b := false) rfl rfl rfl (congrArg some (decide_eq_false (by omega)))) rfl rfl ?_) | (refine Xg.ev (EvF.loadV rfl rfl (LoadV.whole (T := 96) (cs := cCt R p a c) (te rfl) rfl (by repeat (first | exact List.Mem.head _ | apply List.Mem.tail)) rfl)) rfl rfl ?_) | (refine Xg.call (EnF.st rfl (Args.cons rfl (Args.cons rfl (Args.cons rfl Args.nil)))) rfl rfl (hat _ (hC.sub (fun _ h => by repeat (first | exact h | apply List.Mem.tail)))) ?_; rintro _ H9 ⟨rfl, hH9⟩; subst H9) | (refine Xg.ev (EvF.move rfl rfl) rfl rfl ?_) | (refine Xg.ev (EvF.assign rfl rfl) rfl rfl ?_) | (refine Xg.ev (EvF.pickF rfl rfl rfl) rfl rfl ?_) | (refine Xg.ev (EvF.add64 rfl rfl rfl (by omega) (by omega)) rfl rfl ?_))) | (refine Xo.g rfl rfl ?_; (first | (with_reducible refine Xw.ft rfl rfl ?_))))) | (refine XO.done rfl ?_; refine hK _ _ ?_; clear hK K) | refine X.seq rfl ?_ | refine X.region rfl (fun K hK => ?_) | refine X.block rfl ?_ | refine X.skip rfl ?_ | (refine X.ite rfl rfl (fun hc => ?_); (first | (with_reducible refine Xb.t hc ?_) | (with_reducible refine Xb.f hc ?_)) <;> clear hc))
      all_goals try (exfalso; contradiction)
      have hno := fstM_no (n := R.months.toNat - m) hPm (by omega)
      rw [Nat.sub_sub] at hno
      exact ⟨_, _, ⟨bx, 0, cCt R p a c, some 96, 6⟩ :: H, (by (repeat (first | exact Sub.nil _ | refine Sub.cons rfl ?_)); done), (by (repeat (first | exact List.Sublist.refl _ | apply List.Sublist.cons_cons | apply List.Sublist.cons)); done), ⟨m + 1, rfl, by omega, by rw [← hfm, hno], rfl, rfl⟩, by omega⟩
  · have e0 : R.months.toNat - m = 0 := by omega
    rw [e0] at hfm
    repeat' (first | (refine XO.op rfl ?_; (first | ((first | refine Xo.ng rfl ?_); (first | (refine Xg.ev (EvF.cmp (b := false) rfl rfl rfl (congrArg some (decide_eq_false (by omega)))) rfl rfl ?_) | (refine Xg.ev (EvF.assign rfl rfl) rfl rfl ?_))))) | (refine XO.done rfl ?_; refine hK _ _ ?_; clear hK K) | refine X.seq rfl ?_ | refine X.region rfl (fun K hK => ?_) | (refine X.brk rfl ?_; repeat (first | refine blockX_hit rfl ?_ | refine blockX_miss (by decide) ?_)) | refine X.ret rfl ?_ | (refine X.ite rfl rfl (fun hc => ?_); (first | (with_reducible refine Xb.f hc ?_)) <;> clear hc))
    all_goals try (exfalso; contradiction)
    refine ret_two (by first | exact .inr rfl | exact .inl rfl) Try.results74 rfl rfl (H' := H) (by (repeat (first | exact List.Sublist.refl _ | apply List.Sublist.cons_cons | apply List.Sublist.cons)); done) ⟨?_, rfl⟩
    rw [← hfm]
    rfl
end Go.Proofs.Ytblehgpfddmggaa
end
section
set_option linter.unusedVariables false
set_option linter.unusedSimpArgs false
namespace Go.Proofs.Ytblehgpfddmggaa
open Go Go.Fw
set_option maxRecDepth 10000
structure LtOk (L : Nat → List Int) (l : List Ent) (Z : List Row) : Prop where
  keys : keysM l
  len : l.length = Z.length
  at_ : ∀ (j : Nat) (e : Ent), l[j]? = some e → ∃ (k b q : Nat), e.1 = (k : Int) ∧ L k ≠ [] ∧ e.2.1 = .slice (some ⟨b, 0, none⟩) (L k).length q ∧ Z[j]? = some ⟨b, 0, (L k).flatMap cI, some 3, q * 1⟩
  all : ∀ k : Nat, L k ≠ [] → ∃ e ∈ l, e.1 = (k : Int)
theorem atM_none {l : List Ent} {k : Int} (h : ∀ e ∈ l, e.1 ≠ k) : atM l k = none := by
  unfold atM
  rw [List.find?_eq_none.2 (fun e he => by simpa using h e he)]
  rfl
theorem atM_some {l : List Ent} (hk : keysM l) {j : Nat} {e : Ent} (hj : l[j]? = some e) : atM l e.1 = some e.2.1 := by
  unfold atM
  cases hq : l.find? (fun x => x.1 == e.1) with
  | none =>
    have := List.find?_eq_none.1 hq e (List.mem_of_getElem? hj)
    simp at this
  | some x =>
    have h1 : x.1 = e.1 := by simpa using List.find?_some hq
    obtain ⟨i, hi⟩ := List.mem_iff_getElem?.1 (List.mem_of_find?_eq_some hq)
    have h2 := keys_inj hk hi hj h1
    subst h2
    rw [hi] at hj
    cases hj
    rfl
theorem LtOk.zero (L : Nat → List Int) (h : ∀ k, L k = []) : LtOk L [] [] := ⟨List.Pairwise.nil, rfl, fun j e he => by simp at he, fun k hk => absurd (h k) hk⟩
theorem LtOk.look {L : Nat → List Int} {l : List Ent} {Z : List Row} (h : LtOk L l Z) (k : Nat) : (L k = [] ∧ atM l k = none) ∨ ∃ j b q, L k ≠ [] ∧ l.any (fun e => e.1 == (k : Int)) = true ∧ j < Z.length ∧ (∃ e, l[j]? = some e ∧ e.1 = (k : Int)) ∧ atM l k = some (.slice (some ⟨b, 0, none⟩) (L k).length q) ∧ Z[j]? = some ⟨b, 0, (L k).flatMap cI, some 3, q * 1⟩ := by
  by_cases hk : L k = []
  · refine .inl ⟨hk, atM_none fun e he q => ?_⟩
    obtain ⟨j, hj⟩ := List.mem_iff_getElem?.1 he
    obtain ⟨k', b, q', e1, e2, _⟩ := h.at_ j e hj
    have : k' = k := by omega
    subst this
    exact e2 hk
  · obtain ⟨e, he, hek⟩ := h.all k hk
    obtain ⟨j, hj⟩ := List.mem_iff_getElem?.1 he
    obtain ⟨k', b, q, e1, e2, e3, e4⟩ := h.at_ j e hj
    have : k' = k := by omega
    subst this
    refine .inr ⟨j, b, q, hk, List.any_eq_true.2 ⟨e, he, by simpa using hek⟩, (List.getElem?_eq_some_iff.1 e4).1, ⟨e, hj, hek⟩, ?_, e4⟩
    rw [← hek, atM_some h.keys hj, e3]
theorem LtOk.new {L L' : Nat → List Int} {l : List Ent} {Z : List Row} (h : LtOk L l Z) {k : Nat} {x : Int} (hk : L k = []) (hL : ∀ i, L' i = if i = k then [x] else L i) (clock b q : Nat) :
    LtOk L' (insM l clock k (.slice (some ⟨b, 0, none⟩) 1 q)) (Z ++ [⟨b, 0, cI x, some 3, q * 1⟩]) := by
  have hno : ∀ e ∈ l, e.1 ≠ (k : Int) := fun e he e' => by
    obtain ⟨j, hj⟩ := List.mem_iff_getElem?.1 he
    obtain ⟨k', b, q, e1, e2, _⟩ := h.at_ j e hj
    have : k' = k := by omega
    subst this
    exact e2 hk
  have hany : l.any (fun e => e.1 == (k : Int)) = false := Bool.eq_false_iff.2 (fun q => by
    obtain ⟨e, he, h2⟩ := List.any_eq_true.1 q
    exact hno e he (by simpa using h2))
  have hi : insM l clock k (.slice (some ⟨b, 0, none⟩) 1 q) = l ++ [((k : Int), .slice (some ⟨b, 0, none⟩) 1 q, clock)] := by
    unfold insM; rw [hany]; rfl
  rw [hi]
  refine ⟨?_, by rw [List.length_append, List.length_append, h.len]; rfl, fun j e he => ?_, fun i hi => ?_⟩
  · unfold keysM
    rw [List.map_append, List.nodup_append]
    refine ⟨h.keys, List.nodup_cons.2 ⟨List.not_mem_nil, List.Pairwise.nil⟩, fun a ha c hc => ?_⟩
    obtain ⟨e, he, rfl⟩ := List.mem_map.1 ha
    have : c = (k : Int) := by simpa using hc
    rw [this]
    exact hno e he
  · by_cases hj : j < l.length
    · rw [List.getElem?_append_left hj] at he
      obtain ⟨k', b', q', e1, e2, e3, e4⟩ := h.at_ j e he
      have hne : k' ≠ k := fun e' => e2 (by rw [e']; exact hk)
      refine ⟨k', b', q', e1, by rw [hL, if_neg hne]; exact e2, by rw [hL, if_neg hne]; exact e3, ?_⟩
      rw [List.getElem?_append_left (by rw [← h.len]; exact hj), hL, if_neg hne]
      exact e4
    · rw [List.getElem?_append_right (by omega)] at he
      have hj0 : j - l.length = 0 := by
        have := (List.getElem?_eq_some_iff.1 he).1
        simp at this; omega
      rw [hj0] at he
      simp at he
      subst he
      refine ⟨k, b, q, rfl, by rw [hL, if_pos rfl]; simp, by rw [hL, if_pos rfl]; rfl, ?_⟩
      rw [List.getElem?_append_right (by rw [← h.len]; omega), ← h.len, hj0, hL, if_pos rfl]
      rfl
  · by_cases e : i = k
    · exact ⟨_, List.mem_append_right _ (List.mem_singleton.2 rfl), by rw [e]⟩
    · rw [hL, if_neg e] at hi
      obtain ⟨x, hx, he⟩ := h.all i hi
      exact ⟨x, List.mem_append_left _ hx, he⟩
theorem LtOk.set {L L' : Nat → List Int} {l : List Ent} {Z : List Row} (h : LtOk L l Z) {k j : Nat} {x : Int} {e : Ent} (hj : l[j]? = some e) (hek : e.1 = (k : Int)) (hany : l.any (fun e => e.1 == (k : Int)) = true) (hL : ∀ i, L' i = if i = k then L k ++ [x] else L i) (clock b q : Nat) :
    LtOk L' (insM l clock k (.slice (some ⟨b, 0, none⟩) ((L k).length + 1) q)) (Z.set j ⟨b, 0, (L k ++ [x]).flatMap cI, some 3, q * 1⟩) := by
  have hi : insM l clock k (.slice (some ⟨b, 0, none⟩) ((L k).length + 1) q) = l.map (fun e => if e.1 = (k : Int) then (e.1, .slice (some ⟨b, 0, none⟩) ((L k).length + 1) q, e.2.2) else e) := by
    unfold insM; rw [hany]; rfl
  rw [hi]
  have hjl : j < Z.length := by rw [← h.len]; exact (List.getElem?_eq_some_iff.1 hj).1
  refine ⟨?_, by rw [List.length_map, List.length_set, h.len], fun i e' he => ?_, fun i hi => ?_⟩
  · unfold keysM
    rw [List.map_map]
    have : (fun e : Ent => e.1) ∘ (fun e : Ent => if e.1 = (k : Int) then (e.1, Value.slice (some ⟨b, 0, none⟩) ((L k).length + 1) q, e.2.2) else e) = (fun e => e.1) := by
      funext e
      simp only [Function.comp]
      split <;> rfl
    rw [this]
    exact h.keys
  · rw [List.getElem?_map] at he
    obtain ⟨e0, h0, rfl⟩ := Option.map_eq_some_iff.1 he
    obtain ⟨k', b', q', e1, e2, e3, e4⟩ := h.at_ i e0 h0
    by_cases hk : e0.1 = (k : Int)
    · have hij := keys_inj h.keys h0 hj (hk.trans hek.symm)
      subst hij
      rw [if_pos hk]
      refine ⟨k, b, q, hk, by rw [hL, if_pos rfl]; simp, by rw [hL, if_pos rfl, List.length_append]; rfl, ?_⟩
      rw [List.getElem?_set_self hjl, hL, if_pos rfl]
    · rw [if_neg hk]
      have hne : k' ≠ k := fun e' => hk (by rw [e1, e'])
      have hij : j ≠ i := fun e' => hk (by rw [e'] at hj; rw [hj] at h0; cases h0; exact hek)
      refine ⟨k', b', q', e1, by rw [hL, if_neg hne]; exact e2, by rw [hL, if_neg hne]; exact e3, ?_⟩
      rw [List.getElem?_set_ne hij, hL, if_neg hne]
      exact e4
  · by_cases e9 : i = k
    · refine ⟨_, List.mem_map.2 ⟨e, List.mem_of_getElem? hj, rfl⟩, ?_⟩
      rw [if_pos hek, e9]
      exact hek
    · rw [hL, if_neg e9] at hi
      obtain ⟨x, hx, he⟩ := h.all i hi
      refine ⟨_, List.mem_map.2 ⟨x, hx, rfl⟩, ?_⟩
      split <;> exact he
theorem lateL_snoc {R : Rm} {n : Int} {l : List Bx} {i : Nat} {e : Bx} (he : l[i]? = some e) (k : Nat) : lateL R n (l.take (i + 1)) k = lateL R n (l.take i) k ++ (if fstM (sinP R e.id (dueP n)) 0 R.months.toNat = some k then [e.id] else []) := by
  unfold lateL
  rw [take_snoc he, List.filter_append, List.map_append]
  by_cases h : fstM (sinP R e.id (dueP n)) 0 R.months.toNat = some k
  · rw [if_pos h, List.filter_cons_of_pos (by simpa using h)]; rfl
  · rw [if_neg h, List.filter_cons_of_neg (by simpa using h)]; rfl
theorem lateL_len (R : Rm) (n : Int) (l : List Bx) (k : Nat) : (lateL R n l k).length ≤ l.length := by
  unfold lateL
  rw [List.length_map]
  exact List.length_filter_le _ _
theorem set_perm {α : Type} : ∀ (l : List α) (j : Nat) (a : α), j < l.length → (l.set j a).Perm (a :: l.eraseIdx j)
  | [], j, a, h => absurd h (Nat.not_lt_zero _)
  | b :: l, 0, a, _ => List.Perm.refl _
  | b :: l, j + 1, a, h => ((set_perm l j a (by simpa using h)).cons b).trans (List.Perm.swap _ _ _)
theorem get_perm {α : Type} : ∀ (l : List α) (j : Nat) (a : α), l[j]? = some a → l.Perm (a :: l.eraseIdx j)
  | [], j, a, h => by simp at h
  | b :: l, 0, a, h => by simp at h; subst h; exact List.Perm.refl _
  | b :: l, j + 1, a, h => by
    simp at h
    exact ((get_perm l j a h).cons b).trans (List.Perm.swap _ _ _)
end Go.Proofs.Ytblehgpfddmggaa
end
