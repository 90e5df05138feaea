/- Own work: contracts of functions, from rows of what is known of the memory; contracts of functions, from rows of what is known of the memory; contracts of functions, from rows of what is known of the memory; contracts of functions, from rows of what is known of the memory; The reference: differ.; contracts of functions, from rows of what is known of the memory; contracts of functions, from rows of what is known of the memory; contracts of functions, from rows of what is known of the memory; contracts of functions, from rows of what is known of the memory; contracts of functions, from rows of what is known of the memory; contracts of functions, from rows of what is known of the memory; contracts of functions, from rows of what is known of the memory; The law BoxTells returns true from whatever memory -/
import Derived.Test.YtblehgpfddmggaaW05
section
set_option linter.unusedVariables false
set_option linter.unusedSimpArgs false
namespace Go.Proofs.Ytblehgpfddmggaa
open Go Go.Fw
set_option maxRecDepth 10000
theorem inj2 : ∀ (a b m n : Nat), 2 ^ a * (2 * m + 1) = 2 ^ b * (2 * n + 1) → a = b ∧ m = n
  | 0, 0, m, n, h => by simp only [Nat.pow_zero, Nat.one_mul] at h; exact ⟨rfl, by omega⟩
  | 0, b + 1, m, n, h => by
    rw [Nat.pow_succ, Nat.mul_comm (2 ^ b) 2, Nat.mul_assoc] at h
    simp only [Nat.pow_zero, Nat.one_mul] at h
    omega
  | a + 1, 0, m, n, h => by
    rw [Nat.pow_succ, Nat.mul_comm (2 ^ a) 2, Nat.mul_assoc] at h
    simp only [Nat.pow_zero, Nat.one_mul] at h
    omega
  | a + 1, b + 1, m, n, h => by
    rw [Nat.pow_succ, Nat.mul_comm (2 ^ a) 2, Nat.mul_assoc, Nat.pow_succ, Nat.mul_comm (2 ^ b) 2, Nat.mul_assoc] at h
    obtain ⟨h1, h2⟩ := inj2 a b m n (by omega)
    exact ⟨by omega, h2⟩
def eI (i : Int) : Nat := if 0 ≤ i then 2 * i.toNat else 2 * (-i).toNat + 1
theorem eI_inj {i j : Int} (h : eI i = eI j) : i = j := by unfold eI at h; split at h <;> split at h <;> omega
def eSp (s : Sp) : Nat := 2 ^ eI s.lo * (2 * eI s.hi + 1)
theorem eSp_inj {s t : Sp} (h : eSp s = eSp t) : s = t := by
  obtain ⟨h1, h2⟩ := inj2 _ _ _ _ h
  cases s; cases t
  have := eI_inj h1
  have := eI_inj h2
  simp_all
def eLs : List Sp → Nat
  | [] => 0
  | s :: l => 2 ^ eSp s * (2 * eLs l + 1)
theorem eLs_inj : ∀ (l r : List Sp), eLs l = eLs r → l = r
  | [], [], _ => rfl
  | [], s :: r, h => by
    have : 0 < 2 ^ eSp s := Nat.pow_pos (by omega)
    have : 0 < 2 ^ eSp s * (2 * eLs r + 1) := Nat.mul_pos this (by omega)
    unfold eLs at h; omega
  | s :: l, [], h => by
    have : 0 < 2 ^ eSp s := Nat.pow_pos (by omega)
    have : 0 < 2 ^ eSp s * (2 * eLs l + 1) := Nat.mul_pos this (by omega)
    unfold eLs at h; omega
  | s :: l, t :: r, h => by
    obtain ⟨h1, h2⟩ := inj2 _ _ _ _ h
    rw [eSp_inj h1, eLs_inj l r h2]
theorem drawn {α : Type} (e : α → Nat) (inj : ∀ a b, e a = e b → a = b) (Φ : α → Prop) (h : ∃ a, Φ a) : ∃ d : Nat → α, (∀ n, Φ (d n)) ∧ ∀ a, Φ a → ∃ n, d n = a := by
  classical
  obtain ⟨a0, h0⟩ := h
  refine ⟨fun n => if q : ∃ a, Φ a ∧ e a = n then q.choose else a0, fun n => ?_, fun a ha => ⟨e a, ?_⟩⟩
  · dsimp only
    split
    · rename_i q; exact q.choose_spec.1
    · exact h0
  · have q : ∃ b, Φ b ∧ e b = e a := ⟨a, ha, rfl⟩
    dsimp only
    rw [dif_pos q]
    exact inj _ _ q.choose_spec.2
open Classical in
noncomputable def chartOf (R : Rm) (f : Bx → Int → Sp) : List Sp := (List.range 48).map (fun k => if h : ∃ q : Bx × Int, there R q.1 q.2 ∧ cel R ⟨q.1.id, q.2⟩ = k then f h.choose.1 h.choose.2 else ⟨0, 0⟩)
theorem chartOf_len (R : Rm) (f : Bx → Int → Sp) : (chartOf R f).length = 48 := by unfold chartOf; simp
theorem chartOf_get {R : Rm} {f : Bx → Int → Sp} {k : Nat} (h : k < 48) : ∃ s, sat (chartOf R f) k = s ∧ ((∃ b m, there R b m ∧ cel R ⟨b.id, m⟩ = k ∧ s = f b m) ∨ s = ⟨0, 0⟩) := by
  refine ⟨_, rfl, ?_⟩
  unfold sat chartOf
  rw [List.getD_eq_getElem?_getD, List.getElem?_map, List.getElem?_range h]
  simp only [Option.map_some, Option.getD_some]
  split
  · rename_i q; exact .inl ⟨_, _, q.choose_spec.1, q.choose_spec.2, rfl⟩
  · exact .inr rfl
theorem chartOf_at {R : Rm} (hr : okRm R) {f : Bx → Int → Sp} {b : Bx} {m : Int} (ht : there R b m) : sat (chartOf R f) (cel R ⟨b.id, m⟩) = f b m := by
  unfold sat chartOf
  rw [List.getD_eq_getElem?_getD, List.getElem?_map, List.getElem?_range (cel_lt hr ht)]
  simp only [Option.map_some, Option.getD_some]
  have q : ∃ q : Bx × Int, there R q.1 q.2 ∧ cel R ⟨q.1.id, q.2⟩ = cel R ⟨b.id, m⟩ := ⟨(b, m), ht, rfl⟩
  rw [dif_pos q]
  obtain ⟨h1, h2⟩ := cel_inj hr q.choose_spec.1 ht q.choose_spec.2
  rw [h1, h2]
theorem chartOf_ok {R : Rm} {f : Bx → Int → Sp} (h : ∀ b m, there R b m → 0 ≤ (f b m).lo ∧ (f b m).lo ≤ (f b m).hi ∧ (f b m).hi ≤ 60) (k : Nat) : 0 ≤ (sat (chartOf R f) k).lo ∧ (sat (chartOf R f) k).lo ≤ (sat (chartOf R f) k).hi ∧ (sat (chartOf R f) k).hi ≤ 60 := by
  by_cases hk : k < 48
  · obtain ⟨s, h1, h2⟩ := chartOf_get (R := R) (f := f) hk
    rw [h1]
    rcases h2 with ⟨b, m, ht, _, rfl⟩ | rfl
    · exact h b m ht
    · exact ⟨by decide, by decide, by decide⟩
  · have : sat (chartOf R f) k = ⟨0, 0⟩ := by
      unfold sat
      rw [List.getD_eq_getElem?_getD, List.getElem?_eq_none (by rw [chartOf_len]; omega)]
      rfl
    rw [this]
    exact ⟨by decide, by decide, by decide⟩
theorem first_ex {R : Rm} (hr : okRm R) : ∃ l, FirstC R l := ⟨chartOf R (fun b m => R.ages.getD (m - b.made).toNat ⟨0, 0⟩), chartOf_len _ _, fun b m ht => chartOf_at hr ht, chartOf_ok (fun b m ht => hr.age ht)⟩
/-- what is known by all matches -/
structure Fd (R : Rm) (x : List Sp × Bool) : Prop where
  len : x.1.length = 48
  yes : x.2 = true → hasT R R.mats ∧ GoodC R R.mats x.1 ∧ ∀ b m, there R b m → ExR R R.mats ⟨b.id, m⟩ zp (sat x.1 (cel R ⟨b.id, m⟩))
  no : x.2 = false → ¬ hasT R R.mats
theorem ex_mem {R : Rm} (hr : okRm R) (hm : matsThere R R.mats) (hT : hasT R R.mats) {a b : Pk} (ha : a ∈ plcs R) (hb : b ∈ plcs R) : ExR R R.mats a b (rng R R.mats a b) := by
  obtain ⟨tx, htx⟩ := (hasT_iff hr hm (pidx_lt ha)).1 hT
  obtain ⟨ty, hty⟩ := (hasT_iff hr hm (pidx_lt hb)).1 hT
  exact (most_rng hr ha hb (most_some hr hm (pidx_lt hb) hty) (most_some hr hm (pidx_lt ha) htx)).rng
theorem fd_ex {R : Rm} (hr : okRm R) (hm : matsThere R R.mats) : ∃ x, Fd R x := by
  by_cases hT : hasT R R.mats
  · have hx : ∀ b m, there R b m → ExR R R.mats ⟨b.id, m⟩ zp (rng R R.mats ⟨b.id, m⟩ zp) := fun b m ht => ex_mem hr hm hT (plcs_mem ht) (zp_mem R)
    have hx2 : ∀ b m, there R b m → (R.ages.getD (m - b.made).toNat ⟨0, 0⟩).lo ≤ (rng R R.mats ⟨b.id, m⟩ zp).lo ∧ (rng R R.mats ⟨b.id, m⟩ zp).hi ≤ (R.ages.getD (m - b.made).toNat ⟨0, 0⟩).hi ∧ (rng R R.mats ⟨b.id, m⟩ zp).lo ≤ (rng R R.mats ⟨b.id, m⟩ zp).hi := fun b m ht => by
      obtain ⟨z1, t1, e1⟩ := (hx b m ht).lo
      obtain ⟨z2, t2, e2⟩ := (hx b m ht).hi
      have a1 := t1.age b m ht
      have a2 := t2.age b m ht
      have a3 := (hx b m ht).all z2 t2
      rw [t1.zero] at e1
      rw [t2.zero] at e2 a3
      omega
    obtain ⟨l, hl, hat, hok⟩ : ∃ l : List Sp, l.length = 48 ∧ (∀ b m, there R b m → sat l (cel R ⟨b.id, m⟩) = rng R R.mats ⟨b.id, m⟩ zp) ∧ ∀ k, 0 ≤ (sat l k).lo ∧ (sat l k).lo ≤ (sat l k).hi ∧ (sat l k).hi ≤ 60 :=
      ⟨chartOf R (fun b m => rng R R.mats ⟨b.id, m⟩ zp), chartOf_len _ _, fun b m ht => chartOf_at hr ht, chartOf_ok (fun b m ht => by
        have h1 := hx2 b m ht
        have h2 := hr.age ht
        omega)⟩
    refine ⟨(l, true), hl, fun _ => ⟨hT, ⟨hl, fun b m ht => ?_, fun z hz b m ht => ?_, hok⟩, fun b m ht => ?_⟩, fun h => by cases h⟩
    · show _ ≤ (sat l _).lo ∧ (sat l _).hi ≤ _ ∧ (sat l _).lo ≤ (sat l _).hi
      rw [hat b m ht]; exact hx2 b m ht
    · show holds (sat l _) _
      rw [hat b m ht]
      have := (hx b m ht).all z hz
      rw [hz.zero] at this
      unfold holds
      omega
    · show ExR R R.mats _ zp (sat l _)
      rw [hat b m ht]; exact hx b m ht
  · exact ⟨(List.replicate 48 ⟨0, 0⟩, false), by simp, (fun h => by cases h), fun _ => hT⟩
theorem Fd.yes_of {R : Rm} {c l : List Sp} (hr : okRm R) (hm : matsThere R R.mats) (hf : FirstC R c) (h : ClosedT R R.mats c l) : Fd R (l, true) :=
  ⟨h.len, fun _ => ⟨⟨_, h.fix.zlo hr hm (h.ages (hf.ages hr))⟩, h.good (hf.good hr), fun b m ht => h.ex hr hm (hf.ages hr) hf.inn ht⟩, fun h => by cases h⟩
theorem Fd.no_of {R : Rm} {c l : List Sp} (hf : FirstC R c) (hl : l.length = 48) (h : ∀ z, Tru R R.mats z → ¬ Inn R c z) : Fd R (l, false) :=
  ⟨hl, (fun h => by cases h), fun _ ⟨z, hz⟩ => h z hz (hf.inn z hz)⟩
def eX (x : List Sp × Bool) : Nat := 2 * eLs x.1 + (if x.2 then 1 else 0)
theorem eX_inj (a b : List Sp × Bool) (h : eX a = eX b) : a = b := by
  obtain ⟨a, p⟩ := a
  obtain ⟨b, q⟩ := b
  unfold eX at h
  dsimp only at h
  have h1 : p = q := by cases p <;> cases q <;> simp_all <;> omega
  subst h1
  rw [eLs_inj a b (by omega)]
end Go.Proofs.Ytblehgpfddmggaa
end
section
set_option linter.unusedVariables false
set_option linter.unusedSimpArgs false
namespace Go.Proofs.Ytblehgpfddmggaa
open Go Go.Fw
set_option maxRecDepth 10000
theorem Fd.dec {R : Rm} {x : List Sp × Bool} (h : Fd R x) : x.2 = decide (hasT R R.mats) := by
  by_cases q : hasT R R.mats
  · rw [decide_eq_true q]
    cases e : x.2
    · exact absurd q (h.no e)
    · rfl
  · rw [decide_eq_false q]
    cases e : x.2
    · rfl
    · exact absurd (h.yes e).1 q
theorem Fd.len96 {R : Rm} {x : List Sp × Bool} (h : Fd R x) : (x.1.flatMap cSp).length = 96 := by rw [sp_len, h.len]
def tsFo : List TOp := [⟨some 4, [], [], []⟩, ⟨some 5, [], [], []⟩, ⟨some 6, [1], [1], []⟩, ⟨some 7, [], [], []⟩, ⟨some 8, [3], [3], []⟩, ⟨some 9, [0, 1, 2, 3, 4], [0, 2, 4], []⟩, ⟨some 10, [0, 1, 2, 3, 4, 5], [5], []⟩, ⟨some 11, [0, 1, 2, 3, 4, 5], [5], []⟩, ⟨none, [0, 1, 2, 3, 4, 5, 6, 7], [6], [10]⟩, ⟨some 3, [0, 1, 2, 3, 4, 5, 6, 7, 8], [7], []⟩, ⟨none, [], [], []⟩]
def valFo (b1 b2 : Nat) (R : Rm) (p : Pl) (dc : Nat → List Sp) (dx : Nat → List Sp × Bool) (k : Nat) (env : Env) : Value :=
  match k with
  | 0 => .agg (cRm R p).toArray
  | 1 => .pointer (some ⟨b1, 4, none⟩)
  | 2 => .slice p.a3 R.mats.length p.c3
  | 3 => .agg (cRm R p).toArray
  | 4 => .agg ((dc (env 4).1).flatMap cSp).toArray
  | 5 => .tuple #[.agg ((dx (env 5).1).1.flatMap cSp).toArray, .bool (dx (env 5).1).2]
  | 6 => .agg ((dx (env 5).1).1.flatMap cSp).toArray
  | 7 => .bool ((dx (env 5).1).2)
  | 8 => undef
  | 9 => .bool ((dx (env 5).1).2)
  | _ => undef
def rowsFo (b1 b2 : Nat) (R : Rm) (p : Pl) (dc : Nat → List Sp) (dx : Nat → List Sp × Bool) (k : Nat) (env : Env) : List Row :=
  match k with
  | 8 => [⟨b2, 0, (dx (env 5).1).1.flatMap cSp, some 107, 96⟩]
  | 10 => [⟨b2, 0, zRc.flatMap cSp, some 107, 96⟩]
  | _ => []
theorem locFo (b1 b2 : Nat) (R : Rm) (p : Pl) (dc : Nat → List Sp) (dx : Nat → List Sp × Bool) : ∀ k env i q9, i ≠ k → (tAt tsFo k).sup.contains i = false → valFo b1 b2 R p dc dx k (upd env i q9) = valFo b1 b2 R p dc dx k env ∧ rowsFo b1 b2 R p dc dx k (upd env i q9) = rowsFo b1 b2 R p dc dx k env := by
  intro k env i q hk hs
  have hu : ∀ j, j ≠ i → upd env i q j = env j := fun j hj => by unfold upd; rw [if_neg hj]
  match k, hk, hs with
  | 0, _, _ => exact ⟨rfl, rfl⟩
  | 1, _, _ => exact ⟨rfl, rfl⟩
  | 2, _, _ => exact ⟨rfl, rfl⟩
  | 3, _, _ => exact ⟨rfl, rfl⟩
  | 4, hk, hs => exact ⟨by simp only [valFo, hu 4 (fun e => hk e.symm)], by simp only [rowsFo, hu 4 (fun e => hk e.symm)]⟩
  | 5, hk, hs => exact ⟨by simp only [valFo, hu 5 (fun e => hk e.symm)], by simp only [rowsFo, hu 5 (fun e => hk e.symm)]⟩
  | 6, hk, hs => exact ⟨by simp only [valFo, hu 5 (by rintro rfl; cases hs)], by simp only [rowsFo, hu 5 (by rintro rfl; cases hs)]⟩
  | 7, hk, hs => exact ⟨by simp only [valFo, hu 5 (by rintro rfl; cases hs)], by simp only [rowsFo, hu 5 (by rintro rfl; cases hs)]⟩
  | 8, hk, hs => exact ⟨by simp only [valFo, hu 5 (by rintro rfl; cases hs)], by simp only [rowsFo, hu 5 (by rintro rfl; cases hs)]⟩
  | 9, hk, hs => exact ⟨by simp only [valFo, hu 5 (by rintro rfl; cases hs)], by simp only [rowsFo, hu 5 (by rintro rfl; cases hs)]⟩
  | 10, _, _ => exact ⟨rfl, rfl⟩
  | _ + 11, _, _ => exact ⟨rfl, rfl⟩
set_option maxHeartbeats 4000000 in
theorem found_spec (R : Rm) (p : Pl) (H : List Row) (hr : okRm R) (hm : matsThere R R.mats) (hlm : R.mats.length ≤ 100) (hR : RmOk H R p) :
    Fc Try.prog 76 [.agg (cRm R p).toArray] H (fun v H' => ∃ x, Fd R x ∧ v = .tuple #[.agg (x.1.flatMap cSp).toArray, .bool x.2] ∧ H' = H) := by
  obtain ⟨dc, hdc1, hdc2⟩ := drawn eLs eLs_inj (FirstC R) (first_ex hr)
  obtain ⟨dx, hdx1, hdx2⟩ := drawn eX eX_inj (Fd R) (fd_ex hr hm)
  have hl96 : ∀ n, ((dx n).1.flatMap cSp).length = 96 := fun n => by rw [sp_len, (hdx1 n).len]
  have hfs : ∀ S, RmOk S R p → Fc Try.prog 121 [.agg (cRm R p).toArray] S (fun v H' => ∃ n, v = .agg ((dc n).flatMap cSp).toArray ∧ H' = S) := fun S hS => (first_spec R p S hr hS).mono fun v H' ⟨l, hl, hv, hH⟩ => by
    obtain ⟨n, hn⟩ := hdc2 l hl
    exact ⟨n, by rw [hn]; exact hv, hH⟩
  have hcs : ∀ n S, RmOk S R p → Fc Try.prog 84 [.agg (cRm R p).toArray, .slice p.a3 R.mats.length p.c3, .agg ((dc n).flatMap cSp).toArray] S (fun v H' => ∃ n, v = .tuple #[.agg ((dx n).1.flatMap cSp).toArray, .bool (dx n).2] ∧ H' = S) := fun n S hS => (closed_spec R p R.mats p.a3 p.c3 (dc n) S hr hS hS.mats hlm hm (hdc1 _).len (hdc1 _).ok).mono fun v H' ⟨l, hH, h⟩ => by
    have hq : ∃ x, Fd R x ∧ v = .tuple #[.agg (x.1.flatMap cSp).toArray, .bool x.2] := by
      rcases h with ⟨h1, hv⟩ | ⟨h1, h2, hv⟩
      · exact ⟨(l, true), Fd.yes_of hr hm (hdc1 _) h1, hv⟩
      · exact ⟨(l, false), Fd.no_of (hdc1 _) h1 h2, hv⟩
    obtain ⟨x, hx, hv⟩ := hq
    obtain ⟨n, hn⟩ := hdx2 x hx
    exact ⟨n, by rw [hn]; exact hv, hH⟩
  refine Fc.mk (callable Try.call76) Try.func76 rfl Try.ntmps76 rfl ?_; dsimp only [fr]
  repeat' (first | (refine XO.op rfl ?_; (first | ((first | refine Xo.ng rfl ?_); (first | (refine Xg.ev (EvF.assign rfl rfl) rfl rfl ?_) | (refine Xg.st (StF.boxAgg rfl rfl) rfl rfl ?_; rintro _ _ ⟨bx, rfl, rfl⟩) | (refine Xg.st (StF.alloc rfl Try.zeroValue107 rfl) rfl rfl ?_; rintro _ _ ⟨bx, rfl, rfl⟩))))) | (refine XO.done rfl ?_; refine hK _ _ ?_; clear hK K) | refine X.seq rfl ?_ | refine X.region rfl (fun K hK => ?_))
  rename_i b1
  generalize bx = b2
  have hRs : ∀ S : List Row, (∀ r ∈ ⟨b1, 0, cRm R p, some 26, 5⟩ :: H, r ∈ S) → RmOk S R p := fun S hS => hR.sub (fun r h => hS r (List.mem_cons_of_mem _ h))
  refine X.regionOb tsFo [1, 2] [(1, .pointer (some ⟨b1, 0, none⟩)), (2, .pointer (some ⟨b2, 0, none⟩))] (valFo b1 b2 R p dc dx) (rowsFo b1 b2 R p dc dx) (fun _ => (0, 0)) (⟨b1, 0, cRm R p, some 26, 5⟩ :: H) rfl mixed (by (repeat (first | exact Sub.nil _ | refine Sub.cons rfl ?_)); done) rfl (by kernel_rfl) (locFo b1 b2 R p dc dx) (List.Sublist.refl _) ?_ ?_
  · repeat' (first | exact AllF.done rfl | (refine AllF.step rfl ?_ ?_; · (first | fail | ((first | refine Ob.ng rfl ?_); (first | exact ObK.pure (fun env R hR => by exact ⟨_, EvF.assign rfl rfl, rfl⟩) rfl (fun _ => rfl) | exact ObK.pure (fun env R hR => by exact ⟨_, EvF.fieldAddr rfl rfl (te rfl) rfl (te rfl) (by decide), rfl⟩) rfl (fun _ => rfl) | exact ObK.pure (fun env R hR => by exact ⟨_, EvF.loadV rfl rfl (LoadV.own (te rfl) rfl (hR _ (List.Mem.head _)) rfl), rfl⟩) rfl (fun _ => rfl) | exact ObK.pure (fun env R hR => by exact ⟨_, EvF.loadV rfl rfl (LoadV.whole (te rfl) rfl (hR _ (List.Mem.head _)) rfl), rfl⟩) rfl (fun _ => rfl) | (exact fun env S hS => (OpF.call (EnF.st rfl (Args.cons rfl Args.nil)) (hfs S (hRs S hS))).mono (fun v H' ⟨n, hv, hH⟩ => ⟨(n, 0), fun _ => hv, by rw [hH]; exact List.Perm.refl _⟩)) | (exact fun env S hS => (OpF.call (EnF.st rfl (Args.cons rfl (Args.cons rfl (Args.cons rfl Args.nil)))) (hcs (env 4).1 S (hRs S hS))).mono (fun v H' ⟨n, hv, hH⟩ => ⟨(n, 0), fun _ => hv, by rw [hH]; exact List.Perm.refl _⟩)) | (exact fun env S hS => (StF.storeAll (i := 0) (vs := (dx (env 5).1).1.flatMap cSp) (cs := zRc.flatMap cSp) rfl rfl rfl (te rfl) rfl (hl96 _) (sp_one _) (by rw [hl96, sp_len]; rfl)).op.mono (fun v H' ⟨hv, hH⟩ => ⟨(0, 0), fun h => absurd rfl h, by rw [hH]; exact List.Perm.refl _⟩)) | (exact ObK.pure (fun env S hS => ⟨_, EvF.extract rfl rfl rfl, rfl⟩) rfl (fun _ => rfl)))))))
  intro env t ha2 hv; refine ⟨_, ha2.cons (hv 9 3 (Nat.le_of_ble_eq_true rfl) rfl), ?_⟩; clear hv ha2
  show X _ _ _ [(3, .bool (dx (env 5).1).2), (1, .pointer (some ⟨b1, 0, none⟩)), (2, .pointer (some ⟨b2, 0, none⟩))] (⟨b2, 0, (dx (env 5).1).1.flatMap cSp, some 107, 96⟩ :: ⟨b1, 0, cRm R p, some 26, 5⟩ :: H) _
  have hx := hdx1 (env 5).1
  have hl := hl96 (env 5).1
  generalize dx (env 5).1 = x at hx hl
  clear env
  repeat' (first | refine X.ret rfl ?_)
  exact ret_two (v := .agg (x.1.flatMap cSp).toArray) (by first | exact .inr rfl | exact .inl rfl) Try.results76 ⟨_, rfl, LoadV.whole (te rfl) rfl (List.Mem.head _) hl⟩ rfl (H' := H) (by (repeat (first | exact List.Sublist.refl _ | apply List.Sublist.cons_cons | apply List.Sublist.cons)); done) ⟨x, hx, rfl, rfl⟩
theorem true_spec (R : Rm) (p : Pl) (H : List Row) (hr : okRm R) (hm : matsThere R R.mats) (hlm : R.mats.length ≤ 100) (hR : RmOk H R p) :
    Fc Try.prog 58 [.agg (cRm R p).toArray] H (fun v H' => v = .bool (decide (hasT R R.mats)) ∧ H' = H) := by
  refine Fc.mk (callable Try.call58) Try.func58 rfl Try.ntmps58 rfl ?_; dsimp only [fr]
  repeat' (first | (refine XO.op rfl ?_; (first | ((first | refine Xo.ng rfl ?_); (first | (refine Xg.ev (EvF.loadV rfl rfl (LoadV.whole (te rfl) rfl (List.Mem.head _) rfl)) rfl rfl ?_) | (refine Xg.call (EnF.st rfl (by (repeat (first | exact Args.nil | refine Args.cons rfl ?_)); done)) rfl rfl (found_spec R p _ hr hm hlm (hR.sub (fun _ h => by repeat (first | exact h | apply List.Mem.tail)))) ?_; rintro _ _ ⟨x, hx, rfl, rfl⟩) | (refine Xg.ev (EvF.extract rfl rfl rfl) rfl rfl ?_) | (refine Xg.st0 (StF.storeAll (i := 0) (vs := x.1.flatMap cSp) (cs := zRc.flatMap cSp) rfl rfl rfl (te rfl) rfl hx.len96 (sp_one _) (by rw [hx.len96, sp_len]; rfl)) rfl ?_; rintro _ _ ⟨rfl, rfl⟩; dsimp only [List.set]) | (refine Xg.ev (EvF.move rfl rfl) rfl rfl ?_) | (refine Xg.ev (EvF.assign rfl rfl) rfl rfl ?_) | (refine Xg.st (StF.boxAgg rfl rfl) rfl rfl ?_; rintro _ _ ⟨bx, rfl, rfl⟩) | (refine Xg.st (StF.alloc rfl Try.zeroValue107 rfl) rfl rfl ?_; rintro _ _ ⟨bx, rfl, rfl⟩))))) | (refine XO.done rfl ?_; refine hK _ _ ?_; clear hK K) | refine X.seq rfl ?_ | refine X.region rfl (fun K hK => ?_) | refine X.ret rfl ?_)
  exact ret_one (v := .bool x.2) (by first | exact .inr rfl | exact .inl rfl) Try.results58 rfl (H' := H) (by (repeat (first | exact List.Sublist.refl _ | apply List.Sublist.cons_cons | apply List.Sublist.cons)); done) ⟨congrArg Value.bool hx.dec, rfl⟩
theorem rCan_spec (R : Rm) (p : Pl) (H : List Row) (hR : RmOk H R p) : Fc Try.prog 17 [.agg (cRm R p).toArray] H (fun v H' => v = canF R ∧ H' = H) := by
  unfold canF
  by_cases hok : roomOk R
  · rw [if_pos hok]
    have hlm : R.mats.length ≤ 100 := by have := hok.1.2.2.2.2.2.2; omega
    have hrs : ∀ r1, Fc Try.prog 47 [.agg (cRm R p).toArray] (r1 :: H) (fun v H' => v = .bool true ∧ H' = r1 :: H) := fun r1 => by
      have := room_spec R p (r1 :: H) (hR.sub (fun _ h => List.Mem.tail _ h))
      rwa [decide_eq_true hok] at this
    refine Fc.mk (callable Try.call17) Try.func17 rfl Try.ntmps17 rfl ?_; dsimp only [fr]
    repeat' (first | (refine XO.op rfl ?_; (first | ((first | refine Xo.ng rfl ?_); (first | (refine Xg.ev (EvF.loadV rfl rfl (LoadV.whole (te rfl) rfl (List.Mem.head _) rfl)) rfl rfl ?_) | (refine Xg.call (EnF.st rfl (Args.cons rfl Args.nil)) rfl rfl (hrs _) ?_; rintro _ H9 ⟨rfl, hH9⟩; subst H9) | (refine Xg.call (EnF.st rfl (Args.cons rfl Args.nil)) rfl rfl (true_spec R p _ hok.ok hok.mats hlm (hR.sub (fun _ h => by repeat (first | exact h | apply List.Mem.tail)))) ?_; rintro _ H9 ⟨rfl, hH9⟩; subst H9) | (refine Xg.ev (EvF.assign rfl rfl) rfl rfl ?_) | (refine Xg.ev (EvF.not rfl rfl) rfl rfl ?_) | (refine Xg.st (StF.boxAgg rfl rfl) rfl rfl ?_; rintro _ _ ⟨bx, rfl, rfl⟩))))) | (refine XO.done rfl ?_; refine hK _ _ ?_; clear hK K) | refine X.seq rfl ?_ | refine X.region rfl (fun K hK => ?_) | refine X.skip rfl ?_ | refine X.ret rfl ?_ | (refine X.ite rfl rfl (fun hc => ?_); (first | (with_reducible refine Xb.caseB hc (fun h => ?_) (fun h => ?_))) <;> clear hc))
    all_goals try (exfalso; contradiction)
    exact ret_two (v := .bool (decide (hasT R R.mats))) (by first | exact .inr rfl | exact .inl rfl) Try.results17 rfl rfl (H' := H) (by (repeat (first | exact List.Sublist.refl _ | apply List.Sublist.cons_cons | apply List.Sublist.cons)); done) ⟨rfl, rfl⟩
  · rw [if_neg hok]
    have hrs : ∀ r1, Fc Try.prog 47 [.agg (cRm R p).toArray] (r1 :: H) (fun v H' => v = .bool false ∧ H' = r1 :: H) := fun r1 => by
      have := room_spec R p (r1 :: H) (hR.sub (fun _ h => List.Mem.tail _ h))
      rwa [decide_eq_false hok] at this
    refine Fc.mk (callable Try.call17) Try.func17 rfl Try.ntmps17 rfl ?_; dsimp only [fr]
    repeat' (first | (refine XO.op rfl ?_; (first | ((first | refine Xo.ng rfl ?_); (first | (refine Xg.ev (EvF.loadV rfl rfl (LoadV.whole (te rfl) rfl (List.Mem.head _) rfl)) rfl rfl ?_) | (refine Xg.call (EnF.st rfl (Args.cons rfl Args.nil)) rfl rfl (hrs _) ?_; rintro _ H9 ⟨rfl, hH9⟩; subst H9) | (refine Xg.ev (EvF.assign rfl rfl) rfl rfl ?_) | (refine Xg.ev (EvF.not rfl rfl) rfl rfl ?_) | (refine Xg.st (StF.boxAgg rfl rfl) rfl rfl ?_; rintro _ _ ⟨bx, rfl, rfl⟩))))) | (refine XO.done rfl ?_; refine hK _ _ ?_; clear hK K) | refine X.seq rfl ?_ | refine X.region rfl (fun K hK => ?_) | refine X.skip rfl ?_ | refine X.ret rfl ?_ | (refine X.ite rfl rfl (fun hc => ?_); (first | (with_reducible refine Xb.caseB hc (fun h => ?_) (fun h => ?_))) <;> clear hc))
    all_goals try (exfalso; contradiction)
    exact ret_two (v := .bool false) (by first | exact .inr rfl | exact .inl rfl) Try.results17 rfl rfl (H' := H) (by (repeat (first | exact List.Sublist.refl _ | apply List.Sublist.cons_cons | apply List.Sublist.cons)); done) ⟨rfl, rfl⟩
end Go.Proofs.Ytblehgpfddmggaa
end
section
set_option linter.unusedVariables false
set_option linter.unusedSimpArgs false
namespace Go.Proofs.Ytblehgpfddmggaa
open Go Go.Fw
set_option maxRecDepth 10000
theorem rThere_spec (R : Rm) (p : Pl) (id m : Int) (H : List Row) (hR : RmOk H R p) (hm : 1 ≤ R.months ∧ R.months ≤ 12) (hi : 0 ≤ index R.boxes id) : Fc Try.prog 77 [.agg (cRm R p).toArray, .int .i64 (index R.boxes id), .int .i64 m] H (fun v H' => v = .bool (decide ((0 ≤ m ∧ m ≤ R.months - 1) ∧ (bxAt R.boxes id).made ≤ m)) ∧ H' = H) := by
  have hlt := index_lt R.boxes id
  have he := index_get hi
  obtain ⟨a1, c1, a2, c2, a3, c3⟩ := p
  obtain ⟨b, off, _, rfl, _⟩ := hR.boxes.elem (i := 0) (by omega)
  have hbx : ∀ r, SlE (r :: H) _ cBx 2 R.boxes := fun r => hR.boxes.sub (fun _ h => List.mem_cons_of_mem _ h)
  refine Fc.mk (callable Try.call77) Try.func77 rfl Try.ntmps77 rfl ?_; dsimp only [fr]
  repeat' (first | (refine XO.op rfl ?_; (first | ((first | refine Xo.ng rfl ?_ | (refine Xo.g rfl rfl ?_; with_reducible refine Xw.tt ?_)); (first | (refine Xg.call (EnF.st rfl (by (repeat (first | exact Args.nil | refine Args.cons rfl ?_)); done)) rfl rfl (within_spec _ _ _ _) ?_; rintro _ H9 ⟨rfl, hH9⟩; subst H9) | (refine Xg.ev (EvF.loadV rfl rfl (LoadV.el1 (hbx _) he (te rfl) rfl (fun _ hm => hm) rfl)) rfl rfl ?_) | (refine Xg.ev (EvF.move rfl rfl) rfl rfl ?_) | (refine Xg.ev (EvF.assign rfl rfl) rfl rfl ?_) | (refine Xg.ev (EvF.pickT rfl rfl rfl) rfl rfl ?_) | (refine Xg.ev (EvF.pickF rfl rfl rfl) rfl rfl ?_) | (refine Xg.ev (EvF.cmp rfl rfl rfl rfl) rfl rfl ?_) | (refine Xg.ev (EvF.sub64 rfl rfl rfl (by omega) (by omega)) rfl rfl ?_) | (refine Xg.ev (EvF.fieldAddr rfl rfl (te rfl) rfl (te rfl) (by decide)) rfl rfl ?_) | (refine Xg.ev (EvF.indexSlice rfl rfl rfl (te rfl) (te rfl) (by omega) (by omega)) rfl rfl ?_) | (refine Xg.ev (EvF.loadV rfl rfl (LoadV.own (te rfl) rfl (List.Mem.head _) rfl)) rfl rfl ?_) | (refine Xg.st (StF.boxAgg rfl rfl) rfl rfl ?_; rintro _ _ ⟨bx, rfl, rfl⟩))) | (refine Xo.g rfl rfl ?_; (first | (with_reducible refine Xw.ft rfl rfl ?_) | (with_reducible refine Xw.case (fun h => ?_) (fun h => ?_) <;> simp only [h, decide_true, decide_false, Bool.not_true, Bool.not_false, and_self, and_true, true_and, and_false, false_and]))))) | (refine XO.done rfl ?_; refine hK _ _ ?_; clear hK K) | refine X.seq rfl ?_ | refine X.region rfl (fun K hK => ?_) | refine X.ret rfl ?_)
  all_goals (refine ret_one (by first | exact .inr rfl | exact .inl rfl) Try.results77 rfl (H' := H) (by (repeat (first | exact List.Sublist.refl _ | apply List.Sublist.cons)); done) ?_; simp only [and_true, true_and])
  all_goals (congr 1; symm)
  all_goals first
    | exact decide_eq_false (fun q => absurd q.1 (by assumption))
    | exact decide_eq_decide.2 ⟨fun q => q.2, fun q => ⟨by assumption, q⟩⟩
    | (simp_all)
def okId (R : Rm) (i m : Int) : Prop := (0 ≤ m ∧ m ≤ R.months - 1) ∧ (bxAt R.boxes i).made ≤ m
instance (R : Rm) (i m : Int) : Decidable (okId R i m) := by unfold okId; infer_instance
theorem inTime_iff {R : Rm} {l : List Int} {m : Int} (hr : okRm R) (ha : allThere R l) (hm : 0 ≤ m ∧ m ≤ R.months - 1) : inTime R l [m] ↔ ∀ i ∈ l, okId R i m := by
  constructor
  · intro h i hi
    refine ⟨hm, ?_⟩
    have hx := (index_ge R.boxes i).2 (ha i hi)
    refine Classical.byContradiction fun q => (h m (List.mem_singleton.2 rfl)).2 ⟨bxAt R.boxes i, bxAt_mem hx, by omega, by rw [bxAt_id _ _ hx]; exact hi⟩
  · intro h q hq
    rw [List.mem_singleton] at hq
    subst hq
    refine ⟨hm, ?_⟩
    rintro ⟨b, hb, h1, h2⟩
    obtain ⟨j, hj⟩ := box_at hb
    have h3 := (h b.id h2).2
    have hi0 : 0 ≤ index R.boxes b.id := by rw [index_box hr.bx hj]; omega
    have h4 := index_get hi0
    rw [index_box hr.bx hj] at h4
    have h5 : R.boxes[((j : Nat) : Int).toNat]? = some b := hj
    rw [h5] at h4
    rw [← Option.some.inj h4] at h3
    omega
structure As (R : Rm) (e : Int) (l : List Sp) : Prop where
  hT : hasT R R.mats
  good : GoodC R R.mats l
  ex : ∀ b m, there R b m → ExR R R.mats ⟨b.id, m⟩ zp (sat l (cel R ⟨b.id, m⟩))
def tsAk : List TOp := [⟨some 43, [], [], []⟩, ⟨some 44, [], [], []⟩, ⟨some 45, [], [], []⟩, ⟨some 46, [1, 2], [1, 2], []⟩, ⟨some 47, [], [], []⟩, ⟨some 48, [0, 1, 2, 3, 4], [0, 3, 4], []⟩, ⟨some 49, [0, 1, 2, 3, 4, 5], [5], []⟩]
def valAk (b3 b6 : Nat) (R : Rm) (p : Pl) (x m ix : Int) (w : Bool) (v1 v37 v38 v39 : Value) (k : Nat) (env : Env) : Value :=
  match k with
  | 0 => .agg (cRm R p).toArray
  | 1 => .agg (cRm R p).toArray
  | 2 => .int .i64 x
  | 3 => .int .i64 ix
  | 4 => .int .i64 m
  | 5 => .bool w
  | 6 => .bool (!w)
  | _ => undef
def rowsAk (b3 b6 : Nat) (R : Rm) (p : Pl) (x m ix : Int) (w : Bool) (v1 v37 v38 v39 : Value) (k : Nat) (env : Env) : List Row :=
  match k with
  | _ => []
theorem locAk (b3 b6 : Nat) (R : Rm) (p : Pl) (x m ix : Int) (w : Bool) (v1 v37 v38 v39 : Value) : ∀ k env i q9, i ≠ k → (tAt tsAk k).sup.contains i = false → valAk b3 b6 R p x m ix w v1 v37 v38 v39 k (upd env i q9) = valAk b3 b6 R p x m ix w v1 v37 v38 v39 k env ∧ rowsAk b3 b6 R p x m ix w v1 v37 v38 v39 k (upd env i q9) = rowsAk b3 b6 R p x m ix w v1 v37 v38 v39 k env := by
  intro k env i q hk hs
  have hu : ∀ j, j ≠ i → upd env i q j = env j := fun j hj => by unfold upd; rw [if_neg hj]
  match k, hk, hs with
  | 0, _, _ => exact ⟨rfl, rfl⟩
  | 1, _, _ => exact ⟨rfl, rfl⟩
  | 2, _, _ => exact ⟨rfl, rfl⟩
  | 3, _, _ => exact ⟨rfl, rfl⟩
  | 4, _, _ => exact ⟨rfl, rfl⟩
  | 5, _, _ => exact ⟨rfl, rfl⟩
  | 6, _, _ => exact ⟨rfl, rfl⟩
  | _ + 7, _, _ => exact ⟨rfl, rfl⟩
set_option maxHeartbeats 8000000 in
theorem rAsked_spec (R : Rm) (p : Pl) (l : List Int) (a : Option Addr) (cl : Nat) (m : Int) (H : List Row) (hR : RmOk H R p) (hl : SlE H a cI 1 l) (hll : l.length ≤ 1000000) :
    Fc Try.prog 61 [.agg (cRm R p).toArray, .slice a l.length cl, .int .i64 m] H (fun v H' => ∃ c, c.length = 48 ∧ (openE R l [m] = 0 → As R 0 c) ∧ v = .tuple #[.agg (c.flatMap cSp).toArray, .int .i64 (openE R l [m])] ∧ H' = H) := by
  classical
  by_cases hok : roomOk R
  · have hr := hok.ok
    have hm12 := hr.m12
    have hm1 := hr.m1
    have hlm : R.mats.length ≤ 100 := by have := hok.1.2.2.2.2.2.2; omega
    have hrs : ∀ r1 r2, Fc Try.prog 47 [.agg (cRm R p).toArray] (r1 :: r2 :: H) (fun v H' => v = .bool true ∧ H' = r1 :: r2 :: H) := fun r1 r2 => by
      have := room_spec R p (r1 :: r2 :: H) (hR.sub (fun _ h => List.Mem.tail _ (List.Mem.tail _ h)))
      rwa [decide_eq_true hok] at this
    refine Fc.mk (callable Try.call61) Try.func61 rfl Try.ntmps61 rfl ?_; dsimp only [fr]
    repeat' (first | (refine XO.op rfl ?_; (first | ((first | refine Xo.ng rfl ?_); (first | (refine Xg.ev (EvF.loadV rfl rfl (LoadV.whole (T := 26) (cs := cRm R p) (te rfl) rfl (by repeat (first | exact List.Mem.head _ | apply List.Mem.tail)) rfl)) rfl rfl ?_) | (refine Xg.call (EnF.st rfl (Args.cons rfl Args.nil)) rfl rfl (hrs _ _) ?_; rintro _ H9 ⟨rfl, hH9⟩; subst H9) | (refine Xg.ev (EvF.move rfl rfl) rfl rfl ?_) | (refine Xg.ev (EvF.assign rfl rfl) rfl rfl ?_) | (refine Xg.ev (EvF.not rfl rfl) rfl rfl ?_) | (refine Xg.ev (EvF.lenSlice rfl rfl (te rfl)) rfl rfl ?_) | (refine Xg.st (StF.boxAgg rfl rfl) rfl rfl ?_; rintro _ _ ⟨bx, rfl, rfl⟩) | (refine Xg.st (StF.alloc rfl Try.zeroValue107 rfl) rfl rfl ?_; rintro _ _ ⟨bx, rfl, rfl⟩))))) | (refine XO.done rfl ?_; refine hK _ _ ?_; clear hK K) | refine X.seq rfl ?_ | refine X.region rfl (fun K hK => ?_) | refine X.block rfl ?_ | refine X.skip rfl ?_ | (refine X.ite rfl rfl (fun hc => ?_); (first | (with_reducible refine Xb.caseB hc (fun h => ?_) (fun h => ?_))) <;> clear hc))
    · exact absurd (by assumption : (!true) = true) (by decide)
    rename_i b3
    generalize bx = b6
    refine X.lp rfl (fun q F' H' => ∃ (i : Nat), q = l.length - i ∧ i ≤ l.length ∧ (∀ j x, j < i → l[j]? = some x → 0 ≤ index R.boxes x) ∧ H' = ⟨b6, 0, zRc.flatMap cSp, some 107, 96⟩ :: ⟨b3, 0, cRm R p, some 26, 5⟩ :: H ∧ F' = [(1, .slice a l.length cl), (2, .int .i64 m), (3, .pointer (some ⟨b3, 0, none⟩)), (6, .pointer (some ⟨b6, 0, none⟩)), (7, .int .i64 0), (18, .slice a l.length cl), (19, .int .i64 l.length), (20, .int .i64 i)])
      l.length [(1, .slice a l.length cl), (2, .int .i64 m), (3, .pointer (some ⟨b3, 0, none⟩)), (6, .pointer (some ⟨b6, 0, none⟩)), (7, .int .i64 0), (18, .slice a l.length cl), (19, .int .i64 l.length), (20, .int .i64 (0 : Nat))] (⟨b6, 0, zRc.flatMap cSp, some 107, 96⟩ :: ⟨b3, 0, cRm R p, some 26, 5⟩ :: H) (by (repeat (first | exact Sub.nil _ | refine Sub.cons rfl ?_)); done) (List.Sublist.refl _) ⟨0, by omega, by omega, fun j _ h => absurd h (Nat.not_lt_zero _), rfl, rfl⟩ ?_
    rintro _ _ _ ⟨i, rfl, hi, hall, rfl, rfl⟩
    repeat' (first | (refine XO.op rfl ?_; (first | ((first | refine Xo.ng rfl ?_); (first | (refine Xg.ev (EvF.move rfl rfl) rfl rfl ?_) | (refine Xg.ev (EvF.cmp rfl rfl rfl rfl) rfl rfl ?_) | (refine Xg.ev (EvF.sub64 rfl rfl rfl (by omega) (by omega)) rfl rfl ?_) | (refine Xg.ev (EvF.fieldAddr rfl rfl (te rfl) rfl (te rfl) (by decide)) rfl rfl ?_) | (refine Xg.ev (EvF.loadV rfl rfl (LoadV.own (te rfl) rfl (List.Mem.tail _ (List.Mem.head _)) rfl)) rfl rfl ?_))))) | (refine XO.done rfl ?_; refine hK _ _ ?_; clear hK K) | refine X.seq rfl ?_ | refine X.region rfl (fun K hK => ?_) | refine X.block rfl ?_ | (refine X.brk rfl ?_; repeat (first | refine blockX_hit rfl ?_ | refine blockX_miss (by decide) ?_)) | refine X.skip rfl ?_ | (refine X.ite rfl rfl (fun hc => ?_); (first | (with_reducible refine Xb.case hc (fun h => ?_) (fun h => ?_))) <;> clear hc))
    · obtain ⟨bl, ol, x, rfl, he⟩ := hl.elem (i := i) (by omega)
      have hsub : ∀ r1 r2, SlE (r1 :: r2 :: H) (some ⟨bl, ol, none⟩) cI 1 l := fun r1 r2 => hl.sub (fun _ h => List.Mem.tail _ (List.Mem.tail _ h))
      repeat' (first | (refine XO.op rfl ?_; (first | ((first | refine Xo.ng rfl ?_); (first | (refine Xg.ev (EvF.loadV rfl rfl (LoadV.el0 (hsub _ _) he (te rfl) rfl (fun _ hm => hm) rfl)) rfl rfl ?_) | (refine Xg.ev (EvF.loadV rfl rfl (LoadV.whole (T := 26) (cs := cRm R p) (te rfl) rfl (by repeat (first | exact List.Mem.head _ | apply List.Mem.tail)) rfl)) rfl rfl ?_) | (refine Xg.call (EnF.st rfl (Args.cons rfl (Args.cons rfl Args.nil))) rfl rfl (index_spec R p x _ (hR.sub (fun _ h => by repeat (first | exact h | apply List.Mem.tail)))) ?_; rintro _ H9 ⟨rfl, hH9⟩; subst H9) | (refine Xg.ev (EvF.buildArr (zs := zRc.flatMap cSp) (cs := zRc.flatMap cSp) rfl ArgsP.nil (te rfl) (te rfl) Try.zeroValue107 rfl) rfl rfl ?_) | (refine Xg.st0 (StF.storeAll (i := 0) (vs := zRc.flatMap cSp) (cs := zRc.flatMap cSp) rfl rfl rfl (te rfl) rfl rfl rfl rfl) rfl ?_; rintro _ _ ⟨rfl, rfl⟩; dsimp only [List.set]) | (refine Xg.ev (EvF.move rfl rfl) rfl rfl ?_) | (refine Xg.ev (EvF.assign rfl rfl) rfl rfl ?_) | (refine Xg.ev (EvF.cmp rfl rfl rfl rfl) rfl rfl ?_) | (refine Xg.ev (EvF.add64 rfl rfl rfl (by omega) (by omega)) rfl rfl ?_) | (refine Xg.ev (EvF.indexSlice rfl rfl rfl (te rfl) (te rfl) (by omega) (by omega)) rfl rfl ?_))))) | (refine XO.done rfl ?_; refine hK _ _ ?_; clear hK K) | refine X.seq rfl ?_ | refine X.region rfl (fun K hK => ?_) | refine X.skip rfl ?_ | refine X.ret rfl ?_ | (refine X.ite rfl rfl (fun hc => ?_); (first | (with_reducible refine Xb.case hc (fun h => ?_) (fun h => ?_))) <;> clear hc))
      · have h6 : openE R l [m] = 6 := by
          unfold openE
          rw [if_pos hok, if_neg (fun q => by have := (index_ge R.boxes x).2 (q x (List.mem_of_getElem? he)); omega)]
        exact ret_two (v := .agg (zRc.flatMap cSp).toArray) (by first | exact .inr rfl | exact .inl rfl) Try.results61 ⟨_, rfl, LoadV.whole (te rfl) rfl (List.Mem.head _) rfl⟩ rfl (H' := H) (by (repeat (first | exact List.Sublist.refl _ | apply List.Sublist.cons_cons | apply List.Sublist.cons)); done) ⟨zRc, rfl, (fun h => absurd h (by rw [h6]; decide)), by rw [h6], rfl⟩
      · exact ⟨_, [(1, .slice (some ⟨bl, ol, none⟩) l.length cl), (2, .int .i64 m), (3, .pointer (some ⟨b3, 0, none⟩)), (6, .pointer (some ⟨b6, 0, none⟩)), (7, .int .i64 0), (18, .slice (some ⟨bl, ol, none⟩) l.length cl), (19, .int .i64 l.length), (20, .int .i64 (i + 1 : Nat))], ⟨b6, 0, zRc.flatMap cSp, some 107, 96⟩ :: ⟨b3, 0, cRm R p, some 26, 5⟩ :: H, (by (repeat (first | exact Sub.nil _ | refine Sub.cons rfl ?_)); done), (by (repeat (first | exact List.Sublist.refl _ | apply List.Sublist.cons_cons | apply List.Sublist.cons)); done), ⟨i + 1, rfl, by omega, fun j y hj hy => by
          by_cases e : j < i
          · exact hall j y e hy
          · rw [show j = i by omega, he] at hy
            cases hy
            omega, rfl, rfl⟩, by omega⟩
    · have hal : allThere R l := fun x hx => by
        obtain ⟨j, hj, ex⟩ := List.mem_iff_getElem.1 hx
        exact (index_ge R.boxes x).1 (hall j x (by omega) (by rw [List.getElem?_eq_getElem hj, ex]))
      repeat' (first | (refine XO.op rfl ?_; (first | ((first | refine Xo.ng rfl ?_); (first | (refine Xg.call (EnF.st rfl (Args.cons rfl (Args.cons rfl (Args.cons rfl Args.nil)))) rfl rfl (within_spec _ _ _ _) ?_; rintro _ H9 ⟨rfl, hH9⟩; subst H9) | (refine Xg.ev (EvF.buildArr (zs := zRc.flatMap cSp) (cs := zRc.flatMap cSp) rfl ArgsP.nil (te rfl) (te rfl) Try.zeroValue107 rfl) rfl rfl ?_) | (refine Xg.st0 (StF.storeAll (i := 0) (vs := zRc.flatMap cSp) (cs := zRc.flatMap cSp) rfl rfl rfl (te rfl) rfl rfl rfl rfl) rfl ?_; rintro _ _ ⟨rfl, rfl⟩; dsimp only [List.set]) | (refine Xg.ev (EvF.move rfl rfl) rfl rfl ?_) | (refine Xg.ev (EvF.assign rfl rfl) rfl rfl ?_) | (refine Xg.ev (EvF.not rfl rfl) rfl rfl ?_) | (refine Xg.ev (EvF.lenSlice rfl rfl (te rfl)) rfl rfl ?_))))) | (refine XO.done rfl ?_; refine hK _ _ ?_; clear hK K) | refine X.seq rfl ?_ | refine X.region rfl (fun K hK => ?_) | refine X.block rfl ?_ | refine X.skip rfl ?_ | refine X.ret rfl ?_ | (refine X.ite rfl rfl (fun hc => ?_); (first | (with_reducible refine Xb.caseN hc (fun h => ?_) (fun h => ?_))) <;> clear hc))
      · have h11 : openE R l [m] = 11 := by
          unfold openE
          rw [if_pos hok, if_pos hal, if_neg (fun q => absurd (q m (List.mem_singleton.2 rfl)).1 (by simp_all))]
        exact ret_two (v := .agg (zRc.flatMap cSp).toArray) (by first | exact .inr rfl | exact .inl rfl) Try.results61 ⟨_, rfl, LoadV.whole (te rfl) rfl (List.Mem.head _) rfl⟩ rfl (H' := H) (by (repeat (first | exact List.Sublist.refl _ | apply List.Sublist.cons_cons | apply List.Sublist.cons)); done) ⟨zRc, rfl, (fun h => absurd h (by rw [h11]; decide)), by rw [h11], rfl⟩
      · have hw : 0 ≤ m ∧ m ≤ R.months - 1 := by simp_all
        have hit := inTime_iff hr hal hw
        refine X.lp rfl (fun q F' H' => ∃ (i : Nat), q = l.length - i ∧ i ≤ l.length ∧ (∀ j x, j < i → l[j]? = some x → okId R x m) ∧ H' = ⟨b6, 0, zRc.flatMap cSp, some 107, 96⟩ :: ⟨b3, 0, cRm R p, some 26, 5⟩ :: H ∧ F' = [(1, .slice a l.length cl), (2, .int .i64 m), (3, .pointer (some ⟨b3, 0, none⟩)), (6, .pointer (some ⟨b6, 0, none⟩)), (7, .int .i64 0), (37, .slice a l.length cl), (38, .int .i64 l.length), (39, .int .i64 i)])
          l.length [(1, .slice a l.length cl), (2, .int .i64 m), (3, .pointer (some ⟨b3, 0, none⟩)), (6, .pointer (some ⟨b6, 0, none⟩)), (7, .int .i64 0), (37, .slice a l.length cl), (38, .int .i64 l.length), (39, .int .i64 (0 : Nat))] (⟨b6, 0, zRc.flatMap cSp, some 107, 96⟩ :: ⟨b3, 0, cRm R p, some 26, 5⟩ :: H) (by (repeat (first | exact Sub.nil _ | refine Sub.cons rfl ?_)); done) (List.Sublist.refl _) ⟨0, by omega, by omega, fun j _ h => absurd h (Nat.not_lt_zero _), rfl, rfl⟩ ?_
        rintro _ _ _ ⟨k, rfl, hk, hok2, rfl, rfl⟩
        repeat' (first | (refine XO.op rfl ?_; (first | ((first | refine Xo.ng rfl ?_); (first | (refine Xg.ev (EvF.cmp rfl rfl rfl rfl) rfl rfl ?_) | (refine Xg.ev (EvF.loadV rfl rfl (LoadV.whole (te rfl) rfl (List.Mem.tail _ (List.Mem.head _)) rfl)) rfl rfl ?_))))) | (refine XO.done rfl ?_; refine hK _ _ ?_; clear hK K) | refine X.seq rfl ?_ | refine X.region rfl (fun K hK => ?_) | refine X.block rfl ?_ | (refine X.brk rfl ?_; repeat (first | refine blockX_hit rfl ?_ | refine blockX_miss (by decide) ?_)) | refine X.skip rfl ?_ | (refine X.ite rfl rfl (fun hc => ?_); (first | (with_reducible refine Xb.case hc (fun h => ?_) (fun h => ?_))) <;> clear hc))
        · obtain ⟨bl, ol, x, rfl, he⟩ := hl.elem (i := k) (by omega)
          have hsub : ∀ r1 r2, SlE (r1 :: r2 :: H) (some ⟨bl, ol, none⟩) cI 1 l := fun r1 r2 => hl.sub (fun _ h => List.Mem.tail _ (List.Mem.tail _ h))
          repeat' (first | (refine XO.op rfl ?_; (first | ((first | refine Xo.ng rfl ?_); (first | (refine Xg.ev (EvF.loadV rfl rfl (LoadV.el0 (hsub _ _) he (te rfl) rfl (fun _ hm => hm) rfl)) rfl rfl ?_) | (refine Xg.ev (EvF.assign rfl rfl) rfl rfl ?_) | (refine Xg.ev (EvF.indexSlice rfl rfl rfl (te rfl) (te rfl) (by omega) (by omega)) rfl rfl ?_))))) | (refine XO.done rfl ?_; refine hK _ _ ?_; clear hK K) | refine X.seq rfl ?_)
          have hx0 := (index_ge R.boxes x).2 (hal x (List.mem_of_getElem? he))
          have hRs : ∀ S : List Row, (∀ r ∈ ⟨b6, 0, zRc.flatMap cSp, some 107, 96⟩ :: ⟨b3, 0, cRm R p, some 26, 5⟩ :: H, r ∈ S) → RmOk S R p := fun S hS => hR.sub (fun r h => hS r (List.mem_append_right [_, _] h))
          obtain ⟨w, hww⟩ : ∃ w, w = decide (okId R x m) := ⟨_, rfl⟩
          have hth : ∀ S, RmOk S R p → Fc Try.prog 77 [.agg (cRm R p).toArray, .int .i64 (index R.boxes x), .int .i64 m] S (fun v H' => v = .bool w ∧ H' = S) := fun S h => by
            have := rThere_spec R p x m S h ⟨hm1, hm12⟩ hx0
            rw [hww, show decide (okId R x m) = decide ((0 ≤ m ∧ m ≤ R.months - 1) ∧ (bxAt R.boxes x).made ≤ m) from decide_eq_decide.2 Iff.rfl]
            exact this
          refine X.regionOb tsAk [1, 2, 3, 6, 7, 11, 37, 38, 39] [(1, (.slice (some ⟨bl, ol, none⟩) l.length cl)), (2, .int .i64 m), (3, .pointer (some ⟨b3, 0, none⟩)), (6, .pointer (some ⟨b6, 0, none⟩)), (7, .int .i64 0), (11, .int .i64 x), (37, (.slice (some ⟨bl, ol, none⟩) l.length cl)), (38, (.int .i64 l.length)), (39, (.int .i64 k))] (valAk b3 b6 R p x m (index R.boxes x) w (.slice (some ⟨bl, ol, none⟩) l.length cl) (.slice (some ⟨bl, ol, none⟩) l.length cl) (.int .i64 l.length) (.int .i64 k)) (rowsAk b3 b6 R p x m (index R.boxes x) w (.slice (some ⟨bl, ol, none⟩) l.length cl) (.slice (some ⟨bl, ol, none⟩) l.length cl) (.int .i64 l.length) (.int .i64 k)) (fun _ => (0, 0)) (⟨b6, 0, zRc.flatMap cSp, some 107, 96⟩ :: ⟨b3, 0, cRm R p, some 26, 5⟩ :: H) rfl mixed (by (repeat (first | exact Sub.nil _ | refine Sub.cons rfl ?_)); done) rfl (by kernel_rfl) (locAk b3 b6 R p x m (index R.boxes x) w (.slice (some ⟨bl, ol, none⟩) l.length cl) (.slice (some ⟨bl, ol, none⟩) l.length cl) (.int .i64 l.length) (.int .i64 k)) (List.Sublist.refl _) ?_ ?_
          · repeat' (first | exact AllF.done rfl | (refine AllF.step rfl ?_ ?_; · (first | fail | ((first | refine Ob.ng rfl ?_); (first | exact ObK.pure (fun env R hR => by exact ⟨_, EvF.move rfl rfl, rfl⟩) rfl (fun _ => rfl) | exact ObK.pure (fun env R hR => by exact ⟨_, EvF.not rfl rfl, rfl⟩) rfl (fun _ => rfl) | exact ObK.pure (fun env R hR => by exact ⟨_, EvF.loadV rfl rfl (LoadV.whole (te rfl) rfl (hR _ (List.Mem.tail _ (List.Mem.head _))) rfl), rfl⟩) rfl (fun _ => rfl) | (exact fun env S hS => OpF.callV (Z := []) (EnF.st rfl (Args.cons rfl (Args.cons rfl Args.nil))) (index_spec R p x _ (hRs _ hS)) rfl rfl) | (exact fun env S hS => OpF.callV (Z := []) (EnF.st rfl (Args.cons rfl (Args.cons rfl (Args.cons rfl Args.nil)))) (hth _ (hRs _ hS)) rfl rfl))))))
          intro env t ha2 hv; refine ⟨_, ha2.cons (hv 6 49 (Nat.le_of_ble_eq_true rfl) rfl), ?_⟩; clear hv ha2
          show X _ _ _ [(49, .bool !w), (1, .slice (some ⟨bl, ol, none⟩) l.length cl), (2, .int .i64 m), (3, .pointer (some ⟨b3, 0, none⟩)), (6, .pointer (some ⟨b6, 0, none⟩)), (7, .int .i64 0), (11, .int .i64 x), (37, .slice (some ⟨bl, ol, none⟩) l.length cl), (38, .int .i64 l.length), (39, .int .i64 k)] (⟨b6, 0, zRc.flatMap cSp, some 107, 96⟩ :: ⟨b3, 0, cRm R p, some 26, 5⟩ :: H) _
          clear env
          cases w with
          | false =>
            have h11 : openE R l [m] = 11 := by
              unfold openE
              rw [if_pos hok, if_pos hal, if_neg (fun q => absurd (hit.1 q x (List.mem_of_getElem? he)) (of_decide_eq_false hww.symm))]
            repeat' (first | (refine XO.op rfl ?_; (first | ((first | refine Xo.ng rfl ?_); (first | (refine Xg.ev (EvF.buildArr (zs := zRc.flatMap cSp) (cs := zRc.flatMap cSp) rfl ArgsP.nil (te rfl) (te rfl) Try.zeroValue107 rfl) rfl rfl ?_) | (refine Xg.st0 (StF.storeAll (i := 0) (vs := zRc.flatMap cSp) (cs := zRc.flatMap cSp) rfl rfl rfl (te rfl) rfl rfl rfl rfl) rfl ?_; rintro _ _ ⟨rfl, rfl⟩; dsimp only [List.set]) | (refine Xg.ev (EvF.move rfl rfl) rfl rfl ?_) | (refine Xg.ev (EvF.assign rfl rfl) rfl rfl ?_) | (refine Xg.ev (EvF.add64 rfl rfl rfl (by omega) (by omega)) rfl rfl ?_))))) | (refine XO.done rfl ?_; refine hK _ _ ?_; clear hK K) | refine X.seq rfl ?_ | refine X.region rfl (fun K hK => ?_) | refine X.skip rfl ?_ | refine X.ret rfl ?_ | (refine X.ite rfl rfl (fun hc => ?_); (first | (with_reducible refine Xb.caseB hc (fun h => ?_) (fun h => ?_))) <;> clear hc))
            all_goals try (exfalso; contradiction)
            exact ret_two (v := .agg (zRc.flatMap cSp).toArray) (by first | exact .inr rfl | exact .inl rfl) Try.results61 ⟨_, rfl, LoadV.whole (te rfl) rfl (List.Mem.head _) rfl⟩ rfl (H' := H) (by (repeat (first | exact List.Sublist.refl _ | apply List.Sublist.cons_cons | apply List.Sublist.cons)); done) ⟨zRc, rfl, (fun h => absurd h (by rw [h11]; decide)), by rw [h11], rfl⟩
          | true =>
            have hx1 := of_decide_eq_true hww.symm
            repeat' (first | (refine XO.op rfl ?_; (first | ((first | refine Xo.ng rfl ?_); (first | (refine Xg.ev (EvF.move rfl rfl) rfl rfl ?_) | (refine Xg.ev (EvF.add64 rfl rfl rfl (by omega) (by omega)) rfl rfl ?_))))) | (refine XO.done rfl ?_; refine hK _ _ ?_; clear hK K) | refine X.seq rfl ?_ | refine X.region rfl (fun K hK => ?_) | refine X.skip rfl ?_ | (refine X.ite rfl rfl (fun hc => ?_); (first | (with_reducible refine Xb.caseB hc (fun h => ?_) (fun h => ?_))) <;> clear hc))
            all_goals try (exfalso; contradiction)
            exact ⟨_, [(1, .slice (some ⟨bl, ol, none⟩) l.length cl), (2, .int .i64 m), (3, .pointer (some ⟨b3, 0, none⟩)), (6, .pointer (some ⟨b6, 0, none⟩)), (7, .int .i64 0), (37, .slice (some ⟨bl, ol, none⟩) l.length cl), (38, .int .i64 l.length), (39, .int .i64 (k + 1 : Nat))], ⟨b6, 0, zRc.flatMap cSp, some 107, 96⟩ :: ⟨b3, 0, cRm R p, some 26, 5⟩ :: H, (by (repeat (first | exact Sub.nil _ | refine Sub.cons rfl ?_)); done), (by (repeat (first | exact List.Sublist.refl _ | apply List.Sublist.cons_cons | apply List.Sublist.cons)); done), ⟨k + 1, rfl, by omega, fun j y hj hy => by
              by_cases e : j < k
              · exact hok2 j y e hy
              · rw [show j = k by omega, he] at hy
                cases hy
                exact hx1, rfl, rfl⟩, by omega⟩
        · have hit2 : inTime R l [m] := hit.2 (fun x hx => by
            obtain ⟨j, hj, ex⟩ := List.mem_iff_getElem.1 hx
            exact hok2 j x (by omega) (by rw [List.getElem?_eq_getElem hj, ex]))
          have hE : openE R l [m] = if hasT R R.mats then 0 else 8 := by unfold openE; rw [if_pos hok, if_pos hal, if_pos hit2]
          repeat' (first | (refine XO.op rfl ?_; (first | ((first | refine Xo.ng rfl ?_); (first | (refine Xg.call (EnF.st rfl (by (repeat (first | exact Args.nil | refine Args.cons rfl ?_)); done)) rfl rfl (found_spec R p _ hr hok.mats hlm (hR.sub (fun _ h => by repeat (first | exact h | apply List.Mem.tail)))) ?_; rintro _ _ ⟨c, hc, rfl, rfl⟩) | (refine Xg.ev (EvF.extract rfl rfl rfl) rfl rfl ?_) | (refine Xg.st0 (StF.storeAll (i := 0) (vs := c.1.flatMap cSp) (cs := zRc.flatMap cSp) rfl rfl rfl (te rfl) rfl hc.len96 (sp_one _) (by rw [hc.len96, sp_len]; rfl)) rfl ?_; rintro _ _ ⟨rfl, rfl⟩; dsimp only [List.set]) | (refine Xg.ev (EvF.loadV rfl rfl (LoadV.whole (T := 107) (cs := c.1.flatMap cSp) (te rfl) rfl (List.Mem.head _) hc.len96)) rfl rfl ?_) | (refine Xg.st0 (StF.storeAll (i := 1) (vs := c.1.flatMap cSp) (cs := zRc.flatMap cSp) rfl rfl rfl (te rfl) rfl hc.len96 (sp_one _) (by rw [hc.len96, sp_len]; rfl)) rfl ?_; rintro _ _ ⟨rfl, rfl⟩; dsimp only [List.set]) | (refine Xg.ev (EvF.move rfl rfl) rfl rfl ?_) | (refine Xg.ev (EvF.assign rfl rfl) rfl rfl ?_) | (refine Xg.ev (EvF.not rfl rfl) rfl rfl ?_) | (refine Xg.st (StF.alloc rfl Try.zeroValue107 rfl) rfl rfl ?_; rintro _ _ ⟨bx, rfl, rfl⟩))))) | (refine XO.done rfl ?_; refine hK _ _ ?_; clear hK K) | refine X.seq rfl ?_ | refine X.region rfl (fun K hK => ?_) | refine X.skip rfl ?_ | refine X.ret rfl ?_ | (refine X.ite rfl rfl (fun hc => ?_); (first | (with_reducible refine Xb.caseB hc (fun h => ?_) (fun h => ?_))) <;> clear hc))
          · have hn : ¬ hasT R R.mats := hc.no (by simpa using (by assumption : (!c.2) = true))
            rw [if_neg hn] at hE
            exact ret_two (v := .agg (c.1.flatMap cSp).toArray) (by first | exact .inr rfl | exact .inl rfl) Try.results61 ⟨_, rfl, LoadV.whole (te rfl) rfl (List.Mem.tail _ (List.Mem.head _)) hc.len96⟩ rfl (H' := H) (by (repeat (first | exact List.Sublist.refl _ | apply List.Sublist.cons_cons | apply List.Sublist.cons)); done) ⟨c.1, hc.len, (fun q => absurd q (by rw [hE]; decide)), by rw [hE], rfl⟩
          · obtain ⟨y1, y2, y3⟩ := hc.yes (by simpa using (by assumption : (!c.2) = false))
            rw [if_pos y1] at hE
            exact ret_two (v := .agg (c.1.flatMap cSp).toArray) (by first | exact .inr rfl | exact .inl rfl) Try.results61 ⟨_, rfl, LoadV.whole (te rfl) rfl (List.Mem.tail _ (List.Mem.head _)) hc.len96⟩ rfl (H' := H) (by (repeat (first | exact List.Sublist.refl _ | apply List.Sublist.cons_cons | apply List.Sublist.cons)); done) ⟨c.1, hc.len, (fun _ => ⟨y1, y2, y3⟩), by rw [hE], rfl⟩
  · have h10 : openE R l [m] = 10 := by unfold openE; rw [if_neg hok]
    have hrs : ∀ r1 r2, Fc Try.prog 47 [.agg (cRm R p).toArray] (r1 :: r2 :: H) (fun v H' => v = .bool false ∧ H' = r1 :: r2 :: H) := fun r1 r2 => by
      have := room_spec R p (r1 :: r2 :: H) (hR.sub (fun _ h => List.Mem.tail _ (List.Mem.tail _ h)))
      rwa [decide_eq_false hok] at this
    refine Fc.mk (callable Try.call61) Try.func61 rfl Try.ntmps61 rfl ?_; dsimp only [fr]
    repeat' (first | (refine XO.op rfl ?_; (first | ((first | refine Xo.ng rfl ?_); (first | (refine Xg.ev (EvF.loadV rfl rfl (LoadV.whole (T := 26) (cs := cRm R p) (te rfl) rfl (by repeat (first | exact List.Mem.head _ | apply List.Mem.tail)) rfl)) rfl rfl ?_) | (refine Xg.call (EnF.st rfl (Args.cons rfl Args.nil)) rfl rfl (hrs _ _) ?_; rintro _ H9 ⟨rfl, hH9⟩; subst H9) | (refine Xg.ev (EvF.buildArr (zs := zRc.flatMap cSp) (cs := zRc.flatMap cSp) rfl ArgsP.nil (te rfl) (te rfl) Try.zeroValue107 rfl) rfl rfl ?_) | (refine Xg.st0 (StF.storeAll (i := 0) (vs := zRc.flatMap cSp) (cs := zRc.flatMap cSp) rfl rfl rfl (te rfl) rfl rfl rfl rfl) rfl ?_; rintro _ _ ⟨rfl, rfl⟩; dsimp only [List.set]) | (refine Xg.ev (EvF.move rfl rfl) rfl rfl ?_) | (refine Xg.ev (EvF.assign rfl rfl) rfl rfl ?_) | (refine Xg.ev (EvF.not rfl rfl) rfl rfl ?_) | (refine Xg.ev (EvF.lenSlice rfl rfl (te rfl)) rfl rfl ?_) | (refine Xg.st (StF.boxAgg rfl rfl) rfl rfl ?_; rintro _ _ ⟨bx, rfl, rfl⟩) | (refine Xg.st (StF.alloc rfl Try.zeroValue107 rfl) rfl rfl ?_; rintro _ _ ⟨bx, rfl, rfl⟩))))) | (refine XO.done rfl ?_; refine hK _ _ ?_; clear hK K) | refine X.seq rfl ?_ | refine X.region rfl (fun K hK => ?_) | refine X.block rfl ?_ | refine X.skip rfl ?_ | refine X.ret rfl ?_ | (refine X.ite rfl rfl (fun hc => ?_); (first | (with_reducible refine Xb.caseB hc (fun h => ?_) (fun h => ?_))) <;> clear hc))
    all_goals try (exfalso; contradiction)
    exact ret_two (v := .agg (zRc.flatMap cSp).toArray) (by first | exact .inr rfl | exact .inl rfl) Try.results61 ⟨_, rfl, LoadV.whole (te rfl) rfl (List.Mem.head _) rfl⟩ rfl (H' := H) (by (repeat (first | exact List.Sublist.refl _ | apply List.Sublist.cons_cons | apply List.Sublist.cons)); done) ⟨zRc, rfl, (fun h => absurd h (by rw [h10]; decide)), by rw [h10], rfl⟩
end Go.Proofs.Ytblehgpfddmggaa
end
section
set_option linter.unusedVariables false
set_option linter.unusedSimpArgs false
namespace Go.Proofs.Ytblehgpfddmggaa
open Go Go.Fw
set_option maxRecDepth 10000
theorem sp_len96 {l : List Sp} (h : l.length = 48) : (l.flatMap cSp).length = 96 := by rw [sp_len, h]
theorem there_ix {R : Rm} (hr : okRm R) {l : List Int} {a m : Int} (h : openE R l [m] = 0) (ha : a ∈ l) : ∃ (b : Bx) (ia : Nat), there R b m ∧ b.id = a ∧ R.boxes[ia]? = some b ∧ index R.boxes a = ia ∧ ia < R.boxes.length ∧ 0 ≤ m ∧ m ≤ 11 ∧ cel R ⟨a, m⟩ = ia * 12 + m.toNat := by
  obtain ⟨b, ht, rfl⟩ := there_of h ha (List.mem_singleton.2 rfl)
  obtain ⟨ia, hia⟩ := box_at ht.1
  have h1 := there_bd hr ht
  exact ⟨b, ia, ht, rfl, hia, index_box hr.bx hia, (List.getElem?_eq_some_iff.1 hia).1, h1.1, h1.2, cel_box hr.bx hia m⟩
set_option maxHeartbeats 4000000 in
theorem rYellow_spec (R : Rm) (p : Pl) (a m : Int) (H : List Row) (hR : RmOk H R p) : Fc Try.prog 19 [.agg (cRm R p).toArray, .int .i64 a, .int .i64 m] H (fun v H' => v = .tuple #[.agg (cSp (yelF R a m).1).toArray, .int .i64 (yelF R a m).2] ∧ H' = H) := by
  obtain ⟨e, he⟩ : ∃ e, openE R [a] [m] = e := ⟨_, rfl⟩
  have has : ∀ (H' : List Row) (b1 : Nat), RmOk H' R p → ⟨b1, 0, [.int .i64 a], some 3, 1 * 1⟩ ∈ H' → Fc Try.prog 61 [.agg (cRm R p).toArray, .slice (some ⟨b1, 0, none⟩) 1 1, .int .i64 m] H' (fun v H'' => ∃ c, c.length = 48 ∧ (e = 0 → As R 0 c) ∧ v = .tuple #[.agg (c.flatMap cSp).toArray, .int .i64 e] ∧ H'' = H') := fun H' b1 q1 q2 => by
    have := rAsked_spec R p [a] (some ⟨b1, 0, none⟩) 1 m H' q1 (SlE.ofRow (l := [a]) q2 (fun _ _ => rfl)) (Nat.le_of_ble_eq_true rfl)
    rw [he] at this
    exact this
  by_cases h0 : e = 0
  · subst h0
    obtain ⟨hok, _, _, hT⟩ := openE_ok he
    have hr := hok.ok
    have hb4 := hr.b4
    obtain ⟨b, ia, ht, hba, hia, hix, hil, hm0, hm1, hce⟩ := there_ix hr he (List.mem_singleton.2 rfl)
    have hy : yelF R a m = (rng R R.mats ⟨a, m⟩ zp, 0) := by unfold yelF; rw [if_pos he]
    have hixs := fun H' hH' => index_spec R p a H' hH'
    rw [hix] at hixs
    rw [hy]
    refine Fc.mk (callable Try.call19) Try.func19 rfl Try.ntmps19 rfl ?_; dsimp only [fr]
    repeat' (first | (refine XO.op rfl ?_; (first | ((first | refine Xo.ng rfl ?_); (first | (refine Xg.st (StF.buildOne (v0 := .int .i64 a) rfl el55 rfl rfl rfl (by decide) (by decide)) rfl rfl ?_; rintro _ _ ⟨b1, rfl, rfl⟩) | (refine Xg.ev (EvF.loadV rfl rfl (LoadV.whole (T := 26) (cs := cRm R p) (te rfl) rfl (by repeat (first | exact List.Mem.head _ | apply List.Mem.tail)) rfl)) rfl rfl ?_) | (refine Xg.call (EnF.st rfl (by (repeat (first | exact Args.nil | refine Args.cons rfl ?_)); done)) rfl rfl (has _ b1 (hR.sub (fun _ h => by repeat (first | exact h | apply List.Mem.tail))) (List.Mem.head _)) ?_; rintro _ _ ⟨c, hc, hA, rfl, rfl⟩) | (refine Xg.ev (EvF.extract rfl rfl rfl) rfl rfl ?_) | (refine Xg.st (StF.alloc rfl Try.zeroValue107 rfl) rfl rfl ?_; rintro _ _ ⟨b8, rfl, rfl⟩) | (refine Xg.st0 (StF.storeAll (i := 0) (vs := c.flatMap cSp) (cs := zRc.flatMap cSp) rfl rfl rfl (te rfl) rfl (sp_len96 hc) (sp_one _) (by rw [sp_len96 hc, sp_len]; rfl)) rfl ?_; rintro _ _ ⟨rfl, rfl⟩; dsimp only [List.set]) | (refine Xg.call (EnF.st rfl (Args.cons rfl (Args.cons rfl Args.nil))) rfl rfl (hixs _ (hR.sub (fun _ h => by repeat (first | exact h | apply List.Mem.tail)))) ?_; rintro _ H9 ⟨rfl, hH9⟩; subst H9) | (refine Xg.ev (EvF.indexArray (i := (ia : Int)) (off := 0) (b := b8) (T := 107) (e := 105) (len := 4) rfl rfl rfl (te rfl) (te rfl) (by omega) (by omega)) rfl rfl ?_) | (refine Xg.ev (EvF.indexArray (i := m) (off := 0 + ia * 24) (b := b8) (T := 105) (e := 35) (len := 12) rfl rfl rfl (te rfl) (te rfl) (by omega) (by omega)) rfl rfl ?_) | (refine Xg.ev (EvF.loadV rfl rfl (LoadV.ownAgg (te rfl) rfl (List.Mem.head _) (sp_at (l := c) (k := ia * 12 + m.toNat) (j := 0 + ia * 24 + m.toNat * 2) (by omega) (by omega)) rfl)) rfl rfl ?_) | (refine Xg.ev (EvF.move rfl rfl) rfl rfl ?_) | (refine Xg.ev (EvF.assign rfl rfl) rfl rfl ?_) | (refine Xg.ev (EvF.cmp rfl rfl rfl rfl) rfl rfl ?_) | (refine Xg.st (StF.boxAgg rfl rfl) rfl rfl ?_; rintro _ _ ⟨bx, rfl, rfl⟩) | (refine Xg.st (StF.alloc rfl Try.zeroValue35 rfl) rfl rfl ?_; rintro _ _ ⟨bx, rfl, rfl⟩) | (refine Xg.st0 (StF.storeAll (i := 2) rfl rfl rfl (te rfl) rfl rfl rfl rfl) rfl ?_; rintro _ _ ⟨rfl, rfl⟩; dsimp only [List.set]))))) | (refine XO.done rfl ?_; refine hK _ _ ?_; clear hK K) | refine X.seq rfl ?_ | refine X.region rfl (fun K hK => ?_) | refine X.skip rfl ?_ | refine X.ret rfl ?_ | (refine X.ite rfl rfl (fun hc => ?_); (first | (with_reducible refine Xb.caseN hc (fun h => ?_) (fun h => ?_))) <;> clear hc))
    all_goals try (exfalso; omega)
    have hx := (hA rfl).ex b m ht
    rw [hba, hce] at hx
    refine ret_two (v := .agg (cSp (sat c (ia * 12 + m.toNat))).toArray) (by first | exact .inr rfl | exact .inl rfl) Try.results19 ⟨_, rfl, LoadV.whole (te rfl) rfl (by repeat (first | exact List.Mem.head _ | apply List.Mem.tail)) rfl⟩ rfl (H' := H) (by (repeat (first | exact List.Sublist.refl _ | apply List.Sublist.cons_cons | apply List.Sublist.cons)); done) ⟨?_, rfl⟩
    rw [rng_eq hx]
  · have hy : yelF R a m = (⟨0, 0⟩, e) := by unfold yelF; rw [if_neg (by rw [he]; exact h0), he]
    rw [hy]
    refine Fc.mk (callable Try.call19) Try.func19 rfl Try.ntmps19 rfl ?_; dsimp only [fr]
    repeat' (first | (refine XO.op rfl ?_; (first | ((first | refine Xo.ng rfl ?_); (first | (refine Xg.st (StF.buildOne (v0 := .int .i64 a) rfl el55 rfl rfl rfl (by decide) (by decide)) rfl rfl ?_; rintro _ _ ⟨b1, rfl, rfl⟩) | (refine Xg.ev (EvF.loadV rfl rfl (LoadV.whole (T := 26) (cs := cRm R p) (te rfl) rfl (by repeat (first | exact List.Mem.head _ | apply List.Mem.tail)) rfl)) rfl rfl ?_) | (refine Xg.call (EnF.st rfl (by (repeat (first | exact Args.nil | refine Args.cons rfl ?_)); done)) rfl rfl (has _ b1 (hR.sub (fun _ h => by repeat (first | exact h | apply List.Mem.tail))) (List.Mem.head _)) ?_; rintro _ _ ⟨c, hc, hA, rfl, rfl⟩) | (refine Xg.ev (EvF.extract rfl rfl rfl) rfl rfl ?_) | (refine Xg.st (StF.alloc rfl Try.zeroValue107 rfl) rfl rfl ?_; rintro _ _ ⟨b8, rfl, rfl⟩) | (refine Xg.st0 (StF.storeAll (i := 0) (vs := c.flatMap cSp) (cs := zRc.flatMap cSp) rfl rfl rfl (te rfl) rfl (sp_len96 hc) (sp_one _) (by rw [sp_len96 hc, sp_len]; rfl)) rfl ?_; rintro _ _ ⟨rfl, rfl⟩; dsimp only [List.set]) | (refine Xg.ev (EvF.build (cs := cSp ⟨0, 0⟩) rfl ArgsP.nil (te rfl) (Places.cons (te rfl) (Places.cons (te rfl) Places.nil)) Try.zeroValue35 rfl) rfl rfl ?_) | (refine Xg.ev (EvF.move rfl rfl) rfl rfl ?_) | (refine Xg.ev (EvF.assign rfl rfl) rfl rfl ?_) | (refine Xg.ev (EvF.cmp rfl rfl rfl rfl) rfl rfl ?_) | (refine Xg.st (StF.boxAgg rfl rfl) rfl rfl ?_; rintro _ _ ⟨bx, rfl, rfl⟩) | (refine Xg.st (StF.alloc rfl Try.zeroValue35 rfl) rfl rfl ?_; rintro _ _ ⟨bx, rfl, rfl⟩) | (refine Xg.st0 (StF.storeAll (i := 2) rfl rfl rfl (te rfl) rfl rfl rfl rfl) rfl ?_; rintro _ _ ⟨rfl, rfl⟩; dsimp only [List.set]))))) | (refine XO.done rfl ?_; refine hK _ _ ?_; clear hK K) | refine X.seq rfl ?_ | refine X.region rfl (fun K hK => ?_) | refine X.skip rfl ?_ | refine X.ret rfl ?_ | (refine X.ite rfl rfl (fun hc => ?_); (first | (with_reducible refine Xb.caseN hc (fun h => ?_) (fun h => ?_))) <;> clear hc))
    all_goals try (exfalso; simp_all; done)
    exact ret_two (v := .agg (cSp ⟨0, 0⟩).toArray) (by first | exact .inr rfl | exact .inl rfl) Try.results19 ⟨_, rfl, LoadV.whole (te rfl) rfl (by repeat (first | exact List.Mem.head _ | apply List.Mem.tail)) rfl⟩ rfl (H' := H) (by (repeat (first | exact List.Sublist.refl _ | apply List.Sublist.cons_cons | apply List.Sublist.cons)); done) ⟨rfl, rfl⟩
end Go.Proofs.Ytblehgpfddmggaa
end
section
set_option linter.unusedVariables false
set_option linter.unusedSimpArgs false
namespace Go.Proofs.Ytblehgpfddmggaa
open Go Go.Fw
set_option maxRecDepth 10000
def tsDr : List TOp := [⟨some 52, [], [], []⟩, ⟨some 53, [], [], []⟩, ⟨some 54, [0], [0], []⟩, ⟨some 55, [0, 1, 2], [2, 1], []⟩, ⟨some 56, [0, 1, 2, 3], [3], []⟩, ⟨some 57, [0, 1, 2, 3, 4], [4], []⟩, ⟨some 58, [], [], []⟩, ⟨some 59, [0, 1, 2, 3, 4, 5, 6], [5, 6], []⟩, ⟨some 60, [], [], []⟩, ⟨some 61, [], [], []⟩, ⟨some 62, [8], [8], []⟩, ⟨some 63, [8, 9, 10], [10, 9], []⟩, ⟨some 64, [8, 9, 10, 11], [11], []⟩, ⟨some 65, [8, 9, 10, 11, 12], [12], []⟩, ⟨some 66, [], [], []⟩, ⟨some 67, [8, 9, 10, 11, 12, 13, 14], [13, 14], []⟩, ⟨some 68, [0, 1, 2, 3, 4, 5, 6, 7, 8, 9, 10, 11, 12, 13, 14, 15], [7, 15], []⟩, ⟨some 17, [], [], []⟩, ⟨none, [0, 1, 2, 3, 4, 5, 6, 7, 8, 9, 10, 11, 12, 13, 14, 15, 16, 17], [17, 16], [17]⟩]
def valDr (b5 b6 b10 b11 b14 b15 ii kk : Nat) (m v : Int) (s : Sp) (g : Bool) (k : Nat) (env : Env) : Value :=
  match k with
  | 0 => .int .i64 (ii : Nat)
  | 1 => .int .i64 m
  | 2 => .pointer (some ⟨b15, 0 + ii * 24, none⟩)
  | 3 => .pointer (some ⟨b15, 0 + ii * 24 + m.toNat * 2, none⟩)
  | 4 => .pointer (some ⟨b15, 0 + ii * 24 + m.toNat * 2, none⟩)
  | 5 => .int .i64 s.lo
  | 6 => .int .i64 v
  | 7 => .int .i64 (s.lo - v)
  | 8 => .int .i64 (ii : Nat)
  | 9 => .int .i64 m
  | 10 => .pointer (some ⟨b15, 0 + ii * 24, none⟩)
  | 11 => .pointer (some ⟨b15, 0 + ii * 24 + m.toNat * 2, none⟩)
  | 12 => .pointer (some ⟨b15, 0 + ii * 24 + m.toNat * 2 + 1, none⟩)
  | 13 => .int .i64 s.hi
  | 14 => .int .i64 v
  | 15 => .int .i64 (s.hi - v)
  | 16 => .agg (cSp ⟨s.lo - v, s.hi - v⟩).toArray
  | 17 => .pointer (some ⟨(env 17).1, 0, none⟩)
  | 18 => undef
  | _ => undef
def rowsDr (b5 b6 b10 b11 b14 b15 ii kk : Nat) (m v : Int) (s : Sp) (g : Bool) (k : Nat) (env : Env) : List Row :=
  match k with
  | 17 => [⟨(env 17).1, 0, cSp ⟨0, 0⟩, some 35, 2⟩]
  | 18 => [⟨(env 17).1, 0, cSp ⟨s.lo - v, s.hi - v⟩, some 35, 2⟩]
  | _ => []
theorem locDr (b5 b6 b10 b11 b14 b15 ii kk : Nat) (m v : Int) (s : Sp) (g : Bool) : ∀ k env i q9, i ≠ k → (tAt tsDr k).sup.contains i = false → valDr b5 b6 b10 b11 b14 b15 ii kk m v s g k (upd env i q9) = valDr b5 b6 b10 b11 b14 b15 ii kk m v s g k env ∧ rowsDr b5 b6 b10 b11 b14 b15 ii kk m v s g k (upd env i q9) = rowsDr b5 b6 b10 b11 b14 b15 ii kk m v s g k env := by
  intro k env i q hk hs
  have hu : ∀ j, j ≠ i → upd env i q j = env j := fun j hj => by unfold upd; rw [if_neg hj]
  match k, hk, hs with
  | 0, _, _ => exact ⟨rfl, rfl⟩
  | 1, _, _ => exact ⟨rfl, rfl⟩
  | 2, _, _ => exact ⟨rfl, rfl⟩
  | 3, _, _ => exact ⟨rfl, rfl⟩
  | 4, _, _ => exact ⟨rfl, rfl⟩
  | 5, _, _ => exact ⟨rfl, rfl⟩
  | 6, _, _ => exact ⟨rfl, rfl⟩
  | 7, _, _ => exact ⟨rfl, rfl⟩
  | 8, _, _ => exact ⟨rfl, rfl⟩
  | 9, _, _ => exact ⟨rfl, rfl⟩
  | 10, _, _ => exact ⟨rfl, rfl⟩
  | 11, _, _ => exact ⟨rfl, rfl⟩
  | 12, _, _ => exact ⟨rfl, rfl⟩
  | 13, _, _ => exact ⟨rfl, rfl⟩
  | 14, _, _ => exact ⟨rfl, rfl⟩
  | 15, _, _ => exact ⟨rfl, rfl⟩
  | 16, _, _ => exact ⟨rfl, rfl⟩
  | 17, hk, hs => exact ⟨by simp only [valDr, hu 17 (fun e => hk e.symm)], by simp only [rowsDr, hu 17 (fun e => hk e.symm)]⟩
  | 18, hk, hs => exact ⟨by simp only [valDr, hu 17 (by rintro rfl; cases hs)], by simp only [rowsDr, hu 17 (by rintro rfl; cases hs)]⟩
  | _ + 19, _, _ => exact ⟨rfl, rfl⟩
/-- a pinned chart, closed -/
structure Pn (R : Rm) (c : List Sp) (x : List Sp × Bool) : Prop where
  len : x.1.length = 48
  yes : x.2 = true → ClosedT R R.mats c x.1
  no : x.2 = false → ∀ z, Tru R R.mats z → ¬ Inn R c z
set_option maxHeartbeats 16000000 in
theorem rdiffer_spec (R : Rm) (p : Pl) (c : List Sp) (a b : Bx) (i k : Nat) (m : Int) (H : List Row) (hr : okRm R) (hR : RmOk H R p) (hm : matsThere R R.mats) (hlm : R.mats.length ≤ 100) (hc : c.length = 48) (hA : As R 0 c) (hta : there R a m) (htb : there R b m) (hi : R.boxes[i]? = some a) (hk : R.boxes[k]? = some b) :
    Fc Try.prog 64 [.agg (cRm R p).toArray, .agg (c.flatMap cSp).toArray, .int .i64 i, .int .i64 k, .int .i64 m] H (fun v H' => v = .agg (cSp (rng R R.mats ⟨a.id, m⟩ ⟨b.id, m⟩)).toArray ∧ H' = H) := by
  have hb4 := hr.b4
  have hm0 := there_bd hr hta
  have hil := (List.getElem?_eq_some_iff.1 hi).1
  have hkl := (List.getElem?_eq_some_iff.1 hk).1
  have ca : cel R ⟨a.id, m⟩ = i * 12 + m.toNat := cel_box hr.bx hi m
  have cb : cel R ⟨b.id, m⟩ = k * 12 + m.toNat := cel_box hr.bx hk m
  have hcl : (c.flatMap cSp).length = 96 := sp_len96 hc
  obtain ⟨_, hlo, hhi⟩ := sp_cells c (k * 12 + m.toNat) (by omega)
  obtain ⟨t, ht⟩ : ∃ t, t = sat c (k * 12 + m.toNat) := ⟨_, rfl⟩
  rw [← ht, show (k * 12 + m.toNat) * 2 = 0 + k * 24 + m.toNat * 2 by omega] at hlo hhi
  have htk := hA.good.ok (k * 12 + m.toNat)
  rw [← ht] at htk
  have hpin : ∀ v : Int, splice (c.flatMap cSp) (0 + k * 24 + m.toNat * 2) (cSp ⟨v, v⟩) = (pin c (k * 12 + m.toNat) v).flatMap cSp := fun v => by
    rw [show 0 + k * 24 + m.toNat * 2 = (k * 12 + m.toNat) * 2 by omega]
    exact sp_splice c (k * 12 + m.toNat) ⟨v, v⟩ (by omega)
  have hpl : ∀ v : Int, ((pin c (k * 12 + m.toNat) v).flatMap cSp).length = 96 := fun v => sp_len96 (by unfold pin; rw [List.length_set]; exact hc)
  have hcs : ∀ (v : Int) S, t.lo ≤ v → v ≤ t.hi → RmOk S R p → Fc Try.prog 84 [.agg (cRm R p).toArray, .slice p.a3 R.mats.length p.c3, .agg ((pin c (k * 12 + m.toNat) v).flatMap cSp).toArray] S (fun u H' => ∃ x, Pn R (pin c (k * 12 + m.toNat) v) x ∧ u = .tuple #[.agg (x.1.flatMap cSp).toArray, .bool x.2] ∧ H' = S) := fun v S h1 h2 hS => by
    obtain ⟨p1, p2, _⟩ := pin_ok hA.good (k := k * 12 + m.toNat) (v := v) (by omega) (by rw [← ht]; exact ⟨h1, h2⟩)
    refine (closed_spec R p R.mats p.a3 p.c3 (pin c (k * 12 + m.toNat) v) S hr hS hS.mats hlm hm p1 p2).mono fun u H' ⟨l, hH, h⟩ => ?_
    rcases h with ⟨h1, hv⟩ | ⟨h1, h2, hv⟩
    · exact ⟨(l, true), ⟨h1.len, fun _ => h1, (fun h => by cases h)⟩, hv, hH⟩
    · exact ⟨(l, false), ⟨h1, (fun h => by cases h), fun _ => h2⟩, hv, hH⟩
  refine Fc.mk (callable Try.call64) Try.func64 rfl Try.ntmps64 rfl ?_; dsimp only [fr]
  repeat' (first | (refine XO.op rfl ?_; (first | ((first | refine Xo.ng rfl ?_); (first | (refine Xg.ev (EvF.indexArray (i := (k : Int)) (off := 0) (T := 107) (e := 105) (len := 4) rfl rfl rfl (te rfl) (te rfl) (by omega) (by omega)) rfl rfl ?_) | (refine Xg.ev (EvF.indexArray (i := m) (off := 0 + k * 24) (T := 105) (e := 35) (len := 12) rfl rfl rfl (te rfl) (te rfl) (by omega) (by omega)) rfl rfl ?_) | (refine Xg.ev (EvF.loadV rfl rfl (LoadV.own (te rfl) rfl (by repeat (first | exact List.Mem.head _ | apply List.Mem.tail)) hlo)) rfl rfl ?_) | (refine Xg.ev (EvF.move rfl rfl) rfl rfl ?_) | (refine Xg.ev (EvF.assign rfl rfl) rfl rfl ?_) | (refine Xg.ev (EvF.fieldAddr rfl rfl (te rfl) rfl (te rfl) (by decide)) rfl rfl ?_) | (refine Xg.st (StF.boxAgg rfl rfl) rfl rfl ?_; rintro _ _ ⟨bx, rfl, rfl⟩) | (refine Xg.st (StF.alloc rfl Try.zeroValue35 rfl) rfl rfl ?_; rintro _ _ ⟨bx, rfl, rfl⟩))))) | (refine XO.done rfl ?_; refine hK _ _ ?_; clear hK K) | refine X.seq rfl ?_ | refine X.region rfl (fun K hK => ?_) | refine X.block rfl ?_)
  rename_i b5 b6 b10
  generalize bx = b11
  rw [hcl]
  refine X.lp rfl (fun q F' H' => ∃ (v : Int) (out : Sp) (any : Bool), q = (t.hi + 1 - v).toNat ∧ t.lo ≤ v ∧ v ≤ t.hi + 1 ∧ Acc R R.mats ⟨a.id, m⟩ ⟨b.id, m⟩ t.lo v out any ∧ H' = ⟨b11, 0, cSp out, some 35, 2⟩ :: ⟨b10, 0, cSp ⟨0, 0⟩, some 35, 2⟩ :: ⟨b6, 0, c.flatMap cSp, some 107, 96⟩ :: ⟨b5, 0, cRm R p, some 26, 5⟩ :: H ∧ F' = [(2, .int .i64 i), (3, .int .i64 k), (4, .int .i64 m), (5, .pointer (some ⟨b5, 0, none⟩)), (6, .pointer (some ⟨b6, 0, none⟩)), (10, .pointer (some ⟨b10, 0, none⟩)), (11, .pointer (some ⟨b11, 0, none⟩)), (12, .bool any), (13, .int .i64 v)])
    (t.hi + 1 - t.lo).toNat [(2, .int .i64 i), (3, .int .i64 k), (4, .int .i64 m), (5, .pointer (some ⟨b5, 0, none⟩)), (6, .pointer (some ⟨b6, 0, none⟩)), (10, .pointer (some ⟨b10, 0, none⟩)), (11, .pointer (some ⟨b11, 0, none⟩)), (12, .bool false), (13, .int .i64 t.lo)] (⟨b11, 0, cSp ⟨0, 0⟩, some 35, 2⟩ :: ⟨b10, 0, cSp ⟨0, 0⟩, some 35, 2⟩ :: ⟨b6, 0, c.flatMap cSp, some 107, 96⟩ :: ⟨b5, 0, cRm R p, some 26, 5⟩ :: H) (by (repeat (first | exact Sub.nil _ | refine Sub.cons rfl ?_)); done) (List.Sublist.refl _) ⟨t.lo, ⟨0, 0⟩, false, rfl, by omega, by omega, Acc.zero _ _ _ _ _ _, rfl, rfl⟩ ?_
  rintro _ _ _ ⟨v, out, any, rfl, hv1, hv2, hAc, rfl, rfl⟩
  repeat' (first | (refine XO.op rfl ?_; (first | ((first | refine Xo.ng rfl ?_); (first | (refine Xg.ev (EvF.indexArray (i := (k : Int)) (off := 0) (T := 107) (e := 105) (len := 4) rfl rfl rfl (te rfl) (te rfl) (by omega) (by omega)) rfl rfl ?_) | (refine Xg.ev (EvF.indexArray (i := m) (off := 0 + k * 24) (T := 105) (e := 35) (len := 12) rfl rfl rfl (te rfl) (te rfl) (by omega) (by omega)) rfl rfl ?_) | (refine Xg.ev (EvF.loadV rfl rfl (LoadV.own (te rfl) rfl (by repeat (first | exact List.Mem.head _ | apply List.Mem.tail)) hhi)) rfl rfl ?_) | (refine Xg.ev (EvF.loadV rfl rfl (LoadV.whole (T := 107) (cs := c.flatMap cSp) (te rfl) rfl (by repeat (first | exact List.Mem.head _ | apply List.Mem.tail)) hcl)) rfl rfl ?_) | (refine Xg.ev (EvF.loadV rfl rfl (LoadV.whole (T := 26) (cs := cRm R p) (te rfl) rfl (by repeat (first | exact List.Mem.head _ | apply List.Mem.tail)) rfl)) rfl rfl ?_) | (refine Xg.st (StF.alloc rfl Try.zeroValue107 rfl) rfl rfl ?_; rintro _ _ ⟨b14, rfl, rfl⟩) | (refine Xg.st0 (StF.storeAll (i := 0) (vs := c.flatMap cSp) (cs := zRc.flatMap cSp) rfl rfl rfl (te rfl) rfl hcl (sp_one _) (by rw [hcl, sp_len]; rfl)) rfl ?_; rintro _ _ ⟨rfl, rfl⟩; dsimp only [List.set]) | (refine Xg.ev (EvF.build (cs := cSp ⟨v, v⟩) rfl (ArgsP.cons rfl (ArgsP.cons rfl ArgsP.nil)) (te rfl) (Places.cons (te rfl) (Places.cons (te rfl) Places.nil)) Try.zeroValue35 rfl) rfl rfl ?_) | (refine Xg.st0 (StF.storeAt (q := 0) (j := 0 + k * 24 + m.toNat * 2) (vs := cSp ⟨v, v⟩) (cs := c.flatMap cSp) rfl rfl rfl (te rfl) rfl rfl rfl (by rw [hcl]; show 0 + k * 24 + m.toNat * 2 + 2 ≤ 96; omega)) rfl ?_; rintro _ _ ⟨rfl, rfl⟩; dsimp only [List.set]; rw [hpin v]) | (refine Xg.ev (EvF.loadV rfl rfl (LoadV.whole (T := 107) (cs := (pin c (k * 12 + m.toNat) v).flatMap cSp) (te rfl) rfl (by repeat (first | exact List.Mem.head _ | apply List.Mem.tail)) (hpl v))) rfl rfl ?_) | (refine Xg.call (EnF.st rfl (by (repeat (first | exact Args.nil | refine Args.cons rfl ?_)); done)) rfl rfl (hcs v _ hv1 (by omega) (hR.sub (fun _ h => by repeat (first | exact h | apply List.Mem.tail)))) ?_; rintro _ _ ⟨x, hx, rfl, rfl⟩) | (refine Xg.ev (EvF.extract rfl rfl rfl) rfl rfl ?_) | (refine Xg.st0 (StF.storeAll (i := 0) (vs := x.1.flatMap cSp) (cs := zRc.flatMap cSp) rfl rfl rfl (te rfl) rfl (sp_len96 hx.len) (sp_one _) (by rw [sp_len96 hx.len, sp_len]; rfl)) rfl ?_; rintro _ _ ⟨rfl, rfl⟩; dsimp only [List.set]) | (refine Xg.ev (EvF.move rfl rfl) rfl rfl ?_) | (refine Xg.ev (EvF.assign rfl rfl) rfl rfl ?_) | (refine Xg.ev (EvF.cmp rfl rfl rfl rfl) rfl rfl ?_) | (refine Xg.ev (EvF.add64 rfl rfl rfl (by omega) (by omega)) rfl rfl ?_) | (refine Xg.ev (EvF.not rfl rfl) rfl rfl ?_) | (refine Xg.ev (EvF.fieldAddr rfl rfl (te rfl) rfl (te rfl) (by decide)) rfl rfl ?_) | (refine Xg.ev (EvF.loadV rfl rfl (LoadV.own (te rfl) rfl (List.Mem.tail _ (List.Mem.tail _ (List.Mem.tail _ (List.Mem.tail _ (List.Mem.head _))))) rfl)) rfl rfl ?_) | (refine Xg.ev (EvF.loadV rfl rfl (LoadV.whole (te rfl) rfl (List.Mem.head _) rfl)) rfl rfl ?_) | (refine Xg.st0 (StF.storeAll (i := 1) rfl rfl rfl (te rfl) rfl rfl rfl rfl) rfl ?_; rintro _ _ ⟨rfl, rfl⟩; dsimp only [List.set]))))) | (refine XO.done rfl ?_; refine hK _ _ ?_; clear hK K) | refine X.seq rfl ?_ | refine X.region rfl (fun K hK => ?_) | refine X.block rfl ?_ | (refine X.brk rfl ?_; repeat (first | refine blockX_hit rfl ?_ | refine blockX_miss (by decide) ?_)) | refine X.skip rfl ?_ | refine X.ret rfl ?_ | (refine X.ite rfl rfl (fun hc => ?_); (first | (with_reducible refine Xb.case hc (fun h => ?_) (fun h => ?_)) | (with_reducible refine Xb.caseB hc (fun h => ?_) (fun h => ?_))) <;> clear hc))
  · rename_i hv3 bp
    exact ⟨_, _, ⟨b11, 0, cSp out, some 35, 2⟩ :: ⟨b10, 0, cSp ⟨0, 0⟩, some 35, 2⟩ :: ⟨b6, 0, c.flatMap cSp, some 107, 96⟩ :: ⟨b5, 0, cRm R p, some 26, 5⟩ :: H, (by (repeat (first | exact Sub.nil _ | refine Sub.cons rfl ?_)); done), (by (repeat (first | exact List.Sublist.refl _ | apply List.Sublist.cons_cons | apply List.Sublist.cons)); done), ⟨v + 1, out, any, rfl, by omega, by omega, hAc.skip (fun z hz he => hx.no (by simpa using h) z hz (by rw [← cb]; exact pin_inn hr hA.good htb hz he)), rfl, rfl⟩, by omega⟩
  · rename_i hv3 bp
    generalize b14 = b15
    have hxl := hx.len
    obtain ⟨s, hs⟩ : ∃ s, s = sat x.1 (i * 12 + m.toNat) := ⟨_, rfl⟩
    obtain ⟨_, hslo, hshi⟩ := sp_cells x.1 (i * 12 + m.toNat) (by omega)
    rw [← hs, show (i * 12 + m.toNat) * 2 = 0 + i * 24 + m.toNat * 2 by omega] at hslo hshi
    have hX := hx.yes (by simpa using h)
    have hsok := And.intro (hX.sub (i * 12 + m.toNat)) (hX.full (i * 12 + m.toNat))
    rw [← hs] at hsok
    have hpo := (pin_ok hA.good (k := k * 12 + m.toNat) (v := v) (by omega) (by rw [← ht]; exact ⟨hv1, hv3⟩)).2.1 (i * 12 + m.toNat)
    have hsb : 0 ≤ s.lo ∧ s.lo ≤ s.hi ∧ s.hi ≤ 60 := by obtain ⟨q1, q2⟩ := hsok; omega
    have hX2 := hX
    rw [← cb] at hX2
    obtain ⟨e1, e2, e3⟩ := pin_closed hr hm hA.good hta htb (by rw [cb, ← ht]; exact ⟨hv1, hv3⟩) hX2
    rw [ca, ← hs] at e1 e2 e3
    have hadd := hAc.add (s := ⟨s.lo - v, s.hi - v⟩) e1 e2 e3
    refine X.regionOb tsDr [2, 3, 4, 5, 6, 10, 11, 12, 13, 14, 15] [(2, .int .i64 (i : Nat)), (3, .int .i64 (k : Nat)), (4, .int .i64 m), (5, .pointer (some ⟨b5, 0, none⟩)), (6, .pointer (some ⟨b6, 0, none⟩)), (10, .pointer (some ⟨b10, 0, none⟩)), (11, .pointer (some ⟨b11, 0, none⟩)), (12, .bool any), (13, .int .i64 v), (14, .pointer (some ⟨bp, 0, none⟩)), (15, .pointer (some ⟨b15, 0, none⟩))] (valDr b5 b6 b10 b11 bp b15 i k m v s any) (rowsDr b5 b6 b10 b11 bp b15 i k m v s any) (fun _ => (0, 0)) (⟨b15, 0, x.1.flatMap cSp, some 107, 96⟩ :: ⟨bp, 0, (pin c (k * 12 + m.toNat) v).flatMap cSp, some 107, 96⟩ :: ⟨b11, 0, cSp out, some 35, 2⟩ :: ⟨b10, 0, cSp ⟨0, 0⟩, some 35, 2⟩ :: ⟨b6, 0, c.flatMap cSp, some 107, 96⟩ :: ⟨b5, 0, cRm R p, some 26, 5⟩ :: H) rfl mixed (by (repeat (first | exact Sub.nil _ | refine Sub.cons rfl ?_)); done) rfl (by kernel_rfl) (locDr b5 b6 b10 b11 bp b15 i k m v s any) (List.Sublist.refl _) ?_ ?_
    · repeat' (first | exact AllF.done rfl | (refine AllF.step rfl ?_ ?_; · (first | fail | ((first | refine Ob.ng rfl ?_); (first | exact ObK.pure (fun env R hR => by exact ⟨_, EvF.move rfl rfl, rfl⟩) rfl (fun _ => rfl) | exact ObK.pure (fun env R hR => by exact ⟨_, EvF.fieldAddr rfl rfl (te rfl) rfl (te rfl) (by decide), rfl⟩) rfl (fun _ => rfl) | ((refine ObK.pure (fun env S hS => ⟨.pointer (some ⟨b15, 0 + i * 24, none⟩), ?_, rfl⟩) rfl (fun _ => rfl); exact EvF.indexArray (i := (i : Int)) (off := 0) (b := b15) (T := 107) (e := 105) (len := 4) rfl rfl rfl (te rfl) (te rfl) (by omega) (by omega))) | ((refine ObK.pure (fun env S hS => ⟨.pointer (some ⟨b15, 0 + i * 24 + m.toNat * 2, none⟩), ?_, rfl⟩) rfl (fun _ => rfl); exact EvF.indexArray (i := m) (off := 0 + i * 24) (b := b15) (T := 105) (e := 35) (len := 12) rfl rfl rfl (te rfl) (te rfl) (by omega) (by omega))) | (exact ObK.pure (fun env S hS => ⟨_, EvF.loadV rfl rfl (LoadV.own (te rfl) rfl (hS _ (List.Mem.head _)) hslo), rfl⟩) rfl (fun _ => rfl)) | (exact ObK.pure (fun env S hS => ⟨_, EvF.loadV rfl rfl (LoadV.own (te rfl) rfl (hS _ (List.Mem.head _)) hshi), rfl⟩) rfl (fun _ => rfl)) | (exact ObK.pure (fun env S hS => ⟨_, EvF.build (cs := cSp ⟨s.lo - v, s.hi - v⟩) rfl (ArgsP.cons rfl (ArgsP.cons rfl ArgsP.nil)) (te rfl) (Places.cons (te rfl) (Places.cons (te rfl) Places.nil)) Try.zeroValue35 rfl, rfl⟩) rfl (fun _ => rfl)) | (exact fun env S hS => (StF.alloc rfl Try.zeroValue35 rfl).op.mono (fun v H' ⟨b, hv, hH⟩ => ⟨(b, 0), fun _ => hv, by rw [hH]; exact List.Perm.refl _⟩)) | (exact fun env S hS => (StF.storeAll (i := 0) (vs := cSp ⟨s.lo - v, s.hi - v⟩) (cs := cSp ⟨0, 0⟩) rfl rfl rfl (te rfl) rfl rfl rfl rfl).op.mono (fun v H' ⟨hv, hH⟩ => ⟨(0, 0), fun h => absurd rfl h, by rw [hH]; exact List.Perm.refl _⟩)) | (exact ObK.pure (fun env S hS => ⟨_, EvF.sub64 rfl rfl rfl (by omega) (by omega), rfl⟩) rfl (fun _ => rfl)))))))
    intro env t ha2 hv; refine ⟨_, ha2.cons (hv 17 17 (Nat.le_of_ble_eq_true rfl) rfl), ?_⟩; clear hv ha2
    show X _ _ _ [(17, .pointer (some ⟨(env 17).1, 0, none⟩)), (2, .int .i64 i), (3, .int .i64 k), (4, .int .i64 m), (5, .pointer (some ⟨b5, 0, none⟩)), (6, .pointer (some ⟨b6, 0, none⟩)), (10, .pointer (some ⟨b10, 0, none⟩)), (11, .pointer (some ⟨b11, 0, none⟩)), (12, .bool any), (13, .int .i64 v), (14, .pointer (some ⟨bp, 0, none⟩)), (15, .pointer (some ⟨b15, 0, none⟩))] (⟨(env 17).1, 0, cSp ⟨s.lo - v, s.hi - v⟩, some 35, 2⟩ :: ⟨b15, 0, x.1.flatMap cSp, some 107, 96⟩ :: ⟨bp, 0, (pin c (k * 12 + m.toNat) v).flatMap cSp, some 107, 96⟩ :: ⟨b11, 0, cSp out, some 35, 2⟩ :: ⟨b10, 0, cSp ⟨0, 0⟩, some 35, 2⟩ :: ⟨b6, 0, c.flatMap cSp, some 107, 96⟩ :: ⟨b5, 0, cRm R p, some 26, 5⟩ :: H) _
    generalize (env 17).1 = b17
    clear env
    cases any with
    | false =>
      repeat' (first | (refine XO.op rfl ?_; (first | ((first | refine Xo.ng rfl ?_); (first | (refine Xg.ev (EvF.move rfl rfl) rfl rfl ?_) | (refine Xg.ev (EvF.assign rfl rfl) rfl rfl ?_) | (refine Xg.ev (EvF.add64 rfl rfl rfl (by omega) (by omega)) rfl rfl ?_) | (refine Xg.ev (EvF.loadV rfl rfl (LoadV.whole (te rfl) rfl (List.Mem.head _) rfl)) rfl rfl ?_) | (refine Xg.st0 (StF.storeAll (i := 3) rfl rfl rfl (te rfl) rfl rfl rfl rfl) rfl ?_; rintro _ _ ⟨rfl, rfl⟩; dsimp only [List.set]))))) | (refine XO.done rfl ?_; refine hK _ _ ?_; clear hK K) | refine X.seq rfl ?_ | refine X.region rfl (fun K hK => ?_) | refine X.skip rfl ?_ | (refine X.ite rfl rfl (fun hc => ?_); (first | (with_reducible refine Xb.f hc ?_)) <;> clear hc))
      all_goals try (exfalso; contradiction)
      exact ⟨_, _, ⟨b11, 0, cSp ⟨s.lo - v, s.hi - v⟩, some 35, 2⟩ :: ⟨b10, 0, cSp ⟨0, 0⟩, some 35, 2⟩ :: ⟨b6, 0, c.flatMap cSp, some 107, 96⟩ :: ⟨b5, 0, cRm R p, some 26, 5⟩ :: H, (by (repeat (first | exact Sub.nil _ | refine Sub.cons rfl ?_)); done), (by (repeat (first | exact List.Sublist.refl _ | apply List.Sublist.cons_cons | apply List.Sublist.cons)); done), ⟨v + 1, _, true, rfl, by omega, by omega, by simpa using hadd, rfl, rfl⟩, by omega⟩
    | true =>
      repeat' (first | (refine XO.op rfl ?_; (first | ((first | refine Xo.ng rfl ?_); (first | (refine Xg.ev (EvF.min64 rfl rfl rfl) rfl rfl ?_) | (refine Xg.ev (EvF.max64 rfl rfl rfl) rfl rfl ?_) | (refine Xg.ev (EvF.build (cs := cSp ⟨min (s.lo - v) out.lo, max (s.hi - v) out.hi⟩) rfl (ArgsP.cons rfl (ArgsP.cons rfl ArgsP.nil)) (te rfl) (Places.cons (te rfl) (Places.cons (te rfl) Places.nil)) Try.zeroValue35 rfl) rfl rfl ?_) | (refine Xg.ev (EvF.move rfl rfl) rfl rfl ?_) | (refine Xg.ev (EvF.assign rfl rfl) rfl rfl ?_) | (refine Xg.ev (EvF.add64 rfl rfl rfl (by omega) (by omega)) rfl rfl ?_) | (refine Xg.ev (EvF.fieldAddr rfl rfl (te rfl) rfl (te rfl) (by decide)) rfl rfl ?_) | (refine Xg.ev (EvF.loadV rfl rfl (LoadV.own (te rfl) rfl (List.Mem.head _) rfl)) rfl rfl ?_) | (refine Xg.ev (EvF.loadV rfl rfl (LoadV.own (te rfl) rfl (List.Mem.tail _ (List.Mem.tail _ (List.Mem.tail _ (List.Mem.head _)))) rfl)) rfl rfl ?_) | (refine Xg.ev (EvF.loadV rfl rfl (LoadV.whole (te rfl) rfl (List.Mem.head _) rfl)) rfl rfl ?_) | (refine Xg.st0 (StF.storeAll (i := 0) rfl rfl rfl (te rfl) rfl rfl rfl rfl) rfl ?_; rintro _ _ ⟨rfl, rfl⟩; dsimp only [List.set]) | (refine Xg.st0 (StF.storeAll (i := 3) rfl rfl rfl (te rfl) rfl rfl rfl rfl) rfl ?_; rintro _ _ ⟨rfl, rfl⟩; dsimp only [List.set]))))) | (refine XO.done rfl ?_; refine hK _ _ ?_; clear hK K) | refine X.seq rfl ?_ | refine X.region rfl (fun K hK => ?_) | (refine X.ite rfl rfl (fun hc => ?_); (first | (with_reducible refine Xb.t hc ?_)) <;> clear hc))
      all_goals try (exfalso; contradiction)
      exact ⟨_, _, ⟨b11, 0, cSp ⟨min (s.lo - v) out.lo, max (s.hi - v) out.hi⟩, some 35, 2⟩ :: ⟨b10, 0, cSp ⟨0, 0⟩, some 35, 2⟩ :: ⟨b6, 0, c.flatMap cSp, some 107, 96⟩ :: ⟨b5, 0, cRm R p, some 26, 5⟩ :: H, (by (repeat (first | exact Sub.nil _ | refine Sub.cons rfl ?_)); done), (by (repeat (first | exact List.Sublist.refl _ | apply List.Sublist.cons_cons | apply List.Sublist.cons)); done), ⟨v + 1, _, true, rfl, by omega, by omega, by simpa using hadd, rfl, rfl⟩, by omega⟩
  · have hex := hAc.ex hA.hT (fun z hz => by
      have := hA.good.inn z hz b m htb
      rw [cb, ← ht] at this
      unfold holds at this
      omega)
    refine ret_one (v := .agg (cSp out).toArray) (by first | exact .inr rfl | exact .inl rfl) Try.results64 ⟨_, rfl, LoadV.whole (te rfl) rfl (by repeat (first | exact List.Mem.head _ | apply List.Mem.tail)) rfl⟩ (H' := H) (by (repeat (first | exact List.Sublist.refl _ | apply List.Sublist.cons_cons | apply List.Sublist.cons)); done) ⟨?_, rfl⟩
    rw [rng_eq hex]
end Go.Proofs.Ytblehgpfddmggaa
end
section
set_option linter.unusedVariables false
set_option linter.unusedSimpArgs false
namespace Go.Proofs.Ytblehgpfddmggaa
open Go Go.Fw
set_option maxRecDepth 10000
def tsDh : List TOp := [⟨some 29, [], [], []⟩, ⟨some 30, [], [], []⟩, ⟨some 31, [], [], []⟩, ⟨some 32, [], [], []⟩, ⟨some 33, [2, 3], [2, 3], []⟩, ⟨some 34, [], [], []⟩, ⟨some 35, [], [], []⟩, ⟨some 36, [2, 3, 4, 5, 6], [5, 6], []⟩, ⟨some 37, [], [], []⟩, ⟨some 38, [0, 1, 2, 3, 4, 5, 6, 7, 8], [0, 1, 4, 7, 8], []⟩, ⟨none, [0, 1, 2, 3, 4, 5, 6, 7, 8, 9], [9], [12]⟩, ⟨some 9, [0, 1, 2, 3, 4, 5, 6, 7, 8, 9, 10], [], []⟩, ⟨none, [], [], []⟩]
def valDh (b4 b8 b10 ia ib : Nat) (R : Rm) (p : Pl) (c : List Sp) (x y m : Int) (s : Sp) (k : Nat) (env : Env) : Value :=
  match k with
  | 0 => .agg (cRm R p).toArray
  | 1 => .agg (c.flatMap cSp).toArray
  | 2 => .agg (cRm R p).toArray
  | 3 => .int .i64 x
  | 4 => .int .i64 (ia : Nat)
  | 5 => .agg (cRm R p).toArray
  | 6 => .int .i64 y
  | 7 => .int .i64 (ib : Nat)
  | 8 => .int .i64 m
  | 9 => .agg (cSp s).toArray
  | 10 => undef
  | 11 => .int .i64 0
  | _ => undef
def rowsDh (b4 b8 b10 ia ib : Nat) (R : Rm) (p : Pl) (c : List Sp) (x y m : Int) (s : Sp) (k : Nat) (env : Env) : List Row :=
  match k with
  | 10 => [⟨b8, 0, cSp s, some 35, 2⟩]
  | 12 => [⟨b8, 0, cSp ⟨0, 0⟩, some 35, 2⟩]
  | _ => []
theorem locDh (b4 b8 b10 ia ib : Nat) (R : Rm) (p : Pl) (c : List Sp) (x y m : Int) (s : Sp) : ∀ k env i q9, i ≠ k → (tAt tsDh k).sup.contains i = false → valDh b4 b8 b10 ia ib R p c x y m s k (upd env i q9) = valDh b4 b8 b10 ia ib R p c x y m s k env ∧ rowsDh b4 b8 b10 ia ib R p c x y m s k (upd env i q9) = rowsDh b4 b8 b10 ia ib R p c x y m s k env := by
  intro k env i q hk hs
  have hu : ∀ j, j ≠ i → upd env i q j = env j := fun j hj => by unfold upd; rw [if_neg hj]
  match k, hk, hs with
  | 0, _, _ => exact ⟨rfl, rfl⟩
  | 1, _, _ => exact ⟨rfl, rfl⟩
  | 2, _, _ => exact ⟨rfl, rfl⟩
  | 3, _, _ => exact ⟨rfl, rfl⟩
  | 4, _, _ => exact ⟨rfl, rfl⟩
  | 5, _, _ => exact ⟨rfl, rfl⟩
  | 6, _, _ => exact ⟨rfl, rfl⟩
  | 7, _, _ => exact ⟨rfl, rfl⟩
  | 8, _, _ => exact ⟨rfl, rfl⟩
  | 9, _, _ => exact ⟨rfl, rfl⟩
  | 10, _, _ => exact ⟨rfl, rfl⟩
  | 11, _, _ => exact ⟨rfl, rfl⟩
  | 12, _, _ => exact ⟨rfl, rfl⟩
  | _ + 13, _, _ => exact ⟨rfl, rfl⟩
set_option maxHeartbeats 4000000 in
theorem rDiffer_spec (R : Rm) (p : Pl) (a b m : Int) (H : List Row) (hR : RmOk H R p) : Fc Try.prog 21 [.agg (cRm R p).toArray, .int .i64 a, .int .i64 b, .int .i64 m] H (fun v H' => v = .tuple #[.agg (cSp (difF R a b m).1).toArray, .int .i64 (difF R a b m).2] ∧ H' = H) := by
  obtain ⟨e, he⟩ : ∃ e, openE R [a, b] [m] = e := ⟨_, rfl⟩
  have has : ∀ (H' : List Row) (b1 : Nat), RmOk H' R p → ⟨b1, 0, [.int .i64 a, .int .i64 b], some 3, 2 * 1⟩ ∈ H' → Fc Try.prog 61 [.agg (cRm R p).toArray, .slice (some ⟨b1, 0, none⟩) 2 2, .int .i64 m] H' (fun v H'' => ∃ c, c.length = 48 ∧ (e = 0 → As R 0 c) ∧ v = .tuple #[.agg (c.flatMap cSp).toArray, .int .i64 e] ∧ H'' = H') := fun H' b1 q1 q2 => by
    have := rAsked_spec R p [a, b] (some ⟨b1, 0, none⟩) 2 m H' q1 (SlE.ofRow (l := [a, b]) q2 (fun _ _ => rfl)) (Nat.le_of_ble_eq_true rfl)
    rw [he] at this
    exact this
  by_cases h0 : e = 0
  · subst h0
    obtain ⟨hok, _, _, hT⟩ := openE_ok he
    have hr := hok.ok
    have hb4 := hr.b4
    have hlm : R.mats.length ≤ 100 := by have := hok.1.2.2.2.2.2.2; omega
    obtain ⟨xa, ia, hta, rfl, hia, hixa, hila, hm0, hm1, hca⟩ := there_ix hr he (show a ∈ [a, b] from List.mem_cons_self)
    obtain ⟨xb, ib, htb, rfl, hib, hixb, hilb, _, _, hcb⟩ := there_ix hr he (show b ∈ [xa.id, b] from List.mem_cons_of_mem _ List.mem_cons_self)
    have hixsa := fun H' hH' => index_spec R p xa.id H' hH'
    have hixsb := fun H' hH' => index_spec R p xb.id H' hH'
    rw [hixa] at hixsa
    rw [hixb] at hixsb
    obtain ⟨r, hr9⟩ : ∃ r, r = difF R xa.id xb.id m := ⟨_, rfl⟩
    rw [← hr9]
    unfold difF at hr9
    rw [if_pos he] at hr9
    refine Fc.mk (callable Try.call21) Try.func21 rfl Try.ntmps21 rfl ?_; dsimp only [fr]
    repeat' (first | (refine XO.op rfl ?_; (first | ((first | refine Xo.ng rfl ?_); (first | (refine Xg.st (StF.buildTwo rfl el55 rfl rfl rfl rfl rfl rfl (by decide) (by decide)) rfl rfl ?_; rintro _ _ ⟨b1, rfl, rfl⟩) | (refine Xg.ev (EvF.loadV rfl rfl (LoadV.whole (T := 26) (cs := cRm R p) (te rfl) rfl (by repeat (first | exact List.Mem.head _ | apply List.Mem.tail)) rfl)) rfl rfl ?_) | (refine Xg.call (EnF.st rfl (by (repeat (first | exact Args.nil | refine Args.cons rfl ?_)); done)) rfl rfl (has _ b1 (hR.sub (fun _ h => by repeat (first | exact h | apply List.Mem.tail))) (List.Mem.head _)) ?_; rintro _ _ ⟨c, hc, hA, rfl, rfl⟩) | (refine Xg.ev (EvF.extract rfl rfl rfl) rfl rfl ?_) | (refine Xg.st (StF.alloc rfl Try.zeroValue107 rfl) rfl rfl ?_; rintro _ _ ⟨b10, rfl, rfl⟩) | (refine Xg.st0 (StF.storeAll (i := 0) (vs := c.flatMap cSp) (cs := zRc.flatMap cSp) rfl rfl rfl (te rfl) rfl (sp_len96 hc) (sp_one _) (by rw [sp_len96 hc, sp_len]; rfl)) rfl ?_; rintro _ _ ⟨rfl, rfl⟩; dsimp only [List.set]) | (refine Xg.ev (EvF.build (cs := cSp ⟨0, 0⟩) rfl ArgsP.nil (te rfl) (Places.cons (te rfl) (Places.cons (te rfl) Places.nil)) Try.zeroValue35 rfl) rfl rfl ?_) | (refine Xg.ev (EvF.move rfl rfl) rfl rfl ?_) | (refine Xg.ev (EvF.assign rfl rfl) rfl rfl ?_) | (refine Xg.ev (EvF.cmp rfl rfl rfl rfl) rfl rfl ?_) | (refine Xg.st (StF.boxAgg rfl rfl) rfl rfl ?_; rintro _ _ ⟨bx, rfl, rfl⟩) | (refine Xg.st (StF.alloc rfl Try.zeroValue35 rfl) rfl rfl ?_; rintro _ _ ⟨bx, rfl, rfl⟩) | (refine Xg.st0 (StF.storeAll (i := 2) rfl rfl rfl (te rfl) rfl rfl rfl rfl) rfl ?_; rintro _ _ ⟨rfl, rfl⟩; dsimp only [List.set]))))) | (refine XO.done rfl ?_; refine hK _ _ ?_; clear hK K) | refine X.seq rfl ?_ | refine X.region rfl (fun K hK => ?_) | refine X.skip rfl ?_ | refine X.ret rfl ?_ | (refine X.ite rfl rfl (fun hc => ?_); (first | (with_reducible refine Xb.case hc (fun h => ?_) (fun h => ?_)) | (with_reducible refine Xb.caseN hc (fun h => ?_) (fun h => ?_))) <;> clear hc))
    all_goals try (exfalso; omega)
    · rw [if_pos (by assumption)] at hr9
      subst hr9
      exact ret_two (v := .agg (cSp ⟨0, 0⟩).toArray) (by first | exact .inr rfl | exact .inl rfl) Try.results21 ⟨_, rfl, LoadV.whole (te rfl) rfl (by repeat (first | exact List.Mem.head _ | apply List.Mem.tail)) rfl⟩ rfl (H' := H) (by (repeat (first | exact List.Sublist.refl _ | apply List.Sublist.cons_cons | apply List.Sublist.cons)); done) ⟨rfl, rfl⟩
    · rw [if_neg (by assumption)] at hr9
      subst hr9
      rename_i b4 h9
      generalize bx = b8
      refine X.weakR (H' := ⟨b10, 0, c.flatMap cSp, some 107, 96⟩ :: ⟨b8, 0, cSp ⟨0, 0⟩, some 35, 2⟩ :: ⟨b4, 0, cRm R p, some 26, 5⟩ :: H) (List.Sublist.cons_cons _ (List.Sublist.cons _ (List.Sublist.refl _))) ?_
      refine X.permH (H' := ⟨b8, 0, cSp ⟨0, 0⟩, some 35, 2⟩ :: ⟨b10, 0, c.flatMap cSp, some 107, 96⟩ :: ⟨b4, 0, cRm R p, some 26, 5⟩ :: H) (List.Perm.swap _ _ _) ?_
      have hcl := sp_len96 hc
      have hRs : ∀ S : List Row, (∀ r ∈ ⟨b10, 0, c.flatMap cSp, some 107, 96⟩ :: ⟨b4, 0, cRm R p, some 26, 5⟩ :: H, r ∈ S) → RmOk S R p := fun S hS => hR.sub (fun r h => hS r (List.mem_append_right [_, _] h))
      obtain ⟨s, hs⟩ : ∃ s, s = rng R R.mats ⟨xa.id, m⟩ ⟨xb.id, m⟩ := ⟨_, rfl⟩
      have hds := fun S hS => rdiffer_spec R p c xa xb ia ib m S hr hS hok.mats hlm hc (hA rfl) hta htb hia hib
      rw [← hs] at hds ⊢
      refine X.regionOb tsDh [1, 2, 3, 4, 8, 10] [(1, .int .i64 xa.id), (2, .int .i64 xb.id), (3, .int .i64 m), (4, .pointer (some ⟨b4, 0, none⟩)), (8, .pointer (some ⟨b8, 0, none⟩)), (10, .pointer (some ⟨b10, 0, none⟩))] (valDh b4 b8 b10 ia ib R p c xa.id xb.id m s) (rowsDh b4 b8 b10 ia ib R p c xa.id xb.id m s) (fun _ => (0, 0)) (⟨b10, 0, c.flatMap cSp, some 107, 96⟩ :: ⟨b4, 0, cRm R p, some 26, 5⟩ :: H) rfl mixed (by (repeat (first | exact Sub.nil _ | refine Sub.cons rfl ?_)); done) rfl (by kernel_rfl) (locDh b4 b8 b10 ia ib R p c xa.id xb.id m s) (List.Sublist.refl _) ?_ ?_
      · repeat' (first | exact AllF.done rfl | (refine AllF.step rfl ?_ ?_; · (first | fail | ((first | refine Ob.ng rfl ?_); (first | exact ObK.pure (fun env R hR => by exact ⟨_, EvF.move rfl rfl, rfl⟩) rfl (fun _ => rfl) | exact ObK.pure (fun env R hR => by exact ⟨_, EvF.assign rfl rfl, rfl⟩) rfl (fun _ => rfl) | exact ObK.pure (fun env R hR => by exact ⟨_, EvF.loadV rfl rfl (LoadV.whole (te rfl) rfl (hR _ (List.Mem.tail _ (List.Mem.head _))) rfl), rfl⟩) rfl (fun _ => rfl) | (exact ObK.pure (fun env S hS => ⟨_, EvF.loadV rfl rfl (LoadV.whole (T := 107) (cs := c.flatMap cSp) (te rfl) rfl (hS _ (List.Mem.head _)) hcl), rfl⟩) rfl (fun _ => rfl)) | (exact fun env S hS => OpF.callV (Z := []) (EnF.st rfl (Args.cons rfl (Args.cons rfl Args.nil))) (hixsa _ (hRs _ hS)) rfl rfl) | (exact fun env S hS => OpF.callV (Z := []) (EnF.st rfl (Args.cons rfl (Args.cons rfl Args.nil))) (hixsb _ (hRs _ hS)) rfl rfl) | (exact fun env S hS => OpF.callV (Z := []) (EnF.st rfl (Args.cons rfl (Args.cons rfl (Args.cons rfl (Args.cons rfl (Args.cons rfl Args.nil)))))) (hds _ (hRs _ hS)) rfl rfl) | (exact fun env S hS => (StF.storeAll (i := 0) (vs := cSp s) (cs := cSp ⟨0, 0⟩) rfl rfl rfl (te rfl) rfl rfl rfl rfl).op.mono (fun v H' ⟨hv, hH⟩ => ⟨(0, 0), fun h => absurd rfl h, by rw [hH]; exact List.Perm.refl _⟩)))))))
      intro env t ha2 hv; refine ⟨_, ha2.cons (hv 11 9 (Nat.le_of_ble_eq_true rfl) rfl), ?_⟩; clear hv ha2
      show X _ _ _ [(9, .int .i64 0), (1, .int .i64 xa.id), (2, .int .i64 xb.id), (3, .int .i64 m), (4, .pointer (some ⟨b4, 0, none⟩)), (8, .pointer (some ⟨b8, 0, none⟩)), (10, .pointer (some ⟨b10, 0, none⟩))] (⟨b8, 0, cSp s, some 35, 2⟩ :: ⟨b10, 0, c.flatMap cSp, some 107, 96⟩ :: ⟨b4, 0, cRm R p, some 26, 5⟩ :: H) _
      clear env
      repeat' (first | refine X.ret rfl ?_)
      exact ret_two (v := .agg (cSp s).toArray) (by first | exact .inr rfl | exact .inl rfl) Try.results21 ⟨_, rfl, LoadV.whole (te rfl) rfl (List.Mem.head _) rfl⟩ rfl (H' := H) (by (repeat (first | exact List.Sublist.refl _ | apply List.Sublist.cons_cons | apply List.Sublist.cons)); done) ⟨rfl, rfl⟩
  · have hy : difF R a b m = (⟨0, 0⟩, e) := by unfold difF; rw [if_neg (by rw [he]; exact h0), he]
    rw [hy]
    refine Fc.mk (callable Try.call21) Try.func21 rfl Try.ntmps21 rfl ?_; dsimp only [fr]
    repeat' (first | (refine XO.op rfl ?_; (first | ((first | refine Xo.ng rfl ?_); (first | (refine Xg.st (StF.buildTwo rfl el55 rfl rfl rfl rfl rfl rfl (by decide) (by decide)) rfl rfl ?_; rintro _ _ ⟨b1, rfl, rfl⟩) | (refine Xg.ev (EvF.loadV rfl rfl (LoadV.whole (T := 26) (cs := cRm R p) (te rfl) rfl (by repeat (first | exact List.Mem.head _ | apply List.Mem.tail)) rfl)) rfl rfl ?_) | (refine Xg.call (EnF.st rfl (by (repeat (first | exact Args.nil | refine Args.cons rfl ?_)); done)) rfl rfl (has _ b1 (hR.sub (fun _ h => by repeat (first | exact h | apply List.Mem.tail))) (List.Mem.head _)) ?_; rintro _ _ ⟨c, hc, hA, rfl, rfl⟩) | (refine Xg.ev (EvF.extract rfl rfl rfl) rfl rfl ?_) | (refine Xg.st (StF.alloc rfl Try.zeroValue107 rfl) rfl rfl ?_; rintro _ _ ⟨b8, rfl, rfl⟩) | (refine Xg.st0 (StF.storeAll (i := 0) (vs := c.flatMap cSp) (cs := zRc.flatMap cSp) rfl rfl rfl (te rfl) rfl (sp_len96 hc) (sp_one _) (by rw [sp_len96 hc, sp_len]; rfl)) rfl ?_; rintro _ _ ⟨rfl, rfl⟩; dsimp only [List.set]) | (refine Xg.ev (EvF.build (cs := cSp ⟨0, 0⟩) rfl ArgsP.nil (te rfl) (Places.cons (te rfl) (Places.cons (te rfl) Places.nil)) Try.zeroValue35 rfl) rfl rfl ?_) | (refine Xg.ev (EvF.move rfl rfl) rfl rfl ?_) | (refine Xg.ev (EvF.assign rfl rfl) rfl rfl ?_) | (refine Xg.ev (EvF.cmp rfl rfl rfl rfl) rfl rfl ?_) | (refine Xg.st (StF.boxAgg rfl rfl) rfl rfl ?_; rintro _ _ ⟨bx, rfl, rfl⟩) | (refine Xg.st (StF.alloc rfl Try.zeroValue35 rfl) rfl rfl ?_; rintro _ _ ⟨bx, rfl, rfl⟩) | (refine Xg.st0 (StF.storeAll (i := 2) rfl rfl rfl (te rfl) rfl rfl rfl rfl) rfl ?_; rintro _ _ ⟨rfl, rfl⟩; dsimp only [List.set]))))) | (refine XO.done rfl ?_; refine hK _ _ ?_; clear hK K) | (refine XQ.op rfl ?_; (first | ((first | refine Yo.ng rfl ?_); (first | (refine Yg.ev (EvF.loadV rfl rfl (LoadV.whole (T := 26) (cs := cRm R p) (te rfl) rfl (by repeat (first | exact List.Mem.head _ | apply List.Mem.tail)) rfl)) rfl rfl ?_))))) | refine X.seq rfl ?_ | refine X.region rfl (fun K hK => ?_) | refine X.regionD rfl mixed (by kernel_rfl) (fun K hK => ?_) | refine X.skip rfl ?_ | refine X.ret rfl ?_ | (refine X.ite rfl rfl (fun hc => ?_); (first | (with_reducible refine Xb.case hc (fun h => ?_) (fun h => ?_)) | (with_reducible refine Xb.caseN hc (fun h => ?_) (fun h => ?_))) <;> clear hc))
    all_goals try (exfalso; simp_all; done)
    exact ret_two (v := .agg (cSp ⟨0, 0⟩).toArray) (by first | exact .inr rfl | exact .inl rfl) Try.results21 ⟨_, rfl, LoadV.whole (te rfl) rfl (by repeat (first | exact List.Mem.head _ | apply List.Mem.tail)) rfl⟩ rfl (H' := H) (by (repeat (first | exact List.Sublist.refl _ | apply List.Sublist.cons_cons | apply List.Sublist.cons)); done) ⟨rfl, rfl⟩
end Go.Proofs.Ytblehgpfddmggaa
end
section
set_option linter.unusedVariables false
set_option linter.unusedSimpArgs false
namespace Go.Proofs.Ytblehgpfddmggaa
open Go Go.Fw
set_option maxRecDepth 10000
theorem Tru.mono {R : Rm} {M M' : List Mt} {z : Pk → Int} (h : Tru R M z) (hs : ∀ x ∈ M', x ∈ M) : Tru R M' z := ⟨h.zero, h.age, h.step, fun x hx => h.mat x (hs x hx)⟩
theorem hasT.mono {R : Rm} {M M' : List Mt} (h : hasT R M) (hs : ∀ x ∈ M', x ∈ M) : hasT R M' := ⟨_, h.choose_spec.mono hs⟩
end Go.Proofs.Ytblehgpfddmggaa
end
section
set_option linter.unusedVariables false
set_option linter.unusedSimpArgs false
namespace Go.Proofs.Ytblehgpfddmggaa
open Go Go.Fw
set_option maxRecDepth 10000
def lonG {α : Type} (ok : List α → Bool) : List α → Nat → List α → Option (List α)
  | [], 0, acc => if ok acc = true then some acc else none
  | [], _ + 1, _ => none
  | _ :: _, 0, acc => if ok acc = true then some acc else none
  | x :: t, m + 1, acc => match lonG ok t m (acc ++ [x]) with
    | some r => some r
    | none => lonG ok t (m + 1) acc
theorem lonG_zero {α : Type} (ok : List α → Bool) (t acc : List α) : lonG ok t 0 acc = if ok acc = true then some acc else none := by cases t <;> rfl
theorem lonG_short {α : Type} (ok : List α → Bool) : ∀ (t : List α) (m : Nat) (acc : List α), t.length < m → lonG ok t m acc = none
  | [], 0, _, h => by simp at h
  | [], _ + 1, _, _ => rfl
  | _ :: _, 0, _, h => by simp at h
  | x :: t, m + 1, acc, h => by
    simp only [List.length_cons] at h
    simp only [lonG]
    rw [lonG_short ok t m _ (by omega), lonG_short ok t (m + 1) _ (by omega)]
theorem lonG_sub {α : Type} (ok : List α → Bool) : ∀ (t : List α) (m : Nat) (acc r : List α), lonG ok t m acc = some r → ∃ s, s.Sublist t ∧ r = acc ++ s ∧ s.length = m ∧ ok r = true
  | [], 0, acc, r, h => by
    simp only [lonG] at h
    split at h
    · cases h; exact ⟨[], List.Sublist.slnil, (List.append_nil _).symm, rfl, by assumption⟩
    · cases h
  | [], _ + 1, _, _, h => by simp [lonG] at h
  | a :: t, 0, acc, r, h => by
    simp only [lonG] at h
    split at h
    · cases h; exact ⟨[], List.nil_sublist _, (List.append_nil _).symm, rfl, by assumption⟩
    · cases h
  | x :: t, m + 1, acc, r, h => by
    simp only [lonG] at h
    split at h
    · rename_i r' h'
      cases h
      obtain ⟨s, h1, h2, h3, h4⟩ := lonG_sub ok t m _ _ h'
      exact ⟨x :: s, h1.cons_cons x, by rw [h2, List.append_assoc]; rfl, by simp [h3], h4⟩
    · obtain ⟨s, h1, h2, h3, h4⟩ := lonG_sub ok t (m + 1) acc r h
      exact ⟨s, h1.cons x, h2, h3, h4⟩
theorem lonG_map {α β : Type} (f : α → β) (ok : List β → Bool) : ∀ (t : List α) (m : Nat) (acc : List α), lonG ok (t.map f) m (acc.map f) = (lonG (fun r => ok (r.map f)) t m acc).map (List.map f)
  | [], 0, acc => by simp only [List.map_nil, lonG]; split <;> rfl
  | [], _ + 1, _ => rfl
  | _ :: _, 0, acc => by simp only [List.map_cons, lonG]; split <;> rfl
  | x :: t, m + 1, acc => by
    have h1 := lonG_map f ok t m (acc ++ [x])
    have h2 := lonG_map f ok t (m + 1) acc
    rw [List.map_append, List.map_cons, List.map_nil] at h1
    simp only [List.map_cons, lonG, h1]
    cases lonG (fun r => ok (r.map f)) t m (acc ++ [x]) with
    | some r => rfl
    | none => exact h2
theorem lonG_congr {α : Type} {ok ok' : List α → Bool} {S : List α} (h : ∀ r, r.Sublist S → ok r = ok' r) : ∀ (t : List α) (m : Nat) (acc : List α), (acc ++ t).Sublist S → lonG ok t m acc = lonG ok' t m acc
  | [], 0, acc, hs => by simp only [lonG]; rw [h acc (by rw [List.append_nil] at hs; exact hs)]
  | [], _ + 1, _, _ => rfl
  | a :: t, 0, acc, hs => by simp only [lonG]; rw [h acc ((List.sublist_append_left _ _).trans hs)]
  | x :: t, m + 1, acc, hs => by
    have h1 := lonG_congr h t m (acc ++ [x]) (by rw [List.append_assoc]; exact hs)
    have h2 := lonG_congr h t (m + 1) acc ((List.Sublist.append (List.Sublist.refl _) (List.sublist_cons_self _ _)).trans hs)
    simp only [lonG, h1, h2]
def fewG {α : Type} (ok : List α → Bool) (l : List α) : Nat → Nat → Option (List α)
  | 0, _ => none
  | k + 1, n => match lonG ok l n [] with
    | some r => some r
    | none => fewG ok l k (n + 1)
theorem fewG_beyond {α : Type} (ok : List α → Bool) (l : List α) : ∀ k n, l.length < n → fewG ok l k n = none
  | 0, _, _ => rfl
  | k + 1, n, h => by simp only [fewG]; rw [lonG_short ok l n [] h, fewG_beyond ok l k (n + 1) (by omega)]
theorem fewG_more {α : Type} (ok : List α → Bool) (l : List α) : ∀ k k' n, k ≤ k' → l.length < n + k → fewG ok l k' n = fewG ok l k n
  | 0, k', n, _, h => by rw [fewG_beyond ok l k' n (by omega)]; rfl
  | k + 1, 0, n, h1, _ => by omega
  | k + 1, k' + 1, n, h1, h => by
    simp only [fewG]
    split
    · rfl
    · exact fewG_more ok l k k' (n + 1) (by omega) (by omega)
theorem fewG_min {α : Type} (ok : List α → Bool) (l : List α) (most : Nat) : fewG ok l (min most l.length + 1) 0 = fewG ok l (most + 1) 0 := by
  by_cases h : most ≤ l.length
  · rw [Nat.min_eq_left h]
  · exact (fewG_more ok l _ _ 0 (by omega) (by omega)).symm
theorem fewG_map {α β : Type} (f : α → β) (ok : List β → Bool) (l : List α) : ∀ k n, fewG ok (l.map f) k n = (fewG (fun r => ok (r.map f)) l k n).map (List.map f)
  | 0, _ => rfl
  | k + 1, n => by
    have h1 := lonG_map f ok l n []
    have h2 := fewG_map f ok l k (n + 1)
    rw [List.map_nil] at h1
    simp only [fewG, h1]
    cases lonG (fun r => ok (r.map f)) l n [] with
    | some r => rfl
    | none => exact h2
theorem fewG_congr {α : Type} {ok ok' : List α → Bool} {l : List α} (h : ∀ r, r.Sublist l → ok r = ok' r) : ∀ k n, fewG ok l k n = fewG ok' l k n
  | 0, _ => rfl
  | k + 1, n => by
    simp only [fewG]
    rw [lonG_congr h l n [] (by rw [List.nil_append]; exact List.Sublist.refl _), fewG_congr h k (n + 1)]
theorem filter_sub {α : Type} (f : α → Int) : ∀ {l r : List α}, r.Sublist l → (l.map f).Nodup → l.filter (fun x => decide (f x ∈ r.map f)) = r := by
  intro l r h
  induction h with
  | slnil => intro _; rfl
  | @cons r l a h ih =>
    intro hn
    rw [List.map_cons, List.nodup_cons] at hn
    have : f a ∉ r.map f := fun q => hn.1 ((h.map f).subset q)
    rw [List.filter_cons_of_neg (by simpa using this)]
    exact ih hn.2
  | @cons_cons r l a h ih =>
    intro hn
    rw [List.map_cons, List.nodup_cons] at hn
    rw [List.filter_cons_of_pos (by simp)]
    congr 1
    refine (List.filter_congr fun x hx => ?_).trans (ih hn.2)
    refine decide_eq_decide.2 ⟨fun q => ?_, fun q => by rw [List.map_cons]; exact List.mem_cons_of_mem _ q⟩
    rw [List.map_cons] at q
    rcases List.mem_cons.1 q with q | q
    · exact absurd (q ▸ List.mem_map.2 ⟨x, hx, rfl⟩) hn.1
    · exact q
def inM (M : List Mt) (l : List Int) : List Mt := M.filter (fun x => decide (x.number ∈ l))
def outM (M : List Mt) (l : List Int) : List Mt := M.filter (fun x => !decide (x.number ∈ l))
open Classical in
noncomputable def prvM (R : Rm) (q : Pk) (s : Sp) (M : List Mt) : Bool := decide (rng R M q zp = s)
noncomputable def prvN (R : Rm) (q : Pk) (s : Sp) (l : List Int) : Bool := prvM R q s (inM R.mats l)
noncomputable def okW (R : Rm) (l : List Int) : Bool := decide (hasT R (outM R.mats l))
noncomputable def whyL (R : Rm) (q : Pk) : List Int := (fewG (prvN R q (rng R R.mats q zp)) (R.mats.map (·.number)) (R.mats.length + 1) 0).getD []
noncomputable def whyF (R : Rm) (a m : Int) : List Int × Int := if openE R [a] [m] = 0 then (whyL R ⟨a, m⟩, 0) else ([], openE R [a] [m])
noncomputable def rstL (R : Rm) (q : Pk) (M : List Mt) : List Int := (M.filter (fun x => !prvM R q (rng R R.mats q zp) (outM R.mats [x.number]))).map (·.number)
noncomputable def rstF (R : Rm) (a m : Int) : List Int × Int := if openE R [a] [m] = 0 then (rstL R ⟨a, m⟩ R.mats, 0) else ([], openE R [a] [m])
open Classical in
noncomputable def wrgF (R : Rm) : List Int × Int := if roomOk R then (match fewG (okW R) (R.mats.map (·.number)) 4 0 with
  | some r => (r, 0)
  | none => ([], 4)) else ([], 10)
theorem why_mats {R : Rm} (hn : (R.mats.map (·.number)).Nodup) (q : Pk) (s : Sp) (k n : Nat) : fewG (prvN R q s) (R.mats.map (·.number)) k n = (fewG (prvM R q s) R.mats k n).map (List.map (·.number)) := by
  rw [fewG_map]
  rw [fewG_congr (ok' := prvM R q s) (fun r hr => by unfold prvN inM; rw [filter_sub (·.number) hr hn])]
end Go.Proofs.Ytblehgpfddmggaa
end
section
set_option linter.unusedVariables false
set_option linter.unusedSimpArgs false
namespace Go.Proofs.Ytblehgpfddmggaa
open Go Go.Fw
set_option maxRecDepth 10000
def ts71 : List TOp := [⟨some 24, [], [], []⟩, ⟨some 25, [], [], []⟩, ⟨some 26, [], [], []⟩, ⟨some 27, [1, 2], [1, 2], []⟩, ⟨some 28, [1, 2, 3], [3], []⟩, ⟨some 29, [1, 2, 3, 4], [4], []⟩, ⟨some 30, [0, 1, 2, 3, 4, 5], [0, 5], [9]⟩, ⟨none, [0, 1, 2, 3, 4, 5, 6], [6], [8]⟩, ⟨none, [], [], []⟩, ⟨none, [], [], []⟩]
def rd71 (k : Nat) : List Nat := match k with
  | 0 => [8]
  | 6 => [5]
  | _ => []
def TrvI (l : List Int) (out : Value) (Z : List Row) : Prop := (l = [] ∧ out = .slice none 0 0 ∧ Z = []) ∨ ∃ b q, out = .slice (some ⟨b, 0, none⟩) l.length q ∧ Z = [⟨b, 0, l.flatMap cI, some 3, q * 1⟩]
theorem TrvI.sl {l : List Int} {out : Value} {Z H : List Row} (h : TrvI l out Z) : ∃ a c, out = .slice a l.length c ∧ SlE (Z ++ H) a cI 1 l := by
  rcases h with ⟨rfl, rfl, rfl⟩ | ⟨b, q, rfl, rfl⟩
  · exact ⟨none, 0, rfl, sleNil⟩
  · exact ⟨_, _, rfl, SlE.ofRow (List.Mem.head _) (fun _ _ => rfl)⟩
def val71I (out : Value) (lb lo n c : Nat) (ll : Nat) (i : Nat) (e : Int) (k : Nat) (env : Env) : Value :=
  match k with
  | 0 => out
  | 1 => .slice (some ⟨lb, lo, none⟩) ll c
  | 2 => .int .i64 i
  | 3 => .pointer (some ⟨lb, lo + i * 1, none⟩)
  | 4 => .int .i64 e
  | 5 => .slice (some ⟨(env 5).1, 0, none⟩) 1 1
  | 6 => .slice (some ⟨(env 6).1, 0, none⟩) (n + 1) (env 6).2
  | _ => undef
def rows71I (bt : Nat) (out : Value) (Z : List Row) (acc : List Int) (e : Int) (k : Nat) (env : Env) : List Row :=
  match k with
  | 5 => [⟨(env 5).1, 0, cI e, some 3, 1 * 1⟩]
  | 6 => [⟨(env 6).1, 0, acc.flatMap cI ++ cI e, some 3, (env 6).2 * 1⟩]
  | 7 => [⟨bt, 0, [.slice (some ⟨(env 6).1, 0, none⟩) (acc.length + 1) (env 6).2], some 55, 1⟩]
  | 8 => [⟨bt, 0, [out], some 55, 1⟩]
  | 9 => Z
  | _ => []
theorem loc71I (bt : Nat) (out : Value) (Z : List Row) (acc : List Int) (lb lo c ll j : Nat) (e : Int) : ∀ k env i q9, i ≠ k → (tAt ts71 k).sup.contains i = false → val71I out lb lo acc.length c ll j e k (upd env i q9) = val71I out lb lo acc.length c ll j e k env ∧ rows71I bt out Z acc e k (upd env i q9) = rows71I bt out Z acc e k env := by
  intro k env i q hk hs
  have hu : ∀ j, j ≠ i → upd env i q j = env j := fun j hj => by unfold upd; rw [if_neg hj]
  match k, hk, hs with
  | 0, _, _ => exact ⟨rfl, rfl⟩
  | 1, _, _ => exact ⟨rfl, rfl⟩
  | 2, _, _ => exact ⟨rfl, rfl⟩
  | 3, _, _ => exact ⟨rfl, rfl⟩
  | 4, _, _ => exact ⟨rfl, rfl⟩
  | 5, hk, hs => exact ⟨by simp only [val71I, hu 5 (fun e => hk e.symm)], by simp only [rows71I, hu 5 (fun e => hk e.symm)]⟩
  | 6, hk, hs => exact ⟨by simp only [val71I, hu 6 (fun e => hk e.symm)], by simp only [rows71I, hu 6 (fun e => hk e.symm)]⟩
  | 7, hk, hs => exact ⟨by simp only [val71I, hu 6 (by rintro rfl; cases hs)], by simp only [rows71I, hu 6 (by rintro rfl; cases hs)]⟩
  | 8, _, _ => exact ⟨rfl, rfl⟩
  | 9, _, _ => exact ⟨rfl, rfl⟩
  | _ + 10, _, _ => exact ⟨rfl, rfl⟩
set_option maxHeartbeats 8000000 in
theorem longer_specI (ok : List Int → Bool) (l : List Int) (a : Option Addr) (c g : Nat) (cap : List Value) (bt br bl bg : Nat) (w1 w2 w3 : Option Kd) (k1 k2 k3 : Nat) (H0 : List Row) (hl : SlE H0 a cI 1 l) (hb : l.length ≤ 1000000)
    (mr : ⟨br, 0, [.func (.func g) #[] cap.toArray], w1, k1⟩ ∈ H0) (ml : ⟨bl, 0, [.slice a l.length c], w2, k2⟩ ∈ H0) (mg : ⟨bg, 0, [.func (.func 124) #[] #[.pointer (some ⟨br, 0, none⟩), .pointer (some ⟨bt, 0, none⟩), .pointer (some ⟨bl, 0, none⟩), .pointer (some ⟨bg, 0, none⟩)]], w3, k3⟩ ∈ H0)
    (hr : ∀ acc a' c' H', (∀ r ∈ H0, r ∈ H') → SlE H' a' cI 1 acc → acc.length ≤ 1000000 → Fc Try.prog g ([.slice a' acc.length c'] ++ cap) H' (fun v H'' => v = .bool (ok acc) ∧ H'' = H')) :
    ∀ (m f0 : Nat) (mi fi : Int) (acc : List Int) (out : Value) (Z : List Row), mi = m → fi = f0 → f0 ≤ l.length → acc.length + m ≤ 1000000 → TrvI acc out Z →
    Fc Try.prog 124 ([.int .i64 fi, .int .i64 mi] ++ [.pointer (some ⟨br, 0, none⟩), .pointer (some ⟨bt, 0, none⟩), .pointer (some ⟨bl, 0, none⟩), .pointer (some ⟨bg, 0, none⟩)]) (⟨bt, 0, [out], some 55, 1⟩ :: (Z ++ H0))
      (fun v H' => ∃ out' Z', ((∃ r, lonG ok (l.drop f0) m acc = some r ∧ v = .bool true ∧ TrvI r out' Z') ∨ (lonG ok (l.drop f0) m acc = none ∧ v = .bool false ∧ TrvI acc out' Z')) ∧ H' = ⟨bt, 0, [out'], some 55, 1⟩ :: (Z' ++ H0)) := by
  intro m
  induction m with
  | zero =>
    intro f0 mi fi acc out Z hmi hfi hfr hacc hT
    subst hmi
    obtain ⟨a', c', rfl, hs⟩ := hT.sl (H := H0)
    show Fc Try.prog 124 [.int .i64 fi, .int .i64 ((0 : Nat) : Int), .pointer (some ⟨br, 0, none⟩), .pointer (some ⟨bt, 0, none⟩), .pointer (some ⟨bl, 0, none⟩), .pointer (some ⟨bg, 0, none⟩)] _ _
    refine Fc.mk (callable Try.call124) Try.func124 rfl Try.ntmps124 rfl ?_; dsimp only [fr]
    repeat' (first | (refine XO.op rfl ?_; (first | ((first | refine Xo.ng rfl ?_); (first | (refine Xg.ev (EvF.loadV rfl rfl (LoadV.own (te rfl) rfl (List.Mem.tail _ (List.mem_append_right _ mr)) rfl)) rfl rfl ?_) | (refine Xg.call (EnF.dyn0 rfl rfl (by (repeat (first | exact Args.nil | refine Args.cons rfl ?_)); done)) rfl rfl (hr acc a' c' _ (fun _ h => List.Mem.tail _ (List.mem_append_right _ h)) (hs.sub (fun _ h => List.Mem.tail _ h)) (by omega)) ?_; rintro _ H9 ⟨rfl, hH9⟩; subst H9) | (refine Xg.ev (EvF.move rfl rfl) rfl rfl ?_) | (refine Xg.ev (EvF.assign rfl rfl) rfl rfl ?_) | (refine Xg.ev (EvF.cmp rfl rfl rfl rfl) rfl rfl ?_) | (refine Xg.ev (EvF.loadV rfl rfl (LoadV.own (te rfl) rfl (List.Mem.head _) rfl)) rfl rfl ?_))))) | (refine XO.done rfl ?_; refine hK _ _ ?_; clear hK K) | refine X.seq rfl ?_ | refine X.region rfl (fun K hK => ?_) | refine X.block rfl ?_ | refine X.skip rfl ?_ | refine X.ret rfl ?_ | (refine X.ite rfl rfl (fun hc => ?_); (first | (with_reducible refine Xb.case hc (fun h => ?_) (fun h => ?_))) <;> clear hc))
    · refine ret_one (by first | exact .inr rfl | exact .inl rfl) Try.results124 rfl (H' := _) (List.Sublist.refl _) ⟨_, Z, ?_, rfl⟩
      rw [lonG_zero]
      by_cases hk : ok acc = true
      · exact .inl ⟨acc, by rw [if_pos hk], by rw [hk], hT⟩
      · exact .inr ⟨by rw [if_neg hk], by rw [Bool.eq_false_iff.2 hk], hT⟩
    · exfalso; omega
  | succ m ih =>
    intro f0 mi fi acc out Z hmi hfi hfr hacc hT
    subst hfi
    show Fc Try.prog 124 [.int .i64 (f0 : Int), .int .i64 mi, .pointer (some ⟨br, 0, none⟩), .pointer (some ⟨bt, 0, none⟩), .pointer (some ⟨bl, 0, none⟩), .pointer (some ⟨bg, 0, none⟩)] _ _
    refine Fc.mk (callable Try.call124) Try.func124 rfl Try.ntmps124 rfl ?_; dsimp only [fr]
    repeat' (first | (refine XO.op rfl ?_; (first | ((first | refine Xo.ng rfl ?_); (first | (refine Xg.ev (EvF.move rfl rfl) rfl rfl ?_) | (refine Xg.ev (EvF.assign rfl rfl) rfl rfl ?_) | (refine Xg.ev (EvF.cmp rfl rfl rfl rfl) rfl rfl ?_))))) | (refine XO.done rfl ?_; refine hK _ _ ?_; clear hK K) | refine X.seq rfl ?_ | refine X.region rfl (fun K hK => ?_) | refine X.block rfl ?_ | refine X.skip rfl ?_ | (refine X.ite rfl rfl (fun hc => ?_); (first | (with_reducible refine Xb.case hc (fun h => ?_) (fun h => ?_))) <;> clear hc))
    · exfalso; omega
    refine X.lp rfl (fun q F' H' => ∃ (i : Nat) (out : Value) (Z : List Row), q = l.length + 1 - i ∧ i ≤ l.length ∧ TrvI acc out Z ∧ lonG ok (l.drop f0) (m + 1) acc = lonG ok (l.drop i) (m + 1) acc ∧ ⟨bt, 0, [out], some 55, 1⟩ :: (Z ++ H0) = H' ∧
        F' = [(1, .int .i64 mi), (2, .pointer (some ⟨br, 0, none⟩)), (3, .pointer (some ⟨bt, 0, none⟩)), (4, .pointer (some ⟨bl, 0, none⟩)), (5, .pointer (some ⟨bg, 0, none⟩)), (9, .int .i64 i)])
      (l.length + 1 - f0) [(1, .int .i64 mi), (2, .pointer (some ⟨br, 0, none⟩)), (3, .pointer (some ⟨bt, 0, none⟩)), (4, .pointer (some ⟨bl, 0, none⟩)), (5, .pointer (some ⟨bg, 0, none⟩)), (9, .int .i64 f0)] _ (by (repeat (first | exact Sub.nil _ | refine Sub.cons rfl ?_)); done) (List.Sublist.refl _) ⟨f0, out, Z, rfl, hfr, hT, rfl, rfl, rfl⟩ ?_
    clear hT
    rintro _ _ H2 ⟨i, out, Z, rfl, hi, hT, hlon, hH, rfl⟩
    subst hH
    repeat' (first | (refine XO.op rfl ?_; (first | ((first | refine Xo.ng rfl ?_); (first | (refine Xg.ev (EvF.loadV rfl rfl (LoadV.own (te rfl) rfl (List.Mem.tail _ (List.mem_append_right _ ml)) rfl)) rfl rfl ?_) | (refine Xg.ev (EvF.move rfl rfl) rfl rfl ?_) | (refine Xg.ev (EvF.assign rfl rfl) rfl rfl ?_) | (refine Xg.ev (EvF.cmp rfl rfl rfl rfl) rfl rfl ?_) | (refine Xg.ev (EvF.add64 rfl rfl rfl (by omega) (by omega)) rfl rfl ?_) | (refine Xg.ev (EvF.lenSlice rfl rfl (te rfl)) rfl rfl ?_))))) | (refine XO.done rfl ?_; refine hK _ _ ?_; clear hK K) | refine X.seq rfl ?_ | refine X.region rfl (fun K hK => ?_) | refine X.block rfl ?_ | (refine X.brk rfl ?_; repeat (first | refine blockX_hit rfl ?_ | refine blockX_miss (by decide) ?_)) | refine X.skip rfl ?_ | refine X.ret rfl ?_ | (refine X.ite rfl rfl (fun hc => ?_); (first | (with_reducible refine Xb.case hc (fun h => ?_) (fun h => ?_))) <;> clear hc))
    · obtain ⟨lb, lo, e, rfl, he⟩ := hl.elem (i := i) (by omega)
      have hil := (List.getElem?_eq_some_iff.1 he).1
      have hle : (acc ++ [e]).length = acc.length + 1 := by rw [List.length_append]; rfl
      have hfm : acc.flatMap cI ++ cI e = (acc ++ [e]).flatMap cI := by rw [List.flatMap_append, List.flatMap_singleton]
      have hal : (acc.flatMap cI).length = acc.length * 1 := lenI acc
      refine X.regionRd ts71 rd71 [3, 4, 9, 1, 2, 5] [(3, .pointer (some ⟨bt, 0, none⟩)), (4, .pointer (some ⟨bl, 0, none⟩)), (9, .int .i64 i), (1, .int .i64 mi), (2, .pointer (some ⟨br, 0, none⟩)), (5, .pointer (some ⟨bg, 0, none⟩))]
        (val71I out lb lo acc.length c l.length i e) (rows71I bt out Z acc e) (fun _ => (0, 0)) H0 rfl mixed (by (repeat (first | exact Sub.nil _ | refine Sub.cons rfl ?_)); done) rfl (by kernel_rfl) (by kernel_rfl) (loc71I bt out Z acc lb lo c l.length i e) (by show List.Sublist ((⟨bt, 0, [out], some 55, 1⟩ :: (Z ++ [])) ++ H0) _; rw [List.append_nil]; exact List.Sublist.refl _) ?_ ?_
      · repeat' (first | exact AllF.done rfl | (refine AllF.step rfl ?_ ?_; · (first | exact (Ob.ng rfl (ObK.pure (fun env R hR => by exact ⟨_, EvF.move rfl rfl, rfl⟩) rfl (fun _ => rfl))).toR | (refine ObR.ng rfl ?_; (first | (exact fun env S hS hrd => (StF.ofEv (EvF.loadV rfl rfl (LoadV.own (te rfl) rfl (hrd 8 (List.Mem.head _) _ (List.Mem.head _)) rfl))).op.mono (fun v H' ⟨hv, hH⟩ => ⟨(0, 0), fun _ => hv, by rw [hH]; exact List.Perm.refl _⟩)) | (exact fun env S hS hrd => (StF.ofEv (EvF.loadV rfl rfl (LoadV.own (te rfl) rfl (hS _ ml) rfl))).op.mono (fun v H' ⟨hv, hH⟩ => ⟨(0, 0), fun _ => hv, by rw [hH]; exact List.Perm.refl _⟩)) | ((refine fun env S hS hrd => (StF.ofEv (v := .pointer (some ⟨lb, lo + i * 1, none⟩)) ?_).op.mono (fun v H' ⟨hv, hH⟩ => ⟨(0, 0), fun _ => hv, by rw [hH]; exact List.Perm.refl _⟩); refine EvF.indexSlice (T := 55) (e := 3) (i := (i : Int)) (off := lo) (b := lb) (len := l.length) (ti := ⟨.int .i64, 1, 8⟩) rfl rfl rfl (te rfl) (te rfl) ?_ ?_ <;> omega)) | (exact fun env S hS hrd => (StF.ofEv (v := .int .i64 e) (EvF.loadV rfl rfl (LoadV.el0 (n := i) hl he (te rfl) rfl (fun _ h => hS _ h) rfl))).op.mono (fun v H' ⟨hv, hH⟩ => ⟨(0, 0), fun _ => hv, by rw [hH]; exact List.Perm.refl _⟩)) | (exact fun env S hS hrd => (StF.buildOne (v0 := .int .i64 e) rfl el55 rfl rfl rfl (by decide) (by decide)).op.mono (fun v H' ⟨b, hv, hH⟩ => ⟨(b, 0), fun _ => hv, by rw [hH]; exact List.Perm.refl _⟩)) | (exact fun env S hS hrd => (StF.storeOne (i := 0) rfl rfl rfl rfl (te rfl) rfl rfl (Nat.le_of_ble_eq_true rfl)).op.mono (fun v H' ⟨hv, hH⟩ => ⟨(0, 0), fun h => absurd rfl h, by rw [hH]; exact List.Perm.refl _⟩)) | ((rcases hT with ⟨rfl, rfl, rfl⟩ | ⟨b, q, rfl, rfl⟩ <;> first | exact fun env S hS hrd => (StF.appendNew rfl el55 rfl rfl (by decide) rfl (Rd.own (hrd 5 (List.Mem.head _) _ (List.Mem.head _))) (by decide)).op.mono (fun v H' ⟨b, c, hv, hH⟩ => ⟨(b, c), fun _ => hv, by rw [hH]; exact List.Perm.refl _⟩) | exact fun env S hS hrd => (StF.appendOwn (i := 0) rfl el55 rfl rfl rfl hal rfl (Rd.own (List.Mem.tail _ (hrd 5 (List.Mem.head _) _ (List.Mem.head _)))) rfl (by omega)).op.mono (fun v H' ⟨b, c, hv, hH⟩ => ⟨(b, c), fun _ => hv, by rw [hH]; exact List.Perm.refl _⟩))))))))
      · intro env t ha hv
        refine ⟨_, ha, ?_⟩
        show X _ _ _ _ (⟨(env 5).1, 0, cI e, some 3, 1 * 1⟩ :: ⟨(env 6).1, 0, acc.flatMap cI ++ cI e, some 3, (env 6).2 * 1⟩ :: ⟨bt, 0, [.slice (some ⟨(env 6).1, 0, none⟩) (acc.length + 1) (env 6).2], some 55, 1⟩ :: H0) _
        rw [hfm]
        refine X.weakR (List.sublist_cons_self _ _) ?_
        refine X.permH (H' := ⟨bt, 0, [.slice (some ⟨(env 6).1, 0, none⟩) (acc.length + 1) (env 6).2], some 55, 1⟩ :: ⟨(env 6).1, 0, (acc ++ [e]).flatMap cI, some 3, (env 6).2 * 1⟩ :: H0) (List.Perm.swap _ _ _) ?_
        clear hT
        repeat' (first | (refine XO.op rfl ?_; (first | ((first | refine Xo.ng rfl ?_); (first | (refine Xg.ev (EvF.loadV rfl rfl (LoadV.own (te rfl) rfl (List.Mem.tail _ (List.Mem.tail _ mg)) rfl)) rfl rfl ?_) | (refine Xg.call (EnF.dyn0 rfl rfl (by (repeat (first | exact Args.nil | refine Args.cons rfl ?_)); done)) rfl rfl (ih (i + 1) _ _ (acc ++ [e]) _ [⟨(env 6).1, 0, (acc ++ [e]).flatMap cI, some 3, (env 6).2 * 1⟩] (by omega) (by omega) (by omega) (by omega) (.inr ⟨_, _, by rw [hle], rfl⟩)) ?_; rintro _ _ ⟨out', Z', (⟨r, hlr, rfl, hT'⟩ | ⟨hln, rfl, ⟨h0, _, _⟩ | ⟨b', q', rfl, rfl⟩⟩), rfl⟩; rotate_left; · exact absurd h0 (by simp)) | (refine Xg.ev (EvF.move rfl rfl) rfl rfl ?_) | (refine Xg.ev (EvF.assign rfl rfl) rfl rfl ?_) | (refine Xg.ev (EvF.add64 rfl rfl rfl (by omega) (by omega)) rfl rfl ?_) | (refine Xg.ev (EvF.sub64 rfl rfl rfl (by omega) (by omega)) rfl rfl ?_) | (refine Xg.ev (EvF.lenSlice rfl rfl (te rfl)) rfl rfl ?_) | (refine Xg.ev (EvF.loadV rfl rfl (LoadV.own (te rfl) rfl (List.Mem.head _) rfl)) rfl rfl ?_))))) | (refine XO.done rfl ?_; refine hK _ _ ?_; clear hK K) | refine X.seq rfl ?_ | refine X.region rfl (fun K hK => ?_) | refine X.skip rfl ?_ | refine X.ret rfl ?_ | (refine X.ite rfl rfl (fun hc => ?_); (first | (with_reducible refine Xb.t hc ?_) | (with_reducible refine Xb.f hc ?_)) <;> clear hc))
        · refine XO.reveal (q := 1) rfl (fun rest hrest => ?_)
          have hcap : (acc ++ [e]).length ≤ q' := by
            rw [List.length_append, lenI] at hrest
            omega
          refine XO.forget (q := 1) (cs := acc.flatMap cI) (cs' := cI e ++ rest) (by show some (⟨b', 0, (acc ++ [e]).flatMap cI ++ rest, some 3, q' * 1⟩ : Row) = _; rw [← hfm, List.append_assoc]; rfl) ?_
          dsimp only [List.set, List.cons_append, List.nil_append]
          repeat' (first | (refine XO.op rfl ?_; (first | ((first | refine Xo.ng rfl ?_); (first | (refine Xg.ev (EvF.sliceTo (hh := acc.length) rfl rfl (te rfl) (te rfl) (congrArg (fun z => some (Value.int .i64 z)) (by omega : (((acc ++ [e]).length : Nat) : Int) - 1 = (acc.length : Int))) (by omega)) rfl rfl ?_) | (refine Xg.ev (EvF.move rfl rfl) rfl rfl ?_) | (refine Xg.ev (EvF.assign rfl rfl) rfl rfl ?_) | (refine Xg.ev (EvF.add64 rfl rfl rfl (by omega) (by omega)) rfl rfl ?_) | (refine Xg.st0 (StF.storeOne (i := 0) rfl rfl rfl rfl (te rfl) rfl rfl (Nat.le_of_ble_eq_true rfl)) rfl ?_; rintro _ _ ⟨rfl, rfl⟩; dsimp only [List.set]))))) | (refine XO.done rfl ?_; refine hK _ _ ?_; clear hK K) | refine X.region rfl (fun K hK => ?_))
          refine ⟨_, _, _, (by (repeat (first | exact Sub.nil _ | refine Sub.cons rfl ?_)); done), List.Sublist.refl _, ⟨i + 1, _, [⟨b', 0, acc.flatMap cI, some 3, q' * 1⟩], rfl, by omega, .inr ⟨b', q', rfl, rfl⟩, ?_, rfl, rfl⟩, by omega⟩
          rw [hlon, drop_cons he]
          simp only [lonG, hln]
        · refine ret_one (by first | exact .inr rfl | exact .inl rfl) Try.results124 rfl (H' := _) (List.Sublist.refl _) ⟨out', Z', .inl ⟨r, ?_, rfl, hT'⟩, rfl⟩
          rw [hlon, drop_cons he]
          simp only [lonG, hlr]
    · refine ret_one (by first | exact .inr rfl | exact .inl rfl) Try.results124 rfl (H' := _) (List.Sublist.refl _) ⟨out, Z, .inr ⟨?_, rfl, hT⟩, rfl⟩
      rw [hlon]
      exact lonG_short ok _ _ _ (by rw [List.length_drop]; omega)
set_option maxHeartbeats 8000000 in
theorem fewest_specI (ok : List Int → Bool) (l : List Int) (a : Option Addr) (c most g : Nat) (cap : List Value) (H : List Row) (hl : SlE H a cI 1 l) (hb : l.length ≤ 1000000) (hm : most ≤ 1000)
    (hr : ∀ acc a' c' H', (∀ r ∈ H, r ∈ H') → SlE H' a' cI 1 acc → acc.length ≤ 1000000 → Fc Try.prog g ([.slice a' acc.length c'] ++ cap) H' (fun v H'' => v = .bool (ok acc) ∧ H'' = H')) :
    Fc Try.prog 86 [.slice a l.length c, .int .i64 (most : Nat), .func (.func g) #[] cap.toArray] H
      (fun v H' => ∃ out Z, TrvI ((fewG ok l (min most l.length + 1) 0).getD []) out Z ∧ v = .tuple #[out, .bool (fewG ok l (min most l.length + 1) 0).isSome] ∧ H' = Z ++ H) := by
  refine Fc.mk (callable Try.call86) Try.func86 rfl Try.ntmps86 rfl ?_; dsimp only [fr]
  repeat' (first | (refine XO.op rfl ?_; (first | ((first | refine Xo.ng rfl ?_); (first | (refine Xg.ev (EvF.makeFunc (fl := []) rfl Args.nil (Args.cons rfl (Args.cons rfl (Args.cons rfl (Args.cons rfl Args.nil))))) rfl rfl ?_) | (refine Xg.ev (EvF.move rfl rfl) rfl rfl ?_) | (refine Xg.ev (EvF.assign rfl rfl) rfl rfl ?_) | (refine Xg.ev (EvF.add64 rfl rfl rfl (by omega) (by omega)) rfl rfl ?_) | (refine Xg.ev (EvF.lenSlice rfl rfl (te rfl)) rfl rfl ?_) | (refine Xg.ev (EvF.loadV rfl rfl (LoadV.own (te rfl) rfl (List.Mem.tail _ (List.Mem.tail _ (List.Mem.tail _ (List.Mem.head _)))) rfl)) rfl rfl ?_) | (refine Xg.ev (EvF.min64 rfl rfl rfl) rfl rfl ?_) | (refine Xg.st (StF.boxOne rfl rfl rfl) rfl rfl ?_; rintro _ _ ⟨bx, rfl, rfl⟩) | (refine Xg.st (StF.alloc rfl Try.zeroValue55 rfl) rfl rfl ?_; rintro _ _ ⟨bx, rfl, rfl⟩) | (refine Xg.st (StF.alloc rfl Try.zeroValue175 rfl) rfl rfl ?_; rintro _ _ ⟨bx, rfl, rfl⟩) | (refine Xg.st0 (StF.storeOne (i := 0) rfl rfl rfl rfl (te rfl) rfl rfl (Nat.le_of_ble_eq_true rfl)) rfl ?_; rintro _ _ ⟨rfl, rfl⟩; dsimp only [List.set]))))) | (refine XO.done rfl ?_; refine hK _ _ ?_; clear hK K) | refine X.seq rfl ?_ | refine X.region rfl (fun K hK => ?_) | refine X.block rfl ?_)
  rename_i bl br bt; rename Nat => bg
  refine X.permH (List.Perm.swap _ _ _) ?_
  have hlg := longer_specI ok l a c g cap bt br bl bg (some 139) (some 55) (some 175) 1 1 1 (⟨bg, 0, [.func (.func 124) #[] #[.pointer (some ⟨br, 0, none⟩), .pointer (some ⟨bt, 0, none⟩), .pointer (some ⟨bl, 0, none⟩), .pointer (some ⟨bg, 0, none⟩)]], some 175, 1⟩ :: ⟨br, 0, [.func (.func g) #[] cap.toArray], some 139, 1⟩ :: ⟨bl, 0, [.slice a l.length c], some 55, 1⟩ :: H)
    (hl.sub (fun _ h => List.Mem.tail _ (List.Mem.tail _ (List.Mem.tail _ h)))) hb (List.Mem.tail _ (List.Mem.head _)) (List.Mem.tail _ (List.Mem.tail _ (List.Mem.head _))) (List.Mem.head _) (fun acc a' c' H' hs => hr acc a' c' H' (fun r h => hs r (List.Mem.tail _ (List.Mem.tail _ (List.Mem.tail _ h)))))
  refine X.lp rfl (fun q F' H' => ∃ (k : Nat) (out : Value) (Z : List Row), q = min most l.length + 1 - k ∧ k ≤ min most l.length + 1 ∧ TrvI [] out Z ∧ fewG ok l (min most l.length + 1) 0 = fewG ok l (min most l.length + 1 - k) k ∧
      ⟨bt, 0, [out], some 55, 1⟩ :: (Z ++ (⟨bg, 0, [.func (.func 124) #[] #[.pointer (some ⟨br, 0, none⟩), .pointer (some ⟨bt, 0, none⟩), .pointer (some ⟨bl, 0, none⟩), .pointer (some ⟨bg, 0, none⟩)]], some 175, 1⟩ :: ⟨br, 0, [.func (.func g) #[] cap.toArray], some 139, 1⟩ :: ⟨bl, 0, [.slice a l.length c], some 55, 1⟩ :: H)) = H' ∧
      F' = [(8, .pointer (some ⟨bt, 0, none⟩)), (9, .pointer (some ⟨bg, 0, none⟩)), (16, .int .i64 (min (most : Int) (l.length : Int) + 1)), (17, .int .i64 k)])
    (min most l.length + 1) [(8, .pointer (some ⟨bt, 0, none⟩)), (9, .pointer (some ⟨bg, 0, none⟩)), (16, .int .i64 (min (most : Int) (l.length : Int) + 1)), (17, .int .i64 (0 : Nat))] _ (by (repeat (first | exact Sub.nil _ | refine Sub.cons rfl ?_)); done) (List.Sublist.refl _) ⟨0, _, [], rfl, by omega, .inl ⟨rfl, rfl, rfl⟩, rfl, rfl, rfl⟩ ?_
  rintro _ _ H2 ⟨k, out, Z, rfl, hk, hT, hf, hH, rfl⟩
  subst hH
  repeat' (first | (refine XO.op rfl ?_; (first | ((first | refine Xo.ng rfl ?_); (first | (refine Xg.ev (EvF.loadV rfl rfl (LoadV.own (te rfl) rfl (List.Mem.tail _ (List.mem_append_right _ (List.Mem.head _))) rfl)) rfl rfl ?_) | (refine Xg.call (EnF.dyn0 rfl rfl (by (repeat (first | exact Args.nil | refine Args.cons rfl ?_)); done)) rfl rfl (hlg k 0 _ _ [] out Z rfl rfl (by omega) (by simp only [List.length_nil]; omega) hT) ?_; rintro _ _ ⟨out', Z', (⟨r, hlr, rfl, hT'⟩ | ⟨hln, rfl, hT'⟩), rfl⟩) | (refine Xg.ev (EvF.move rfl rfl) rfl rfl ?_) | (refine Xg.ev (EvF.assign rfl rfl) rfl rfl ?_) | (refine Xg.ev (EvF.cmp rfl rfl rfl rfl) rfl rfl ?_) | (refine Xg.ev (EvF.add64 rfl rfl rfl (by omega) (by omega)) rfl rfl ?_) | (refine Xg.ev (EvF.loadV rfl rfl (LoadV.own (te rfl) rfl (List.Mem.head _) rfl)) rfl rfl ?_))))) | (refine XO.done rfl ?_; refine hK _ _ ?_; clear hK K) | refine X.seq rfl ?_ | refine X.region rfl (fun K hK => ?_) | refine X.block rfl ?_ | (refine X.brk rfl ?_; repeat (first | refine blockX_hit rfl ?_ | refine blockX_miss (by decide) ?_)) | refine X.skip rfl ?_ | refine X.ret rfl ?_ | (refine X.ite rfl rfl (fun hc => ?_); (first | (with_reducible refine Xb.t hc ?_) | (with_reducible refine Xb.f hc ?_) | (with_reducible refine Xb.case hc (fun h => ?_) (fun h => ?_))) <;> clear hc))
  · obtain ⟨j, hj⟩ : ∃ j, min most l.length + 1 - k = j + 1 := ⟨min most l.length - k, by omega⟩
    rw [List.drop_zero] at hlr
    have hfr : fewG ok l (min most l.length + 1) 0 = some r := by rw [hf, hj]; simp only [fewG, hlr]
    rw [hfr]
    exact ret_two (by first | exact .inr rfl | exact .inl rfl) Try.results86 rfl rfl (H' := Z' ++ H) (List.Sublist.cons _ (List.Sublist.append (List.Sublist.refl _) (List.Sublist.cons _ (List.Sublist.cons _ (List.sublist_cons_self _ _))))) ⟨out', Z', hT', rfl, rfl⟩
  · obtain ⟨j, hj⟩ : ∃ j, min most l.length + 1 - k = j + 1 := ⟨min most l.length - k, by omega⟩
    rw [List.drop_zero] at hln
    refine ⟨_, _, _, (by (repeat (first | exact Sub.nil _ | refine Sub.cons rfl ?_)); done), List.Sublist.refl _, ⟨k + 1, out', Z', rfl, by omega, hT', ?_, rfl, rfl⟩, by omega⟩
    rw [hf, hj, show min most l.length + 1 - (k + 1) = j by omega]
    simp only [fewG, hln]
  · have hk' : min most l.length + 1 - k = 0 := by omega
    have hfn : fewG ok l (min most l.length + 1) 0 = none := by rw [hf, hk']; rfl
    rw [hfn]
    exact ret_two (by first | exact .inr rfl | exact .inl rfl) Try.results86 rfl rfl (H' := H) (List.Sublist.cons _ ((List.Sublist.cons _ (List.Sublist.cons _ (List.sublist_cons_self _ _))).trans (List.sublist_append_right _ _))) ⟨_, [], .inl ⟨rfl, rfl, rfl⟩, rfl, rfl⟩
end Go.Proofs.Ytblehgpfddmggaa
end
section
set_option linter.unusedVariables false
set_option linter.unusedSimpArgs false
namespace Go.Proofs.Ytblehgpfddmggaa
open Go Go.Fw
set_option maxRecDepth 10000
theorem honeInt (z : Value) (w : World) (h : (zeroValue 3).run Try.prog w = .ok z w) : z.cells.all (·.oneCell') = true := by
  rw [Try.zeroValue3] at h
  cases h
  first | decide | simp [Value.cells, Value.oneCell'] | kernel_rfl
end Go.Proofs.Ytblehgpfddmggaa
end
section
set_option linter.unusedVariables false
set_option linter.unusedSimpArgs false
namespace Go.Proofs.Ytblehgpfddmggaa
open Go Go.Fw
set_option maxRecDepth 10000
/-- a list of numbers and an error -/
def LstR (l : List Int) (e : Int) (H : List Row) (v : Value) (H' : List Row) : Prop := ∃ a c Z, v = .tuple #[.slice a l.length c, .int .i64 e] ∧ SlE (Z ++ H) a cI 1 l ∧ H' = Z ++ H
theorem EvF.eqNilT {P : Program} {n : Nat} {H : List Row} {F : FS} {o : Oper} {T T' e : TypeId} {x : Operand} {len cap s y : Nat} (h : o.op = .binOp .eql T x (.const (.slice none 0 0)) T') (hx : evF F x = some (.slice none len cap)) (hT : tiOf P T = some ⟨.sl e, s, y⟩) : EvF P n H F o (.bool true) := by
  unfold EvF EvOp
  intro t ha B w0 w hS
  have hu := ti_slice hT
  have h1 : (binOp .eql T (.slice none len cap) (.slice none 0 0)).run P w = .ok (.bool true) w := by
    show Sem.run P (do pure (Value.bool (← Op.equalIn 10000 T (.slice none len cap) (.slice none 0 0)))) w = _
    rw [show (10000 : Nat) = 9999 + 1 from rfl]
    unfold Op.equalIn
    simp [underlying, hu]
  have hxv := ha.ev hx
  simp [execOp, h, hxv, show Fw.ev t (.const (.slice none 0 0)) = .slice none 0 0 from rfl, eqGuard, h1]
end Go.Proofs.Ytblehgpfddmggaa
end
section
set_option linter.unusedVariables false
set_option linter.unusedSimpArgs false
namespace Go.Proofs.Ytblehgpfddmggaa
open Go Go.Fw
set_option maxRecDepth 10000
structure LtOk (L : Nat → List Int) (l : List Ent) (Z : List Row) : Prop where
  keys : keysM l
  len : l.length = Z.length
  at_ : ∀ (j : Nat) (e : Ent), l[j]? = some e → ∃ (k b q : Nat), e.1 = (k : Int) ∧ L k ≠ [] ∧ e.2.1 = .slice (some ⟨b, 0, none⟩) (L k).length q ∧ Z[j]? = some ⟨b, 0, (L k).flatMap cI, some 3, q * 1⟩
  all : ∀ k : Nat, L k ≠ [] → ∃ e ∈ l, e.1 = (k : Int)
theorem LtOk.zero (L : Nat → List Int) (h : ∀ k, L k = []) : LtOk L [] [] := ⟨List.Pairwise.nil, rfl, fun j e he => by simp at he, fun k hk => absurd (h k) hk⟩
theorem LtOk.new {L L' : Nat → List Int} {l : List Ent} {Z : List Row} (h : LtOk L l Z) {k : Nat} {x : Int} (hk : L k = []) (hL : ∀ i, L' i = if i = k then [x] else L i) (clock b q : Nat) :
    LtOk L' (insM l clock k (.slice (some ⟨b, 0, none⟩) 1 q)) (Z ++ [⟨b, 0, cI x, some 3, q * 1⟩]) := by
  have hno : ∀ e ∈ l, e.1 ≠ (k : Int) := fun e he e' => by
    obtain ⟨j, hj⟩ := List.mem_iff_getElem?.1 he
    obtain ⟨k', b, q, e1, e2, _⟩ := h.at_ j e hj
    have : k' = k := by omega
    subst this
    exact e2 hk
  have hany : l.any (fun e => e.1 == (k : Int)) = false := Bool.eq_false_iff.2 (fun q => by
    obtain ⟨e, he, h2⟩ := List.any_eq_true.1 q
    exact hno e he (by simpa using h2))
  have hi : insM l clock k (.slice (some ⟨b, 0, none⟩) 1 q) = l ++ [((k : Int), .slice (some ⟨b, 0, none⟩) 1 q, clock)] := by
    unfold insM; rw [hany]; rfl
  rw [hi]
  refine ⟨?_, by rw [List.length_append, List.length_append, h.len]; rfl, fun j e he => ?_, fun i hi => ?_⟩
  · unfold keysM
    rw [List.map_append, List.nodup_append]
    refine ⟨h.keys, List.nodup_cons.2 ⟨List.not_mem_nil, List.Pairwise.nil⟩, fun a ha c hc => ?_⟩
    obtain ⟨e, he, rfl⟩ := List.mem_map.1 ha
    have : c = (k : Int) := by simpa using hc
    rw [this]
    exact hno e he
  · by_cases hj : j < l.length
    · rw [List.getElem?_append_left hj] at he
      obtain ⟨k', b', q', e1, e2, e3, e4⟩ := h.at_ j e he
      have hne : k' ≠ k := fun e' => e2 (by rw [e']; exact hk)
      refine ⟨k', b', q', e1, by rw [hL, if_neg hne]; exact e2, by rw [hL, if_neg hne]; exact e3, ?_⟩
      rw [List.getElem?_append_left (by rw [← h.len]; exact hj), hL, if_neg hne]
      exact e4
    · rw [List.getElem?_append_right (by omega)] at he
      have hj0 : j - l.length = 0 := by
        have := (List.getElem?_eq_some_iff.1 he).1
        simp at this; omega
      rw [hj0] at he
      simp at he
      subst he
      refine ⟨k, b, q, rfl, by rw [hL, if_pos rfl]; simp, by rw [hL, if_pos rfl]; rfl, ?_⟩
      rw [List.getElem?_append_right (by rw [← h.len]; omega), ← h.len, hj0, hL, if_pos rfl]
      rfl
  · by_cases e : i = k
    · exact ⟨_, List.mem_append_right _ (List.mem_singleton.2 rfl), by rw [e]⟩
    · rw [hL, if_neg e] at hi
      obtain ⟨x, hx, he⟩ := h.all i hi
      exact ⟨x, List.mem_append_left _ hx, he⟩
theorem LtOk.set {L L' : Nat → List Int} {l : List Ent} {Z : List Row} (h : LtOk L l Z) {k j : Nat} {x : Int} {e : Ent} (hj : l[j]? = some e) (hek : e.1 = (k : Int)) (hany : l.any (fun e => e.1 == (k : Int)) = true) (hL : ∀ i, L' i = if i = k then L k ++ [x] else L i) (clock b q : Nat) :
    LtOk L' (insM l clock k (.slice (some ⟨b, 0, none⟩) ((L k).length + 1) q)) (Z.set j ⟨b, 0, (L k ++ [x]).flatMap cI, some 3, q * 1⟩) := by
  have hi : insM l clock k (.slice (some ⟨b, 0, none⟩) ((L k).length + 1) q) = l.map (fun e => if e.1 = (k : Int) then (e.1, .slice (some ⟨b, 0, none⟩) ((L k).length + 1) q, e.2.2) else e) := by
    unfold insM; rw [hany]; rfl
  rw [hi]
  have hjl : j < Z.length := by rw [← h.len]; exact (List.getElem?_eq_some_iff.1 hj).1
  refine ⟨?_, by rw [List.length_map, List.length_set, h.len], fun i e' he => ?_, fun i hi => ?_⟩
  · unfold keysM
    rw [List.map_map]
    have : (fun e : Ent => e.1) ∘ (fun e : Ent => if e.1 = (k : Int) then (e.1, Value.slice (some ⟨b, 0, none⟩) ((L k).length + 1) q, e.2.2) else e) = (fun e => e.1) := by
      funext e
      simp only [Function.comp]
      split <;> rfl
    rw [this]
    exact h.keys
  · rw [List.getElem?_map] at he
    obtain ⟨e0, h0, rfl⟩ := Option.map_eq_some_iff.1 he
    obtain ⟨k', b', q', e1, e2, e3, e4⟩ := h.at_ i e0 h0
    by_cases hk : e0.1 = (k : Int)
    · have hij := keys_inj h.keys h0 hj (hk.trans hek.symm)
      subst hij
      rw [if_pos hk]
      refine ⟨k, b, q, hk, by rw [hL, if_pos rfl]; simp, by rw [hL, if_pos rfl, List.length_append]; rfl, ?_⟩
      rw [List.getElem?_set_self hjl, hL, if_pos rfl]
    · rw [if_neg hk]
      have hne : k' ≠ k := fun e' => hk (by rw [e1, e'])
      have hij : j ≠ i := fun e' => hk (by rw [e'] at hj; rw [hj] at h0; cases h0; exact hek)
      refine ⟨k', b', q', e1, by rw [hL, if_neg hne]; exact e2, by rw [hL, if_neg hne]; exact e3, ?_⟩
      rw [List.getElem?_set_ne hij, hL, if_neg hne]
      exact e4
  · by_cases e9 : i = k
    · refine ⟨_, List.mem_map.2 ⟨e, List.mem_of_getElem? hj, rfl⟩, ?_⟩
      rw [if_pos hek, e9]
      exact hek
    · rw [hL, if_neg e9] at hi
      obtain ⟨x, hx, he⟩ := h.all i hi
      refine ⟨_, List.mem_map.2 ⟨x, hx, rfl⟩, ?_⟩
      split <;> exact he
end Go.Proofs.Ytblehgpfddmggaa
end
section
set_option linter.unusedVariables false
set_option linter.unusedSimpArgs false
namespace Go.Fw
open Go
theorem EvF.eqSf {P : Program} {n : Nat} {H : List Row} {F : FS} {o : Oper} {T T' : TypeId} {x y : Operand} {k : IntKind} {p : Int} (h : o.op = .binOp .eql T x y T') (hx : evF F x = some (.int k p)) (hy : evF F y = some (.int k p)) : EvF P n H F o (.bool true) := by
  have := EvF.cmp (P := P) (n := n) (H := H) h hx hy rfl
  rwa [decide_eq_true rfl] at this
theorem EvF.eqSfB {P : Program} {n : Nat} {H : List Row} {F : FS} {o : Oper} {T T' : TypeId} {x y : Operand} {p : Bool} (h : o.op = .binOp .eql T x y T') (hx : evF F x = some (.bool p)) (hy : evF F y = some (.bool p)) (hu : P.underlying T = some .bool) : EvF P n H F o (.bool true) := by
  have := EvF.cmpB (P := P) (n := n) (H := H) h hx hy hu rfl
  rwa [beq_self_eq_true] at this
end Go.Fw
namespace Go.Proofs.Ytblehgpfddmggaa
open Go Go.Fw
set_option maxRecDepth 10000
theorem sameR_self (R : Rm) (p q : Pl) (H : List Row) (hR : RmOk H R p) (hS : RmOk H R q) : Fc Try.prog 24 [.agg (cRm R p).toArray, .agg (cRm R q).toArray] H (fun v H' => v = .bool true ∧ H' = H) :=
  (same_spec R R p q H hR hS).mono (fun v H' ⟨h1, h2⟩ => ⟨by rw [h1, decide_eq_true rfl], h2⟩)
theorem eqSp_sf (e : Sp) (w : World) : (Op.equalIn 10000 35 (.agg (cSp e).toArray) (.agg (cSp e).toArray)).run Try.prog w = .ok true w := by
  rw [eqSp 9998, decide_eq_true rfl]
noncomputable def chkF (R : Rm) : Int := if roomOk R then 0 else 10
theorem kCheck2_spec (R : Rm) (p : Pl) (H : List Row) (hR : RmOk H R p) : Fc Try.prog 22 [.agg (cRm R p).toArray] H (fun v H' => v = .int .i64 (chkF R) ∧ H' = H) := by
  refine (check_spec R p H hR).mono fun v H' ⟨h, h2⟩ => ⟨?_, h2⟩
  unfold chkF
  rcases h with ⟨h, e⟩ | ⟨h, e⟩
  · rw [if_pos h]; exact e
  · rw [if_neg h]; exact e
theorem rCheck_spec (R : Rm) (p : Pl) (H : List Row) (hR : RmOk H R p) : Fc Try.prog 23 [.agg (cRm R p).toArray] H (fun v H' => v = .int .i64 (chkF R) ∧ H' = H) := by
  have hR2 : ∀ r1, RmOk (r1 :: H) R p := fun r1 => hR.sub (fun _ h => List.Mem.tail _ h)
  unfold chkF
  by_cases hok : roomOk R
  · rw [if_pos hok]
    have hrs : ∀ r1, Fc Try.prog 47 [.agg (cRm R p).toArray] (r1 :: H) (fun v H' => v = .bool true ∧ H' = r1 :: H) := fun r1 => by
      have := room_spec R p (r1 :: H) (hR2 r1)
      rwa [decide_eq_true hok] at this
    refine Fc.mk (callable Try.call23) Try.func23 rfl Try.ntmps23 rfl ?_; dsimp only [fr]
    repeat' (first | (refine XO.op rfl ?_; (first | ((first | refine Xo.ng rfl ?_); (first | (refine Xg.ev (EvF.loadV rfl rfl (LoadV.whole (te rfl) rfl (List.Mem.head _) rfl)) rfl rfl ?_) | (refine Xg.call (EnF.st rfl (Args.cons rfl Args.nil)) rfl rfl (hrs _) ?_; rintro _ H9 ⟨rfl, hH9⟩; subst H9) | (refine Xg.ev (EvF.assign rfl rfl) rfl rfl ?_) | (refine Xg.ev (EvF.not rfl rfl) rfl rfl ?_) | (refine Xg.st (StF.boxAgg rfl rfl) rfl rfl ?_; rintro _ _ ⟨bx, rfl, rfl⟩))))) | (refine XO.done rfl ?_; refine hK _ _ ?_; clear hK K) | refine X.seq rfl ?_ | refine X.region rfl (fun K hK => ?_) | refine X.skip rfl ?_ | refine X.ret rfl ?_ | (refine X.ite rfl rfl (fun hc => ?_); (first | (with_reducible refine Xb.caseB hc (fun h => ?_) (fun h => ?_))) <;> clear hc))
    all_goals try (exfalso; contradiction)
    exact ret_one (v := .int .i64 0) (by first | exact .inr rfl | exact .inl rfl) Try.results23 rfl (H' := H) (by (repeat (first | exact List.Sublist.refl _ | apply List.Sublist.cons_cons | apply List.Sublist.cons)); done) ⟨rfl, rfl⟩
  · rw [if_neg hok]
    have hrs : ∀ r1, Fc Try.prog 47 [.agg (cRm R p).toArray] (r1 :: H) (fun v H' => v = .bool false ∧ H' = r1 :: H) := fun r1 => by
      have := room_spec R p (r1 :: H) (hR2 r1)
      rwa [decide_eq_false hok] at this
    refine Fc.mk (callable Try.call23) Try.func23 rfl Try.ntmps23 rfl ?_; dsimp only [fr]
    repeat' (first | (refine XO.op rfl ?_; (first | ((first | refine Xo.ng rfl ?_); (first | (refine Xg.ev (EvF.loadV rfl rfl (LoadV.whole (te rfl) rfl (List.Mem.head _) rfl)) rfl rfl ?_) | (refine Xg.call (EnF.st rfl (Args.cons rfl Args.nil)) rfl rfl (hrs _) ?_; rintro _ H9 ⟨rfl, hH9⟩; subst H9) | (refine Xg.ev (EvF.assign rfl rfl) rfl rfl ?_) | (refine Xg.ev (EvF.not rfl rfl) rfl rfl ?_) | (refine Xg.st (StF.boxAgg rfl rfl) rfl rfl ?_; rintro _ _ ⟨bx, rfl, rfl⟩))))) | (refine XO.done rfl ?_; refine hK _ _ ?_; clear hK K) | refine X.seq rfl ?_ | refine X.region rfl (fun K hK => ?_) | refine X.skip rfl ?_ | refine X.ret rfl ?_ | (refine X.ite rfl rfl (fun hc => ?_); (first | (with_reducible refine Xb.caseB hc (fun h => ?_) (fun h => ?_))) <;> clear hc))
    all_goals try (exfalso; contradiction)
    exact ret_one (v := .int .i64 10) (by first | exact .inr rfl | exact .inl rfl) Try.results23 rfl (H' := H) (by (repeat (first | exact List.Sublist.refl _ | apply List.Sublist.cons_cons | apply List.Sublist.cons)); done) ⟨rfl, rfl⟩
theorem canF_tup (R : Rm) : ∃ (b : Bool) (e : Int), canF R = .tuple #[.bool b, .int .i64 e] := by
  unfold canF
  split
  · exact ⟨_, _, rfl⟩
  · exact ⟨_, _, rfl⟩
set_option maxHeartbeats 8000000 in
theorem boxTells_spec (R : Rm) (p : Pl) (a b m : Int) (H : List Row) (hR : RmOk H R p) :
    Fc Try.prog 3 [.agg (cRm R p).toArray, .int .i64 a, .int .i64 b, .int .i64 m] H (fun v _ => v = .bool true) := by
  by_cases hg : great R
  · have hgr := great_spec R p
    simp only [decide_eq_true hg] at hgr
    refine Fc.mk (callable Try.call3) Try.func3 rfl Try.ntmps3 rfl ?_; dsimp only [fr]
    repeat' (first | (refine XO.op rfl ?_; (first | ((first | refine Xo.ng rfl ?_); (first | (refine Xg.call (EnF.st rfl (Args.cons rfl Args.nil)) rfl rfl (hgr _) ?_; rintro _ H9 ⟨rfl, hH9⟩; subst H9) | (refine Xg.ev (EvF.assign rfl rfl) rfl rfl ?_) | (refine Xg.ev (EvF.loadV rfl rfl (LoadV.whole (te rfl) rfl (List.Mem.head _) rfl)) rfl rfl ?_) | (refine Xg.st (StF.boxAgg rfl rfl) rfl rfl ?_; rintro _ _ ⟨bx, rfl, rfl⟩))))) | (refine XO.done rfl ?_; refine hK _ _ ?_; clear hK K) | refine X.seq rfl ?_ | refine X.region rfl (fun K hK => ?_) | refine X.ret rfl ?_ | (refine X.ite rfl rfl (fun hc => ?_); (first | (with_reducible refine Xb.t hc ?_)) <;> clear hc))
    all_goals try (exfalso; contradiction)
    exact ret_one (by first | exact .inr rfl | exact .inl rfl) Try.results3 rfl (H' := _) (List.Sublist.refl _) rfl
  · have hgr := great_spec R p
    simp only [decide_eq_false hg] at hgr
    have h1 : R.ages.length ≤ 1000000 := by unfold great at hg; omega
    have h2 : R.boxes.length ≤ 1000000 := by unfold great at hg; omega
    have h3 : R.mats.length ≤ 1000000 := by unfold great at hg; omega
    obtain ⟨cb, ce, hcan⟩ := canF_tup R
    obtain ⟨⟨ys, ye⟩, hy⟩ : ∃ y, y = yelF R a m := ⟨_, rfl⟩
    obtain ⟨⟨ds, de⟩, hd⟩ : ∃ y, y = difF R a b m := ⟨_, rfl⟩
    have kcan := fun p' H' (h : RmOk H' R p') => kCan_spec R p' H' h
    have rcan := fun p' H' (h : RmOk H' R p') => rCan_spec R p' H' h
    have kyel := fun p' H' (h : RmOk H' R p') => kYellow_spec R p' a m H' h h2
    have ryel := fun p' H' (h : RmOk H' R p') => rYellow_spec R p' a m H' h
    have kdif := fun p' H' (h : RmOk H' R p') => kDiffer_spec R p' a b m H' h h2
    have rdif := fun p' H' (h : RmOk H' R p') => rDiffer_spec R p' a b m H' h
    rw [hcan] at kcan rcan
    rw [← hy] at kyel ryel
    rw [← hd] at kdif rdif
    clear hcan hy hd
    refine Fc.mk (callable Try.call3) Try.func3 rfl Try.ntmps3 rfl ?_; dsimp only [fr]
    repeat' (first | (refine XO.op rfl ?_; (first | ((first | refine Xo.ng rfl ?_); (first | (refine Xg.call (EnF.st rfl (Args.cons rfl Args.nil)) rfl rfl (hgr _) ?_; rintro _ H9 ⟨rfl, hH9⟩; subst H9) | (refine Xg.call (EnF.st rfl (by (repeat (first | exact Args.nil | refine Args.cons rfl ?_)); done)) rfl rfl (twin_spec R p _ (hR.sub (fun _ h => by repeat (first | exact h | apply List.Mem.tail))) h1 h2 h3) ?_; rintro _ _ ⟨t1, k1, t2, k2, t3, k3, rfl, rfl⟩) | (refine Xg.ev (EvF.assign rfl rfl) rfl rfl ?_) | (refine Xg.ev (EvF.loadV rfl rfl (LoadV.whole (te rfl) rfl (List.Mem.head _) rfl)) rfl rfl ?_) | (refine Xg.st (StF.boxAgg rfl rfl) rfl rfl ?_; rintro _ _ ⟨bx, rfl, rfl⟩) | (refine Xg.st (StF.alloc rfl Try.zeroValue26 rfl) rfl rfl ?_; rintro _ _ ⟨bx, rfl, rfl⟩) | (refine Xg.st0 (StF.storeAll (i := 0) rfl rfl rfl (te rfl) rfl rfl rfl rfl) rfl ?_; rintro _ _ ⟨rfl, rfl⟩; dsimp only [List.set]))))) | (refine XO.done rfl ?_; refine hK _ _ ?_; clear hK K) | refine X.seq rfl ?_ | refine X.region rfl (fun K hK => ?_) | refine X.skip rfl ?_ | (refine X.ite rfl rfl (fun hc => ?_); (first | (with_reducible refine Xb.f hc ?_)) <;> clear hc))
    all_goals try (exfalso; contradiction)
    have hT : ∀ H', (⟨t1, 0, R.ages.flatMap cSp, some 35, k1 * 2⟩ : Row) ∈ H' → (⟨t2, 0, R.boxes.flatMap cBx, some 81, k2 * 2⟩ : Row) ∈ H' → (⟨t3, 0, R.mats.flatMap cMt, some 114, k3 * 6⟩ : Row) ∈ H' → RmOk H' R ⟨some ⟨t1, 0, none⟩, k1, some ⟨t2, 0, none⟩, k2, some ⟨t3, 0, none⟩, k3⟩ :=
      fun H' m1 m2 m3 => ⟨SlE.ofRow m1 (fun _ _ => rfl), SlE.ofRow m2 (fun _ _ => rfl), SlE.ofRow m3 (fun _ _ => rfl), by omega, by omega, by omega⟩
    obtain ⟨po, hpo⟩ : ∃ po, po = (⟨some ⟨t1, 0, none⟩, k1, some ⟨t2, 0, none⟩, k2, some ⟨t3, 0, none⟩, k3⟩ : Pl) := ⟨_, rfl⟩
    rw [← hpo] at hT ⊢
    clear hpo
    repeat' (first | (refine XO.op rfl ?_; (first | ((first | refine Xo.ng rfl ?_); (first | (refine Xg.ev (EvF.extract rfl rfl rfl) rfl rfl ?_) | (refine Xg.ev (EvF.loadV rfl rfl (LoadV.whole (T := 26) (cs := cRm R po) (te rfl) rfl (by repeat (first | exact List.Mem.head _ | apply List.Mem.tail)) rfl)) rfl rfl ?_) | (refine Xg.ev (EvF.loadV rfl rfl (LoadV.whole (T := 26) (cs := cRm R p) (te rfl) rfl (by repeat (first | exact List.Mem.head _ | apply List.Mem.tail)) rfl)) rfl rfl ?_) | (refine Xg.call (EnF.st rfl (by (repeat (first | exact Args.nil | refine Args.cons rfl ?_)); done)) rfl rfl (kcan _ _ (hT _ (by repeat (first | exact List.Mem.head _ | apply List.Mem.tail)) (by repeat (first | exact List.Mem.head _ | apply List.Mem.tail)) (by repeat (first | exact List.Mem.head _ | apply List.Mem.tail)))) ?_; rintro _ H9 ⟨rfl, hH9⟩; subst H9) | (refine Xg.call (EnF.st rfl (by (repeat (first | exact Args.nil | refine Args.cons rfl ?_)); done)) rfl rfl (rcan p _ (hR.sub (fun _ h => by repeat (first | exact h | apply List.Mem.tail)))) ?_; rintro _ H9 ⟨rfl, hH9⟩; subst H9) | (refine Xg.call (EnF.st rfl (by (repeat (first | exact Args.nil | refine Args.cons rfl ?_)); done)) rfl rfl (kyel _ _ (hT _ (by repeat (first | exact List.Mem.head _ | apply List.Mem.tail)) (by repeat (first | exact List.Mem.head _ | apply List.Mem.tail)) (by repeat (first | exact List.Mem.head _ | apply List.Mem.tail)))) ?_; rintro _ H9 ⟨rfl, hH9⟩; subst H9) | (refine Xg.call (EnF.st rfl (by (repeat (first | exact Args.nil | refine Args.cons rfl ?_)); done)) rfl rfl (ryel p _ (hR.sub (fun _ h => by repeat (first | exact h | apply List.Mem.tail)))) ?_; rintro _ H9 ⟨rfl, hH9⟩; subst H9) | (refine Xg.call (EnF.st rfl (by (repeat (first | exact Args.nil | refine Args.cons rfl ?_)); done)) rfl rfl (kdif _ _ (hT _ (by repeat (first | exact List.Mem.head _ | apply List.Mem.tail)) (by repeat (first | exact List.Mem.head _ | apply List.Mem.tail)) (by repeat (first | exact List.Mem.head _ | apply List.Mem.tail)))) ?_; rintro _ H9 ⟨rfl, hH9⟩; subst H9) | (refine Xg.call (EnF.st rfl (by (repeat (first | exact Args.nil | refine Args.cons rfl ?_)); done)) rfl rfl (rdif p _ (hR.sub (fun _ h => by repeat (first | exact h | apply List.Mem.tail)))) ?_; rintro _ H9 ⟨rfl, hH9⟩; subst H9) | (refine Xg.ev (EvF.move rfl rfl) rfl rfl ?_) | (refine Xg.ev (EvF.assign rfl rfl) rfl rfl ?_) | (refine Xg.st (StF.alloc rfl Try.zeroValue35 rfl) rfl rfl ?_; rintro _ _ ⟨bx, rfl, rfl⟩) | (refine Xg.st0 (StF.storeAll (i := 0) rfl rfl rfl (te rfl) rfl rfl rfl rfl) rfl ?_; rintro _ _ ⟨rfl, rfl⟩; dsimp only [List.set]))))) | (refine XO.done rfl ?_; refine hK _ _ ?_; clear hK K) | (refine XQ.op rfl ?_; (first | ((first | refine Yo.ng rfl ?_ | (refine Yo.g rfl rfl ?_; with_reducible refine Yw.tt ?_)); (first | (refine Yg.ev (EvF.eqSf rfl rfl rfl) rfl rfl ?_) | (refine Yg.ev (EvF.eqSfB rfl rfl rfl (by kernel_rfl)) rfl rfl ?_) | (refine Yg.ev (EvF.eqSt (r := true) (b := true) rfl rfl rfl (by kernel_rfl) (fun w => eqSp_sf _ w) rfl) rfl rfl ?_) | (refine Yg.ev (EvF.loadV rfl rfl (LoadV.whole (T := 26) (cs := cRm R po) (te rfl) rfl (by repeat (first | exact List.Mem.head _ | apply List.Mem.tail)) rfl)) rfl rfl ?_) | (refine Yg.ev (EvF.loadV rfl rfl (LoadV.whole (T := 26) (cs := cRm R p) (te rfl) rfl (by repeat (first | exact List.Mem.head _ | apply List.Mem.tail)) rfl)) rfl rfl ?_) | (refine Yg.ev (EvF.loadV rfl rfl (LoadV.whole (T := 35) (cs := cSp ys) (te rfl) rfl (by repeat (first | exact List.Mem.head _ | apply List.Mem.tail)) rfl)) rfl rfl ?_) | (refine Yg.ev (EvF.loadV rfl rfl (LoadV.whole (T := 35) (cs := cSp ds) (te rfl) rfl (by repeat (first | exact List.Mem.head _ | apply List.Mem.tail)) rfl)) rfl rfl ?_) | (refine Yg.call (EnF.st rfl (by (repeat (first | exact Args.nil | refine Args.cons rfl ?_)); done)) rfl rfl (kCheck2_spec R po _ (hT _ (by repeat (first | exact List.Mem.head _ | apply List.Mem.tail)) (by repeat (first | exact List.Mem.head _ | apply List.Mem.tail)) (by repeat (first | exact List.Mem.head _ | apply List.Mem.tail)))) ?_) | (refine Yg.call (EnF.st rfl (by (repeat (first | exact Args.nil | refine Args.cons rfl ?_)); done)) rfl rfl (rCheck_spec R p _ (hR.sub (fun _ h => by repeat (first | exact h | apply List.Mem.tail)))) ?_) | (refine Yg.call (EnF.st rfl (by (repeat (first | exact Args.nil | refine Args.cons rfl ?_)); done)) rfl rfl (sameR_self R po p _ (hT _ (by repeat (first | exact List.Mem.head _ | apply List.Mem.tail)) (by repeat (first | exact List.Mem.head _ | apply List.Mem.tail)) (by repeat (first | exact List.Mem.head _ | apply List.Mem.tail))) (hR.sub (fun _ h => by repeat (first | exact h | apply List.Mem.tail)))) ?_) | (refine Yg.ev (EvF.move rfl rfl) rfl rfl ?_) | (refine Yg.ev (EvF.assign rfl rfl) rfl rfl ?_) | (refine Yg.ev (EvF.pickT rfl rfl rfl) rfl rfl ?_))))) | (refine XQ.done rfl ?_; refine hK _ ?_; clear hK K) | refine X.seq rfl ?_ | refine X.region rfl (fun K hK => ?_) | refine X.regionD rfl mixed (by kernel_rfl) (fun K hK => ?_) | refine X.ret rfl ?_)
    exact ret_one (by first | exact .inr rfl | exact .inl rfl) Try.results3 rfl (H' := _) (List.Sublist.refl _) rfl
end Go.Proofs.Ytblehgpfddmggaa
end
section
set_option linter.unusedVariables false
set_option linter.unusedSimpArgs false
namespace Go.Proofs.Ytblehgpfddmggaa
open Go Go.Fw
set_option maxRecDepth 10000
theorem XO.weakQ {P : Program} {n : Nat} {ops : Array Oper} {i : Nat} {F : FS} {H H' : List Row} {N : FS → List Row → Prop} (hp : H'.Sublist H) (k : XO P n ops i F H' N) : XO P n ops i F H N := by
  unfold XO WO at *
  intro t ha ρ ds B w0 w hS
  exact k t ha ρ ds B w0 w (hS.sub hp)
theorem sameI_self (l : List Int) (a a' : Option Addr) (c c' : Nat) (H : List Row) (hl : SlE H a cI 1 l) (hm : SlE H a' cI 1 l) (hb : l.length ≤ 9223372036854775807) : Fc Try.prog 39 [.slice a l.length c, .slice a' l.length c'] H (fun v H' => v = .bool true ∧ H' = H) :=
  (sameInts_spec l l a a' c c' H hl hm hb).mono (fun v H' ⟨h1, h2⟩ => ⟨by rw [h1, decide_eq_true rfl], h2⟩)
end Go.Proofs.Ytblehgpfddmggaa
end
section
set_option linter.unusedVariables false
set_option linter.unusedSimpArgs false
namespace Go.Proofs.Ytblehgpfddmggaa
open Go Go.Fw
set_option maxRecDepth 10000
set_option maxHeartbeats 8000000 in
theorem longer_specJ (ok : List Int → Bool) (l : List Int) (a : Option Addr) (c g : Nat) (fst cap : List Value) (bt br bl bg : Nat) (w1 w2 w3 : Option Kd) (k1 k2 k3 : Nat) (H0 : List Row) (hl : SlE H0 a cI 1 l) (hb : l.length ≤ 1000000)
    (mr : ⟨br, 0, [.func (.func g) fst.toArray cap.toArray], w1, k1⟩ ∈ H0) (ml : ⟨bl, 0, [.slice a l.length c], w2, k2⟩ ∈ H0) (mg : ⟨bg, 0, [.func (.func 124) #[] #[.pointer (some ⟨br, 0, none⟩), .pointer (some ⟨bt, 0, none⟩), .pointer (some ⟨bl, 0, none⟩), .pointer (some ⟨bg, 0, none⟩)]], w3, k3⟩ ∈ H0)
    (hr : ∀ acc a' c' H', (∀ r ∈ H0, r ∈ H') → SlE H' a' cI 1 acc → acc.length ≤ 1000000 → Fc Try.prog g (fst ++ [.slice a' acc.length c'] ++ cap) H' (fun v H'' => v = .bool (ok acc) ∧ H'' = H')) :
    ∀ (m f0 : Nat) (mi fi : Int) (acc : List Int) (out : Value) (Z : List Row), mi = m → fi = f0 → f0 ≤ l.length → acc.length + m ≤ 1000000 → TrvI acc out Z →
    Fc Try.prog 124 ([.int .i64 fi, .int .i64 mi] ++ [.pointer (some ⟨br, 0, none⟩), .pointer (some ⟨bt, 0, none⟩), .pointer (some ⟨bl, 0, none⟩), .pointer (some ⟨bg, 0, none⟩)]) (⟨bt, 0, [out], some 55, 1⟩ :: (Z ++ H0))
      (fun v H' => ∃ out' Z', ((∃ r, lonG ok (l.drop f0) m acc = some r ∧ v = .bool true ∧ TrvI r out' Z') ∨ (lonG ok (l.drop f0) m acc = none ∧ v = .bool false ∧ TrvI acc out' Z')) ∧ H' = ⟨bt, 0, [out'], some 55, 1⟩ :: (Z' ++ H0)) := by
  intro m
  induction m with
  | zero =>
    intro f0 mi fi acc out Z hmi hfi hfr hacc hT
    subst hmi
    obtain ⟨a', c', rfl, hs⟩ := hT.sl (H := H0)
    show Fc Try.prog 124 [.int .i64 fi, .int .i64 ((0 : Nat) : Int), .pointer (some ⟨br, 0, none⟩), .pointer (some ⟨bt, 0, none⟩), .pointer (some ⟨bl, 0, none⟩), .pointer (some ⟨bg, 0, none⟩)] _ _
    refine Fc.mk (callable Try.call124) Try.func124 rfl Try.ntmps124 rfl ?_; dsimp only [fr]
    repeat' (first | (refine XO.op rfl ?_; (first | ((first | refine Xo.ng rfl ?_); (first | (refine Xg.ev (EvF.loadV rfl rfl (LoadV.own (te rfl) rfl (List.Mem.tail _ (List.mem_append_right _ mr)) rfl)) rfl rfl ?_) | (refine Xg.call (EnF.dyn (first := fst) rfl rfl (Args.cons rfl Args.nil)) rfl rfl (hr acc a' c' _ (fun _ h => List.Mem.tail _ (List.mem_append_right _ h)) (hs.sub (fun _ h => List.Mem.tail _ h)) (by omega)) ?_; rintro _ H9 ⟨rfl, hH9⟩; subst H9) | (refine Xg.ev (EvF.move rfl rfl) rfl rfl ?_) | (refine Xg.ev (EvF.assign rfl rfl) rfl rfl ?_) | (refine Xg.ev (EvF.cmp rfl rfl rfl rfl) rfl rfl ?_) | (refine Xg.ev (EvF.loadV rfl rfl (LoadV.own (te rfl) rfl (List.Mem.head _) rfl)) rfl rfl ?_))))) | (refine XO.done rfl ?_; refine hK _ _ ?_; clear hK K) | refine X.seq rfl ?_ | refine X.region rfl (fun K hK => ?_) | refine X.block rfl ?_ | refine X.skip rfl ?_ | refine X.ret rfl ?_ | (refine X.ite rfl rfl (fun hc => ?_); (first | (with_reducible refine Xb.case hc (fun h => ?_) (fun h => ?_))) <;> clear hc))
    · refine ret_one (by first | exact .inr rfl | exact .inl rfl) Try.results124 rfl (H' := _) (List.Sublist.refl _) ⟨_, Z, ?_, rfl⟩
      rw [lonG_zero]
      by_cases hk : ok acc = true
      · exact .inl ⟨acc, by rw [if_pos hk], by rw [hk], hT⟩
      · exact .inr ⟨by rw [if_neg hk], by rw [Bool.eq_false_iff.2 hk], hT⟩
    · exfalso; omega
  | succ m ih =>
    intro f0 mi fi acc out Z hmi hfi hfr hacc hT
    subst hfi
    show Fc Try.prog 124 [.int .i64 (f0 : Int), .int .i64 mi, .pointer (some ⟨br, 0, none⟩), .pointer (some ⟨bt, 0, none⟩), .pointer (some ⟨bl, 0, none⟩), .pointer (some ⟨bg, 0, none⟩)] _ _
    refine Fc.mk (callable Try.call124) Try.func124 rfl Try.ntmps124 rfl ?_; dsimp only [fr]
    repeat' (first | (refine XO.op rfl ?_; (first | ((first | refine Xo.ng rfl ?_); (first | (refine Xg.ev (EvF.move rfl rfl) rfl rfl ?_) | (refine Xg.ev (EvF.assign rfl rfl) rfl rfl ?_) | (refine Xg.ev (EvF.cmp rfl rfl rfl rfl) rfl rfl ?_))))) | (refine XO.done rfl ?_; refine hK _ _ ?_; clear hK K) | refine X.seq rfl ?_ | refine X.region rfl (fun K hK => ?_) | refine X.block rfl ?_ | refine X.skip rfl ?_ | (refine X.ite rfl rfl (fun hc => ?_); (first | (with_reducible refine Xb.case hc (fun h => ?_) (fun h => ?_))) <;> clear hc))
    · exfalso; omega
    refine X.lp rfl (fun q F' H' => ∃ (i : Nat) (out : Value) (Z : List Row), q = l.length + 1 - i ∧ i ≤ l.length ∧ TrvI acc out Z ∧ lonG ok (l.drop f0) (m + 1) acc = lonG ok (l.drop i) (m + 1) acc ∧ ⟨bt, 0, [out], some 55, 1⟩ :: (Z ++ H0) = H' ∧
        F' = [(1, .int .i64 mi), (2, .pointer (some ⟨br, 0, none⟩)), (3, .pointer (some ⟨bt, 0, none⟩)), (4, .pointer (some ⟨bl, 0, none⟩)), (5, .pointer (some ⟨bg, 0, none⟩)), (9, .int .i64 i)])
      (l.length + 1 - f0) [(1, .int .i64 mi), (2, .pointer (some ⟨br, 0, none⟩)), (3, .pointer (some ⟨bt, 0, none⟩)), (4, .pointer (some ⟨bl, 0, none⟩)), (5, .pointer (some ⟨bg, 0, none⟩)), (9, .int .i64 f0)] _ (by (repeat (first | exact Sub.nil _ | refine Sub.cons rfl ?_)); done) (List.Sublist.refl _) ⟨f0, out, Z, rfl, hfr, hT, rfl, rfl, rfl⟩ ?_
    clear hT
    rintro _ _ H2 ⟨i, out, Z, rfl, hi, hT, hlon, hH, rfl⟩
    subst hH
    repeat' (first | (refine XO.op rfl ?_; (first | ((first | refine Xo.ng rfl ?_); (first | (refine Xg.ev (EvF.loadV rfl rfl (LoadV.own (te rfl) rfl (List.Mem.tail _ (List.mem_append_right _ ml)) rfl)) rfl rfl ?_) | (refine Xg.ev (EvF.move rfl rfl) rfl rfl ?_) | (refine Xg.ev (EvF.assign rfl rfl) rfl rfl ?_) | (refine Xg.ev (EvF.cmp rfl rfl rfl rfl) rfl rfl ?_) | (refine Xg.ev (EvF.add64 rfl rfl rfl (by omega) (by omega)) rfl rfl ?_) | (refine Xg.ev (EvF.lenSlice rfl rfl (te rfl)) rfl rfl ?_))))) | (refine XO.done rfl ?_; refine hK _ _ ?_; clear hK K) | refine X.seq rfl ?_ | refine X.region rfl (fun K hK => ?_) | refine X.block rfl ?_ | (refine X.brk rfl ?_; repeat (first | refine blockX_hit rfl ?_ | refine blockX_miss (by decide) ?_)) | refine X.skip rfl ?_ | refine X.ret rfl ?_ | (refine X.ite rfl rfl (fun hc => ?_); (first | (with_reducible refine Xb.case hc (fun h => ?_) (fun h => ?_))) <;> clear hc))
    · obtain ⟨lb, lo, e, rfl, he⟩ := hl.elem (i := i) (by omega)
      have hil := (List.getElem?_eq_some_iff.1 he).1
      have hle : (acc ++ [e]).length = acc.length + 1 := by rw [List.length_append]; rfl
      have hfm : acc.flatMap cI ++ cI e = (acc ++ [e]).flatMap cI := by rw [List.flatMap_append, List.flatMap_singleton]
      have hal : (acc.flatMap cI).length = acc.length * 1 := lenI acc
      refine X.regionRd ts71 rd71 [3, 4, 9, 1, 2, 5] [(3, .pointer (some ⟨bt, 0, none⟩)), (4, .pointer (some ⟨bl, 0, none⟩)), (9, .int .i64 i), (1, .int .i64 mi), (2, .pointer (some ⟨br, 0, none⟩)), (5, .pointer (some ⟨bg, 0, none⟩))]
        (val71I out lb lo acc.length c l.length i e) (rows71I bt out Z acc e) (fun _ => (0, 0)) H0 rfl mixed (by (repeat (first | exact Sub.nil _ | refine Sub.cons rfl ?_)); done) rfl (by kernel_rfl) (by kernel_rfl) (loc71I bt out Z acc lb lo c l.length i e) (by show List.Sublist ((⟨bt, 0, [out], some 55, 1⟩ :: (Z ++ [])) ++ H0) _; rw [List.append_nil]; exact List.Sublist.refl _) ?_ ?_
      · repeat' (first | exact AllF.done rfl | (refine AllF.step rfl ?_ ?_; · (first | exact (Ob.ng rfl (ObK.pure (fun env R hR => by exact ⟨_, EvF.move rfl rfl, rfl⟩) rfl (fun _ => rfl))).toR | (refine ObR.ng rfl ?_; (first | (exact fun env S hS hrd => (StF.ofEv (EvF.loadV rfl rfl (LoadV.own (te rfl) rfl (hrd 8 (List.Mem.head _) _ (List.Mem.head _)) rfl))).op.mono (fun v H' ⟨hv, hH⟩ => ⟨(0, 0), fun _ => hv, by rw [hH]; exact List.Perm.refl _⟩)) | (exact fun env S hS hrd => (StF.ofEv (EvF.loadV rfl rfl (LoadV.own (te rfl) rfl (hS _ ml) rfl))).op.mono (fun v H' ⟨hv, hH⟩ => ⟨(0, 0), fun _ => hv, by rw [hH]; exact List.Perm.refl _⟩)) | ((refine fun env S hS hrd => (StF.ofEv (v := .pointer (some ⟨lb, lo + i * 1, none⟩)) ?_).op.mono (fun v H' ⟨hv, hH⟩ => ⟨(0, 0), fun _ => hv, by rw [hH]; exact List.Perm.refl _⟩); refine EvF.indexSlice (T := 55) (e := 3) (i := (i : Int)) (off := lo) (b := lb) (len := l.length) (ti := ⟨.int .i64, 1, 8⟩) rfl rfl rfl (te rfl) (te rfl) ?_ ?_ <;> omega)) | (exact fun env S hS hrd => (StF.ofEv (v := .int .i64 e) (EvF.loadV rfl rfl (LoadV.el0 (n := i) hl he (te rfl) rfl (fun _ h => hS _ h) rfl))).op.mono (fun v H' ⟨hv, hH⟩ => ⟨(0, 0), fun _ => hv, by rw [hH]; exact List.Perm.refl _⟩)) | (exact fun env S hS hrd => (StF.buildOne (v0 := .int .i64 e) rfl el55 rfl rfl rfl (by decide) (by decide)).op.mono (fun v H' ⟨b, hv, hH⟩ => ⟨(b, 0), fun _ => hv, by rw [hH]; exact List.Perm.refl _⟩)) | (exact fun env S hS hrd => (StF.storeOne (i := 0) rfl rfl rfl rfl (te rfl) rfl rfl (Nat.le_of_ble_eq_true rfl)).op.mono (fun v H' ⟨hv, hH⟩ => ⟨(0, 0), fun h => absurd rfl h, by rw [hH]; exact List.Perm.refl _⟩)) | ((rcases hT with ⟨rfl, rfl, rfl⟩ | ⟨b, q, rfl, rfl⟩ <;> first | exact fun env S hS hrd => (StF.appendNew rfl el55 rfl rfl (by decide) rfl (Rd.own (hrd 5 (List.Mem.head _) _ (List.Mem.head _))) (by decide)).op.mono (fun v H' ⟨b, c, hv, hH⟩ => ⟨(b, c), fun _ => hv, by rw [hH]; exact List.Perm.refl _⟩) | exact fun env S hS hrd => (StF.appendOwn (i := 0) rfl el55 rfl rfl rfl hal rfl (Rd.own (List.Mem.tail _ (hrd 5 (List.Mem.head _) _ (List.Mem.head _)))) rfl (by omega)).op.mono (fun v H' ⟨b, c, hv, hH⟩ => ⟨(b, c), fun _ => hv, by rw [hH]; exact List.Perm.refl _⟩))))))))
      · intro env t ha hv
        refine ⟨_, ha, ?_⟩
        show X _ _ _ _ (⟨(env 5).1, 0, cI e, some 3, 1 * 1⟩ :: ⟨(env 6).1, 0, acc.flatMap cI ++ cI e, some 3, (env 6).2 * 1⟩ :: ⟨bt, 0, [.slice (some ⟨(env 6).1, 0, none⟩) (acc.length + 1) (env 6).2], some 55, 1⟩ :: H0) _
        rw [hfm]
        refine X.weakR (List.sublist_cons_self _ _) ?_
        refine X.permH (H' := ⟨bt, 0, [.slice (some ⟨(env 6).1, 0, none⟩) (acc.length + 1) (env 6).2], some 55, 1⟩ :: ⟨(env 6).1, 0, (acc ++ [e]).flatMap cI, some 3, (env 6).2 * 1⟩ :: H0) (List.Perm.swap _ _ _) ?_
        clear hT
        repeat' (first | (refine XO.op rfl ?_; (first | ((first | refine Xo.ng rfl ?_); (first | (refine Xg.ev (EvF.loadV rfl rfl (LoadV.own (te rfl) rfl (List.Mem.tail _ (List.Mem.tail _ mg)) rfl)) rfl rfl ?_) | (refine Xg.call (EnF.dyn0 rfl rfl (by (repeat (first | exact Args.nil | refine Args.cons rfl ?_)); done)) rfl rfl (ih (i + 1) _ _ (acc ++ [e]) _ [⟨(env 6).1, 0, (acc ++ [e]).flatMap cI, some 3, (env 6).2 * 1⟩] (by omega) (by omega) (by omega) (by omega) (.inr ⟨_, _, by rw [hle], rfl⟩)) ?_; rintro _ _ ⟨out', Z', (⟨r, hlr, rfl, hT'⟩ | ⟨hln, rfl, ⟨h0, _, _⟩ | ⟨b', q', rfl, rfl⟩⟩), rfl⟩; rotate_left; · exact absurd h0 (by simp)) | (refine Xg.ev (EvF.move rfl rfl) rfl rfl ?_) | (refine Xg.ev (EvF.assign rfl rfl) rfl rfl ?_) | (refine Xg.ev (EvF.add64 rfl rfl rfl (by omega) (by omega)) rfl rfl ?_) | (refine Xg.ev (EvF.sub64 rfl rfl rfl (by omega) (by omega)) rfl rfl ?_) | (refine Xg.ev (EvF.lenSlice rfl rfl (te rfl)) rfl rfl ?_) | (refine Xg.ev (EvF.loadV rfl rfl (LoadV.own (te rfl) rfl (List.Mem.head _) rfl)) rfl rfl ?_))))) | (refine XO.done rfl ?_; refine hK _ _ ?_; clear hK K) | refine X.seq rfl ?_ | refine X.region rfl (fun K hK => ?_) | refine X.skip rfl ?_ | refine X.ret rfl ?_ | (refine X.ite rfl rfl (fun hc => ?_); (first | (with_reducible refine Xb.t hc ?_) | (with_reducible refine Xb.f hc ?_)) <;> clear hc))
        · refine XO.reveal (q := 1) rfl (fun rest hrest => ?_)
          have hcap : (acc ++ [e]).length ≤ q' := by
            rw [List.length_append, lenI] at hrest
            omega
          refine XO.forget (q := 1) (cs := acc.flatMap cI) (cs' := cI e ++ rest) (by show some (⟨b', 0, (acc ++ [e]).flatMap cI ++ rest, some 3, q' * 1⟩ : Row) = _; rw [← hfm, List.append_assoc]; rfl) ?_
          dsimp only [List.set, List.cons_append, List.nil_append]
          repeat' (first | (refine XO.op rfl ?_; (first | ((first | refine Xo.ng rfl ?_); (first | (refine Xg.ev (EvF.sliceTo (hh := acc.length) rfl rfl (te rfl) (te rfl) (congrArg (fun z => some (Value.int .i64 z)) (by omega : (((acc ++ [e]).length : Nat) : Int) - 1 = (acc.length : Int))) (by omega)) rfl rfl ?_) | (refine Xg.ev (EvF.move rfl rfl) rfl rfl ?_) | (refine Xg.ev (EvF.assign rfl rfl) rfl rfl ?_) | (refine Xg.ev (EvF.add64 rfl rfl rfl (by omega) (by omega)) rfl rfl ?_) | (refine Xg.st0 (StF.storeOne (i := 0) rfl rfl rfl rfl (te rfl) rfl rfl (Nat.le_of_ble_eq_true rfl)) rfl ?_; rintro _ _ ⟨rfl, rfl⟩; dsimp only [List.set]))))) | (refine XO.done rfl ?_; refine hK _ _ ?_; clear hK K) | refine X.region rfl (fun K hK => ?_))
          refine ⟨_, _, _, (by (repeat (first | exact Sub.nil _ | refine Sub.cons rfl ?_)); done), List.Sublist.refl _, ⟨i + 1, _, [⟨b', 0, acc.flatMap cI, some 3, q' * 1⟩], rfl, by omega, .inr ⟨b', q', rfl, rfl⟩, ?_, rfl, rfl⟩, by omega⟩
          rw [hlon, drop_cons he]
          simp only [lonG, hln]
        · refine ret_one (by first | exact .inr rfl | exact .inl rfl) Try.results124 rfl (H' := _) (List.Sublist.refl _) ⟨out', Z', .inl ⟨r, ?_, rfl, hT'⟩, rfl⟩
          rw [hlon, drop_cons he]
          simp only [lonG, hlr]
    · refine ret_one (by first | exact .inr rfl | exact .inl rfl) Try.results124 rfl (H' := _) (List.Sublist.refl _) ⟨out, Z, .inr ⟨?_, rfl, hT⟩, rfl⟩
      rw [hlon]
      exact lonG_short ok _ _ _ (by rw [List.length_drop]; omega)
set_option maxHeartbeats 8000000 in
theorem fewest_specJ (ok : List Int → Bool) (l : List Int) (a : Option Addr) (c most g : Nat) (fst cap : List Value) (H : List Row) (hl : SlE H a cI 1 l) (hb : l.length ≤ 1000000) (hm : most ≤ 1000)
    (hr : ∀ acc a' c' H', (∀ r ∈ H, r ∈ H') → SlE H' a' cI 1 acc → acc.length ≤ 1000000 → Fc Try.prog g (fst ++ [.slice a' acc.length c'] ++ cap) H' (fun v H'' => v = .bool (ok acc) ∧ H'' = H')) :
    Fc Try.prog 86 [.slice a l.length c, .int .i64 (most : Nat), .func (.func g) fst.toArray cap.toArray] H
      (fun v H' => ∃ out Z, TrvI ((fewG ok l (min most l.length + 1) 0).getD []) out Z ∧ v = .tuple #[out, .bool (fewG ok l (min most l.length + 1) 0).isSome] ∧ H' = Z ++ H) := by
  refine Fc.mk (callable Try.call86) Try.func86 rfl Try.ntmps86 rfl ?_; dsimp only [fr]
  repeat' (first | (refine XO.op rfl ?_; (first | ((first | refine Xo.ng rfl ?_); (first | (refine Xg.ev (EvF.makeFunc (fl := []) rfl Args.nil (Args.cons rfl (Args.cons rfl (Args.cons rfl (Args.cons rfl Args.nil))))) rfl rfl ?_) | (refine Xg.ev (EvF.move rfl rfl) rfl rfl ?_) | (refine Xg.ev (EvF.assign rfl rfl) rfl rfl ?_) | (refine Xg.ev (EvF.add64 rfl rfl rfl (by omega) (by omega)) rfl rfl ?_) | (refine Xg.ev (EvF.lenSlice rfl rfl (te rfl)) rfl rfl ?_) | (refine Xg.ev (EvF.loadV rfl rfl (LoadV.own (te rfl) rfl (List.Mem.tail _ (List.Mem.tail _ (List.Mem.tail _ (List.Mem.head _)))) rfl)) rfl rfl ?_) | (refine Xg.ev (EvF.min64 rfl rfl rfl) rfl rfl ?_) | (refine Xg.st (StF.boxOne rfl rfl rfl) rfl rfl ?_; rintro _ _ ⟨bx, rfl, rfl⟩) | (refine Xg.st (StF.alloc rfl Try.zeroValue55 rfl) rfl rfl ?_; rintro _ _ ⟨bx, rfl, rfl⟩) | (refine Xg.st (StF.alloc rfl Try.zeroValue175 rfl) rfl rfl ?_; rintro _ _ ⟨bx, rfl, rfl⟩) | (refine Xg.st0 (StF.storeOne (i := 0) rfl rfl rfl rfl (te rfl) rfl rfl (Nat.le_of_ble_eq_true rfl)) rfl ?_; rintro _ _ ⟨rfl, rfl⟩; dsimp only [List.set]))))) | (refine XO.done rfl ?_; refine hK _ _ ?_; clear hK K) | refine X.seq rfl ?_ | refine X.region rfl (fun K hK => ?_) | refine X.block rfl ?_)
  rename_i bl br bt; rename Nat => bg
  refine X.permH (List.Perm.swap _ _ _) ?_
  have hlg := longer_specJ ok l a c g fst cap bt br bl bg (some 139) (some 55) (some 175) 1 1 1 (⟨bg, 0, [.func (.func 124) #[] #[.pointer (some ⟨br, 0, none⟩), .pointer (some ⟨bt, 0, none⟩), .pointer (some ⟨bl, 0, none⟩), .pointer (some ⟨bg, 0, none⟩)]], some 175, 1⟩ :: ⟨br, 0, [.func (.func g) fst.toArray cap.toArray], some 139, 1⟩ :: ⟨bl, 0, [.slice a l.length c], some 55, 1⟩ :: H)
    (hl.sub (fun _ h => List.Mem.tail _ (List.Mem.tail _ (List.Mem.tail _ h)))) hb (List.Mem.tail _ (List.Mem.head _)) (List.Mem.tail _ (List.Mem.tail _ (List.Mem.head _))) (List.Mem.head _) (fun acc a' c' H' hs => hr acc a' c' H' (fun r h => hs r (List.Mem.tail _ (List.Mem.tail _ (List.Mem.tail _ h)))))
  refine X.lp rfl (fun q F' H' => ∃ (k : Nat) (out : Value) (Z : List Row), q = min most l.length + 1 - k ∧ k ≤ min most l.length + 1 ∧ TrvI [] out Z ∧ fewG ok l (min most l.length + 1) 0 = fewG ok l (min most l.length + 1 - k) k ∧
      ⟨bt, 0, [out], some 55, 1⟩ :: (Z ++ (⟨bg, 0, [.func (.func 124) #[] #[.pointer (some ⟨br, 0, none⟩), .pointer (some ⟨bt, 0, none⟩), .pointer (some ⟨bl, 0, none⟩), .pointer (some ⟨bg, 0, none⟩)]], some 175, 1⟩ :: ⟨br, 0, [.func (.func g) fst.toArray cap.toArray], some 139, 1⟩ :: ⟨bl, 0, [.slice a l.length c], some 55, 1⟩ :: H)) = H' ∧
      F' = [(8, .pointer (some ⟨bt, 0, none⟩)), (9, .pointer (some ⟨bg, 0, none⟩)), (16, .int .i64 (min (most : Int) (l.length : Int) + 1)), (17, .int .i64 k)])
    (min most l.length + 1) [(8, .pointer (some ⟨bt, 0, none⟩)), (9, .pointer (some ⟨bg, 0, none⟩)), (16, .int .i64 (min (most : Int) (l.length : Int) + 1)), (17, .int .i64 (0 : Nat))] _ (by (repeat (first | exact Sub.nil _ | refine Sub.cons rfl ?_)); done) (List.Sublist.refl _) ⟨0, _, [], rfl, by omega, .inl ⟨rfl, rfl, rfl⟩, rfl, rfl, rfl⟩ ?_
  rintro _ _ H2 ⟨k, out, Z, rfl, hk, hT, hf, hH, rfl⟩
  subst hH
  repeat' (first | (refine XO.op rfl ?_; (first | ((first | refine Xo.ng rfl ?_); (first | (refine Xg.ev (EvF.loadV rfl rfl (LoadV.own (te rfl) rfl (List.Mem.tail _ (List.mem_append_right _ (List.Mem.head _))) rfl)) rfl rfl ?_) | (refine Xg.call (EnF.dyn0 rfl rfl (by (repeat (first | exact Args.nil | refine Args.cons rfl ?_)); done)) rfl rfl (hlg k 0 _ _ [] out Z rfl rfl (by omega) (by simp only [List.length_nil]; omega) hT) ?_; rintro _ _ ⟨out', Z', (⟨r, hlr, rfl, hT'⟩ | ⟨hln, rfl, hT'⟩), rfl⟩) | (refine Xg.ev (EvF.move rfl rfl) rfl rfl ?_) | (refine Xg.ev (EvF.assign rfl rfl) rfl rfl ?_) | (refine Xg.ev (EvF.cmp rfl rfl rfl rfl) rfl rfl ?_) | (refine Xg.ev (EvF.add64 rfl rfl rfl (by omega) (by omega)) rfl rfl ?_) | (refine Xg.ev (EvF.loadV rfl rfl (LoadV.own (te rfl) rfl (List.Mem.head _) rfl)) rfl rfl ?_))))) | (refine XO.done rfl ?_; refine hK _ _ ?_; clear hK K) | refine X.seq rfl ?_ | refine X.region rfl (fun K hK => ?_) | refine X.block rfl ?_ | (refine X.brk rfl ?_; repeat (first | refine blockX_hit rfl ?_ | refine blockX_miss (by decide) ?_)) | refine X.skip rfl ?_ | refine X.ret rfl ?_ | (refine X.ite rfl rfl (fun hc => ?_); (first | (with_reducible refine Xb.t hc ?_) | (with_reducible refine Xb.f hc ?_) | (with_reducible refine Xb.case hc (fun h => ?_) (fun h => ?_))) <;> clear hc))
  · obtain ⟨j, hj⟩ : ∃ j, min most l.length + 1 - k = j + 1 := ⟨min most l.length - k, by omega⟩
    rw [List.drop_zero] at hlr
    have hfr : fewG ok l (min most l.length + 1) 0 = some r := by rw [hf, hj]; simp only [fewG, hlr]
    rw [hfr]
    exact ret_two (by first | exact .inr rfl | exact .inl rfl) Try.results86 rfl rfl (H' := Z' ++ H) (List.Sublist.cons _ (List.Sublist.append (List.Sublist.refl _) (List.Sublist.cons _ (List.Sublist.cons _ (List.sublist_cons_self _ _))))) ⟨out', Z', hT', rfl, rfl⟩
  · obtain ⟨j, hj⟩ : ∃ j, min most l.length + 1 - k = j + 1 := ⟨min most l.length - k, by omega⟩
    rw [List.drop_zero] at hln
    refine ⟨_, _, _, (by (repeat (first | exact Sub.nil _ | refine Sub.cons rfl ?_)); done), List.Sublist.refl _, ⟨k + 1, out', Z', rfl, by omega, hT', ?_, rfl, rfl⟩, by omega⟩
    rw [hf, hj, show min most l.length + 1 - (k + 1) = j by omega]
    simp only [fewG, hln]
  · have hk' : min most l.length + 1 - k = 0 := by omega
    have hfn : fewG ok l (min most l.length + 1) 0 = none := by rw [hf, hk']; rfl
    rw [hfn]
    exact ret_two (by first | exact .inr rfl | exact .inl rfl) Try.results86 rfl rfl (H' := H) (List.Sublist.cons _ ((List.Sublist.cons _ (List.Sublist.cons _ (List.sublist_cons_self _ _))).trans (List.sublist_append_right _ _))) ⟨_, [], .inl ⟨rfl, rfl, rfl⟩, rfl, rfl⟩
end Go.Proofs.Ytblehgpfddmggaa
end
section
set_option linter.unusedVariables false
set_option linter.unusedSimpArgs false
namespace Go.Proofs.Ytblehgpfddmggaa
open Go Go.Fw
set_option maxRecDepth 10000
theorem filter_snoc_tMt {p : Mt → Bool} {l : List Mt} {j : Nat} {e : Mt} (he : l[j]? = some e) (hp : p e = true) : (l.take (j + 1)).filter (fun e => !p e) = (l.take j).filter (fun e => !p e) := by
  rw [take_snoc he, List.filter_append]; simp [hp]
theorem filter_snoc_fMt {p : Mt → Bool} {l : List Mt} {j : Nat} {e : Mt} (he : l[j]? = some e) (hp : p e = false) : (l.take (j + 1)).filter (fun e => !p e) = (l.take j).filter (fun e => !p e) ++ [e] := by
  rw [take_snoc he, List.filter_append]; simp [hp]
theorem honeMt (z : Value) (w : World) (h : (zeroValue 114).run Try.prog w = .ok z w) : z.cells.all (·.oneCell') = true := by
  rw [Try.zeroValue114] at h
  cases h
  first | decide | simp [Value.cells, Value.oneCell'] | kernel_rfl
set_option maxHeartbeats 4000000 in
theorem deleteFunc_specMt (l : List Mt) (b c g : Nat) (p : Mt → Bool) (cap : List Value) (H : List Row) (hb : l.length ≤ 1000000) (hf : ∀ Z, ∀ e ∈ l, Fc Try.prog g ([.agg (cMt e).toArray] ++ cap) (Z ++ H) (fun v H' => v = .bool (p e) ∧ H' = Z ++ H)) :
    Fc Try.prog 127 [.slice (some ⟨b, 0, none⟩) l.length c, .func (.func g) #[] cap.toArray] (⟨b, 0, l.flatMap cMt, some 114, c * 6⟩ :: H)
      (fun v H' => v = .slice (some ⟨b, 0, none⟩) (l.filter (fun e => !p e)).length c ∧ H' = ⟨b, 0, (l.filter (fun e => !p e)).flatMap cMt, some 114, c * 6⟩ :: H) := by
  have hlen := lenMt l
  refine Fc.mk (callable Try.call127) Try.func127 rfl Try.ntmps127 rfl ?_; dsimp only [fr]
  refine X.reveal (q := 0) rfl (fun rest hrest => ?_)
  refine X.forget (q := 0) (cs := l.flatMap cMt) (cs' := rest) rfl ?_
  dsimp only [List.set]
  have hlc : l.length ≤ c := by
    rw [List.length_append, hlen] at hrest
    omega
  clear hrest
  repeat' (first | (refine XO.op rfl ?_; (first | ((first | refine Xo.ng rfl ?_); (first | (refine Xg.call (EnF.st rfl (by (repeat (first | exact Args.nil | refine Args.cons rfl ?_)); done)) rfl rfl (indexFunc_specMt l _ _ g p cap _ (SlE.ofRow (List.Mem.head _) (fun _ _ => rfl)) (by omega) (fun e he => hf [_] e he)) ?_; rintro _ H9 ⟨⟨z, rfl, hz⟩, hH9⟩; subst H9; rcases hz with ⟨rfl, hz⟩ | ⟨k, e0, rfl, he0, hp0, hz⟩; rotate_left; have hk0 := (List.getElem?_eq_some_iff.1 he0).1; rotate_right) | (refine Xg.ev (EvF.move rfl rfl) rfl rfl ?_) | (refine Xg.ev (EvF.assign rfl rfl) rfl rfl ?_) | (refine Xg.ev (EvF.cmp rfl rfl rfl rfl) rfl rfl ?_) | (refine Xg.ev (EvF.add64 rfl rfl rfl (by omega) (by omega)) rfl rfl ?_))))) | (refine XO.done rfl ?_; refine hK _ _ ?_; clear hK K) | refine X.seq rfl ?_ | refine X.region rfl (fun K hK => ?_) | refine X.block rfl ?_ | refine X.skip rfl ?_ | refine X.ret rfl ?_ | (refine X.ite rfl rfl (fun hc => ?_); (first | (with_reducible refine Xb.case hc (fun h => ?_) (fun h => ?_))) <;> clear hc))
  any_goals (exfalso; omega)
  · have e1 : l.filter (fun e => !p e) = l := List.filter_eq_self.2 (fun e he => by simp [hz e he])
    refine ret_one (by first | exact .inr rfl | exact .inl rfl) Try.results127 rfl (H' := ⟨b, 0, l.flatMap cMt, some 114, c * 6⟩ :: H) (List.Sublist.refl _) ?_
    rw [e1]
    exact ⟨rfl, rfl⟩
  have e1 : (l.take k).filter (fun e => !p e) = l.take k := List.filter_eq_self.2 (fun e he => by
    obtain ⟨i, hi⟩ := List.getElem?_of_mem he
    rw [List.getElem?_take] at hi
    split at hi
    · simp [hz i e (by assumption) hi]
    · cases hi)
  refine X.lp rfl (fun q F' H' => ∃ (i j : Nat) (M : List Value), q = l.length - j ∧ j ≤ l.length ∧ i < j ∧ i = ((l.take j).filter (fun e => !p e)).length ∧ M.length = (j - i) * 6 ∧
      ⟨b, 0, ((l.take j).filter (fun e => !p e)).flatMap cMt ++ M ++ (l.drop j).flatMap cMt, some 114, c * 6⟩ :: H = H' ∧
      F' = [(0, .slice (some ⟨b, 0, none⟩) l.length c), (1, .func (.func g) #[] cap.toArray), (5, .int .i64 i), (6, .int .i64 j)])
    (l.length - (k + 1)) [(0, .slice (some ⟨b, 0, none⟩) l.length c), (1, .func (.func g) #[] cap.toArray), (5, .int .i64 k), (6, .int .i64 (k + 1 : Nat))] _ (by (repeat (first | exact Sub.nil _ | refine Sub.cons rfl ?_)); done) (List.Sublist.refl _) ⟨k, k + 1, cMt e0, rfl, by omega, by omega, ?_, ?_, ?_, rfl⟩ ?_
  · rw [filter_snoc_tMt he0 hp0, e1, List.length_take]; omega
  · show 6 = _; omega
  · rw [filter_snoc_tMt he0 hp0, e1]
    congr 2
    rw [show l.flatMap cMt = (l.take k ++ l.drop k).flatMap cMt by rw [List.take_append_drop], drop_cons he0, List.flatMap_append, List.flatMap_cons, List.append_assoc]
  rintro _ _ H2 ⟨i, j, M, rfl, hj, hij, hi, hM, hH, rfl⟩
  subst hH
  have hF : (((l.take j).filter (fun e => !p e)).flatMap cMt).length = i * 6 := by rw [lenMt, ← hi]
  repeat' (first | (refine XO.op rfl ?_; (first | ((first | refine Xo.ng rfl ?_); (first | (refine Xg.ev (EvF.move rfl rfl) rfl rfl ?_) | (refine Xg.ev (EvF.cmp rfl rfl rfl rfl) rfl rfl ?_) | (refine Xg.ev (EvF.lenSlice rfl rfl (te rfl)) rfl rfl ?_) | (refine Xg.ev (EvF.indexSlice rfl rfl rfl (te rfl) (te rfl) (by omega) (by omega)) rfl rfl ?_))))) | (refine XO.done rfl ?_; refine hK _ _ ?_; clear hK K) | refine X.seq rfl ?_ | refine X.region rfl (fun K hK => ?_) | refine X.block rfl ?_ | (refine X.brk rfl ?_; repeat (first | refine blockX_hit rfl ?_ | refine blockX_miss (by decide) ?_)) | refine X.skip rfl ?_ | (refine X.ite rfl rfl (fun hc => ?_); (first | (with_reducible refine Xb.case hc (fun h => ?_) (fun h => ?_))) <;> clear hc))
  · have hjl : j < l.length := by omega
    obtain ⟨e, he⟩ : ∃ e, l[j]? = some e := ⟨_, List.getElem?_eq_getElem hjl⟩
    rw [drop_cons he, List.flatMap_cons]
    have hload : ((((l.take j).filter (fun e => !p e)).flatMap cMt ++ M ++ (cMt e ++ (l.drop (j + 1)).flatMap cMt)).drop (0 + (j : Int).toNat * 6)).take 6 = cMt e := by
      rw [List.drop_left' (by rw [List.length_append, hF, hM]; show _ = 0 + j * 6; omega)]
      exact List.take_left' rfl
    repeat' (first | (refine XO.op rfl ?_; (first | ((first | refine Xo.ng rfl ?_); (first | (refine Xg.ev (EvF.loadV rfl rfl (LoadV.ownAgg (te rfl) rfl (List.Mem.head _) hload rfl)) rfl rfl ?_) | (refine Xg.call (EnF.dyn0 rfl rfl (by (repeat (first | exact Args.nil | refine Args.cons rfl ?_)); done)) rfl rfl (hf [_, _] e (List.mem_of_getElem? he)) ?_; rintro _ H9 ⟨rfl, hH9⟩; subst H9) | (refine Xg.st0 (StF.storeAt (q := 1) rfl rfl rfl (te rfl) rfl rfl (one_mt e) (by rw [List.length_append, List.length_append, hF, hM]; show 0 + i * 6 + 6 ≤ _; omega)) rfl ?_; rintro _ _ ⟨rfl, rfl⟩; dsimp only [List.set]) | (refine Xg.ev (EvF.move rfl rfl) rfl rfl ?_) | (refine Xg.ev (EvF.assign rfl rfl) rfl rfl ?_) | (refine Xg.ev (EvF.add64 rfl rfl rfl (by omega) (by omega)) rfl rfl ?_) | (refine Xg.ev (EvF.not rfl rfl) rfl rfl ?_) | (refine Xg.ev (EvF.indexSlice rfl rfl rfl (te rfl) (te rfl) (by omega) (by omega)) rfl rfl ?_) | (refine Xg.ev (EvF.loadV rfl rfl (LoadV.whole (te rfl) rfl (List.Mem.head _) rfl)) rfl rfl ?_) | (refine Xg.st (StF.alloc rfl Try.zeroValue114 rfl) rfl rfl ?_; rintro _ _ ⟨bx, rfl, rfl⟩) | (refine Xg.st0 (StF.storeAll (i := 0) rfl rfl rfl (te rfl) rfl rfl rfl rfl) rfl ?_; rintro _ _ ⟨rfl, rfl⟩; dsimp only [List.set]))))) | (refine XO.done rfl ?_; refine hK _ _ ?_; clear hK K) | refine X.seq rfl ?_ | refine X.region rfl (fun K hK => ?_) | refine X.skip rfl ?_ | (refine X.ite rfl rfl (fun hc => ?_); (first | (with_reducible refine Xb.caseB hc (fun h => ?_) (fun h => ?_))) <;> clear hc))
    · have hp : p e = false := by simpa using h
      refine ⟨_, [(0, .slice (some ⟨b, 0, none⟩) l.length c), (1, .func (.func g) #[] cap.toArray), (5, .int .i64 (i + 1 : Nat)), (6, .int .i64 (j + 1 : Nat))], _, (by (repeat (first | exact Sub.nil _ | refine Sub.cons rfl ?_)); done), ?_, ⟨i + 1, j + 1, M.drop 6 ++ cMt e, rfl, by omega, by omega, ?_, ?_, rfl, rfl⟩, by omega⟩
      · rw [filter_snoc_fMt he hp, List.flatMap_append]
        have := splice_at (xs := ((l.take j).filter (fun e => !p e)).flatMap cMt) (ys := M.take 6) (zs := M.drop 6 ++ (cMt e ++ (l.drop (j + 1)).flatMap cMt)) (vs := cMt e) (j := 0 + (i : Int).toNat * 6) (by rw [hF]; show _ = 0 + i * 6; omega) (by rw [List.length_take, hM]; show 6 = _; omega)
        rw [show ((l.take j).filter (fun e => !p e)).flatMap cMt ++ M.take 6 ++ (M.drop 6 ++ (cMt e ++ (l.drop (j + 1)).flatMap cMt)) = ((l.take j).filter (fun e => !p e)).flatMap cMt ++ M ++ (cMt e ++ (l.drop (j + 1)).flatMap cMt) by
          rw [List.append_assoc, ← List.append_assoc (M.take 6), List.take_append_drop, List.append_assoc]] at this
        rw [this]
        rw [show ((l.take j).filter (fun e => !p e)).flatMap cMt ++ cMt e ++ (M.drop 6 ++ (cMt e ++ (l.drop (j + 1)).flatMap cMt)) = ((l.take j).filter (fun e => !p e)).flatMap cMt ++ [e].flatMap cMt ++ (M.drop 6 ++ cMt e) ++ (l.drop (j + 1)).flatMap cMt by
          rw [List.flatMap_singleton]; simp only [List.append_assoc]]
        exact (by (repeat (first | exact List.Sublist.refl _ | apply List.Sublist.cons_cons | apply List.Sublist.cons)); done)
      · rw [filter_snoc_fMt he hp, List.length_append, ← hi]; rfl
      · rw [List.length_append, List.length_drop, hM]; show _ + 6 = _; omega
    · have hp : p e = true := by simpa using h
      refine ⟨_, [(0, .slice (some ⟨b, 0, none⟩) l.length c), (1, .func (.func g) #[] cap.toArray), (5, .int .i64 i), (6, .int .i64 (j + 1 : Nat))], _, (by (repeat (first | exact Sub.nil _ | refine Sub.cons rfl ?_)); done), ?_, ⟨i, j + 1, M ++ cMt e, rfl, by omega, by omega, ?_, ?_, rfl, rfl⟩, by omega⟩
      · rw [filter_snoc_tMt he hp, List.append_assoc, List.append_assoc, List.append_assoc]
        exact (by (repeat (first | exact List.Sublist.refl _ | apply List.Sublist.cons_cons | apply List.Sublist.cons)); done)
      · rw [filter_snoc_tMt he hp]; exact hi
      · rw [List.length_append, hM]; show _ + 6 = _; omega
  · obtain rfl : j = l.length := by omega
    rw [List.take_length] at hi hF ⊢
    rw [List.drop_length, List.flatMap_nil, List.append_nil]
    repeat' (first | (refine XO.op rfl ?_; (first | ((first | refine Xo.ng rfl ?_); (first | (refine Xg.ev (EvF.sliceFromL (lo := i) rfl rfl (te rfl) (te rfl) rfl (by omega) (by omega) (by omega)) rfl rfl ?_) | (refine Xg.st0 (StF.clear (q := 0) rfl el24 rfl rfl (by rw [List.length_append, hF, hM]; show 0 + i * 6 + _ ≤ _; omega) honeMt) rfl ?_; rintro _ _ ⟨zs, hzs, rfl⟩; dsimp only [List.set]) | (refine Xg.ev (EvF.move rfl rfl) rfl rfl ?_))))) | (refine XO.done rfl ?_; refine hK _ _ ?_; clear hK K) | refine X.seq rfl ?_ | refine X.region rfl (fun K hK => ?_))
    have e2 : splice ((l.filter (fun e => !p e)).flatMap cMt ++ M) (0 + i * 6) zs = (l.filter (fun e => !p e)).flatMap cMt ++ zs := by
      have := splice_at (xs := (l.filter (fun e => !p e)).flatMap cMt) (ys := M) (zs := []) (vs := zs) (j := 0 + i * 6) (by rw [hF]; omega) (by rw [hzs, hM])
      rwa [List.append_nil, List.append_nil] at this
    rw [e2]
    refine XO.forget (q := 0) rfl ?_
    dsimp only [List.set]
    repeat' (first | (refine XO.op rfl ?_; (first | ((first | refine Xo.ng rfl ?_); (first | (refine Xg.ev (EvF.sliceTo (hh := i) rfl rfl (te rfl) (te rfl) rfl (by omega)) rfl rfl ?_) | (refine Xg.ev (EvF.assign rfl rfl) rfl rfl ?_))))) | (refine XO.done rfl ?_; refine hK _ _ ?_; clear hK K) | refine X.ret rfl ?_)
    refine ret_one (by first | exact .inr rfl | exact .inl rfl) Try.results127 rfl (H' := ⟨b, 0, (l.filter (fun e => !p e)).flatMap cMt, some 114, c * 6⟩ :: H) (List.Sublist.refl _) ⟨?_, rfl⟩
    rw [hi]
end Go.Proofs.Ytblehgpfddmggaa
end
section
set_option linter.unusedVariables false
set_option linter.unusedSimpArgs false
namespace Go.Proofs.Ytblehgpfddmggaa
open Go Go.Fw
set_option maxRecDepth 10000
def wM (R : Rm) (M : List Mt) : Rm := { R with mats := M }
theorem wM_ok {R : Rm} (M : List Mt) (h : okRm R) : okRm (wM R M) := ⟨h.bx, h.ages, h.len, h.m1, h.m12, h.s0, h.s60, h.b4⟩
theorem wM_tru {R : Rm} {M M' : List Mt} {z : Pk → Int} : Tru (wM R M) M' z ↔ Tru R M' z := ⟨fun h => ⟨h.zero, h.age, h.step, h.mat⟩, fun h => ⟨h.zero, h.age, h.step, h.mat⟩⟩
theorem wM_has {R : Rm} {M M' : List Mt} : hasT (wM R M) M' ↔ hasT R M' := ⟨fun ⟨z, h⟩ => ⟨z, wM_tru.1 h⟩, fun ⟨z, h⟩ => ⟨z, wM_tru.2 h⟩⟩
theorem wM_ex {R : Rm} {M M' : List Mt} {a b : Pk} {s : Sp} : ExR (wM R M) M' a b s ↔ ExR R M' a b s :=
  ⟨fun h => ⟨fun z hz => h.all z (wM_tru.2 hz), by obtain ⟨z, h1, h2⟩ := h.lo; exact ⟨z, wM_tru.1 h1, h2⟩, by obtain ⟨z, h1, h2⟩ := h.hi; exact ⟨z, wM_tru.1 h1, h2⟩⟩,
   fun h => ⟨fun z hz => h.all z (wM_tru.1 hz), by obtain ⟨z, h1, h2⟩ := h.lo; exact ⟨z, wM_tru.2 h1, h2⟩, by obtain ⟨z, h1, h2⟩ := h.hi; exact ⟨z, wM_tru.2 h1, h2⟩⟩⟩
theorem wM_rng (R : Rm) (M M' : List Mt) (a b : Pk) : rng (wM R M) M' a b = rng R M' a b := by
  by_cases h : ∃ s, ExR R M' a b s
  · obtain ⟨s, hs⟩ := h
    rw [rng_eq hs, rng_eq (wM_ex.2 hs)]
  · unfold rng
    rw [dif_neg h, dif_neg (fun ⟨s, hs⟩ => h ⟨s, wM_ex.1 hs⟩)]
theorem mats_sub {R : Rm} {M M' : List Mt} (h : matsThere R M) (hs : ∀ x ∈ M', x ∈ M) : matsThere R M' := fun x hx => h x (hs x hx)
theorem cloneNilMt (c : Nat) (H : List Row) : Fc Try.prog 128 [.slice none 0 c] H (fun v H' => v = .slice none 0 0 ∧ H' = H) := by
  refine Fc.mk (callable Try.call128) Try.func128 rfl Try.ntmps128 rfl ?_; dsimp only [fr]
  repeat' (first | (refine XO.op rfl ?_; (first | ((first | refine Xo.ng rfl ?_); (first | (refine Xg.ev (EvF.eqNilT rfl rfl (te rfl)) rfl rfl ?_) | (refine Xg.ev (EvF.move rfl rfl) rfl rfl ?_) | (refine Xg.ev (EvF.assign rfl rfl) rfl rfl ?_))))) | (refine XO.done rfl ?_; refine hK _ _ ?_; clear hK K) | refine X.seq rfl ?_ | refine X.region rfl (fun K hK => ?_) | refine X.ret rfl ?_ | (refine X.ite rfl rfl (fun hc => ?_); (first | (with_reducible refine Xb.t hc ?_)) <;> clear hc))
  all_goals try (exfalso; contradiction)
  exact ret_one (by first | exact .inr rfl | exact .inl rfl) Try.results128 rfl (H' := H) (by (repeat (first | exact List.Sublist.refl _ | apply List.Sublist.cons_cons | apply List.Sublist.cons)); done) ⟨rfl, rfl⟩
theorem deleteNilMt (g : Nat) (cap : List Value) (H : List Row) : Fc Try.prog 127 [.slice none 0 0, .func (.func g) #[] cap.toArray] H (fun v H' => v = .slice none 0 0 ∧ H' = H) := by
  have hi := indexFunc_specMt [] none 0 g (fun _ => false) cap H sleNil (Nat.zero_le _) (fun e he => absurd he List.not_mem_nil)
  have hi' : Fc Try.prog 142 [.slice none 0 0, .func (.func g) #[] cap.toArray] H (fun v H' => v = .int .i64 (-1) ∧ H' = H) := hi.mono fun v H' ⟨⟨z, hv, hz⟩, hH⟩ => ⟨by
    rcases hz with ⟨rfl, _⟩ | ⟨k, e, _, he, _⟩
    · exact hv
    · simp at he, hH⟩
  refine Fc.mk (callable Try.call127) Try.func127 rfl Try.ntmps127 rfl ?_; dsimp only [fr]
  repeat' (first | (refine XO.op rfl ?_; (first | ((first | refine Xo.ng rfl ?_); (first | (refine Xg.ev (EvF.cmp (b := true) rfl rfl rfl (congrArg some (decide_eq_true (by omega)))) rfl rfl ?_) | (refine Xg.call (EnF.st rfl (Args.cons rfl (Args.cons rfl Args.nil))) rfl rfl (hi') ?_; rintro _ H9 ⟨rfl, hH9⟩; subst H9) | (refine Xg.ev (EvF.move rfl rfl) rfl rfl ?_) | (refine Xg.ev (EvF.assign rfl rfl) rfl rfl ?_))))) | (refine XO.done rfl ?_; refine hK _ _ ?_; clear hK K) | refine X.seq rfl ?_ | refine X.region rfl (fun K hK => ?_) | refine X.ret rfl ?_ | (refine X.ite rfl rfl (fun hc => ?_); (first | (with_reducible refine Xb.t hc ?_)) <;> clear hc))
  all_goals try (exfalso; contradiction)
  exact ret_one (by first | exact .inr rfl | exact .inl rfl) Try.results127 rfl (H' := H) (by (repeat (first | exact List.Sublist.refl _ | apply List.Sublist.cons_cons | apply List.Sublist.cons)); done) ⟨rfl, rfl⟩
set_option maxHeartbeats 4000000 in
theorem kwithout_spec (R : Rm) (p : Pl) (a : Option Addr) (c g : Nat) (cap : List Value) (q : Mt → Bool) (H : List Row) (hlm : R.mats.length ≤ 1000) (hC : CtOk H R p a)
    (hf : ∀ x H', (∀ r ∈ H, r ∈ H') → Fc Try.prog g ([.agg (cMt x).toArray] ++ cap) H' (fun v H'' => v = .bool (q x) ∧ H'' = H')) :
    Fc Try.prog 96 [.agg (cCt R p a c).toArray, .func (.func g) #[] cap.toArray] H (fun v H' => ∃ p' Z, v = .agg (cCt (wM R (R.mats.filter (fun x => !q x))) p' a c).toArray ∧ CtOk (Z ++ H) (wM R (R.mats.filter (fun x => !q x))) p' a ∧ H' = Z ++ H) := by
  obtain ⟨a1, c1, a2, c2, a3, c3⟩ := p
  have hfl := List.length_filter_le (fun x => !q x) R.mats
  rcases a3 with _ | ad
  · have h0 : R.mats = [] := by
      cases hq : R.mats with
      | nil => rfl
      | cons x l =>
        obtain ⟨bb, off, _, h, _⟩ := hC.rm.mats.elem (i := 0) (by show 0 < R.mats.length; rw [hq]; simp)
        cases h
    have hR0 : R = wM R [] := by unfold wM; rw [← h0]
    have hrm : RmOk H (wM R []) ⟨a1, c1, a2, c2, none, 0⟩ := ⟨hC.rm.ages, hC.rm.boxes, sleNil, hC.rm.l1, hC.rm.l2, Nat.zero_le _⟩
    have hc0 : cCt R ⟨a1, c1, a2, c2, none, c3⟩ a c = [.int .i64 R.months, .int .i64 R.step, .slice a1 R.ages.length c1, .slice a2 R.boxes.length c2, .slice none 0 c3, .slice a (plcs R).length c] := by
      unfold cCt cRm; rw [h0]; rfl
    rw [hc0]
    refine Fc.mk (callable Try.call96) Try.func96 rfl Try.ntmps96 rfl ?_; dsimp only [fr]
    repeat' (first | (refine XO.op rfl ?_; (first | ((first | refine Xo.ng rfl ?_); (first | (refine Xg.call (EnF.st rfl (Args.cons rfl Args.nil)) rfl rfl (cloneNilMt c3 _) ?_; rintro _ H9 ⟨rfl, hH9⟩; subst H9) | (refine Xg.call (EnF.st rfl (Args.cons rfl (Args.cons rfl Args.nil))) rfl rfl (deleteNilMt g cap _) ?_; rintro _ H9 ⟨rfl, hH9⟩; subst H9) | (refine Xg.ev (EvF.move rfl rfl) rfl rfl ?_) | (refine Xg.ev (EvF.fieldAddr rfl rfl (te rfl) rfl (te rfl) (by decide)) rfl rfl ?_) | (refine Xg.ev (EvF.loadV rfl rfl (LoadV.own (te rfl) rfl (List.Mem.tail _ (List.Mem.head _)) rfl)) rfl rfl ?_) | (refine Xg.ev (EvF.loadV rfl rfl (LoadV.whole (te rfl) rfl (List.Mem.tail _ (List.Mem.head _)) rfl)) rfl rfl ?_) | (refine Xg.st (StF.boxAgg rfl rfl) rfl rfl ?_; rintro _ _ ⟨bx, rfl, rfl⟩) | (refine Xg.st (StF.alloc rfl Try.zeroValue96 rfl) rfl rfl ?_; rintro _ _ ⟨bx, rfl, rfl⟩) | (refine Xg.st0 (StF.storeAll (i := 0) rfl rfl rfl (te rfl) rfl rfl rfl rfl) rfl ?_; rintro _ _ ⟨rfl, rfl⟩; dsimp only [List.set]) | (refine Xg.st0 (StF.storeOne (i := 1) rfl rfl rfl rfl (te rfl) rfl rfl (Nat.le_of_ble_eq_true rfl)) rfl ?_; rintro _ _ ⟨rfl, rfl⟩; dsimp only [List.set]))))) | (refine XO.done rfl ?_; refine hK _ _ ?_; clear hK K) | refine X.seq rfl ?_ | refine X.region rfl (fun K hK => ?_) | refine X.ret rfl ?_)
    rw [h0]
    exact ret_one (v := .agg (cCt (wM R []) ⟨a1, c1, a2, c2, none, 0⟩ a c).toArray) (by first | exact .inr rfl | exact .inl rfl) Try.results96 ⟨_, rfl, LoadV.whole (te rfl) rfl (List.Mem.head _) rfl⟩ (H' := H) (by (repeat (first | exact List.Sublist.refl _ | apply List.Sublist.cons_cons | apply List.Sublist.cons)); done) ⟨⟨a1, c1, a2, c2, none, 0⟩, [], rfl, ⟨hrm, hC.pl⟩, rfl⟩
  · refine Fc.mk (callable Try.call96) Try.func96 rfl Try.ntmps96 rfl ?_; dsimp only [fr]
    repeat' (first | (refine XO.op rfl ?_; (first | ((first | refine Xo.ng rfl ?_); (first | (refine Xg.call (EnF.st rfl (by (repeat (first | exact Args.nil | refine Args.cons rfl ?_)); done)) rfl rfl (clone_specMt R.mats ad c3 _ (hC.rm.mats.sub (fun _ h => by repeat (first | exact h | apply List.Mem.tail))) (by omega)) ?_; rintro _ _ ⟨bc, kc, rfl, rfl⟩) | (refine Xg.call (EnF.st rfl (Args.cons rfl (Args.cons rfl Args.nil))) rfl rfl (deleteFunc_specMt R.mats bc kc g q cap _ (by omega) (fun Z x _ => hf x (Z ++ _) (fun r h => List.mem_append_right _ (by repeat (first | exact h | apply List.Mem.tail))))) ?_; rintro _ _ ⟨rfl, rfl⟩) | (refine Xg.ev (EvF.move rfl rfl) rfl rfl ?_) | (refine Xg.ev (EvF.fieldAddr rfl rfl (te rfl) rfl (te rfl) (by decide)) rfl rfl ?_) | (refine Xg.ev (EvF.loadV rfl rfl (LoadV.own (te rfl) rfl (List.Mem.tail _ (List.Mem.head _)) rfl)) rfl rfl ?_) | (refine Xg.ev (EvF.loadV rfl rfl (LoadV.whole (te rfl) rfl (List.Mem.tail _ (List.Mem.tail _ (List.Mem.head _))) rfl)) rfl rfl ?_) | (refine Xg.st (StF.boxAgg rfl rfl) rfl rfl ?_; rintro _ _ ⟨bx, rfl, rfl⟩) | (refine Xg.st (StF.alloc rfl Try.zeroValue96 rfl) rfl rfl ?_; rintro _ _ ⟨bx, rfl, rfl⟩) | (refine Xg.st0 (StF.storeAll (i := 1) rfl rfl rfl (te rfl) rfl rfl rfl rfl) rfl ?_; rintro _ _ ⟨rfl, rfl⟩; dsimp only [List.set]) | (refine Xg.st0 (StF.storeOne (i := 2) rfl rfl rfl rfl (te rfl) rfl rfl (Nat.le_of_ble_eq_true rfl)) rfl ?_; rintro _ _ ⟨rfl, rfl⟩; dsimp only [List.set]))))) | (refine XO.done rfl ?_; refine hK _ _ ?_; clear hK K) | refine X.seq rfl ?_ | refine X.region rfl (fun K hK => ?_) | refine X.ret rfl ?_)
    exact ret_one (v := .agg (cCt (wM R (R.mats.filter (fun x => !q x))) ⟨a1, c1, a2, c2, some ⟨bc, 0, none⟩, kc⟩ a c).toArray) (by first | exact .inr rfl | exact .inl rfl) Try.results96 ⟨_, rfl, LoadV.whole (te rfl) rfl (List.Mem.tail _ (List.Mem.head _)) rfl⟩ (H' := ⟨bc, 0, (R.mats.filter (fun x => !q x)).flatMap cMt, some 114, kc * 6⟩ :: H) (by (repeat (first | exact List.Sublist.refl _ | apply List.Sublist.cons_cons | apply List.Sublist.cons)); done)
      ⟨⟨a1, c1, a2, c2, some ⟨bc, 0, none⟩, kc⟩, [_], rfl, ⟨⟨hC.rm.ages.sub (fun _ h => by repeat (first | exact h | apply List.Mem.tail)), hC.rm.boxes.sub (fun _ h => by repeat (first | exact h | apply List.Mem.tail)), SlE.ofRow (List.Mem.head _) (fun _ _ => rfl), hC.rm.l1, hC.rm.l2, by show (R.mats.filter (fun x => !q x)).length ≤ _; omega⟩, hC.pl.sub (fun _ h => by repeat (first | exact h | apply List.Mem.tail))⟩, rfl⟩
end Go.Proofs.Ytblehgpfddmggaa
end
section
set_option linter.unusedVariables false
set_option linter.unusedSimpArgs false
namespace Go.Proofs.Ytblehgpfddmggaa
open Go Go.Fw
set_option maxRecDepth 10000
/-- a claim: a chart, a place, a span -/
def cCm (R : Rm) (p : Pl) (a : Option Addr) (c : Nat) (q : Pk) (s : Sp) : List Value := cCt R p a c ++ cPk q ++ cSp s
theorem proves1_spec (x : Mt) (l : List Int) (al : Option Addr) (cl b : Nat) (ow : Option Kd) (cap : Nat) (H : List Row) (hm : ⟨b, 0, [.slice al l.length cl], ow, cap⟩ ∈ H) (hl : SlE H al cI 1 l) (hb : l.length ≤ 1000000) :
    Fc Try.prog 125 ([.agg (cMt x).toArray] ++ [.pointer (some ⟨b, 0, none⟩)]) H (fun v H' => v = .bool (!decide (x.number ∈ l)) ∧ H' = H) := by
  show Fc Try.prog 125 [.agg (cMt x).toArray, .pointer (some ⟨b, 0, none⟩)] H _
  refine Fc.mk (callable Try.call125) Try.func125 rfl Try.ntmps125 rfl ?_; dsimp only [fr]
  repeat' (first | (refine XO.op rfl ?_; (first | ((first | refine Xo.ng rfl ?_); (first | (refine Xg.ev (EvF.loadV rfl rfl (LoadV.own (te rfl) rfl (List.Mem.tail _ hm) rfl)) rfl rfl ?_) | (refine Xg.call (EnF.st rfl (Args.cons rfl (Args.cons rfl Args.nil))) rfl rfl (contains_spec l al cl x.number _ (hl.sub (fun _ h => by repeat (first | exact h | apply List.Mem.tail))) (by omega)) ?_; rintro _ H9 ⟨rfl, hH9⟩; subst H9) | (refine Xg.ev (EvF.assign rfl rfl) rfl rfl ?_) | (refine Xg.ev (EvF.not rfl rfl) rfl rfl ?_) | (refine Xg.ev (EvF.fieldAddr rfl rfl (te rfl) rfl (te rfl) (by decide)) rfl rfl ?_) | (refine Xg.ev (EvF.loadV rfl rfl (LoadV.own (te rfl) rfl (List.Mem.head _) rfl)) rfl rfl ?_) | (refine Xg.st (StF.boxAgg rfl rfl) rfl rfl ?_; rintro _ _ ⟨bx, rfl, rfl⟩))))) | (refine XO.done rfl ?_; refine hK _ _ ?_; clear hK K) | refine X.seq rfl ?_ | refine X.region rfl (fun K hK => ?_) | refine X.ret rfl ?_)
  exact ret_one (by first | exact .inr rfl | exact .inl rfl) Try.results125 rfl (H' := H) (by (repeat (first | exact List.Sublist.refl _ | apply List.Sublist.cons_cons | apply List.Sublist.cons)); done) ⟨rfl, rfl⟩
def tsPv : List TOp := [⟨some 10, [], [], []⟩, ⟨some 11, [], [], []⟩, ⟨some 12, [1], [1], []⟩, ⟨some 13, [0, 1, 2], [0, 2], []⟩, ⟨some 14, [], [], []⟩, ⟨some 15, [4], [4], []⟩, ⟨some 16, [0, 1, 2, 3, 4, 5], [3, 5], []⟩, ⟨some 4, [0, 1, 2, 3, 4, 5, 6], [6], []⟩]
def valPv (b2 b5 : Nat) (R : Rm) (p : Pl) (a : Option Addr) (c : Nat) (q : Pk) (s t : Sp) (w : Bool) (k : Nat) (env : Env) : Value :=
  match k with
  | 0 => .agg (cCt R p a c).toArray
  | 1 => .pointer (some ⟨b2, 6, none⟩)
  | 2 => .agg (cPk q).toArray
  | 3 => .agg (cSp t).toArray
  | 4 => .pointer (some ⟨b2, 8, none⟩)
  | 5 => .agg (cSp s).toArray
  | 6 => .bool w
  | 7 => .bool w
  | _ => undef
def rowsPv (b2 b5 : Nat) (R : Rm) (p : Pl) (a : Option Addr) (c : Nat) (q : Pk) (s t : Sp) (w : Bool) (k : Nat) (env : Env) : List Row :=
  match k with
  | _ => []
theorem locPv (b2 b5 : Nat) (R : Rm) (p : Pl) (a : Option Addr) (c : Nat) (q : Pk) (s t : Sp) (w : Bool) : ∀ k env i q9, i ≠ k → (tAt tsPv k).sup.contains i = false → valPv b2 b5 R p a c q s t w k (upd env i q9) = valPv b2 b5 R p a c q s t w k env ∧ rowsPv b2 b5 R p a c q s t w k (upd env i q9) = rowsPv b2 b5 R p a c q s t w k env := by
  intro k env i q hk hs
  have hu : ∀ j, j ≠ i → upd env i q j = env j := fun j hj => by unfold upd; rw [if_neg hj]
  match k, hk, hs with
  | 0, _, _ => exact ⟨rfl, rfl⟩
  | 1, _, _ => exact ⟨rfl, rfl⟩
  | 2, _, _ => exact ⟨rfl, rfl⟩
  | 3, _, _ => exact ⟨rfl, rfl⟩
  | 4, _, _ => exact ⟨rfl, rfl⟩
  | 5, _, _ => exact ⟨rfl, rfl⟩
  | 6, _, _ => exact ⟨rfl, rfl⟩
  | 7, _, _ => exact ⟨rfl, rfl⟩
  | _ + 8, _, _ => exact ⟨rfl, rfl⟩
set_option maxHeartbeats 4000000 in
theorem kproves_spec (R : Rm) (p : Pl) (a : Option Addr) (c : Nat) (q : Pk) (s : Sp) (l : List Int) (al : Option Addr) (cl : Nat) (H : List Row) (hr : okRm R) (hm : matsThere R R.mats) (hC : CtOk H R p a) (hla : R.ages.length ≤ 1000) (hlm : R.mats.length ≤ 1000) (hpc : (plcs R).length ≤ c) (hT : hasT R R.mats) (hq : q ∈ plcs R) (hl : SlE H al cI 1 l) (hb : l.length ≤ 1000000) :
    Fc Try.prog 89 ([.agg (cCm R p a c q s).toArray] ++ [.slice al l.length cl] ++ []) H (fun v H' => v = .bool (prvN R q s l) ∧ H' = H) := by
  show Fc Try.prog 89 [.agg (cCm R p a c q s).toArray, .slice al l.length cl] H _
  obtain ⟨M, hM⟩ : ∃ M, M = R.mats.filter (fun x => !(!decide (x.number ∈ l))) := ⟨_, rfl⟩
  have hM2 : M = inM R.mats l := by rw [hM]; unfold inM; refine List.filter_congr fun x _ => by rw [Bool.not_not]
  have hMs : ∀ x ∈ M, x ∈ R.mats := fun x hx => by rw [hM] at hx; exact (List.mem_filter.1 hx).1
  have hMl : M.length ≤ 1000 := by rw [hM]; exact Nat.le_trans (List.length_filter_le _ _) hlm
  have hres : prvN R q s l = decide (rng R M q zp = s) := by
    unfold prvN prvM
    rw [hM2]
    try exact decide_eq_decide.2 Iff.rfl
  rw [hres]
  have hwo := fun b3 S hC (hl' : SlE S al cI 1 l) (m3 : (⟨b3, 0, [.slice al l.length cl], some 55, 1⟩ : Row) ∈ S) => kwithout_spec R p a c 125 [.pointer (some ⟨b3, 0, none⟩)] (fun x => !decide (x.number ∈ l)) S hlm hC (fun x H' hs => proves1_spec x l al cl b3 (some 55) 1 H' (hs _ m3) (hl'.sub hs) hb)
  rw [← hM] at hwo
  clear hres hM
  have hye := fun p' S hC' => yellow_spec (wM R M) p' a c q S (wM_ok M hr) (mats_sub hm hMs) hC' hla hMl hpc hq (wM_has.2 (hT.mono hMs))
  rw [show rng (wM R M) (wM R M).mats q zp = rng R M q zp from wM_rng R M M q zp] at hye
  obtain ⟨u9, ht⟩ : ∃ u9, u9 = rng R M q zp := ⟨_, rfl⟩
  rw [← ht] at hye ⊢
  refine Fc.mk (callable Try.call89) Try.func89 rfl Try.ntmps89 rfl ?_; dsimp only [fr]
  repeat' (first | (refine XO.op rfl ?_; (first | ((first | refine Xo.ng rfl ?_); (first | (refine Xg.ev (EvF.loadV rfl rfl (LoadV.ownAgg (vs := cCt R p a c) (te rfl) rfl (List.Mem.tail _ (List.Mem.head _)) rfl rfl)) rfl rfl ?_) | (refine Xg.ev (EvF.makeFunc (fl := []) rfl Args.nil (Args.cons rfl Args.nil)) rfl rfl ?_) | (refine Xg.call (EnF.st rfl (by (repeat (first | exact Args.nil | refine Args.cons rfl ?_)); done)) rfl rfl (hwo _ _ (hC.sub (fun _ h => by repeat (first | exact h | apply List.Mem.tail))) (hl.sub (fun _ h => by repeat (first | exact h | apply List.Mem.tail))) (List.Mem.head _)) ?_; rintro _ _ ⟨p', Z, rfl, hC', rfl⟩) | (refine Xg.st (StF.alloc rfl Try.zeroValue96 rfl) rfl rfl ?_; rintro _ _ ⟨b5, rfl, rfl⟩) | (refine Xg.st0 (StF.storeAll (i := 0) (vs := cCt (wM R M) p' a c) rfl rfl rfl (te rfl) rfl rfl rfl rfl) rfl ?_; rintro _ _ ⟨rfl, rfl⟩; dsimp only [List.set]) | (refine Xg.ev (EvF.assign rfl rfl) rfl rfl ?_) | (refine Xg.ev (EvF.fieldAddr rfl rfl (te rfl) rfl (te rfl) (by decide)) rfl rfl ?_) | (refine Xg.st (StF.boxAgg rfl rfl) rfl rfl ?_; rintro _ _ ⟨bx, rfl, rfl⟩) | (refine Xg.st (StF.boxOne rfl rfl rfl) rfl rfl ?_; rintro _ _ ⟨bx, rfl, rfl⟩))))) | (refine XO.done rfl ?_; refine hK _ _ ?_; clear hK K) | refine X.seq rfl ?_ | refine X.region rfl (fun K hK => ?_))
  rename_i b2
  generalize bx = b3 at hC' ⊢
  obtain ⟨G, hG⟩ : ∃ G : List Row, G = Z ++ ⟨b3, 0, [.slice al l.length cl], some 55, 1⟩ :: ⟨b2, 0, cCm R p a c q s, some 132, 10⟩ :: H := ⟨_, rfl⟩
  have hg2 : (⟨b2, 0, cCm R p a c q s, some 132, 10⟩ : Row) ∈ G := by rw [hG]; exact List.mem_append_right _ (List.Mem.tail _ (List.Mem.head _))
  have hCG : CtOk G (wM R M) p' a := by rw [hG]; exact hC'
  have hHG : H.Sublist G := by rw [hG]; exact (List.Sublist.cons _ (List.Sublist.cons _ (List.Sublist.refl _))).trans (List.sublist_append_right _ _)
  refine X.weak (F' := [(2, .pointer (some ⟨b2, 0, none⟩)), (5, .pointer (some ⟨b5, 0, none⟩))]) (H' := ⟨b5, 0, cCt (wM R M) p' a c, some 96, 6⟩ :: G) (by (repeat (first | exact Sub.nil _ | refine Sub.cons rfl ?_)); done) (by rw [hG]; exact (by (repeat (first | exact List.Sublist.refl _ | apply List.Sublist.cons_cons | apply List.Sublist.cons)); done)) ?_
  clear hG hC' hwo
  refine X.regionOb tsPv [2, 5] [(2, .pointer (some ⟨b2, 0, none⟩)), (5, .pointer (some ⟨b5, 0, none⟩))] (valPv b2 b5 (wM R M) p' a c q s u9 (decide (u9 = s))) (rowsPv b2 b5 (wM R M) p' a c q s u9 (decide (u9 = s))) (fun _ => (0, 0)) (⟨b5, 0, cCt (wM R M) p' a c, some 96, 6⟩ :: G) rfl mixed (by (repeat (first | exact Sub.nil _ | refine Sub.cons rfl ?_)); done) rfl (by kernel_rfl) (locPv b2 b5 (wM R M) p' a c q s u9 (decide (u9 = s))) (List.Sublist.refl _) ?_ ?_
  · repeat' (first | exact AllF.done rfl | (refine AllF.step rfl ?_ ?_; · (first | fail | ((first | refine Ob.ng rfl ?_); (first | exact ObK.pure (fun env R hR => by exact ⟨_, EvF.assign rfl rfl, rfl⟩) rfl (fun _ => rfl) | exact ObK.pure (fun env R hR => by exact ⟨_, EvF.fieldAddr rfl rfl (te rfl) rfl (te rfl) (by decide), rfl⟩) rfl (fun _ => rfl) | exact ObK.pure (fun env R hR => by exact ⟨_, EvF.loadV rfl rfl (LoadV.whole (te rfl) rfl (hR _ (List.Mem.head _)) rfl), rfl⟩) rfl (fun _ => rfl) | (exact ObK.pure (fun env S hS => ⟨.agg (cPk q).toArray, EvF.loadV rfl rfl (LoadV.ownAgg (cs := cCm R p a c q s) (vs := cPk q) (te rfl) rfl (hS _ (List.Mem.tail _ hg2)) rfl rfl), rfl⟩) rfl (fun _ => rfl)) | (exact ObK.pure (fun env S hS => ⟨.agg (cSp s).toArray, EvF.loadV rfl rfl (LoadV.ownAgg (cs := cCm R p a c q s) (vs := cSp s) (te rfl) rfl (hS _ (List.Mem.tail _ hg2)) rfl rfl), rfl⟩) rfl (fun _ => rfl)) | (exact fun env S hS => OpF.callV (Z := []) (EnF.st rfl (Args.cons rfl (Args.cons rfl Args.nil))) (hye p' S (hCG.sub (fun r h => hS r (List.Mem.tail _ h)))) rfl rfl) | (exact ObK.pure (fun env S hS => ⟨.bool (decide (u9 = s)), EvF.eqSt rfl rfl rfl (by kernel_rfl) (fun w => eqSp 9998 u9 s w) rfl, rfl⟩) rfl (fun _ => rfl)))))))
  intro env t ha2 hv; refine ⟨_, ha2.cons (hv 7 4 (Nat.le_of_ble_eq_true rfl) rfl), ?_⟩; clear hv ha2
  repeat' (first | refine X.ret rfl ?_)
  exact ret_one (v := .bool (decide (u9 = s))) (by first | exact .inr rfl | exact .inl rfl) Try.results89 rfl (H' := H) (List.Sublist.cons _ hHG) ⟨rfl, rfl⟩
end Go.Proofs.Ytblehgpfddmggaa
end
