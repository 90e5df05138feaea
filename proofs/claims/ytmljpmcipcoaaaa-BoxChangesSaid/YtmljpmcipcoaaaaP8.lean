/- The program: Check tells the same rooms as the reference. -/
import Derived.Test.YtmljpmcipcoaaaaP7
set_option linter.unusedSimpArgs false
namespace Go.Proofs.Ytmljpmcipcoaaaa
open Go Go.Fw
set_option maxRecDepth 10000
theorem rises_le : ∀ (l : List Int) (p : Int), rises p l → p ≤ lastOf p l
  | [], p, _ => by simp [lastOf]
  | n :: t, p, h => by
    have := rises_le t n h.2
    have h1 := h.1
    simp only [lastOf]
    omega
theorem rises_mem : ∀ (l : List Int) (p n : Int), rises p l → n ∈ l → p < n
  | [], _, _, _, h => absurd h List.not_mem_nil
  | m :: t, p, n, h, hm => by
    rcases List.mem_cons.1 hm with rfl | hm
    · exact h.1
    · have := rises_mem t m n h.2 hm
      have := h.1
      omega
theorem okBoxes_iff (m : Int) : ∀ (l : List Bx) (last : Int), last ≤ 9999 → (okBoxes m last l ↔ rises last (l.map (·.id)) ∧ lastOf last (l.map (·.id)) ≤ 9999 ∧ ∀ b ∈ l, 0 ≤ b.made ∧ b.made ≤ m - 1)
  | [], last, h => by simp [okBoxes, rises, lastOf, h]
  | b :: l, last, h => by
    have hl := rises_le (l.map (·.id)) b.id
    constructor
    · rintro ⟨h1, h2, h3, h4, h5⟩
      obtain ⟨q1, q2, q3⟩ := (okBoxes_iff m l b.id h2).1 h5
      refine ⟨⟨(show last < b.id by omega), q1⟩, q2, fun e he => ?_⟩
      rcases List.mem_cons.1 he with rfl | he
      · exact ⟨h3, h4⟩
      · exact q3 e he
    · rintro ⟨⟨h1, h2⟩, h3, h4⟩
      have h2' : rises b.id (l.map (·.id)) := h2
      have h3' : lastOf b.id (l.map (·.id)) ≤ 9999 := h3
      have h1' : last < b.id := h1
      have h5 := hl h2'
      have hb := h4 b List.mem_cons_self
      exact ⟨by omega, by omega, hb.1, hb.2, (okBoxes_iff m l b.id (by omega)).2 ⟨h2', h3', fun e he => h4 e (List.mem_cons_of_mem _ he)⟩⟩
theorem okMats_iff (R : Rm) : ∀ (l : List Mt) (last : Int), last ≤ 9999 → (okMats R last l ↔ rises last (l.map (·.number)) ∧ lastOf last (l.map (·.number)) ≤ 9999 ∧ ∀ b ∈ l, matchOk R b)
  | [], last, h => by simp [okMats, rises, lastOf, h]
  | b :: l, last, h => by
    have hl := rises_le (l.map (·.number)) b.number
    constructor
    · rintro ⟨h1, h2, h3, h5⟩
      obtain ⟨q1, q2, q3⟩ := (okMats_iff R l b.number h2).1 h5
      refine ⟨⟨(show last < b.number by omega), q1⟩, q2, fun e he => ?_⟩
      rcases List.mem_cons.1 he with rfl | he
      · exact h3
      · exact q3 e he
    · rintro ⟨⟨h1, h2⟩, h3, h4⟩
      have h2' : rises b.number (l.map (·.number)) := h2
      have h3' : lastOf b.number (l.map (·.number)) ≤ 9999 := h3
      have h1' : last < b.number := h1
      have h5 := hl h2'
      exact ⟨by omega, by omega, h4 b List.mem_cons_self, (okMats_iff R l b.number (by omega)).2 ⟨h2', h3', fun e he => h4 e (List.mem_cons_of_mem _ he)⟩⟩
theorem index_ge : ∀ (l : List Bx) (id : Int), 0 ≤ index l id ↔ ∃ b ∈ l, b.id = id
  | [], id => by simp [index]
  | b :: l, id => by
    have h := index_ge l id
    simp only [index, List.mem_cons, exists_eq_or_imp]
    by_cases hb : b.id = id
    · simp [hb]
    · simp only [hb, if_false, false_or]
      rw [← h]
      split <;> omega
theorem index_id : ∀ (l : List Bx) (id : Int) (e : Bx), 0 ≤ index l id → l[(index l id).toNat]? = some e → e.id = id
  | [], id, e, h, _ => by simp [index] at h
  | b :: l, id, e, h, he => by
    by_cases hb : b.id = id
    · simp [index, hb] at he
      rw [← he]; exact hb
    · simp only [index, hb, if_false] at h he
      by_cases h0 : index l id < 0
      · rw [if_pos h0] at h; omega
      · rw [if_neg h0] at h he
        have : (index l id + 1).toNat = (index l id).toNat + 1 := by omega
        rw [this, List.getElem?_cons_succ] at he
        exact index_id l id e (by omega) he
theorem rises_inj : ∀ (l : List Bx) (p : Int), rises p (l.map (·.id)) → ∀ x ∈ l, ∀ y ∈ l, x.id = y.id → x = y
  | [], _, _, _, h, _, _, _ => absurd h List.not_mem_nil
  | b :: l, p, h, x, hx, y, hy, e => by
    have hm : ∀ z ∈ l, b.id < z.id := fun z hz => rises_mem _ _ _ h.2 (List.mem_map.2 ⟨z, hz, rfl⟩)
    rcases List.mem_cons.1 hx with hx1 | hx1
    · rcases List.mem_cons.1 hy with hy1 | hy1
      · rw [hx1, hy1]
      · have := hm y hy1; rw [hx1] at e; omega
    · rcases List.mem_cons.1 hy with hy1 | hy1
      · have := hm x hx1; rw [hy1] at e; omega
      · exact rises_inj l b.id h.2 x hx1 y hy1 e
theorem match_iff (R : Rm) (hr : rises 0 (R.boxes.map (·.id))) (e : Mt) : matchOk R e ↔ matOk1 R e := by
  have key : ∀ i : Int, 0 ≤ index R.boxes i → bxAt R.boxes i ∈ R.boxes ∧ (bxAt R.boxes i).id = i := fun i hi =>
    ⟨List.mem_of_getElem? (index_get hi), index_id _ _ _ hi (index_get hi)⟩
  have uniq : ∀ i : Int, 0 ≤ index R.boxes i → ∀ b ∈ R.boxes, b.id = i → b = bxAt R.boxes i := fun i hi b hb hbi =>
    rises_inj _ _ hr b hb _ (key i hi).1 (by rw [hbi, (key i hi).2])
  unfold matchOk matOk1 allThere inTime
  constructor
  · rintro ⟨ha, hb, hne, h0, h1, hma, hmb, h2, h3, h4⟩
    refine ⟨fun q => hne (by rw [q]), h3, ?_, ?_, ?_⟩
    · intro n hn
      simp only [List.mem_cons, List.not_mem_nil, or_false] at hn
      rcases hn with rfl | rfl <;> (constructor <;> dsimp only <;> omega)
    · intro i hi
      simp only [List.mem_cons, List.not_mem_nil, or_false] at hi
      rcases hi with rfl | rfl
      · exact ⟨_, (key _ ha).1, (key _ ha).2⟩
      · exact ⟨_, (key _ hb).1, (key _ hb).2⟩
    · intro m hm
      simp only [List.mem_cons, List.not_mem_nil, or_false] at hm
      subst hm
      refine ⟨⟨h0, h1⟩, ?_⟩
      rintro ⟨b, hb1, hb2, hb3⟩
      simp only [List.mem_cons, List.not_mem_nil, or_false] at hb3
      rcases hb3 with h | h
      · rw [uniq _ ha b hb1 h] at hb2; omega
      · rw [uniq _ hb b hb1 h] at hb2; omega
  · rintro ⟨hne, h3, hs, ht, hi⟩
    have ha := (index_ge R.boxes e.a).2 (ht e.a (by simp))
    have hb := (index_ge R.boxes e.b).2 (ht e.b (by simp))
    have hlo := hs e.lo (by simp)
    have hhi := hs e.hi (by simp)
    obtain ⟨hmo, hno⟩ := hi e.month (by simp)
    dsimp only at hlo hhi
    refine ⟨ha, hb, fun q => hne ?_, hmo.1, hmo.2, ?_, ?_, by omega, h3, by omega⟩
    · have h1 := (key _ ha).2
      have h2 := (key _ hb).2
      unfold bxAt at h1 h2
      rw [q] at h1
      rw [← h1, h2]
    · refine Int.not_lt.1 (fun q => hno ⟨_, (key _ ha).1, q, ?_⟩)
      rw [(key _ ha).2]; simp
    · refine Int.not_lt.1 (fun q => hno ⟨_, (key _ hb).1, q, ?_⟩)
      rw [(key _ hb).2]; simp
theorem room_iff (R : Rm) : (agesOk R ∧ boxesOk R ∧ matsOk R) ↔ roomOk R := by
  unfold agesOk boxesOk matsOk roomOk okHead risesOk
  rw [okBoxes_iff _ _ _ (by omega), okMats_iff _ _ _ (by omega)]
  constructor
  · rintro ⟨⟨h1, h2, h3, h4⟩, ⟨h5, ⟨h6, h6'⟩, h7⟩, h8, ⟨h9, h9'⟩, h10⟩
    exact ⟨⟨h1.1, h1.2, h2.1, h2.2, h3, h5, h8⟩, h4, ⟨h6, h6', h7⟩, h9, h9', fun b hb => (match_iff R h6 b).2 (h10 b hb)⟩
  · rintro ⟨⟨h1, h1', h2, h2', h3, h5, h8⟩, h4, ⟨h6, h6', h7⟩, h9, h9', h10⟩
    exact ⟨⟨⟨h1, h1'⟩, ⟨h2, h2'⟩, h3, h4⟩, ⟨h5, ⟨h6, h6'⟩, h7⟩, h8, ⟨h9, h9'⟩, fun b hb => (match_iff R h6 b).1 (h10 b hb)⟩
theorem agesOk.m {R : Rm} (h : agesOk R) : 1 ≤ R.months ∧ R.months ≤ 12 := h.1
theorem check_spec (R : Rm) (p : Pl) (H : List Row) (hR : RmOk H R p) : Fc Try.prog 19 [.agg (cRm R p).toArray] H (fun v H' => ((roomOk R ∧ v = .int .i64 0) ∨ (¬ roomOk R ∧ v = .int .i64 10)) ∧ H' = H) := by
  have hR1 : ∀ r, RmOk (r :: H) R p := fun r => hR.sub (fun _ h => List.mem_cons_of_mem _ h)
  refine Fc.mk (callable Try.call19) Try.func19 rfl Try.ntmps19 rfl ?_; dsimp only [fr]
  repeat' (first | (refine XO.op rfl ?_; (first | ((first | refine Xo.ng rfl ?_ | (refine Xo.g rfl rfl ?_; with_reducible refine Xw.ff ?_)); (first | (refine Xg.call (EnF.st rfl (by (repeat (first | exact Args.nil | refine Args.cons rfl ?_)); done)) rfl rfl (hasAges_spec R _ _ (hR1 _)) ?_; rintro _ H9 ⟨rfl, hH9⟩; subst H9) | (refine Xg.call (EnF.st rfl (by (repeat (first | exact Args.nil | refine Args.cons rfl ?_)); done)) rfl rfl (hasValidBoxes_spec R _ _ (hR1 _) (agesOk.m (by assumption))) ?_; rintro _ H9 ⟨rfl, hH9⟩; subst H9) | (refine Xg.call (EnF.st rfl (by (repeat (first | exact Args.nil | refine Args.cons rfl ?_)); done)) rfl rfl (hasValidMatches_spec R _ _ (hR1 _) (agesOk.m (by assumption))) ?_; rintro _ H9 ⟨rfl, hH9⟩; subst H9) | (refine Xg.ev (EvF.move rfl rfl) rfl rfl ?_) | (refine Xg.ev (EvF.assign rfl rfl) rfl rfl ?_) | (refine Xg.ev (EvF.pickT rfl rfl rfl) rfl rfl ?_) | (refine Xg.ev (EvF.pickF rfl rfl rfl) rfl rfl ?_) | (refine Xg.ev (EvF.not rfl rfl) rfl rfl ?_) | (refine Xg.ev (EvF.loadV rfl rfl (LoadV.whole (te rfl) rfl (List.Mem.head _) rfl)) rfl rfl ?_) | (refine Xg.st (StF.boxAgg rfl rfl) rfl rfl ?_; rintro _ _ ⟨bx, rfl, rfl⟩))) | (refine Xo.g rfl rfl ?_; (first | (with_reducible refine Xw.tf rfl rfl ?_) | (with_reducible refine Xw.caseN (fun h => ?_) (fun h => ?_) <;> simp only [h, decide_true, decide_false, Bool.not_true, Bool.not_false, and_self, and_true, true_and, and_false, false_and]))))) | (refine XO.done rfl ?_; refine hK _ _ ?_; clear hK K) | refine X.seq rfl ?_ | refine X.region rfl (fun K hK => ?_) | refine X.skip rfl ?_ | refine X.ret rfl ?_ | (refine X.ite rfl rfl (fun hc => ?_); (first | (with_reducible refine Xb.t hc ?_) | (with_reducible refine Xb.caseN hc (fun h => ?_) (fun h => ?_))) <;> clear hc))
  · refine ret_one (by first | exact .inr rfl | exact .inl rfl) Try.results19 rfl (H' := H) (by (repeat (first | exact List.Sublist.refl _ | apply List.Sublist.cons)); done) ⟨.inr ⟨fun q => h ((room_iff R).2 q).2.2, rfl⟩, rfl⟩
  · refine ret_one (by first | exact .inr rfl | exact .inl rfl) Try.results19 rfl (H' := H) (by (repeat (first | exact List.Sublist.refl _ | apply List.Sublist.cons)); done) ⟨.inl ⟨(room_iff R).1 ⟨by assumption, by assumption, by assumption⟩, rfl⟩, rfl⟩
  · refine ret_one (by first | exact .inr rfl | exact .inl rfl) Try.results19 rfl (H' := H) (by (repeat (first | exact List.Sublist.refl _ | apply List.Sublist.cons)); done) ⟨.inr ⟨fun q => h ((room_iff R).2 q).2.1, rfl⟩, rfl⟩
  · refine ret_one (by first | exact .inr rfl | exact .inl rfl) Try.results19 rfl (H' := H) (by (repeat (first | exact List.Sublist.refl _ | apply List.Sublist.cons)); done) ⟨.inr ⟨fun q => h ((room_iff R).2 q).1, rfl⟩, rfl⟩
end Go.Proofs.Ytmljpmcipcoaaaa
