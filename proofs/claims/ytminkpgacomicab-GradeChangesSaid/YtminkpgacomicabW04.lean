/- Own work: The program: Add and Strike.; contracts of functions, from rows of what is known of the memory; contracts of functions, from rows of what is known of the memory; contracts of functions, from rows of what is known of the memory; contracts of functions, from rows of what is known of the memory; contracts of functions, from rows of what is known of the memory; contracts of functions, from rows of what is known of the memory; contracts of functions, from rows of what is known of the memory; contracts of functions, from rows of what is known of the memory; contracts of functions, from rows of what is known of the memory; contracts of functions, from rows of what is known of the memory; contracts of functions, from rows of what is known of the memory; contracts of functions, from rows of what is -/
import Derived.Test.YtminkpgacomicabW03
section
set_option linter.unusedVariables false
set_option linter.unusedSimpArgs false
namespace Go.Proofs.Ytminkpgacomicab
open Go Go.Fw
set_option maxRecDepth 10000
set_option maxHeartbeats 4000000 in
theorem strB_spec (R : Rm) (l : List Int) (al : Option Addr) (cl : Nat) (d1 : Addr) (c1 : Nat) (d2 : Addr) (c2 : Nat) (d3 : Addr) (c3 : Nat) (H : List Row) (hR : RmOk H R ⟨some d1, c1, some d2, c2, some d3, c3⟩) (h1 : R.ages.length ≤ 1000000) (h2 : R.boxes.length ≤ 1000000) (h3 : R.mats.length ≤ 1000000) (hl : SlE H al cI 1 l) (hb : l.length ≤ 1000000) :
    Fc Try.prog 28 [.agg (cRm R ⟨some d1, c1, some d2, c2, some d3, c3⟩).toArray, .slice al l.length cl] H (ProgR (strF R l) H) := by
  have hR2 : ∀ r1 r2, RmOk (r1 :: r2 :: H) R ⟨some d1, c1, some d2, c2, some d3, c3⟩ := fun r1 r2 => hR.sub (fun _ h => List.Mem.tail _ (List.Mem.tail _ h))
  have hR3 : ∀ r1 r2 r3, RmOk (r1 :: r2 :: r3 :: H) R ⟨some d1, c1, some d2, c2, some d3, c3⟩ := fun r1 r2 r3 => hR.sub (fun _ h => List.Mem.tail _ (List.Mem.tail _ (List.Mem.tail _ h)))
  have hl2 : ∀ r1 r2, SlE (r1 :: r2 :: H) al cI 1 l := fun r1 r2 => hl.sub (fun _ h => List.Mem.tail _ (List.Mem.tail _ h))
  refine Fc.mk (callable Try.call28) Try.func28 rfl Try.ntmps28 rfl ?_; dsimp only [fr]
  repeat' (first | (refine XO.op rfl ?_; (first | ((first | refine Xo.ng rfl ?_); (first | (refine Xg.ev (EvF.build (cs := zR) rfl ArgsP.nil (te rfl) (Places.cons (te rfl) (Places.cons (te rfl) (Places.cons (te rfl) (Places.cons (te rfl) (Places.cons (te rfl) Places.nil))))) Try.zeroValue26 rfl) rfl rfl ?_) | (refine Xg.call (EnF.st rfl (by (repeat (first | exact Args.nil | refine Args.cons rfl ?_)); done)) rfl rfl (check_spec R _ _ (hR2 _ _)) ?_; rintro _ H9 ⟨⟨hr, rfl⟩ | ⟨hr, rfl⟩, hH9⟩ <;> subst H9) | (refine Xg.call (EnF.st rfl (by (repeat (first | exact Args.nil | refine Args.cons rfl ?_)); done)) rfl rfl (strikeL_spec R.mats d3 c3 l al cl _ (hR2 _ _).mats h3 (hl2 _ _) hb) ?_; rintro _ H9 (⟨hs, rfl, hH9⟩ | ⟨hs, bc, kc, rfl, hH9⟩) <;> subst H9) | (refine Xg.call (EnF.st rfl (by (repeat (first | exact Args.nil | refine Args.cons rfl ?_)); done)) rfl rfl (copied_spec R d1 c1 d2 c2 d3 c3 _ (hR3 _ _ _) h1 h2 h3) ?_; rintro _ _ ⟨t1, k1, t2, k2, t3, k3, rfl, rfl⟩) | (refine Xg.ev (EvF.move rfl rfl) rfl rfl ?_) | (refine Xg.ev (EvF.assign rfl rfl) rfl rfl ?_) | (refine Xg.ev (EvF.cmp rfl rfl rfl rfl) rfl rfl ?_) | (refine Xg.ev (EvF.not rfl rfl) rfl rfl ?_) | (refine Xg.ev (EvF.fieldAddr rfl rfl (te rfl) rfl (te rfl) (by decide)) rfl rfl ?_) | (refine Xg.ev (EvF.loadV rfl rfl (LoadV.own (te rfl) rfl (List.Mem.tail _ (List.Mem.head _)) rfl)) rfl rfl ?_) | (refine Xg.ev (EvF.loadV rfl rfl (LoadV.whole (te rfl) rfl (List.Mem.head _) rfl)) rfl rfl ?_) | (refine Xg.ev (EvF.loadV rfl rfl (LoadV.whole (te rfl) rfl (List.Mem.tail _ (List.Mem.head _)) rfl)) rfl rfl ?_) | (refine Xg.ev (EvF.loadV rfl rfl (LoadV.whole (te rfl) rfl (List.Mem.tail _ (List.Mem.tail _ (List.Mem.head _))) rfl)) rfl rfl ?_) | (refine Xg.ev (EvF.extract rfl rfl rfl) rfl rfl ?_) | (refine Xg.st (StF.boxAgg rfl rfl) rfl rfl ?_; rintro _ _ ⟨bx, rfl, rfl⟩) | (refine Xg.st (StF.alloc rfl Try.zeroValue26 rfl) rfl rfl ?_; rintro _ _ ⟨bx, rfl, rfl⟩) | (refine Xg.st0 (StF.storeOne (i := 0) rfl rfl rfl rfl (te rfl) rfl rfl (Nat.le_of_ble_eq_true rfl)) rfl ?_; rintro _ _ ⟨rfl, rfl⟩; dsimp only [List.set]) | (refine Xg.st0 (StF.storeAll (i := 0) rfl rfl rfl (te rfl) rfl rfl rfl rfl) rfl ?_; rintro _ _ ⟨rfl, rfl⟩; dsimp only [List.set]) | (refine Xg.st0 (StF.storeAll (i := 1) rfl rfl rfl (te rfl) rfl rfl rfl rfl) rfl ?_; rintro _ _ ⟨rfl, rfl⟩; dsimp only [List.set]) | (refine Xg.st0 (StF.storeAll (i := 5) rfl rfl rfl (te rfl) rfl rfl rfl rfl) rfl ?_; rintro _ _ ⟨rfl, rfl⟩; dsimp only [List.set]))))) | (refine XO.done rfl ?_; refine hK _ _ ?_; clear hK K) | refine X.seq rfl ?_ | refine X.region rfl (fun K hK => ?_) | refine X.skip rfl ?_ | refine X.ret rfl ?_ | (refine X.ite rfl rfl (fun hc => ?_); (first | (with_reducible refine Xb.caseN hc (fun h => ?_) (fun h => ?_)) | (with_reducible refine Xb.caseB hc (fun h => ?_) (fun h => ?_))) <;> clear hc))
  any_goals (exfalso; first | omega | (cases h; done))
  · refine ret_two (by first | exact .inr rfl | exact .inl rfl) Try.results28 ⟨_, rfl, LoadV.whole (te rfl) rfl (List.Mem.head _) rfl⟩ rfl (H' := H) (by (repeat (first | exact List.Sublist.refl _ | apply List.Sublist.cons)); done) ?_
    have e : strF R l = (Rz, 12) := by unfold strF; rw [if_pos hr, if_neg hs]
    unfold ProgR; rw [e]
    exact ⟨pz, [], rfl, rfl, .inl ⟨rfl, rfl, rfl⟩⟩
  · refine ret_two (by first | exact .inr rfl | exact .inl rfl) Try.results28 ⟨_, rfl, LoadV.whole (te rfl) rfl (List.Mem.tail _ (List.Mem.tail _ (List.Mem.tail _ (List.Mem.tail _ (List.Mem.tail _ (List.Mem.head _)))))) rfl⟩ rfl (H' := [rAges R t1 k1, rBoxes R t2 k2, rMats (strRm R l) bc kc] ++ H) (by (repeat (first | exact List.Sublist.refl _ | apply List.Sublist.cons_cons | apply List.Sublist.cons)); done) ?_
    have e : strF R l = (strRm R l, 0) := by unfold strF; rw [if_pos hr, if_pos hs]
    unfold ProgR; rw [e]
    exact ⟨_, _, rfl, rfl, .inr ⟨t1, k1, t2, k2, bc, kc, rfl, List.Perm.refl _⟩⟩
  · refine ret_two (by first | exact .inr rfl | exact .inl rfl) Try.results28 ⟨_, rfl, LoadV.whole (te rfl) rfl (List.Mem.head _) rfl⟩ rfl (H' := H) (by (repeat (first | exact List.Sublist.refl _ | apply List.Sublist.cons)); done) ?_
    have e : strF R l = (Rz, 10) := by unfold strF; rw [if_neg hr]
    unfold ProgR; rw [e]
    exact ⟨pz, [], rfl, rfl, .inl ⟨rfl, rfl, rfl⟩⟩
end Go.Proofs.Ytminkpgacomicab
end
section
set_option linter.unusedVariables false
set_option linter.unusedSimpArgs false
namespace Go.Proofs.Ytminkpgacomicab
open Go Go.Fw
set_option maxRecDepth 10000
theorem beside_iff {R : Rm} (hR : roomOk R) (x : Lk) : beside R x ↔ (0 ≤ x.month ∧ x.month ≤ R.months - 1) ∧ 0 ≤ index R.boxes x.box ∧ (bxAt R.boxes x.box).made ≤ x.month := by
  obtain ⟨_, _, hb, _⟩ := hR
  obtain ⟨hr, _, hmade⟩ := (okBoxes_iff R.months R.boxes 0 (by omega)).1 hb
  have key : 0 ≤ index R.boxes x.box → bxAt R.boxes x.box ∈ R.boxes ∧ (bxAt R.boxes x.box).id = x.box := fun hi =>
    ⟨List.mem_of_getElem? (index_get hi), index_id _ _ _ hi (index_get hi)⟩
  unfold beside besideP
  constructor
  · rintro ⟨b, hb1, hb2⟩
    obtain ⟨h1, h2⟩ := of_decide_eq_true hb2
    have h3 := h2 x.month (by simp)
    dsimp only at h3
    have hi := (index_ge R.boxes x.box).2 ⟨b, hb1, h1⟩
    have he := rises_inj _ _ hr b hb1 _ (key hi).1 (by rw [h1, (key hi).2])
    have h4 := hmade b hb1
    rw [← he]
    omega
  · rintro ⟨h1, hi, h3⟩
    refine ⟨_, (key hi).1, decide_eq_true ⟨(key hi).2, fun n hn => ?_⟩⟩
    simp only [List.mem_cons, List.not_mem_nil, or_false] at hn
    subst hn
    dsimp only
    omega
theorem deskOk_iff (D : Dk) : deskOk D ↔ deskR D := by
  unfold deskOk deskR idsOk looksOk
  constructor
  · rintro ⟨hR, hl, ⟨h1, h2, h3, h4⟩, h5, h6, h7, h8⟩
    refine ⟨hR, by have := hl D.lean (by simp); dsimp only at this; omega, h1, h3, h5, h2, h4, fun x hx => ?_, h6⟩
    obtain ⟨q1, q2, q3⟩ := h8 x hx
    obtain ⟨q4, q5, q6⟩ := (beside_iff hR x).1 q3
    have q7 := h7 x.said (List.mem_map.2 ⟨x, hx, rfl⟩)
    exact ⟨q2, q1, q7, q4, q5, q6⟩
  · rintro ⟨hR, hl, h1, h3, h5, h2, h4, h8, h6⟩
    refine ⟨hR, fun n hn => ?_, ⟨h1, h2, h3, h4⟩, h5, h6, fun n hn => ?_, fun x hx => ?_⟩
    · simp only [List.mem_cons, List.not_mem_nil, or_false] at hn
      subst hn
      exact hl
    · obtain ⟨x, hx, rfl⟩ := List.mem_map.1 hn
      exact (h8 x hx).2.2.1
    · obtain ⟨q1, q2, _, q4, q5, q6⟩ := h8 x hx
      exact ⟨q2, q1, (beside_iff hR x).2 ⟨q4, q5, q6⟩⟩
theorem strF_nil {R : Rm} (hR : roomOk R) : strF R [] = (R, 0) := by
  have e : leftMt R.mats [] = R.mats := by unfold leftMt; simp
  have hs : strOk R.mats [] := ⟨⟨trivial, by decide⟩, by rw [e]; rfl⟩
  unfold strF
  rw [if_pos hR, if_pos hs]
  unfold strRm
  rw [e]
theorem strNil_spec (R : Rm) (d1 : Addr) (c1 : Nat) (d2 : Addr) (c2 : Nat) (d3 : Addr) (c3 : Nat) (H : List Row) (hok : roomOk R) (hne : R ≠ Rz) (hR : RmOk H R ⟨some d1, c1, some d2, c2, some d3, c3⟩) (h1 : R.ages.length ≤ 1000000) (h2 : R.boxes.length ≤ 1000000) (h3 : R.mats.length ≤ 1000000) :
    Fc Try.prog 28 [.agg (cRm R ⟨some d1, c1, some d2, c2, some d3, c3⟩).toArray, .slice none 0 0] H (fun v H' => ∃ t1 k1 t2 k2 t3 k3, v = tup' R ⟨some ⟨t1, 0, none⟩, k1, some ⟨t2, 0, none⟩, k2, some ⟨t3, 0, none⟩, k3⟩ 0 ∧ H' = rAges R t1 k1 :: rBoxes R t2 k2 :: rMats R t3 k3 :: H) := by
  have h := strB_spec R [] none 0 d1 c1 d2 c2 d3 c3 H hR h1 h2 h3 sleNil (by simp)
  unfold Fc at *
  refine ⟨h.1, fun B w0 w hS => (h.2 B w0 w hS).mono ?_⟩
  rintro e w' ⟨v, H', he, ⟨p, Z, hv, hH, ho⟩, hS'⟩
  rw [strF_nil hok] at hv ho
  rcases ho with ⟨hz, _, _⟩ | ⟨t1, k1, t2, k2, t3, k3, rfl, hp⟩
  · exact absurd hz hne
  · refine ⟨v, _, he, ⟨t1, k1, t2, k2, t3, k3, hv, rfl⟩, ?_⟩
    rw [hH] at hS'
    exact hS'.perm (List.Perm.append_right H hp.symm)
theorem ok_ne {R : Rm} (h : roomOk R) : R ≠ Rz := fun e => by
  have := h.m
  rw [e] at this
  simp [Rz] at this
end Go.Proofs.Ytminkpgacomicab
end
section
set_option linter.unusedVariables false
set_option linter.unusedSimpArgs false
namespace Go.Proofs.Ytminkpgacomicab
open Go Go.Fw
set_option maxRecDepth 10000
def tsG : List TOp := [⟨some 12, [], [], []⟩, ⟨some 13, [0], [0], []⟩, ⟨some 14, [0, 1], [1], []⟩, ⟨some 15, [], [], []⟩, ⟨some 16, [3], [3], []⟩, ⟨some 17, [0, 1, 2, 3, 4], [4], []⟩, ⟨some 18, [], [], []⟩, ⟨some 19, [0, 1, 2, 3, 4], [], []⟩, ⟨none, [0, 1, 2, 3, 4, 5, 7], [7, 2], [14]⟩, ⟨some 20, [0, 1, 2, 3, 4, 5, 7, 8], [], []⟩, ⟨none, [0, 1, 2, 3, 4, 5, 7, 8, 9], [9, 5], [8]⟩, ⟨some 21, [0, 1, 2, 3, 4, 5, 6, 7, 8, 9, 10], [], []⟩, ⟨none, [0, 1, 2, 3, 4, 5, 6, 7, 8, 9, 10, 11], [11, 6], [10]⟩, ⟨none, [], [], []⟩, ⟨none, [], [], []⟩]
def rdG (k : Nat) : List Nat := match k with
  | 1 => [14]
  | 4 => [14]
  | _ => []
def valG (b1 : Nat) (D : Dk) (L : List Lk) (d4 : Addr) (c4 : Nat) (d5 : Addr) (c5 : Nat) (aL : Option Addr) (cL : Nat) (k : Nat) (env : Env) : Value :=
  match k with
  | 0 => .pointer (some ⟨b1, 6, none⟩)
  | 1 => .slice (some d4) D.bales.length c4
  | 2 => .slice (some ⟨(env 2).1, 0, none⟩) D.bales.length (env 2).2
  | 3 => .pointer (some ⟨b1, 7, none⟩)
  | 4 => .slice (some d5) D.cls.length c5
  | 5 => .slice (some ⟨(env 5).1, 0, none⟩) D.cls.length (env 5).2
  | 6 => .slice aL L.length cL
  | 7 => .pointer (some ⟨b1, 6, none⟩)
  | 9 => .pointer (some ⟨b1, 7, none⟩)
  | 11 => .pointer (some ⟨b1, 8, none⟩)
  | _ => undef
def cZd : List Value := [.int .i64 0, .int .i64 0, .slice none 0 0, .slice none 0 0, .slice none 0 0, .int .i64 0, .slice none 0 0, .slice none 0 0, .slice none 0 0]
def rowsG (b1 b2 : Nat) (D : Dk) (L : List Lk) (pr : Pl) (d4 : Addr) (c4 : Nat) (d5 : Addr) (c5 : Nat) (a6 : Option Addr) (c6 : Nat) (aL : Option Addr) (cL : Nat) (k : Nat) (env : Env) : List Row :=
  match k with
  | 2 => [⟨(env 2).1, 0, D.bales.flatMap cI, some 3, (env 2).2 * 1⟩]
  | 5 => [⟨(env 5).1, 0, D.cls.flatMap cI, some 3, (env 5).2 * 1⟩]
  | 8 => [⟨b1, 0, cDk D ⟨pr, some ⟨(env 2).1, 0, none⟩, (env 2).2, some d5, c5, a6, c6⟩, some 30, 9⟩]
  | 10 => [⟨b1, 0, cDk D ⟨pr, some ⟨(env 2).1, 0, none⟩, (env 2).2, some ⟨(env 5).1, 0, none⟩, (env 5).2, a6, c6⟩, some 30, 9⟩]
  | 12 => [⟨b1, 0, cDk { D with looks := L } ⟨pr, some ⟨(env 2).1, 0, none⟩, (env 2).2, some ⟨(env 5).1, 0, none⟩, (env 5).2, aL, cL⟩, some 30, 9⟩]
  | 13 => [⟨b2, 0, cZd, some 30, 9⟩]
  | 14 => [⟨b1, 0, cDk D ⟨pr, some d4, c4, some d5, c5, a6, c6⟩, some 30, 9⟩]
  | _ => []
theorem locG (b1 b2 : Nat) (D : Dk) (L : List Lk) (pr : Pl) (d4 : Addr) (c4 : Nat) (d5 : Addr) (c5 : Nat) (a6 : Option Addr) (c6 : Nat) (aL : Option Addr) (cL : Nat) : ∀ k env i q9, i ≠ k → (tAt tsG k).sup.contains i = false → valG b1 D L d4 c4 d5 c5 aL cL k (upd env i q9) = valG b1 D L d4 c4 d5 c5 aL cL k env ∧ rowsG b1 b2 D L pr d4 c4 d5 c5 a6 c6 aL cL k (upd env i q9) = rowsG b1 b2 D L pr d4 c4 d5 c5 a6 c6 aL cL k env := by
  intro k env i q hk hs
  have hu : ∀ j, j ≠ i → upd env i q j = env j := fun j hj => by unfold upd; rw [if_neg hj]
  match k, hk, hs with
  | 0, _, _ => exact ⟨rfl, rfl⟩
  | 1, _, _ => exact ⟨rfl, rfl⟩
  | 2, hk, hs => exact ⟨by simp only [valG, hu 2 (fun e => hk e.symm)], by simp only [rowsG, hu 2 (fun e => hk e.symm)]⟩
  | 3, _, _ => exact ⟨rfl, rfl⟩
  | 4, _, _ => exact ⟨rfl, rfl⟩
  | 5, hk, hs => exact ⟨by simp only [valG, hu 5 (fun e => hk e.symm)], by simp only [rowsG, hu 5 (fun e => hk e.symm)]⟩
  | 6, _, _ => exact ⟨rfl, rfl⟩
  | 7, _, _ => exact ⟨rfl, rfl⟩
  | 8, hk, hs => exact ⟨by simp only [valG, hu 2 (by rintro rfl; cases hs)], by simp only [rowsG, hu 2 (by rintro rfl; cases hs)]⟩
  | 9, _, _ => exact ⟨rfl, rfl⟩
  | 10, hk, hs => exact ⟨by simp only [valG, hu 2 (by rintro rfl; cases hs), hu 5 (by rintro rfl; cases hs)], by simp only [rowsG, hu 2 (by rintro rfl; cases hs), hu 5 (by rintro rfl; cases hs)]⟩
  | 11, _, _ => exact ⟨rfl, rfl⟩
  | 12, hk, hs => exact ⟨by simp only [valG, hu 2 (by rintro rfl; cases hs), hu 5 (by rintro rfl; cases hs)], by simp only [rowsG, hu 2 (by rintro rfl; cases hs), hu 5 (by rintro rfl; cases hs)]⟩
  | 13, _, _ => exact ⟨rfl, rfl⟩
  | 14, _, _ => exact ⟨rfl, rfl⟩
  | _ + 15, _, _ => exact ⟨rfl, rfl⟩
def rInt (l : List Int) (t k : Nat) : Row := ⟨t, 0, l.flatMap cI, some 3, k * 1⟩
set_option maxHeartbeats 2000000 in
theorem gcopied_spec (D : Dk) (L : List Lk) (d1 : Addr) (c1 : Nat) (d2 : Addr) (c2 : Nat) (d3 : Addr) (c3 : Nat) (d4 : Addr) (c4 : Nat) (d5 : Addr) (c5 : Nat) (a6 : Option Addr) (c6 : Nat) (aL : Option Addr) (cL : Nat) (H : List Row)
    (hok : roomOk D.room) (hD : DkOk H D ⟨⟨some d1, c1, some d2, c2, some d3, c3⟩, some d4, c4, some d5, c5, a6, c6⟩) (h1 : D.room.ages.length ≤ 1000000) (h2 : D.room.boxes.length ≤ 1000000) (h3 : D.room.mats.length ≤ 1000000) (h4 : D.bales.length ≤ 1000000) (h5 : D.cls.length ≤ 1000000) :
    Fc Try.prog 16 [.agg (cDk D ⟨⟨some d1, c1, some d2, c2, some d3, c3⟩, some d4, c4, some d5, c5, a6, c6⟩).toArray, .slice aL L.length cL] H (fun v H' => ∃ t1 k1 t2 k2 t3 k3 t4 k4 t5 k5, v = .agg (cDk { D with looks := L } ⟨⟨some ⟨t1, 0, none⟩, k1, some ⟨t2, 0, none⟩, k2, some ⟨t3, 0, none⟩, k3⟩, some ⟨t4, 0, none⟩, k4, some ⟨t5, 0, none⟩, k5, aL, cL⟩).toArray ∧
    H' = rInt D.bales t4 k4 :: rInt D.cls t5 k5 :: rAges D.room t1 k1 :: rBoxes D.room t2 k2 :: rMats D.room t3 k3 :: H) := by
  have hD2 : ∀ r1 r2, DkOk (r1 :: r2 :: H) D ⟨⟨some d1, c1, some d2, c2, some d3, c3⟩, some d4, c4, some d5, c5, a6, c6⟩ := fun r1 r2 => hD.sub (fun _ h => List.Mem.tail _ (List.Mem.tail _ h))
  have hD3 : ∀ r1 r2 r3, DkOk (r1 :: r2 :: r3 :: H) D ⟨⟨some d1, c1, some d2, c2, some d3, c3⟩, some d4, c4, some d5, c5, a6, c6⟩ := fun r1 r2 r3 => hD.sub (fun _ h => List.Mem.tail _ (List.Mem.tail _ (List.Mem.tail _ h)))
  refine Fc.mk (callable Try.call16) Try.func16 rfl Try.ntmps16 rfl ?_; dsimp only [fr]
  refine X.seq rfl ?_; refine X.region rfl (fun K hK => ?_); repeat' (first | (refine XO.op rfl ?_; (first | ((first | refine Xo.ng rfl ?_); (first | (refine Xg.st (StF.boxAgg rfl rfl) rfl rfl ?_; rintro _ _ ⟨bx, rfl, rfl⟩) | (refine Xg.st (StF.alloc rfl Try.zeroValue30 rfl) rfl rfl ?_; rintro _ _ ⟨bx, rfl, rfl⟩))))) | (refine XO.done rfl ?_; refine hK _ _ ?_; clear hK K))
  rename_i b1
  rename Nat => b2
  repeat' (first | (refine XO.op rfl ?_; (first | ((first | refine Xo.ng rfl ?_); (first | (refine Xg.call (EnF.st rfl (by (repeat (first | exact Args.nil | refine Args.cons rfl ?_)); done)) rfl rfl (strNil_spec D.room d1 c1 d2 c2 d3 c3 _ hok (ok_ne hok) (hD2 _ _).room h1 h2 h3) ?_; rintro _ _ ⟨t1, k1, t2, k2, t3, k3, rfl, rfl⟩) | (refine Xg.st0 (StF.storeAt (q := 4) (j := 0) (vs := cRm D.room ⟨some ⟨t1, 0, none⟩, k1, some ⟨t2, 0, none⟩, k2, some ⟨t3, 0, none⟩, k3⟩) rfl rfl rfl (te rfl) rfl rfl rfl (Nat.le_of_ble_eq_true rfl)) rfl ?_; rintro _ _ ⟨rfl, rfl⟩; dsimp only [List.set]) | (refine Xg.ev (EvF.move rfl rfl) rfl rfl ?_) | (refine Xg.ev (EvF.fieldAddr rfl rfl (te rfl) rfl (te rfl) (by decide)) rfl rfl ?_) | (refine Xg.ev (EvF.loadV rfl rfl (LoadV.ownAgg (te rfl) rfl (List.Mem.tail _ (List.Mem.head _)) rfl rfl)) rfl rfl ?_) | (refine Xg.ev (EvF.extract rfl rfl rfl) rfl rfl ?_))))) | (refine XO.done rfl ?_; refine hK _ _ ?_; clear hK K) | refine X.seq rfl ?_ | refine X.region rfl (fun K hK => ?_))
  refine X.permH (H' := [⟨b2, 0, cZd, some 30, 9⟩, ⟨b1, 0, cDk D ⟨⟨some ⟨t1, 0, none⟩, k1, some ⟨t2, 0, none⟩, k2, some ⟨t3, 0, none⟩, k3⟩, some d4, c4, some d5, c5, a6, c6⟩, some 30, 9⟩] ++ (rAges D.room t1 k1 :: rBoxes D.room t2 k2 :: rMats D.room t3 k3 :: H)) ?_ ?_
  · show List.Perm ([_, _] ++ ([_, _, _] ++ H)) ([_, _, _] ++ ([_, _] ++ H))
    rw [← List.append_assoc, ← List.append_assoc]
    exact List.Perm.append_right H (List.perm_append_comm (l₁ := [_, _]) (l₂ := [_, _, _]))
  refine X.regionRd tsG rdG [1, 2, 4] [(1, .slice aL L.length cL), (2, .pointer (some ⟨b1, 0, none⟩)), (4, .pointer (some ⟨b2, 0, none⟩))] (valG b1 D L d4 c4 d5 c5 aL cL) (rowsG b1 b2 D L ⟨some ⟨t1, 0, none⟩, k1, some ⟨t2, 0, none⟩, k2, some ⟨t3, 0, none⟩, k3⟩ d4 c4 d5 c5 a6 c6 aL cL) (fun _ => (0, 0)) (rAges D.room t1 k1 :: rBoxes D.room t2 k2 :: rMats D.room t3 k3 :: H) rfl mixed (by (repeat (first | exact Sub.nil _ | refine Sub.cons rfl ?_)); done) rfl (by kernel_rfl) (by kernel_rfl) (locG b1 b2 D L ⟨some ⟨t1, 0, none⟩, k1, some ⟨t2, 0, none⟩, k2, some ⟨t3, 0, none⟩, k3⟩ d4 c4 d5 c5 a6 c6 aL cL) (List.Sublist.refl _) ?_ ?_
  · repeat' (first | exact AllF.done rfl | (refine AllF.step rfl ?_ ?_; · (first | exact (Ob.ng rfl (ObK.pure (fun env R hR => by exact ⟨_, EvF.move rfl rfl, rfl⟩) rfl (fun _ => rfl))).toR | exact (Ob.ng rfl (ObK.pure (fun env R hR => by exact ⟨_, EvF.fieldAddr rfl rfl (te rfl) rfl (te rfl) (by decide), rfl⟩) rfl (fun _ => rfl))).toR | (refine ObR.ng rfl ?_; (first | (exact fun env S hS hrd => (StF.ofEv (EvF.loadV rfl rfl (LoadV.own (te rfl) rfl (hrd 14 (List.Mem.head _) _ (List.Mem.head _)) rfl))).op.mono (fun v H' ⟨hv, hH⟩ => ⟨(0, 0), fun _ => hv, by rw [hH]; exact List.Perm.refl _⟩)) | (exact fun env S hS hrd => (OpF.call (EnF.st rfl (by (repeat (first | exact Args.nil | refine Args.cons rfl ?_)); done)) (clone_specInt D.bales d4 c4 _ (hD.bales.sub (fun r hr => hS r (List.Mem.tail _ (List.Mem.tail _ (List.Mem.tail _ hr))))) h4)).mono (fun v H' ⟨b, k, hv, hH⟩ => ⟨(b, k), fun _ => hv, by rw [hH]; exact List.Perm.refl _⟩)) | (exact fun env S hS hrd => (OpF.call (EnF.st rfl (by (repeat (first | exact Args.nil | refine Args.cons rfl ?_)); done)) (clone_specInt D.cls d5 c5 _ (hD.cls.sub (fun r hr => hS r (List.Mem.tail _ (List.Mem.tail _ (List.Mem.tail _ hr))))) h5)).mono (fun v H' ⟨b, k, hv, hH⟩ => ⟨(b, k), fun _ => hv, by rw [hH]; exact List.Perm.refl _⟩)) | (exact fun env S hS hrd => (StF.storeOne (i := 0) rfl rfl rfl rfl (te rfl) rfl rfl (Nat.le_of_ble_eq_true rfl)).op.mono (fun v H' ⟨hv, hH⟩ => ⟨(0, 0), fun h => absurd rfl h, by rw [hH]; exact List.Perm.refl _⟩)))))))
  · intro env t ha hv
    refine ⟨[(1, .slice aL L.length cL), (2, .pointer (some ⟨b1, 0, none⟩)), (4, .pointer (some ⟨b2, 0, none⟩))], ha, ?_⟩
    show X _ _ _ _ (rInt D.bales (env 2).1 (env 2).2 :: rInt D.cls (env 5).1 (env 5).2 :: ⟨b1, 0, cDk { D with looks := L } ⟨⟨some ⟨t1, 0, none⟩, k1, some ⟨t2, 0, none⟩, k2, some ⟨t3, 0, none⟩, k3⟩, some ⟨(env 2).1, 0, none⟩, (env 2).2, some ⟨(env 5).1, 0, none⟩, (env 5).2, aL, cL⟩, some 30, 9⟩ :: ⟨b2, 0, cZd, some 30, 9⟩ :: rAges D.room t1 k1 :: rBoxes D.room t2 k2 :: rMats D.room t3 k3 :: H) _
    repeat' (first | (refine XO.op rfl ?_; (first | ((first | refine Xo.ng rfl ?_); (first | (refine Xg.ev (EvF.loadV rfl rfl (LoadV.whole (te rfl) rfl (List.Mem.tail _ (List.Mem.tail _ (List.Mem.head _))) rfl)) rfl rfl ?_) | (refine Xg.st0 (StF.storeAll (i := 3) rfl rfl rfl (te rfl) rfl rfl rfl rfl) rfl ?_; rintro _ _ ⟨rfl, rfl⟩; dsimp only [List.set]))))) | (refine XO.done rfl ?_; refine hK _ _ ?_; clear hK K) | refine X.seq rfl ?_ | refine X.region rfl (fun K hK => ?_) | refine X.ret rfl ?_)
    exact ret_one (.inr rfl) Try.results16 ⟨_, rfl, LoadV.whole (te rfl) rfl (List.Mem.tail _ (List.Mem.tail _ (List.Mem.tail _ (List.Mem.head _)))) rfl⟩ (H' := rInt D.bales (env 2).1 (env 2).2 :: rInt D.cls (env 5).1 (env 5).2 :: rAges D.room t1 k1 :: rBoxes D.room t2 k2 :: rMats D.room t3 k3 :: H)
      (List.Sublist.cons_cons _ (List.Sublist.cons_cons _ (List.Sublist.cons _ (List.Sublist.cons _ (List.Sublist.refl _))))) ⟨_, _, _, _, _, _, _, _, _, _, rfl, rfl⟩
end Go.Proofs.Ytminkpgacomicab
end
section
set_option linter.unusedVariables false
set_option linter.unusedSimpArgs false
namespace Go.Proofs.Ytminkpgacomicab
open Go Go.Fw
set_option maxRecDepth 10000
def Dz : Dk := ⟨Rz, 0, [], [], []⟩
def pzd : Pd := ⟨pz, none, 0, none, 0, none, 0⟩
def rLooks (D : Dk) (t k : Nat) : Row := ⟨t, 0, D.looks.flatMap cLk, some 32, k * 6⟩
def plD (t1 k1 t2 k2 t3 k3 t4 k4 t5 k5 t6 k6 : Nat) : Pd := ⟨⟨some ⟨t1, 0, none⟩, k1, some ⟨t2, 0, none⟩, k2, some ⟨t3, 0, none⟩, k3⟩, some ⟨t4, 0, none⟩, k4, some ⟨t5, 0, none⟩, k5, some ⟨t6, 0, none⟩, k6⟩
/-- a desk whose lists lie in memory of one's own, and nothing else there -/
def OwnDk (Z : List Row) (D : Dk) (p : Pd) : Prop :=
  (D = Dz ∧ p = pzd ∧ Z = []) ∨ ∃ t1 k1 t2 k2 t3 k3 t4 k4 t5 k5 t6 k6, p = plD t1 k1 t2 k2 t3 k3 t4 k4 t5 k5 t6 k6 ∧ Z.Perm [rInt D.bales t4 k4, rInt D.cls t5 k5, rAges D.room t1 k1, rBoxes D.room t2 k2, rMats D.room t3 k3, rLooks D t6 k6]
def tupD (D : Dk) (p : Pd) (e : Int) : Value := .tuple #[.agg (cDk D p).toArray, .int .i64 e]
def putDk (D : Dk) (x : Lk) : Dk := { D with looks := insLk x D.looks }
def strDk (D : Dk) (l : List Int) : Dk := { D with looks := leftLk D.looks l }
open Classical in
noncomputable def gputF (D : Dk) (x : Lk) : Dk × Int := if deskOk D then (if 12 ≤ D.looks.length then (Dz, 9) else if deskOk (putDk D x) then (putDk D x, 0) else (Dz, 21)) else (Dz, 20)
open Classical in
noncomputable def gstrF (D : Dk) (l : List Int) : Dk × Int := if deskOk D then (if strOkL D.looks l then (strDk D l, 0) else (Dz, 21)) else (Dz, 20)
def ProgD (F : Dk × Int) (H : List Row) (v : Value) (H' : List Row) : Prop := ∃ p Z, v = tupD F.1 p F.2 ∧ H' = Z ++ H ∧ OwnDk Z F.1 p
set_option maxHeartbeats 4000000 in
theorem strD_spec (D : Dk) (l : List Int) (al : Option Addr) (cl : Nat) (d1 : Addr) (c1 : Nat) (d2 : Addr) (c2 : Nat) (d3 : Addr) (c3 : Nat) (d4 : Addr) (c4 : Nat) (d5 : Addr) (c5 : Nat) (d6 : Addr) (c6 : Nat) (H : List Row)
    (hD : DkOk H D ⟨⟨some d1, c1, some d2, c2, some d3, c3⟩, some d4, c4, some d5, c5, some d6, c6⟩) (h1 : D.room.ages.length ≤ 1000000) (h2 : D.room.boxes.length ≤ 1000000) (h3 : D.room.mats.length ≤ 1000000) (h4 : D.bales.length ≤ 1000000) (h5 : D.cls.length ≤ 1000000) (h6 : D.looks.length ≤ 1000000) (hl : SlE H al cI 1 l) (hb : l.length ≤ 1000000) :
    Fc Try.prog 8 [.agg (cDk D ⟨⟨some d1, c1, some d2, c2, some d3, c3⟩, some d4, c4, some d5, c5, some d6, c6⟩).toArray, .slice al l.length cl] H (ProgD (gstrF D l) H) := by
  have hD2 : ∀ r1 r2, DkOk (r1 :: r2 :: H) D ⟨⟨some d1, c1, some d2, c2, some d3, c3⟩, some d4, c4, some d5, c5, some d6, c6⟩ := fun r1 r2 => hD.sub (fun _ h => List.Mem.tail _ (List.Mem.tail _ h))
  have hD3 : ∀ r1 r2 r3, DkOk (r1 :: r2 :: r3 :: H) D ⟨⟨some d1, c1, some d2, c2, some d3, c3⟩, some d4, c4, some d5, c5, some d6, c6⟩ := fun r1 r2 r3 => hD.sub (fun _ h => List.Mem.tail _ (List.Mem.tail _ (List.Mem.tail _ h)))
  have hl2 : ∀ r1 r2, SlE (r1 :: r2 :: H) al cI 1 l := fun r1 r2 => hl.sub (fun _ h => List.Mem.tail _ (List.Mem.tail _ h))
  refine Fc.mk (callable Try.call8) Try.func8 rfl Try.ntmps8 rfl ?_; dsimp only [fr]
  repeat' (first | (refine XO.op rfl ?_; (first | ((first | refine Xo.ng rfl ?_); (first | (refine Xg.ev (EvF.build (cs := cZd) rfl ArgsP.nil (te rfl) (Places.cons (te rfl) (Places.cons (te rfl) (Places.cons (te rfl) (Places.cons (te rfl) (Places.cons (te rfl) Places.nil))))) Try.zeroValue30 rfl) rfl rfl ?_) | (refine Xg.call (EnF.st rfl (by (repeat (first | exact Args.nil | refine Args.cons rfl ?_)); done)) rfl rfl (gcheck_spec D _ _ (hD2 _ _)) ?_; rintro _ H9 ⟨⟨hr, rfl⟩ | ⟨hr, rfl⟩, hH9⟩ <;> subst H9) | (refine Xg.call (EnF.st rfl (by (repeat (first | exact Args.nil | refine Args.cons rfl ?_)); done)) rfl rfl (strikeL_specL D.looks d6 c6 l al cl _ (hD2 _ _).looks h6 (hl2 _ _) hb) ?_; rintro _ H9 (⟨hs, rfl, hH9⟩ | ⟨hs, bc, kc, rfl, hH9⟩) <;> subst H9) | (refine Xg.call (EnF.st rfl (by (repeat (first | exact Args.nil | refine Args.cons rfl ?_)); done)) rfl rfl (gcopied_spec D (leftLk D.looks l) d1 c1 d2 c2 d3 c3 d4 c4 d5 c5 (some d6) c6 (some ⟨bc, 0, none⟩) kc _ hr.1 (hD3 _ _ _) h1 h2 h3 h4 h5) ?_; rintro _ _ ⟨t1, k1, t2, k2, t3, k3, t4, k4, t5, k5, rfl, rfl⟩) | (refine Xg.st0 (StF.storeAll (i := 6) rfl rfl rfl (te rfl) rfl rfl rfl rfl) rfl ?_; rintro _ _ ⟨rfl, rfl⟩; dsimp only [List.set]) | (refine Xg.ev (EvF.move rfl rfl) rfl rfl ?_) | (refine Xg.ev (EvF.assign rfl rfl) rfl rfl ?_) | (refine Xg.ev (EvF.cmp rfl rfl rfl rfl) rfl rfl ?_) | (refine Xg.ev (EvF.not rfl rfl) rfl rfl ?_) | (refine Xg.ev (EvF.fieldAddr rfl rfl (te rfl) rfl (te rfl) (by decide)) rfl rfl ?_) | (refine Xg.ev (EvF.loadV rfl rfl (LoadV.own (te rfl) rfl (List.Mem.tail _ (List.Mem.head _)) rfl)) rfl rfl ?_) | (refine Xg.ev (EvF.loadV rfl rfl (LoadV.whole (te rfl) rfl (List.Mem.tail _ (List.Mem.head _)) rfl)) rfl rfl ?_) | (refine Xg.ev (EvF.loadV rfl rfl (LoadV.whole (te rfl) rfl (List.Mem.tail _ (List.Mem.tail _ (List.Mem.head _))) rfl)) rfl rfl ?_) | (refine Xg.ev (EvF.extract rfl rfl rfl) rfl rfl ?_) | (refine Xg.st (StF.boxAgg rfl rfl) rfl rfl ?_; rintro _ _ ⟨bx, rfl, rfl⟩) | (refine Xg.st (StF.alloc rfl Try.zeroValue30 rfl) rfl rfl ?_; rintro _ _ ⟨bx, rfl, rfl⟩) | (refine Xg.st0 (StF.storeAll (i := 0) rfl rfl rfl (te rfl) rfl rfl rfl rfl) rfl ?_; rintro _ _ ⟨rfl, rfl⟩; dsimp only [List.set]) | (refine Xg.st0 (StF.storeAll (i := 1) rfl rfl rfl (te rfl) rfl rfl rfl rfl) rfl ?_; rintro _ _ ⟨rfl, rfl⟩; dsimp only [List.set]))))) | (refine XO.done rfl ?_; refine hK _ _ ?_; clear hK K) | refine X.seq rfl ?_ | refine X.region rfl (fun K hK => ?_) | refine X.skip rfl ?_ | refine X.ret rfl ?_ | (refine X.ite rfl rfl (fun hc => ?_); (first | (with_reducible refine Xb.caseN hc (fun h => ?_) (fun h => ?_)) | (with_reducible refine Xb.caseB hc (fun h => ?_) (fun h => ?_))) <;> clear hc))
  any_goals (exfalso; first | omega | (cases h; done))
  · refine ret_two (by first | exact .inr rfl | exact .inl rfl) Try.results8 ⟨_, rfl, LoadV.whole (te rfl) rfl (List.Mem.head _) rfl⟩ rfl (H' := H) (by (repeat (first | exact List.Sublist.refl _ | apply List.Sublist.cons)); done) ?_
    have e : gstrF D l = (Dz, 21) := by unfold gstrF; rw [if_pos hr, if_neg hs]
    unfold ProgD; rw [e]
    exact ⟨pzd, [], rfl, rfl, .inl ⟨rfl, rfl, rfl⟩⟩
  · refine ret_two (by first | exact .inr rfl | exact .inl rfl) Try.results8 ⟨_, rfl, LoadV.whole (te rfl) rfl (List.Mem.tail _ (List.Mem.tail _ (List.Mem.tail _ (List.Mem.tail _ (List.Mem.tail _ (List.Mem.tail _ (List.Mem.head _))))))) rfl⟩ rfl (H' := [rInt D.bales t4 k4, rInt D.cls t5 k5, rAges D.room t1 k1, rBoxes D.room t2 k2, rMats D.room t3 k3, rLooks (strDk D l) bc kc] ++ H) (by (repeat (first | exact List.Sublist.refl _ | apply List.Sublist.cons_cons | apply List.Sublist.cons)); done) ?_
    have e : gstrF D l = (strDk D l, 0) := by unfold gstrF; rw [if_pos hr, if_pos hs]
    unfold ProgD; rw [e]
    exact ⟨_, _, rfl, rfl, .inr ⟨t1, k1, t2, k2, t3, k3, t4, k4, t5, k5, bc, kc, rfl, List.Perm.refl _⟩⟩
  · refine ret_two (by first | exact .inr rfl | exact .inl rfl) Try.results8 ⟨_, rfl, LoadV.whole (te rfl) rfl (List.Mem.head _) rfl⟩ rfl (H' := H) (by (repeat (first | exact List.Sublist.refl _ | apply List.Sublist.cons)); done) ?_
    have e : gstrF D l = (Dz, 20) := by unfold gstrF; rw [if_neg hr]
    unfold ProgD; rw [e]
    exact ⟨pzd, [], rfl, rfl, .inl ⟨rfl, rfl, rfl⟩⟩
end Go.Proofs.Ytminkpgacomicab
end
section
set_option linter.unusedVariables false
set_option linter.unusedSimpArgs false
namespace Go.Proofs.Ytminkpgacomicab
open Go Go.Fw
set_option maxRecDepth 10000
def pr2 (p : Nat × Nat) : Nat := (p.1 + p.2) * (p.1 + p.2) + p.1
theorem sq_lt {s s' a c : Nat} (ha : a ≤ s) (h : s * s + a = s' * s' + c) : ¬ s < s' := fun hs => by
  have h1 := Nat.mul_le_mul (Nat.succ_le_of_lt hs) (Nat.succ_le_of_lt hs)
  have h2 : (s + 1) * (s + 1) = s * s + s + s + 1 := by rw [Nat.add_mul, Nat.mul_add]; omega
  have h3 : s.succ * s.succ = (s + 1) * (s + 1) := rfl
  omega
theorem pr2_inj : ∀ {p q : Nat × Nat}, pr2 p = pr2 q → p = q := by
  rintro ⟨a, b⟩ ⟨c, d⟩ h
  unfold pr2 at h
  dsimp only at h
  have h1 := sq_lt (by omega) h
  have h2 := sq_lt (by omega) h.symm
  have h3 : a + b = c + d := by omega
  rw [h3] at h
  have h4 : a = c := by omega
  have h5 : b = d := by omega
  rw [h4, h5]
open Classical in
noncomputable def un2 (n : Nat) : Nat × Nat := if h : ∃ p, pr2 p = n then h.choose else (0, 0)
theorem un2_pr2 (p : Nat × Nat) : un2 (pr2 p) = p := by
  have h : ∃ q, pr2 q = pr2 p := ⟨p, rfl⟩
  unfold un2
  rw [dif_pos h]
  exact pr2_inj h.choose_spec
structure M5 where
  m1 : Nat × Nat
  m2 : Nat × Nat
  m3 : Nat × Nat
  m4 : Nat × Nat
  m5 : Nat × Nat
noncomputable def mem5 (p : Nat × Nat) : M5 := ⟨un2 p.1, un2 (un2 p.2).1, un2 (un2 (un2 p.2).2).1, un2 (un2 (un2 (un2 p.2).2).2).1, un2 (un2 (un2 (un2 p.2).2).2).2⟩
def enc5 (m : M5) : Nat × Nat := (pr2 m.m1, pr2 (pr2 m.m2, pr2 (pr2 m.m3, pr2 (pr2 m.m4, pr2 m.m5))))
theorem mem5_enc5 (m : M5) : mem5 (enc5 m) = m := by unfold mem5 enc5; simp only [un2_pr2]
def plM (m : M5) (q : Nat × Nat) : Pd := plD m.m1.1 m.m1.2 m.m2.1 m.m2.2 m.m3.1 m.m3.2 m.m4.1 m.m4.2 m.m5.1 m.m5.2 q.1 q.2
def rowsM (D : Dk) (m : M5) : List Row := [rInt D.bales m.m4.1 m.m4.2, rInt D.cls m.m5.1 m.m5.2, rAges D.room m.m1.1 m.m1.2, rBoxes D.room m.m2.1 m.m2.2, rMats D.room m.m3.1 m.m3.2]
def tsP : List TOp := [⟨some 19, [], [], []⟩, ⟨some 20, [], [], []⟩, ⟨some 21, [1], [1], []⟩, ⟨some 22, [], [], []⟩, ⟨some 23, [1, 2, 3], [2, 3], []⟩, ⟨some 24, [0, 1, 2, 3, 4], [0, 4], []⟩, ⟨some 7, [], [], []⟩, ⟨none, [0, 1, 2, 3, 4, 5, 6], [6, 5], [6]⟩]
noncomputable def valP (b1 : Nat) (D : Dk) (x : Lk) (p : Pd) (d6 : Addr) (c6 : Nat) (k : Nat) (env : Env) : Value :=
  match k with
  | 0 => .agg (cDk D p).toArray
  | 1 => .pointer (some ⟨b1, 8, none⟩)
  | 2 => .slice (some d6) D.looks.length c6
  | 3 => .agg (cLk x).toArray
  | 4 => .slice (some ⟨(env 4).1, 0, none⟩) (insLk x D.looks).length (env 4).2
  | 5 => .agg (cDk (putDk D x) (plM (mem5 (env 5)) (env 4))).toArray
  | 6 => .pointer (some ⟨(env 6).1, 0, none⟩)
  | _ => undef
noncomputable def rowsP (D : Dk) (x : Lk) (k : Nat) (env : Env) : List Row :=
  match k with
  | 4 => [⟨(env 4).1, 0, (insLk x D.looks).flatMap cLk, some 32, (env 4).2 * 6⟩]
  | 5 => rowsM D (mem5 (env 5))
  | 6 => [⟨(env 6).1, 0, cZd, some 30, 9⟩]
  | 7 => [⟨(env 6).1, 0, cDk (putDk D x) (plM (mem5 (env 5)) (env 4)), some 30, 9⟩]
  | _ => []
theorem locP (b1 : Nat) (D : Dk) (x : Lk) (p : Pd) (d6 : Addr) (c6 : Nat) : ∀ k env i q9, i ≠ k → (tAt tsP k).sup.contains i = false → valP b1 D x p d6 c6 k (upd env i q9) = valP b1 D x p d6 c6 k env ∧ rowsP D x k (upd env i q9) = rowsP D x k env := by
  intro k env i q hk hs
  have hu : ∀ j, j ≠ i → upd env i q j = env j := fun j hj => by unfold upd; rw [if_neg hj]
  match k, hk, hs with
  | 0, _, _ => exact ⟨rfl, rfl⟩
  | 1, _, _ => exact ⟨rfl, rfl⟩
  | 2, _, _ => exact ⟨rfl, rfl⟩
  | 3, _, _ => exact ⟨rfl, rfl⟩
  | 4, hk, hs => exact ⟨by simp only [valP, hu 4 (fun e => hk e.symm)], by simp only [rowsP, hu 4 (fun e => hk e.symm)]⟩
  | 5, hk, hs => exact ⟨by simp only [valP, hu 4 (by rintro rfl; cases hs), hu 5 (fun e => hk e.symm)], by simp only [rowsP, hu 4 (by rintro rfl; cases hs), hu 5 (fun e => hk e.symm)]⟩
  | 6, hk, hs => exact ⟨by simp only [valP, hu 6 (fun e => hk e.symm)], by simp only [rowsP, hu 6 (fun e => hk e.symm)]⟩
  | 7, hk, hs => exact ⟨by simp only [valP, hu 4 (by rintro rfl; cases hs), hu 5 (by rintro rfl; cases hs), hu 6 (by rintro rfl; cases hs)], by simp only [rowsP, hu 4 (by rintro rfl; cases hs), hu 5 (by rintro rfl; cases hs), hu 6 (by rintro rfl; cases hs)]⟩
  | _ + 8, _, _ => exact ⟨rfl, rfl⟩
set_option maxHeartbeats 4000000 in
theorem putD_spec (D : Dk) (x : Lk) (d1 : Addr) (c1 : Nat) (d2 : Addr) (c2 : Nat) (d3 : Addr) (c3 : Nat) (d4 : Addr) (c4 : Nat) (d5 : Addr) (c5 : Nat) (d6 : Addr) (c6 : Nat) (H : List Row)
    (hD : DkOk H D ⟨⟨some d1, c1, some d2, c2, some d3, c3⟩, some d4, c4, some d5, c5, some d6, c6⟩) (h1 : D.room.ages.length ≤ 1000000) (h2 : D.room.boxes.length ≤ 1000000) (h3 : D.room.mats.length ≤ 1000000) (h4 : D.bales.length ≤ 1000000) (h5 : D.cls.length ≤ 1000000) (h6 : D.looks.length ≤ 1000000) :
    Fc Try.prog 6 [.agg (cDk D ⟨⟨some d1, c1, some d2, c2, some d3, c3⟩, some d4, c4, some d5, c5, some d6, c6⟩).toArray, .agg (cLk x).toArray] H (ProgD (gputF D x) H) := by
  have hD3 : ∀ r1 r2 r3, DkOk (r1 :: r2 :: r3 :: H) D ⟨⟨some d1, c1, some d2, c2, some d3, c3⟩, some d4, c4, some d5, c5, some d6, c6⟩ := fun r1 r2 r3 => hD.sub (fun _ h => List.Mem.tail _ (List.Mem.tail _ (List.Mem.tail _ h)))
  have hil := insLk_len x D.looks
  have l1 := hD.room.l1
  have l2 := hD.room.l2
  have l3 := hD.room.l3
  have l4 := hD.l4
  have l5 := hD.l5
  refine Fc.mk (callable Try.call6) Try.func6 rfl Try.ntmps6 rfl ?_; dsimp only [fr]
  refine X.seq rfl ?_; refine X.region rfl (fun K hK => ?_); repeat' (first | (refine XO.op rfl ?_; (first | ((first | refine Xo.ng rfl ?_); (first | (refine Xg.ev (EvF.assign rfl rfl) rfl rfl ?_) | (refine Xg.st (StF.boxAgg rfl rfl) rfl rfl ?_; rintro _ _ ⟨bx, rfl, rfl⟩) | (refine Xg.st (StF.alloc rfl Try.zeroValue30 rfl) rfl rfl ?_; rintro _ _ ⟨bx, rfl, rfl⟩))))) | (refine XO.done rfl ?_; refine hK _ _ ?_; clear hK K))
  rename_i b1 b3
  rename Nat => b2
  repeat' (first | (refine XO.op rfl ?_; (first | ((first | refine Xo.ng rfl ?_); (first | (refine Xg.ev (EvF.build (cs := cZd) rfl ArgsP.nil (te rfl) (Places.cons (te rfl) (Places.cons (te rfl) (Places.cons (te rfl) (Places.cons (te rfl) (Places.cons (te rfl) Places.nil))))) Try.zeroValue30 rfl) rfl rfl ?_) | (refine Xg.call (EnF.st rfl (by (repeat (first | exact Args.nil | refine Args.cons rfl ?_)); done)) rfl rfl (gcheck_spec D _ _ (hD3 _ _ _)) ?_; rintro _ H9 ⟨⟨hr, rfl⟩ | ⟨hr, rfl⟩, hH9⟩ <;> subst H9) | (refine Xg.ev (EvF.move rfl rfl) rfl rfl ?_) | (refine Xg.ev (EvF.assign rfl rfl) rfl rfl ?_) | (refine Xg.ev (EvF.cmp rfl rfl rfl rfl) rfl rfl ?_) | (refine Xg.ev (EvF.fieldAddr rfl rfl (te rfl) rfl (te rfl) (by decide)) rfl rfl ?_) | (refine Xg.ev (EvF.lenSlice rfl rfl (te rfl)) rfl rfl ?_) | (refine Xg.ev (EvF.loadV rfl rfl (LoadV.own (te rfl) rfl (List.Mem.tail _ (List.Mem.tail _ (List.Mem.head _))) rfl)) rfl rfl ?_) | (refine Xg.ev (EvF.loadV rfl rfl (LoadV.whole (te rfl) rfl (List.Mem.tail _ (List.Mem.tail _ (List.Mem.head _))) rfl)) rfl rfl ?_) | (refine Xg.st0 (StF.storeAll (i := 0) rfl rfl rfl (te rfl) rfl rfl rfl rfl) rfl ?_; rintro _ _ ⟨rfl, rfl⟩; dsimp only [List.set]))))) | (refine XO.done rfl ?_; refine hK _ _ ?_; clear hK K) | refine X.seq rfl ?_ | refine X.region rfl (fun K hK => ?_) | refine X.skip rfl ?_ | refine X.ret rfl ?_ | (refine X.ite rfl rfl (fun hc => ?_); (first | (with_reducible refine Xb.case hc (fun h => ?_) (fun h => ?_)) | (with_reducible refine Xb.caseN hc (fun h => ?_) (fun h => ?_))) <;> clear hc))
  any_goals (exfalso; omega)
  · refine ret_two (by first | exact .inr rfl | exact .inl rfl) Try.results6 ⟨_, rfl, LoadV.whole (te rfl) rfl (List.Mem.head _) rfl⟩ rfl (H' := H) (by (repeat (first | exact List.Sublist.refl _ | apply List.Sublist.cons)); done) ?_
    have e : gputF D x = (Dz, 9) := by unfold gputF; rw [if_pos hr, if_pos (by omega)]
    unfold ProgD; rw [e]
    exact ⟨pzd, [], rfl, rfl, .inl ⟨rfl, rfl, rfl⟩⟩
  · refine X.regionOb tsP [2, 3, 4] [(2, .pointer (some ⟨b1, 0, none⟩)), (3, .pointer (some ⟨b3, 0, none⟩)), (4, .pointer (some ⟨b2, 0, none⟩))] (valP b1 D x ⟨⟨some d1, c1, some d2, c2, some d3, c3⟩, some d4, c4, some d5, c5, some d6, c6⟩ d6 c6) (rowsP D x) (fun _ => (0, 0)) (⟨b2, 0, cZd, some 30, 9⟩ :: ⟨b3, 0, cLk x, some 32, 6⟩ :: ⟨b1, 0, cDk D ⟨⟨some d1, c1, some d2, c2, some d3, c3⟩, some d4, c4, some d5, c5, some d6, c6⟩, some 30, 9⟩ :: H) rfl mixed (by (repeat (first | exact Sub.nil _ | refine Sub.cons rfl ?_)); done) rfl (by kernel_rfl) (locP b1 D x ⟨⟨some d1, c1, some d2, c2, some d3, c3⟩, some d4, c4, some d5, c5, some d6, c6⟩ d6 c6) (List.Sublist.refl _) ?_ ?_
    · repeat' (first | exact AllF.done rfl | (refine AllF.step rfl ?_ ?_; · (first | fail | ((first | refine Ob.ng rfl ?_); (first | exact ObK.pure (fun env R hR => by exact ⟨_, EvF.fieldAddr rfl rfl (te rfl) rfl (te rfl) (by decide), rfl⟩) rfl (fun _ => rfl) | exact ObK.pure (fun env R hR => by exact ⟨_, EvF.loadV rfl rfl (LoadV.own (te rfl) rfl (hR _ (List.Mem.tail _ (List.Mem.tail _ (List.Mem.head _)))) rfl), rfl⟩) rfl (fun _ => rfl) | exact ObK.pure (fun env R hR => by exact ⟨_, EvF.loadV rfl rfl (LoadV.whole (te rfl) rfl (hR _ (List.Mem.tail _ (List.Mem.head _))) rfl), rfl⟩) rfl (fun _ => rfl) | exact ObK.pure (fun env R hR => by exact ⟨_, EvF.loadV rfl rfl (LoadV.whole (te rfl) rfl (hR _ (List.Mem.tail _ (List.Mem.tail _ (List.Mem.head _)))) rfl), rfl⟩) rfl (fun _ => rfl) | (exact fun env S hS => (OpF.call (EnF.st rfl (by (repeat (first | exact Args.nil | refine Args.cons rfl ?_)); done)) (put_specLk D.looks x d6 c6 _ (hD.looks.sub (fun r hr => hS r (List.Mem.tail _ (List.Mem.tail _ (List.Mem.tail _ hr))))) h6)).mono (fun v H' ⟨b, k, hv, hH⟩ => ⟨(b, k), fun _ => hv, by rw [hH]; exact List.Perm.refl _⟩)) | (exact fun env S hS => (OpF.call (EnF.st rfl (by (repeat (first | exact Args.nil | refine Args.cons rfl ?_)); done)) (gcopied_spec D (insLk x D.looks) d1 c1 d2 c2 d3 c3 d4 c4 d5 c5 (some d6) c6 (some ⟨(env 4).1, 0, none⟩) (env 4).2 _ hr.1 (hD.sub (fun r hr => hS r (List.Mem.tail _ (List.Mem.tail _ (List.Mem.tail _ hr))))) h1 h2 h3 h4 h5)).mono (fun v H' ⟨t1, k1, t2, k2, t3, k3, t4, k4, t5, k5, hv, hH⟩ => ⟨enc5 ⟨(t1, k1), (t2, k2), (t3, k3), (t4, k4), (t5, k5)⟩, fun _ => by (show v = .agg (cDk (putDk D x) (plM (mem5 (enc5 ⟨(t1, k1), (t2, k2), (t3, k3), (t4, k4), (t5, k5)⟩)) (env 4))).toArray; rw [mem5_enc5]; exact hv), by (show List.Perm H' (rowsM D (mem5 (enc5 ⟨(t1, k1), (t2, k2), (t3, k3), (t4, k4), (t5, k5)⟩)) ++ _); rw [hH, mem5_enc5]; exact List.Perm.refl _)⟩)) | (exact fun env S hS => (StF.alloc rfl Try.zeroValue30 rfl).op.mono (fun v H' ⟨b, hv, hH⟩ => ⟨(b, 0), fun _ => hv, by rw [hH]; exact List.Perm.refl _⟩)) | (exact fun env S hS => (StF.storeAll (i := 0) (cs := cZd) (vs := cDk (putDk D x) (plM (mem5 (env 5)) (env 4))) (el := 30) (cap := 9) rfl rfl rfl (te rfl) rfl rfl rfl rfl).op.mono (fun v H' ⟨hv, hH⟩ => ⟨(0, 0), fun h => absurd rfl h, by rw [hH]; exact List.Perm.refl _⟩)))))))
    · intro env t ha hv
      refine ⟨(7, .pointer (some ⟨(env 6).1, 0, none⟩)) :: [(2, .pointer (some ⟨b1, 0, none⟩)), (3, .pointer (some ⟨b3, 0, none⟩)), (4, .pointer (some ⟨b2, 0, none⟩))], ha.cons (hv 6 7 (Nat.le_of_ble_eq_true rfl) rfl), ?_⟩
      show X _ _ _ _ (⟨(env 4).1, 0, (insLk x D.looks).flatMap cLk, some 32, (env 4).2 * 6⟩ :: (rowsM D (mem5 (env 5)) ++ (⟨(env 6).1, 0, cDk (putDk D x) (plM (mem5 (env 5)) (env 4)), some 30, 9⟩ :: ⟨b2, 0, cZd, some 30, 9⟩ :: ⟨b3, 0, cLk x, some 32, 6⟩ :: ⟨b1, 0, cDk D ⟨⟨some d1, c1, some d2, c2, some d3, c3⟩, some d4, c4, some d5, c5, some d6, c6⟩, some 30, 9⟩ :: H))) _
      generalize mem5 (env 5) = m
      generalize (env 6).1 = b6
      generalize env 4 = q4
      obtain ⟨⟨t1, k1⟩, ⟨t2, k2⟩, ⟨t3, k3⟩, ⟨t4, k4⟩, ⟨t5, k5⟩⟩ := m
      obtain ⟨t6, k6⟩ := q4
      show X _ _ _ _ (rLooks (putDk D x) t6 k6 :: rInt D.bales t4 k4 :: rInt D.cls t5 k5 :: rAges D.room t1 k1 :: rBoxes D.room t2 k2 :: rMats D.room t3 k3 :: ⟨b6, 0, cDk (putDk D x) (plD t1 k1 t2 k2 t3 k3 t4 k4 t5 k5 t6 k6), some 30, 9⟩ :: ⟨b2, 0, cZd, some 30, 9⟩ :: ⟨b3, 0, cLk x, some 32, 6⟩ :: ⟨b1, 0, cDk D ⟨⟨some d1, c1, some d2, c2, some d3, c3⟩, some d4, c4, some d5, c5, some d6, c6⟩, some 30, 9⟩ :: H) _
      repeat' (first | (refine XO.op rfl ?_; (first | ((first | refine Xo.ng rfl ?_); (first | (refine Xg.ev (EvF.build (cs := cZd) rfl ArgsP.nil (te rfl) (Places.cons (te rfl) (Places.cons (te rfl) (Places.cons (te rfl) (Places.cons (te rfl) (Places.cons (te rfl) Places.nil))))) Try.zeroValue30 rfl) rfl rfl ?_) | (refine Xg.call (EnF.st rfl (by (repeat (first | exact Args.nil | refine Args.cons rfl ?_)); done)) rfl rfl (gcheck_spec (putDk D x) (plD t1 k1 t2 k2 t3 k3 t4 k4 t5 k5 t6 k6) _ ⟨⟨ownSl (fun _ => rfl) (by repeat (first | exact List.Mem.head _ | apply List.Mem.tail)), ownSl (fun _ => rfl) (by repeat (first | exact List.Mem.head _ | apply List.Mem.tail)), ownSl (fun _ => rfl) (by repeat (first | exact List.Mem.head _ | apply List.Mem.tail)), l1, l2, l3⟩, ownSl (fun _ => rfl) (by repeat (first | exact List.Mem.head _ | apply List.Mem.tail)), ownSl (fun _ => rfl) (by repeat (first | exact List.Mem.head _ | apply List.Mem.tail)), ownSl (fun _ => rfl) (by repeat (first | exact List.Mem.head _ | apply List.Mem.tail)), l4, l5, (by show (insLk x D.looks).length ≤ _; omega)⟩) ?_; rintro _ H9 ⟨⟨hr', rfl⟩ | ⟨hr', rfl⟩, hH9⟩ <;> subst H9) | (refine Xg.st0 (StF.storeAll (i := 7) rfl rfl rfl (te rfl) rfl rfl rfl rfl) rfl ?_; rintro _ _ ⟨rfl, rfl⟩; dsimp only [List.set]) | (refine Xg.ev (EvF.assign rfl rfl) rfl rfl ?_) | (refine Xg.ev (EvF.cmp rfl rfl rfl rfl) rfl rfl ?_) | (refine Xg.ev (EvF.loadV rfl rfl (LoadV.whole (te rfl) rfl (List.Mem.tail _ (List.Mem.tail _ (List.Mem.tail _ (List.Mem.tail _ (List.Mem.tail _ (List.Mem.tail _ (List.Mem.head _))))))) rfl)) rfl rfl ?_))))) | (refine XO.done rfl ?_; refine hK _ _ ?_; clear hK K) | refine X.seq rfl ?_ | refine X.region rfl (fun K hK => ?_) | refine X.skip rfl ?_ | refine X.ret rfl ?_ | (refine X.ite rfl rfl (fun hc => ?_); (first | (with_reducible refine Xb.caseN hc (fun h => ?_) (fun h => ?_))) <;> clear hc))
      any_goals (exfalso; omega)
      · refine ret_two (by first | exact .inr rfl | exact .inl rfl) Try.results6 ⟨_, rfl, LoadV.whole (te rfl) rfl (List.Mem.tail _ (List.Mem.tail _ (List.Mem.tail _ (List.Mem.tail _ (List.Mem.tail _ (List.Mem.tail _ (List.Mem.tail _ (List.Mem.head _)))))))) rfl⟩ rfl (H' := [rLooks (putDk D x) t6 k6, rInt D.bales t4 k4, rInt D.cls t5 k5, rAges D.room t1 k1, rBoxes D.room t2 k2, rMats D.room t3 k3] ++ H) (by (repeat (first | exact List.Sublist.refl _ | apply List.Sublist.cons_cons | apply List.Sublist.cons)); done) ?_
        have e : gputF D x = (putDk D x, 0) := by unfold gputF; rw [if_pos hr, if_neg (by omega), if_pos hr']
        unfold ProgD; rw [e]
        exact ⟨_, _, rfl, rfl, .inr ⟨t1, k1, t2, k2, t3, k3, t4, k4, t5, k5, t6, k6, rfl, List.perm_append_comm (l₁ := [_]) (l₂ := [_, _, _, _, _])⟩⟩
      · refine ret_two (by first | exact .inr rfl | exact .inl rfl) Try.results6 ⟨_, rfl, LoadV.whole (te rfl) rfl (List.Mem.tail _ (List.Mem.tail _ (List.Mem.tail _ (List.Mem.tail _ (List.Mem.tail _ (List.Mem.tail _ (List.Mem.tail _ (List.Mem.head _)))))))) rfl⟩ rfl (H' := H) (by (repeat (first | exact List.Sublist.refl _ | apply List.Sublist.cons)); done) ?_
        have e : gputF D x = (Dz, 21) := by unfold gputF; rw [if_pos hr, if_neg (by omega), if_neg hr']
        unfold ProgD; rw [e]
        exact ⟨pzd, [], rfl, rfl, .inl ⟨rfl, rfl, rfl⟩⟩
  · refine ret_two (by first | exact .inr rfl | exact .inl rfl) Try.results6 ⟨_, rfl, LoadV.whole (te rfl) rfl (List.Mem.head _) rfl⟩ rfl (H' := H) (by (repeat (first | exact List.Sublist.refl _ | apply List.Sublist.cons)); done) ?_
    have e : gputF D x = (Dz, 20) := by unfold gputF; rw [if_neg hr]
    unfold ProgD; rw [e]
    exact ⟨pzd, [], rfl, rfl, .inl ⟨rfl, rfl, rfl⟩⟩
end Go.Proofs.Ytminkpgacomicab
end
section
set_option linter.unusedVariables false
set_option linter.unusedSimpArgs false
namespace Go.Proofs.Ytminkpgacomicab
open Go Go.Fw
set_option maxRecDepth 10000
noncomputable instance : DecidableEq Lk := fun _ _ => Classical.propDecidable _
noncomputable instance : DecidableEq Dk := fun _ _ => Classical.propDecidable _
theorem eqLk (d : Nat) (e f : Lk) (w : World) : (Op.equalIn (d + 3) 32 (.agg (cLk e).toArray) (.agg (cLk f).toArray)).run Try.prog w = .ok (decide (e = f)) w := by
  have hS : Try.prog.underlying 32 = some (.struct (Try.prog.fieldsOf 32)) := by kernel_rfl
  rw [run_equalIn_agg w (d + 2) 32 _ _ hS (by kernel_rfl)]
  simp only [Program.fieldsOf, Try.underlying32]
  go_simp
  obtain ⟨e1, e2, e3, e4, e5, e6⟩ := e
  obtain ⟨f1, f2, f3, f4, f5, f6⟩ := f
  by_cases h1 : e1 = f1
  · by_cases h2 : e2 = f2
    · by_cases h3 : e3 = f3
      · by_cases h4 : e4 = f4
        · by_cases h5 : e5 = f5 <;> by_cases h6 : e6 = f6 <;> simp [cLk, eqI, Result.andThen, h1, h2, h3, h4, h5, h6]
        · simp [cLk, eqI, Result.andThen, h1, h2, h3, h4]
      · simp [cLk, eqI, Result.andThen, h1, h2, h3]
    · simp [cLk, eqI, Result.andThen, h1, h2]
  · simp [cLk, eqI, Result.andThen, h1]
theorem sameIntsD_spec (l m : List Int) (a a' : Option Addr) (c c' : Nat) (H : List Row) (hl : SlE H a cI 1 l) (hm : SlE H a' cI 1 m) (hb : l.length ≤ 9223372036854775807) : Fc Try.prog 12 [.slice a l.length c, .slice a' m.length c'] H (fun v H' => v = .bool (decide (l = m)) ∧ H' = H) := by
  refine Fc.mk (callable Try.call12) Try.func12 rfl Try.ntmps12 rfl ?_; dsimp only [fr]
  repeat' (first | (refine XO.op rfl ?_; (first | ((first | refine Xo.ng rfl ?_); (first | (refine Xg.call (EnF.st rfl (by (repeat (first | exact Args.nil | refine Args.cons rfl ?_)); done)) rfl rfl (sameInts_spec l m a a' c c' _ hl hm hb) ?_; rintro _ H9 ⟨rfl, hH9⟩; subst H9) | (refine Xg.ev (EvF.move rfl rfl) rfl rfl ?_) | (refine Xg.ev (EvF.assign rfl rfl) rfl rfl ?_))))) | (refine XO.done rfl ?_; refine hK _ _ ?_; clear hK K) | refine X.seq rfl ?_ | refine X.region rfl (fun K hK => ?_) | refine X.ret rfl ?_)
  refine ret_one (by first | exact .inr rfl | exact .inl rfl) Try.results12 rfl (H' := H) (by (repeat (first | exact List.Sublist.refl _ | apply List.Sublist.cons)); done) ?_; simp only [and_true, true_and]
def greatD (D : Dk) : Prop := great D.room ∨ D.bales.length > 15 ∨ D.cls.length > 10 ∨ D.looks.length > 30
noncomputable instance (D : Dk) : Decidable (greatD D) := Classical.propDecidable _
set_option maxHeartbeats 4000000 in
theorem greatD_spec (D : Dk) (p : Pd) (H : List Row) : Fc Try.prog 4 [.agg (cDk D p).toArray] H (fun v H' => v = .bool (decide (greatD D)) ∧ H' = H) := by
  obtain ⟨pr, a4, c4, a5, c5, a6, c6⟩ := p
  refine Fc.mk (callable Try.call4) Try.func4 rfl Try.ntmps4 rfl ?_; dsimp only [fr]
  repeat' (first | (refine XO.op rfl ?_; (first | ((first | refine Xo.ng rfl ?_ | (refine Xo.g rfl rfl ?_; with_reducible refine Xw.ff ?_)); (first | (refine Xg.call (EnF.st rfl (by (repeat (first | exact Args.nil | refine Args.cons rfl ?_)); done)) rfl rfl (great_spec D.room pr _) ?_; rintro _ H9 ⟨rfl, hH9⟩; subst H9) | (refine Xg.ev (EvF.move rfl rfl) rfl rfl ?_) | (refine Xg.ev (EvF.assign rfl rfl) rfl rfl ?_) | (refine Xg.ev (EvF.pickT rfl rfl rfl) rfl rfl ?_) | (refine Xg.ev (EvF.pickF rfl rfl rfl) rfl rfl ?_) | (refine Xg.ev (EvF.cmp rfl rfl rfl rfl) rfl rfl ?_) | (refine Xg.ev (EvF.fieldAddr rfl rfl (te rfl) rfl (te rfl) (by decide)) rfl rfl ?_) | (refine Xg.ev (EvF.lenSlice rfl rfl (te rfl)) rfl rfl ?_) | (refine Xg.ev (EvF.loadV rfl rfl (LoadV.own (te rfl) rfl (List.Mem.head _) rfl)) rfl rfl ?_) | (refine Xg.ev (EvF.loadV rfl rfl (LoadV.ownAgg (te rfl) rfl (List.Mem.head _) rfl rfl)) rfl rfl ?_) | (refine Xg.st (StF.boxAgg rfl rfl) rfl rfl ?_; rintro _ _ ⟨bx, rfl, rfl⟩))) | (refine Xo.g rfl rfl ?_; (first | (with_reducible refine Xw.tf rfl rfl ?_) | (with_reducible refine Xw.case (fun h => ?_) (fun h => ?_) <;> simp only [h, decide_true, decide_false, Bool.not_true, Bool.not_false, and_self, and_true, true_and, and_false, false_and]))))) | (refine XO.done rfl ?_; refine hK _ _ ?_; clear hK K) | refine X.seq rfl ?_ | refine X.region rfl (fun K hK => ?_) | refine X.ret rfl ?_)
  all_goals (refine ret_one (by first | exact .inr rfl | exact .inl rfl) Try.results4 rfl (H' := H) (by (repeat (first | exact List.Sublist.refl _ | apply List.Sublist.cons)); done) ?_; simp only [and_true, true_and])
  all_goals (congr 1; symm)
  all_goals first
    | exact decide_eq_true (show greatD D from .inl (by assumption))
    | exact decide_eq_true (show greatD D from .inr (.inl (by omega)))
    | exact decide_eq_true (show greatD D from .inr (.inr (.inl (by omega))))
    | exact decide_eq_decide.2 ⟨fun q => by rcases q with q | q | q | q <;> first | contradiction | omega, fun q => .inr (.inr (.inr (by omega)))⟩
set_option maxHeartbeats 4000000 in
theorem sameD_spec (D E : Dk) (p q : Pd) (H : List Row) (hD : DkOk H D p) (hE : DkOk H E q) : Fc Try.prog 10 [.agg (cDk D p).toArray, .agg (cDk E q).toArray] H (fun v H' => v = .bool (decide (D = E)) ∧ H' = H) := by
  have l4 := hD.l4
  have l5 := hD.l5
  have l6 := hD.l6
  have hD2 : ∀ r1 r2, DkOk (r1 :: r2 :: H) D p := fun r1 r2 => hD.sub (fun _ h => List.Mem.tail _ (List.Mem.tail _ h))
  have hE2 : ∀ r1 r2, DkOk (r1 :: r2 :: H) E q := fun r1 r2 => hE.sub (fun _ h => List.Mem.tail _ (List.Mem.tail _ h))
  have m6 := hE.l6
  obtain ⟨pr, a4, c4, a5, c5, a6, c6⟩ := p
  obtain ⟨qr, b4, d4, b5, d5, b6, d6⟩ := q
  refine Fc.mk (callable Try.call10) Try.func10 rfl Try.ntmps10 rfl ?_; dsimp only [fr]
  repeat' (first | (refine XO.op rfl ?_; (first | ((first | refine Xo.ng rfl ?_ | (refine Xo.g rfl rfl ?_; with_reducible refine Xw.ff ?_)); (first | (refine Xg.call (EnF.st rfl (Args.cons rfl (Args.cons rfl Args.nil))) rfl rfl (same_spec D.room E.room pr qr _ (hD2 _ _).room (hE2 _ _).room) ?_; rintro _ H9 ⟨rfl, hH9⟩; subst H9) | (refine Xg.call (EnF.st rfl (Args.cons rfl (Args.cons rfl Args.nil))) rfl rfl (sameIntsD_spec D.bales E.bales _ _ _ _ _ (hD2 _ _).bales (hE2 _ _).bales l4) ?_; rintro _ H9 ⟨rfl, hH9⟩; subst H9) | (refine Xg.call (EnF.st rfl (Args.cons rfl (Args.cons rfl Args.nil))) rfl rfl (sameIntsD_spec D.cls E.cls _ _ _ _ _ (hD2 _ _).cls (hE2 _ _).cls l5) ?_; rintro _ H9 ⟨rfl, hH9⟩; subst H9) | (refine Xg.ev (EvF.move rfl rfl) rfl rfl ?_) | (refine Xg.ev (EvF.assign rfl rfl) rfl rfl ?_) | (refine Xg.ev (EvF.pickT rfl rfl rfl) rfl rfl ?_) | (refine Xg.ev (EvF.pickF rfl rfl rfl) rfl rfl ?_) | (refine Xg.ev (EvF.cmp rfl rfl rfl rfl) rfl rfl ?_) | (refine Xg.ev (EvF.not rfl rfl) rfl rfl ?_) | (refine Xg.ev (EvF.fieldAddr rfl rfl (te rfl) rfl (te rfl) (by decide)) rfl rfl ?_) | (refine Xg.ev (EvF.lenSlice rfl rfl (te rfl)) rfl rfl ?_) | (refine Xg.ev (EvF.loadV rfl rfl (LoadV.own (te rfl) rfl (List.Mem.head _) rfl)) rfl rfl ?_) | (refine Xg.ev (EvF.loadV rfl rfl (LoadV.own (te rfl) rfl (List.Mem.tail _ (List.Mem.head _)) rfl)) rfl rfl ?_) | (refine Xg.ev (EvF.loadV rfl rfl (LoadV.ownAgg (te rfl) rfl (List.Mem.head _) rfl rfl)) rfl rfl ?_) | (refine Xg.ev (EvF.loadV rfl rfl (LoadV.ownAgg (te rfl) rfl (List.Mem.tail _ (List.Mem.head _)) rfl rfl)) rfl rfl ?_) | (refine Xg.st (StF.boxAgg rfl rfl) rfl rfl ?_; rintro _ _ ⟨bx, rfl, rfl⟩))) | (refine Xo.g rfl rfl ?_; (first | (with_reducible refine Xw.tf rfl rfl ?_) | (with_reducible refine Xw.caseN (fun h => ?_) (fun h => ?_) <;> simp only [h, decide_true, decide_false, Bool.not_true, Bool.not_false, and_self, and_true, true_and, and_false, false_and]))))) | (refine XO.done rfl ?_; refine hK _ _ ?_; clear hK K) | refine X.seq rfl ?_ | refine X.region rfl (fun K hK => ?_) | refine X.block rfl ?_ | refine X.skip rfl ?_ | refine X.ret rfl ?_ | (refine X.ite rfl rfl (fun hc => ?_); (first | (with_reducible refine Xb.t hc ?_) | (with_reducible refine Xb.caseN hc (fun h => ?_) (fun h => ?_))) <;> clear hc))
  any_goals (refine ret_one (by first | exact .inr rfl | exact .inl rfl) Try.results10 rfl (H' := H) (by (repeat (first | exact List.Sublist.refl _ | apply List.Sublist.cons)); done) ?_; simp only [and_true, true_and]; congr 1; symm; exact decide_eq_false (fun hh => by subst hh; first | omega | contradiction | exact absurd rfl (by assumption)))
  rename_i bx1 e1 e2 e3 e4
  have e5 := h
  refine X.lp rfl (fun m F' H' => ∃ k : Nat, m = D.looks.length - k ∧ k ≤ D.looks.length ∧ (D.looks = E.looks ↔ D.looks.drop k = E.looks.drop k) ∧ ⟨bx, 0, cDk E ⟨qr, b4, d4, b5, d5, b6, d6⟩, some 30, 9⟩ :: ⟨bx1, 0, cDk D ⟨pr, a4, c4, a5, c5, a6, c6⟩, some 30, 9⟩ :: H = H' ∧
      F' = [(2, .pointer (some ⟨bx1, 0, none⟩)), (3, .pointer (some ⟨bx, 0, none⟩)), (5, .int .i64 k)])
    D.looks.length [(2, .pointer (some ⟨bx1, 0, none⟩)), (3, .pointer (some ⟨bx, 0, none⟩)), (5, .int .i64 (0 : Nat))] _ (by (repeat (first | exact Sub.nil _ | refine Sub.cons rfl ?_)); done) (List.Sublist.refl _) ⟨0, by omega, by omega, by simp, rfl, rfl⟩ ?_
  rintro _ _ _ ⟨k, rfl, hk, hn, rfl, rfl⟩
  repeat' (first | (refine XO.op rfl ?_; (first | ((first | refine Xo.ng rfl ?_); (first | (refine Xg.ev (EvF.move rfl rfl) rfl rfl ?_) | (refine Xg.ev (EvF.assign rfl rfl) rfl rfl ?_) | (refine Xg.ev (EvF.cmp rfl rfl rfl rfl) rfl rfl ?_) | (refine Xg.ev (EvF.fieldAddr rfl rfl (te rfl) rfl (te rfl) (by decide)) rfl rfl ?_) | (refine Xg.ev (EvF.lenSlice rfl rfl (te rfl)) rfl rfl ?_) | (refine Xg.ev (EvF.loadV rfl rfl (LoadV.own (te rfl) rfl (List.Mem.tail _ (List.Mem.head _)) rfl)) rfl rfl ?_))))) | (refine XO.done rfl ?_; refine hK _ _ ?_; clear hK K) | (refine XQ.op rfl ?_; (first | ((first | refine Yo.ng rfl ?_); (first | (refine Yg.ev (EvF.move rfl rfl) rfl rfl ?_) | (refine Yg.ev (EvF.fieldAddr rfl rfl (te rfl) rfl (te rfl) (by decide)) rfl rfl ?_) | (refine Yg.ev (EvF.loadV rfl rfl (LoadV.own (te rfl) rfl (List.Mem.tail _ (List.Mem.head _)) rfl)) rfl rfl ?_))))) | refine X.seq rfl ?_ | refine X.region rfl (fun K hK => ?_) | refine X.regionD rfl mixed (by kernel_rfl) (fun K hK => ?_) | refine X.block rfl ?_ | (refine X.brk rfl ?_; repeat (first | refine blockX_hit rfl ?_ | refine blockX_miss (by decide) ?_)) | refine X.skip rfl ?_ | refine X.ret rfl ?_ | (refine X.ite rfl rfl (fun hc => ?_); (first | (with_reducible refine Xb.case hc (fun h => ?_) (fun h => ?_))) <;> clear hc))
  · obtain ⟨b, off, e, rfl, he⟩ := hD.looks.elem (i := k) (by omega)
    obtain ⟨b', off', f, rfl, hf⟩ := hE.looks.elem (i := k) (by omega)
    rw [drop_cons he, drop_cons hf, List.cons.injEq] at hn
    repeat' (first | (refine XO.op rfl ?_; (first | ((first | refine Xo.ng rfl ?_); (first | (refine Xg.ev (EvF.move rfl rfl) rfl rfl ?_) | (refine Xg.ev (EvF.assign rfl rfl) rfl rfl ?_) | (refine Xg.ev (EvF.add64 rfl rfl rfl (by omega) (by omega)) rfl rfl ?_))))) | (refine XO.done rfl ?_; refine hK _ _ ?_; clear hK K) | (refine XQ.op rfl ?_; (first | ((first | refine Yo.ng rfl ?_); (first | (refine Yg.ev (EvF.loadV rfl rfl (LoadV.elA0 (hD2 _ _).looks he (te rfl) rfl (fun _ hm => hm) rfl)) rfl rfl ?_) | (refine Yg.ev (EvF.loadV rfl rfl (LoadV.elA0 (hE2 _ _).looks hf (te rfl) rfl (fun _ hm => hm) rfl)) rfl rfl ?_) | (refine Yg.ev (EvF.eqSt rfl rfl rfl (by kernel_rfl) (fun w => eqLk 9997 e f w) rfl) rfl rfl ?_) | (refine Yg.ev (EvF.move rfl rfl) rfl rfl ?_) | (refine Yg.ev (EvF.fieldAddr rfl rfl (te rfl) rfl (te rfl) (by decide)) rfl rfl ?_) | (refine Yg.ev (EvF.indexSlice rfl rfl rfl (te rfl) (te rfl) (by omega) (by omega)) rfl rfl ?_) | (refine Yg.ev (EvF.loadV rfl rfl (LoadV.own (te rfl) rfl (List.Mem.head _) rfl)) rfl rfl ?_))))) | (refine XQ.done rfl ?_; refine hK _ ?_; clear hK K) | refine X.seq rfl ?_ | refine X.region rfl (fun K hK => ?_) | refine X.skip rfl ?_ | refine X.ret rfl ?_ | (refine X.ite rfl rfl (fun hc => ?_); (first | (with_reducible refine Xb.caseN hc (fun h => ?_) (fun h => ?_))) <;> clear hc))
    · refine ret_one (by first | exact .inr rfl | exact .inl rfl) Try.results10 rfl (H' := H) (by (repeat (first | exact List.Sublist.refl _ | apply List.Sublist.cons)); done) ?_; simp only [and_true, true_and]
      congr 1; symm; exact decide_eq_false (fun q => by subst q; exact absurd (hn.1 rfl).1 (by assumption))
    · refine ⟨_, _, _, (by (repeat (first | exact Sub.nil _ | refine Sub.cons rfl ?_)); done), (by (repeat (first | exact List.Sublist.refl _ | apply List.Sublist.cons)); done), ⟨k + 1, rfl, by omega, hn.trans (and_iff_right (by assumption)), rfl, rfl⟩, by omega⟩
  have hC : D.looks = E.looks := hn.2 (by rw [List.drop_eq_nil_of_le (by omega), List.drop_eq_nil_of_le (by omega)])
  refine ret_one (by first | exact .inr rfl | exact .inl rfl) Try.results10 rfl (H' := H) (by (repeat (first | exact List.Sublist.refl _ | apply List.Sublist.cons)); done) ?_; simp only [and_true, true_and]
  congr 1; symm; exact decide_eq_true (by cases D; cases E; simp_all)
end Go.Proofs.Ytminkpgacomicab
end
section
set_option linter.unusedVariables false
set_option linter.unusedSimpArgs false
namespace Go.Proofs.Ytminkpgacomicab
open Go Go.Fw
set_option maxRecDepth 10000
def tsT : List TOp := [⟨some 3, [], [], []⟩, ⟨some 4, [0], [0], []⟩, ⟨some 5, [0, 1], [1], []⟩, ⟨some 6, [], [], []⟩, ⟨some 7, [3], [3], []⟩, ⟨some 8, [], [], []⟩, ⟨some 9, [], [], []⟩, ⟨some 10, [6], [6], []⟩, ⟨some 11, [0, 1, 2, 5, 6, 7], [5, 7], [5]⟩, ⟨some 12, [], [], []⟩, ⟨some 13, [], [], []⟩, ⟨some 14, [10], [10], []⟩, ⟨some 15, [0, 1, 2, 5, 6, 7, 8, 9, 10, 11], [9, 11], [9]⟩, ⟨some 16, [], [], []⟩, ⟨some 17, [], [], []⟩, ⟨some 18, [14], [14], []⟩, ⟨some 19, [0, 1, 2, 5, 6, 7, 8, 9, 10, 11, 12, 13, 14, 15], [13, 15], [13]⟩, ⟨some 20, [0, 1, 2, 3, 4, 5, 6, 7, 8, 9, 10, 11, 12, 13, 14, 15, 16], [2, 4, 8, 12, 16], []⟩, ⟨none, [0, 1, 2, 3, 4, 5, 6, 7, 8, 9, 10, 11, 12, 13, 14, 15, 16, 17], [17], [19]⟩, ⟨none, [], [], []⟩]
def plR (m : M5) : Pl := ⟨some ⟨m.m1.1, 0, none⟩, m.m1.2, some ⟨m.m2.1, 0, none⟩, m.m2.2, some ⟨m.m3.1, 0, none⟩, m.m3.2⟩
def plT (m : M5) (q4 q5 q6 : Nat × Nat) : Pd := ⟨plR m, some ⟨q4.1, 0, none⟩, q4.2, some ⟨q5.1, 0, none⟩, q5.2, some ⟨q6.1, 0, none⟩, q6.2⟩
noncomputable def valT (b1 : Nat) (D : Dk) (p : Pd) (k : Nat) (env : Env) : Value :=
  match k with
  | 0 => .pointer (some ⟨b1, 0, none⟩)
  | 1 => .agg (cRm D.room p.pr).toArray
  | 2 => .agg (cRm D.room (plR (mem5 (env 2)))).toArray
  | 3 => .pointer (some ⟨b1, 5, none⟩)
  | 4 => .int .i64 D.lean
  | 5 => .slice (some ⟨(env 5).1, 0, none⟩) 0 0
  | 6 => .pointer (some ⟨b1, 6, none⟩)
  | 7 => .slice p.a4 D.bales.length p.c4
  | 8 => .slice (some ⟨(env 8).1, 0, none⟩) D.bales.length (env 8).2
  | 9 => .slice (some ⟨(env 9).1, 0, none⟩) 0 0
  | 10 => .pointer (some ⟨b1, 7, none⟩)
  | 11 => .slice p.a5 D.cls.length p.c5
  | 12 => .slice (some ⟨(env 12).1, 0, none⟩) D.cls.length (env 12).2
  | 13 => .slice (some ⟨(env 13).1, 0, none⟩) 0 0
  | 14 => .pointer (some ⟨b1, 8, none⟩)
  | 15 => .slice p.a6 D.looks.length p.c6
  | 16 => .slice (some ⟨(env 16).1, 0, none⟩) D.looks.length (env 16).2
  | 17 => .agg (cDk D (plT (mem5 (env 2)) (env 8) (env 12) (env 16))).toArray
  | _ => undef
noncomputable def rowsT (b2 : Nat) (D : Dk) (k : Nat) (env : Env) : List Row :=
  match k with
  | 2 => [rAges D.room (mem5 (env 2)).m1.1 (mem5 (env 2)).m1.2, rBoxes D.room (mem5 (env 2)).m2.1 (mem5 (env 2)).m2.2, rMats D.room (mem5 (env 2)).m3.1 (mem5 (env 2)).m3.2]
  | 5 => [⟨(env 5).1, 0, [], some 3, 0⟩]
  | 8 => [⟨(env 8).1, 0, D.bales.flatMap cI, some 3, (env 8).2 * 1⟩]
  | 9 => [⟨(env 9).1, 0, [], some 3, 0⟩]
  | 12 => [⟨(env 12).1, 0, D.cls.flatMap cI, some 3, (env 12).2 * 1⟩]
  | 13 => [⟨(env 13).1, 0, [], some 32, 0⟩]
  | 16 => [⟨(env 16).1, 0, D.looks.flatMap cLk, some 32, (env 16).2 * 6⟩]
  | 18 => [⟨b2, 0, cDk D (plT (mem5 (env 2)) (env 8) (env 12) (env 16)), some 30, 9⟩]
  | 19 => [⟨b2, 0, cZd, some 30, 9⟩]
  | _ => []
theorem locT (b1 b2 : Nat) (D : Dk) (p : Pd) : ∀ k env i q9, i ≠ k → (tAt tsT k).sup.contains i = false → valT b1 D p k (upd env i q9) = valT b1 D p k env ∧ rowsT b2 D k (upd env i q9) = rowsT b2 D k env := by
  intro k env i q hk hs
  have hu : ∀ j, j ≠ i → upd env i q j = env j := fun j hj => by unfold upd; rw [if_neg hj]
  match k, hk, hs with
  | 0, _, _ => exact ⟨rfl, rfl⟩
  | 1, _, _ => exact ⟨rfl, rfl⟩
  | 2, hk, hs => exact ⟨by simp only [valT, hu 2 (fun e => hk e.symm)], by simp only [rowsT, hu 2 (fun e => hk e.symm)]⟩
  | 3, _, _ => exact ⟨rfl, rfl⟩
  | 4, _, _ => exact ⟨rfl, rfl⟩
  | 5, hk, hs => exact ⟨by simp only [valT, hu 5 (fun e => hk e.symm)], by simp only [rowsT, hu 5 (fun e => hk e.symm)]⟩
  | 6, _, _ => exact ⟨rfl, rfl⟩
  | 7, _, _ => exact ⟨rfl, rfl⟩
  | 8, hk, hs => exact ⟨by simp only [valT, hu 8 (fun e => hk e.symm)], by simp only [rowsT, hu 8 (fun e => hk e.symm)]⟩
  | 9, hk, hs => exact ⟨by simp only [valT, hu 9 (fun e => hk e.symm)], by simp only [rowsT, hu 9 (fun e => hk e.symm)]⟩
  | 10, _, _ => exact ⟨rfl, rfl⟩
  | 11, _, _ => exact ⟨rfl, rfl⟩
  | 12, hk, hs => exact ⟨by simp only [valT, hu 12 (fun e => hk e.symm)], by simp only [rowsT, hu 12 (fun e => hk e.symm)]⟩
  | 13, hk, hs => exact ⟨by simp only [valT, hu 13 (fun e => hk e.symm)], by simp only [rowsT, hu 13 (fun e => hk e.symm)]⟩
  | 14, _, _ => exact ⟨rfl, rfl⟩
  | 15, _, _ => exact ⟨rfl, rfl⟩
  | 16, hk, hs => exact ⟨by simp only [valT, hu 16 (fun e => hk e.symm)], by simp only [rowsT, hu 16 (fun e => hk e.symm)]⟩
  | 17, hk, hs => exact ⟨by simp only [valT, hu 2 (by rintro rfl; cases hs), hu 8 (by rintro rfl; cases hs), hu 12 (by rintro rfl; cases hs), hu 16 (by rintro rfl; cases hs)], by simp only [rowsT, hu 2 (by rintro rfl; cases hs), hu 8 (by rintro rfl; cases hs), hu 12 (by rintro rfl; cases hs), hu 16 (by rintro rfl; cases hs)]⟩
  | 18, hk, hs => exact ⟨by simp only [valT, hu 2 (by rintro rfl; cases hs), hu 8 (by rintro rfl; cases hs), hu 12 (by rintro rfl; cases hs), hu 16 (by rintro rfl; cases hs)], by simp only [rowsT, hu 2 (by rintro rfl; cases hs), hu 8 (by rintro rfl; cases hs), hu 12 (by rintro rfl; cases hs), hu 16 (by rintro rfl; cases hs)]⟩
  | 19, _, _ => exact ⟨rfl, rfl⟩
  | _ + 20, _, _ => exact ⟨rfl, rfl⟩
set_option maxHeartbeats 4000000 in
theorem twinD_spec (D : Dk) (p : Pd) (H : List Row) (hD : DkOk H D p) (h1 : D.room.ages.length ≤ 1000000) (h2 : D.room.boxes.length ≤ 1000000) (h3 : D.room.mats.length ≤ 1000000) (h4 : D.bales.length ≤ 1000000) (h5 : D.cls.length ≤ 1000000) (h6 : D.looks.length ≤ 1000000) :
    Fc Try.prog 5 [.agg (cDk D p).toArray] H (fun v H' => ∃ t1 k1 t2 k2 t3 k3 t4 k4 t5 k5 t6 k6, v = .agg (cDk D (plD t1 k1 t2 k2 t3 k3 t4 k4 t5 k5 t6 k6)).toArray ∧
      H' = rAges D.room t1 k1 :: rBoxes D.room t2 k2 :: rMats D.room t3 k3 :: rInt D.bales t4 k4 :: rInt D.cls t5 k5 :: rLooks D t6 k6 :: H) := by
  have hs : ∀ {S : List Row} {r1 : Row} (Z : List Row), (∀ r ∈ r1 :: H, r ∈ S) → DkOk (Z ++ S) D p := fun Z hS => hD.sub (fun r hr => List.mem_append_right _ (hS r (List.mem_cons_of_mem _ hr)))
  refine Fc.mk (callable Try.call5) Try.func5 rfl Try.ntmps5 rfl ?_; dsimp only [fr]
  refine X.seq rfl ?_; refine X.region rfl (fun K hK => ?_); repeat' (first | (refine XO.op rfl ?_; (first | ((first | refine Xo.ng rfl ?_); (first | (refine Xg.st (StF.boxAgg rfl rfl) rfl rfl ?_; rintro _ _ ⟨bx, rfl, rfl⟩) | (refine Xg.st (StF.alloc rfl Try.zeroValue30 rfl) rfl rfl ?_; rintro _ _ ⟨bx, rfl, rfl⟩))))) | (refine XO.done rfl ?_; refine hK _ _ ?_; clear hK K))
  rename_i b1
  rename Nat => b2
  refine X.seq rfl ?_
  refine X.regionOb tsT [1, 2] [(1, .pointer (some ⟨b1, 0, none⟩)), (2, .pointer (some ⟨b2, 0, none⟩))] (valT b1 D p) (rowsT b2 D) (fun _ => (0, 0)) (⟨b1, 0, cDk D p, some 30, 9⟩ :: H) rfl mixed (by (repeat (first | exact Sub.nil _ | refine Sub.cons rfl ?_)); done) rfl (by kernel_rfl) (locT b1 b2 D p) (List.Sublist.refl _) ?_ ?_
  · repeat' (first | exact AllF.done rfl | (refine AllF.step rfl ?_ ?_; · (first | fail | ((first | refine Ob.ng rfl ?_); (first | exact ObK.pure (fun env R hR => by exact ⟨_, EvF.fieldAddr rfl rfl (te rfl) rfl (te rfl) (by decide), rfl⟩) rfl (fun _ => rfl) | exact ObK.pure (fun env R hR => by exact ⟨_, EvF.loadV rfl rfl (LoadV.own (te rfl) rfl (hR _ (List.Mem.head _)) rfl), rfl⟩) rfl (fun _ => rfl) | exact ObK.pure (fun env R hR => by exact ⟨_, EvF.loadV rfl rfl (LoadV.ownAgg (te rfl) rfl (hR _ (List.Mem.head _)) rfl rfl), rfl⟩) rfl (fun _ => rfl) | (exact fun env S hS => (OpF.call (EnF.st rfl (by (repeat (first | exact Args.nil | refine Args.cons rfl ?_)); done)) (twin_spec D.room p.pr _ (hs [] hS).room h1 h2 h3)).mono (fun v H' ⟨t1, k1, t2, k2, t3, k3, hv, hH⟩ => ⟨enc5 ⟨(t1, k1), (t2, k2), (t3, k3), (0, 0), (0, 0)⟩, fun _ => by (show v = .agg (cRm D.room (plR (mem5 (enc5 ⟨(t1, k1), (t2, k2), (t3, k3), (0, 0), (0, 0)⟩)))).toArray; rw [mem5_enc5]; exact hv), by (show List.Perm H' ([rAges D.room (mem5 (enc5 ⟨(t1, k1), (t2, k2), (t3, k3), (0, 0), (0, 0)⟩)).m1.1 (mem5 (enc5 ⟨(t1, k1), (t2, k2), (t3, k3), (0, 0), (0, 0)⟩)).m1.2, rBoxes D.room (mem5 (enc5 ⟨(t1, k1), (t2, k2), (t3, k3), (0, 0), (0, 0)⟩)).m2.1 (mem5 (enc5 ⟨(t1, k1), (t2, k2), (t3, k3), (0, 0), (0, 0)⟩)).m2.2, rMats D.room (mem5 (enc5 ⟨(t1, k1), (t2, k2), (t3, k3), (0, 0), (0, 0)⟩)).m3.1 (mem5 (enc5 ⟨(t1, k1), (t2, k2), (t3, k3), (0, 0), (0, 0)⟩)).m3.2] ++ _); rw [hH, mem5_enc5]; exact List.Perm.refl _)⟩)) | (exact fun env S hS => (StF.buildNil rfl el55).op.mono (fun v H' ⟨b, hv, hH⟩ => ⟨(b, 0), fun _ => hv, by rw [hH]; exact List.Perm.refl _⟩)) | (exact fun env S hS => (StF.buildNil rfl elLk).op.mono (fun v H' ⟨b, hv, hH⟩ => ⟨(b, 0), fun _ => hv, by rw [hH]; exact List.Perm.refl _⟩)) | (exact fun env S hS => (StF.appendSl (i := 0) rfl el55 rfl rfl rfl (hs _ hS).bales (fun e _ => one_i e) rfl (by decide) (by omega)).op.mono (fun v H' ⟨b, c, hv, hH⟩ => ⟨(b, c), fun _ => by rw [hv, Nat.zero_add]; rfl, by rw [hH]; exact List.Perm.refl _⟩)) | (exact fun env S hS => (StF.appendSl (i := 0) rfl el55 rfl rfl rfl (hs _ hS).cls (fun e _ => one_i e) rfl (by decide) (by omega)).op.mono (fun v H' ⟨b, c, hv, hH⟩ => ⟨(b, c), fun _ => by rw [hv, Nat.zero_add]; rfl, by rw [hH]; exact List.Perm.refl _⟩)) | (exact fun env S hS => (StF.appendSl (i := 0) rfl elLk rfl rfl rfl (hs _ hS).looks (fun e _ => one_lk e) rfl (by decide) (by omega)).op.mono (fun v H' ⟨b, c, hv, hH⟩ => ⟨(b, c), fun _ => by rw [hv, Nat.zero_add]; rfl, by rw [hH]; exact List.Perm.refl _⟩)) | (exact ObK.pure (fun env R hR => ⟨_, EvF.build (cs := cDk D (plT (mem5 (env 2)) (env 8) (env 12) (env 16))) rfl (ArgsP.cons rfl (ArgsP.cons rfl (ArgsP.cons rfl (ArgsP.cons rfl (ArgsP.cons rfl ArgsP.nil))))) (te rfl) (Places.cons (te rfl) (Places.cons (te rfl) (Places.cons (te rfl) (Places.cons (te rfl) (Places.cons (te rfl) Places.nil))))) Try.zeroValue30 rfl, rfl⟩) rfl (fun _ => rfl)) | (exact fun env S hS => (StF.storeAll (i := 0) (cs := cZd) (vs := cDk D (plT (mem5 (env 2)) (env 8) (env 12) (env 16))) (el := 30) (cap := 9) rfl rfl rfl (te rfl) rfl rfl rfl rfl).op.mono (fun v H' ⟨hv, hH⟩ => ⟨(0, 0), fun h => absurd rfl h, by rw [hH]; exact List.Perm.refl _⟩)))))))
  · intro env t ha hv
    refine ⟨[(2, .pointer (some ⟨b2, 0, none⟩))], ha.sub (by (repeat (first | exact Sub.nil _ | refine Sub.cons rfl ?_)); done), ?_⟩
    show X _ _ _ _ ([rAges D.room (mem5 (env 2)).m1.1 (mem5 (env 2)).m1.2, rBoxes D.room (mem5 (env 2)).m2.1 (mem5 (env 2)).m2.2, rMats D.room (mem5 (env 2)).m3.1 (mem5 (env 2)).m3.2] ++ (rInt D.bales (env 8).1 (env 8).2 :: rInt D.cls (env 12).1 (env 12).2 :: rLooks D (env 16).1 (env 16).2 :: ⟨b2, 0, cDk D (plT (mem5 (env 2)) (env 8) (env 12) (env 16)), some 30, 9⟩ :: ⟨b1, 0, cDk D p, some 30, 9⟩ :: H)) _
    generalize mem5 (env 2) = m
    repeat' (first | refine X.ret rfl ?_)
    exact ret_one (.inr rfl) Try.results5 ⟨_, rfl, LoadV.whole (te rfl) rfl (List.Mem.tail _ (List.Mem.tail _ (List.Mem.tail _ (List.Mem.tail _ (List.Mem.tail _ (List.Mem.tail _ (List.Mem.head _))))))) rfl⟩ (H' := rAges D.room m.m1.1 m.m1.2 :: rBoxes D.room m.m2.1 m.m2.2 :: rMats D.room m.m3.1 m.m3.2 :: rInt D.bales (env 8).1 (env 8).2 :: rInt D.cls (env 12).1 (env 12).2 :: rLooks D (env 16).1 (env 16).2 :: H) (by (repeat (first | exact List.Sublist.refl _ | apply List.Sublist.cons_cons | apply List.Sublist.cons)); done) ⟨m.m1.1, m.m1.2, m.m2.1, m.m2.2, m.m3.1, m.m3.2, (env 8).1, (env 8).2, (env 12).1, (env 12).2, (env 16).1, (env 16).2, rfl, rfl⟩
end Go.Proofs.Ytminkpgacomicab
end
section
set_option linter.unusedVariables false
set_option linter.unusedSimpArgs false
namespace Go.Proofs.Ytminkpgacomicab
open Go Go.Fw
set_option maxRecDepth 10000
theorem idxD_spec (l : List Int) (a : Option Addr) (c : Nat) (x : Int) (H : List Row) (hl : SlE H a cI 1 l) (hb : l.length ≤ 9223372036854775807) :
    Fc Try.prog 42 [.slice a l.length c, .int .i64 x] H (fun v H' => (∃ z, v = .int .i64 z ∧ (z < 0 ↔ x ∉ l)) ∧ H' = H) :=
  (index2_spec l a c x H hl hb).mono (fun v H' ⟨⟨z, hv, hz⟩, hH⟩ => ⟨⟨z, hv, by
    rcases hz with ⟨rfl, hz⟩ | ⟨i, e, rfl, he, hx, _⟩
    · exact ⟨fun _ hm => of_decide_eq_false (hz x hm) rfl, fun _ => by omega⟩
    · exact ⟨fun h => by omega, fun h => absurd (of_decide_eq_true hx ▸ List.mem_of_getElem? he) h⟩⟩, hH⟩)
def woutD (D : Dk) (l : List Int) (k : Nat) : List Lk := (D.looks.take k).filter (fun m => decide (m.number ∉ l))
theorem woutD_in {D : Dk} {l : List Int} {k : Nat} {e : Lk} (he : D.looks[k]? = some e) (h : e.number ∈ l) : woutD D l (k + 1) = woutD D l k := by
  unfold woutD; rw [take_snoc he, List.filter_append]; simp [h]
theorem woutD_out {D : Dk} {l : List Int} {k : Nat} {e : Lk} (he : D.looks[k]? = some e) (h : e.number ∉ l) : woutD D l (k + 1) = woutD D l k ++ [e] := by
  unfold woutD; rw [take_snoc he, List.filter_append]; simp [h]
theorem woutD_len (D : Dk) (l : List Int) (k : Nat) : (woutD D l k).length ≤ D.looks.length := by
  unfold woutD; exact Nat.le_trans (List.length_filter_le _ _) (by rw [List.length_take]; omega)
set_option maxHeartbeats 4000000 in
theorem withoutD_spec (D : Dk) (p : Pd) (l : List Int) (a : Option Addr) (c : Nat) (H : List Row) (hD : DkOk H D p) (hl : SlE H a cI 1 l) (hb : l.length ≤ 1000000) (h1 : D.room.ages.length ≤ 1000000) (h2 : D.room.boxes.length ≤ 1000000) (h3 : D.room.mats.length ≤ 1000000) (h4 : D.bales.length ≤ 1000000) (h5 : D.cls.length ≤ 1000000) (h6 : D.looks.length ≤ 1000000) : Fc Try.prog 21 [.agg (cDk D p).toArray, .slice a l.length c] H (fun v H' =>
    ∃ t1 k1 t2 k2 t3 k3 t4 k4 t5 k5 ao co Z, v = .agg (cDk { D with looks := woutD D l D.looks.length } ⟨⟨some ⟨t1, 0, none⟩, k1, some ⟨t2, 0, none⟩, k2, some ⟨t3, 0, none⟩, k3⟩, some ⟨t4, 0, none⟩, k4, some ⟨t5, 0, none⟩, k5, ao, co⟩).toArray ∧ H' = Z ++ rAges D.room t1 k1 :: rBoxes D.room t2 k2 :: rMats D.room t3 k3 :: rInt D.bales t4 k4 :: rInt D.cls t5 k5 :: H ∧
      ((Z = [] ∧ ao = none ∧ co = 0 ∧ woutD D l D.looks.length = []) ∨ ∃ t6, Z = [⟨t6, 0, (woutD D l D.looks.length).flatMap cLk, some 32, co * 6⟩] ∧ ao = some ⟨t6, 0, none⟩)) := by
  obtain ⟨pr, a4, c4, a5, c5, a6, c6⟩ := p
  have hD2 : ∀ r r', DkOk (r :: r' :: H) D ⟨pr, a4, c4, a5, c5, a6, c6⟩ := fun r r' => hD.sub (fun _ h => List.mem_cons_of_mem _ (List.mem_cons_of_mem _ h))
  refine Fc.mk (callable Try.call21) Try.func21 rfl Try.ntmps21 rfl ?_; dsimp only [fr]
  repeat' (first | (refine XO.op rfl ?_; (first | ((first | refine Xo.ng rfl ?_); (first | (refine Xg.call (EnF.st rfl (by (repeat (first | exact Args.nil | refine Args.cons rfl ?_)); done)) rfl rfl (twinD_spec D _ _ (hD2 _ _) h1 h2 h3 h4 h5 h6) ?_; rintro _ _ ⟨t1, k1, t2, k2, t3, k3, t4, k4, t5, k5, t6, k6, rfl, rfl⟩) | (refine Xg.ev (EvF.loadV rfl rfl (LoadV.own (te rfl) rfl (List.Mem.tail _ (List.Mem.tail _ (List.Mem.tail _ (List.Mem.tail _ (List.Mem.tail _ (List.Mem.tail _ (List.Mem.tail _ (List.Mem.tail _ (List.Mem.head _))))))))) rfl)) rfl rfl ?_) | (refine Xg.ev (EvF.move rfl rfl) rfl rfl ?_) | (refine Xg.ev (EvF.fieldAddr rfl rfl (te rfl) rfl (te rfl) (by decide)) rfl rfl ?_) | (refine Xg.ev (EvF.lenSlice rfl rfl (te rfl)) rfl rfl ?_) | (refine Xg.ev (EvF.loadV rfl rfl (LoadV.whole (te rfl) rfl (List.Mem.tail _ (List.Mem.head _)) rfl)) rfl rfl ?_) | (refine Xg.st (StF.boxAgg rfl rfl) rfl rfl ?_; rintro _ _ ⟨bx, rfl, rfl⟩) | (refine Xg.st (StF.alloc rfl Try.zeroValue30 rfl) rfl rfl ?_; rintro _ _ ⟨bx, rfl, rfl⟩) | (refine Xg.st0 (StF.storeOne (i := 0) rfl rfl rfl rfl (te rfl) rfl rfl (Nat.le_of_ble_eq_true rfl)) rfl ?_; rintro _ _ ⟨rfl, rfl⟩; dsimp only [List.set]) | (refine Xg.st0 (StF.storeAll (i := 0) rfl rfl rfl (te rfl) rfl rfl rfl rfl) rfl ?_; rintro _ _ ⟨rfl, rfl⟩; dsimp only [List.set]))))) | (refine XO.done rfl ?_; refine hK _ _ ?_; clear hK K) | refine X.seq rfl ?_ | refine X.region rfl (fun K hK => ?_) | refine X.block rfl ?_)
  rename_i bz bt
  refine X.lp rfl (fun q F' H' => ∃ (k : Nat) (ao : Option Addr) (co : Nat) (Z : List Row), q = D.looks.length - k ∧ k ≤ D.looks.length ∧ ((Z = [] ∧ ao = none ∧ co = 0 ∧ woutD D l k = []) ∨ ∃ t6, Z = [⟨t6, 0, (woutD D l k).flatMap cLk, some 32, co * 6⟩] ∧ ao = some ⟨t6, 0, none⟩) ∧
      Z ++ (⟨bx, 0, cDk { D with looks := woutD D l k } ⟨⟨some ⟨t1, 0, none⟩, k1, some ⟨t2, 0, none⟩, k2, some ⟨t3, 0, none⟩, k3⟩, some ⟨t4, 0, none⟩, k4, some ⟨t5, 0, none⟩, k5, ao, co⟩, some 30, 9⟩ :: rAges D.room t1 k1 :: rBoxes D.room t2 k2 :: rMats D.room t3 k3 :: rInt D.bales t4 k4 :: rInt D.cls t5 k5 :: ⟨bt, 0, cZd, some 30, 9⟩ :: H) = H' ∧
      F' = [(1, .slice a l.length c), (4, .pointer (some ⟨bt, 0, none⟩)), (5, .pointer (some ⟨bx, 0, none⟩)), (12, .slice a6 D.looks.length c6), (13, .int .i64 D.looks.length), (14, .int .i64 k)])
    D.looks.length [(1, .slice a l.length c), (4, .pointer (some ⟨bt, 0, none⟩)), (5, .pointer (some ⟨bx, 0, none⟩)), (12, .slice a6 D.looks.length c6), (13, .int .i64 D.looks.length), (14, .int .i64 (0 : Nat))] _ (by (repeat (first | exact Sub.nil _ | refine Sub.cons rfl ?_)); done) (by (repeat (first | exact List.Sublist.refl _ | apply List.Sublist.cons_cons | apply List.Sublist.cons)); done) ⟨0, none, 0, [], by omega, by omega, .inl ⟨rfl, rfl, rfl, rfl⟩, rfl, rfl⟩ ?_
  rintro _ _ _ ⟨k, ao, co, Z, rfl, hk, hz, rfl, rfl⟩
  rcases hz with ⟨rfl, rfl, rfl, hw⟩ | ⟨t6, rfl, rfl⟩
  · simp only [hw, List.nil_append]
    repeat' (first | (refine XO.op rfl ?_; (first | ((first | refine Xo.ng rfl ?_); (first | (refine Xg.st0 (StF.storeAll (i := 6) rfl rfl rfl (te rfl) rfl rfl rfl rfl) rfl ?_; rintro _ _ ⟨rfl, rfl⟩; dsimp only [List.set]) | (refine Xg.ev (EvF.cmp rfl rfl rfl rfl) rfl rfl ?_) | (refine Xg.ev (EvF.loadV rfl rfl (LoadV.whole (te rfl) rfl (List.Mem.head _) rfl)) rfl rfl ?_))))) | (refine XO.done rfl ?_; refine hK _ _ ?_; clear hK K) | refine X.seq rfl ?_ | refine X.region rfl (fun K hK => ?_) | refine X.block rfl ?_ | (refine X.brk rfl ?_; repeat (first | refine blockX_hit rfl ?_ | refine blockX_miss (by decide) ?_)) | refine X.skip rfl ?_ | refine X.ret rfl ?_ | (refine X.ite rfl rfl (fun hc => ?_); (first | (with_reducible refine Xb.case hc (fun h => ?_) (fun h => ?_))) <;> clear hc))
    · obtain ⟨b, off, e, rfl, he⟩ := hD.looks.elem (i := k) (by omega)
      repeat' (first | (refine XO.op rfl ?_; (first | ((first | refine Xo.ng rfl ?_); (first | (refine Xg.ev (EvF.loadV rfl rfl (LoadV.elA0 (hD.looks.sub (fun _ hm => by repeat (first | exact hm | apply List.Mem.tail))) he (te rfl) rfl (fun _ hm => hm) rfl)) rfl rfl ?_) | (refine Xg.call (EnF.st rfl (Args.cons rfl (Args.cons rfl Args.nil))) rfl rfl (idxD_spec l a c _ _ (hl.sub (fun _ hm => by repeat (first | exact hm | apply List.Mem.tail))) (by omega)) ?_; rintro _ H9 ⟨⟨z, rfl, hz⟩, hH9⟩; subst H9) | (refine Xg.st (StF.buildOne rfl elLk rfl rfl rfl (by decide) (by decide)) rfl rfl ?_; rintro _ _ ⟨bs, rfl, rfl⟩) | (refine Xg.st (StF.appendNew rfl elLk rfl rfl (by decide) rfl (Rd.own (List.Mem.head _)) (by decide)) rfl rfl ?_; rintro _ _ ⟨bn, kn, rfl, rfl⟩) | (refine Xg.ev (EvF.move rfl rfl) rfl rfl ?_) | (refine Xg.ev (EvF.cmp rfl rfl rfl rfl) rfl rfl ?_) | (refine Xg.ev (EvF.add64 rfl rfl rfl (by omega) (by omega)) rfl rfl ?_) | (refine Xg.ev (EvF.fieldAddr rfl rfl (te rfl) rfl (te rfl) (by decide)) rfl rfl ?_) | (refine Xg.ev (EvF.indexSlice rfl rfl rfl (te rfl) (te rfl) (by omega) (by omega)) rfl rfl ?_) | (refine Xg.ev (EvF.loadV rfl rfl (LoadV.own (te rfl) rfl (List.Mem.head _) rfl)) rfl rfl ?_) | (refine Xg.ev (EvF.loadV rfl rfl (LoadV.own (te rfl) rfl (List.Mem.tail _ (List.Mem.head _)) rfl)) rfl rfl ?_) | (refine Xg.ev (EvF.loadV rfl rfl (LoadV.whole (te rfl) rfl (List.Mem.head _) rfl)) rfl rfl ?_) | (refine Xg.st (StF.alloc rfl Try.zeroValue61 rfl) rfl rfl ?_; rintro _ _ ⟨bx, rfl, rfl⟩) | (refine Xg.st0 (StF.storeAll (i := 0) rfl rfl rfl (te rfl) rfl rfl rfl rfl) rfl ?_; rintro _ _ ⟨rfl, rfl⟩; dsimp only [List.set]) | (refine Xg.st0 (StF.storeOne (i := 3) rfl rfl rfl rfl (te rfl) rfl rfl (Nat.le_of_ble_eq_true rfl)) rfl ?_; rintro _ _ ⟨rfl, rfl⟩; dsimp only [List.set]))))) | (refine XO.done rfl ?_; refine hK _ _ ?_; clear hK K) | refine X.seq rfl ?_ | refine X.region rfl (fun K hK => ?_) | refine X.skip rfl ?_ | (refine X.ite rfl rfl (fun hc => ?_); (first | (with_reducible refine Xb.case hc (fun h => ?_) (fun h => ?_))) <;> clear hc))
      · have h5' := woutD_out he (hz.1 (by assumption))
        rw [hw, List.nil_append] at h5'
        refine ⟨_, _, _, (by (repeat (first | exact Sub.nil _ | refine Sub.cons rfl ?_)); done), ?_, ⟨k + 1, some ⟨bn, 0, none⟩, kn, [⟨bn, 0, (woutD D l (k + 1)).flatMap cLk, some 32, kn * 6⟩], rfl, by omega, .inr ⟨bn, rfl, rfl⟩, rfl, rfl⟩, by omega⟩
        rw [h5']
        exact (by (repeat (first | exact List.Sublist.refl _ | apply List.Sublist.cons_cons | apply List.Sublist.cons)); done)
      · have h5' := woutD_in he (Decidable.not_not.1 (fun q => absurd (hz.2 q) (by assumption)))
        rw [hw] at h5'
        refine ⟨_, _, _, (by (repeat (first | exact Sub.nil _ | refine Sub.cons rfl ?_)); done), ?_, ⟨k + 1, none, 0, [], rfl, by omega, .inl ⟨rfl, rfl, rfl, h5'⟩, rfl, rfl⟩, by omega⟩
        rw [h5']
        exact (by (repeat (first | exact List.Sublist.refl _ | apply List.Sublist.cons)); done)
    · have hfull : woutD D l D.looks.length = [] := by rw [show D.looks.length = k by omega]; exact hw
      refine ret_one (by first | exact .inr rfl | exact .inl rfl) Try.results21 ⟨_, rfl, LoadV.whole (te rfl) rfl (List.Mem.tail _ (List.Mem.tail _ (List.Mem.tail _ (List.Mem.tail _ (List.Mem.tail _ (List.Mem.tail _ (List.Mem.head _))))))) rfl⟩ (H' := rAges D.room t1 k1 :: rBoxes D.room t2 k2 :: rMats D.room t3 k3 :: rInt D.bales t4 k4 :: rInt D.cls t5 k5 :: H) (by (repeat (first | exact List.Sublist.refl _ | apply List.Sublist.cons_cons | apply List.Sublist.cons)); done) ⟨t1, k1, t2, k2, t3, k3, t4, k4, t5, k5, none, 0, [], ?_, rfl, .inl ⟨rfl, rfl, rfl, hfull⟩⟩
      rw [hfull]
  · have hlen : ((woutD D l k).flatMap cLk).length = (woutD D l k).length * 6 := lenLk _
    have hwl := woutD_len D l k
    simp only [List.cons_append, List.nil_append]
    repeat' (first | (refine XO.op rfl ?_; (first | ((first | refine Xo.ng rfl ?_); (first | (refine Xg.st0 (StF.storeAll (i := 7) rfl rfl rfl (te rfl) rfl rfl rfl rfl) rfl ?_; rintro _ _ ⟨rfl, rfl⟩; dsimp only [List.set]) | (refine Xg.ev (EvF.cmp rfl rfl rfl rfl) rfl rfl ?_) | (refine Xg.ev (EvF.loadV rfl rfl (LoadV.whole (te rfl) rfl (List.Mem.tail _ (List.Mem.head _)) rfl)) rfl rfl ?_))))) | (refine XO.done rfl ?_; refine hK _ _ ?_; clear hK K) | refine X.seq rfl ?_ | refine X.region rfl (fun K hK => ?_) | refine X.block rfl ?_ | (refine X.brk rfl ?_; repeat (first | refine blockX_hit rfl ?_ | refine blockX_miss (by decide) ?_)) | refine X.skip rfl ?_ | refine X.ret rfl ?_ | (refine X.ite rfl rfl (fun hc => ?_); (first | (with_reducible refine Xb.case hc (fun h => ?_) (fun h => ?_))) <;> clear hc))
    · obtain ⟨b, off, e, rfl, he⟩ := hD.looks.elem (i := k) (by omega)
      repeat' (first | (refine XO.op rfl ?_; (first | ((first | refine Xo.ng rfl ?_); (first | (refine Xg.ev (EvF.loadV rfl rfl (LoadV.elA0 (hD.looks.sub (fun _ hm => by repeat (first | exact hm | apply List.Mem.tail))) he (te rfl) rfl (fun _ hm => hm) rfl)) rfl rfl ?_) | (refine Xg.call (EnF.st rfl (Args.cons rfl (Args.cons rfl Args.nil))) rfl rfl (idxD_spec l a c _ _ (hl.sub (fun _ hm => by repeat (first | exact hm | apply List.Mem.tail))) (by omega)) ?_; rintro _ H9 ⟨⟨z, rfl, hz⟩, hH9⟩; subst H9) | (refine Xg.st (StF.buildOne rfl elLk rfl rfl rfl (by decide) (by decide)) rfl rfl ?_; rintro _ _ ⟨bs, rfl, rfl⟩) | (refine Xg.st (StF.appendOwn (i := 2) rfl elLk rfl rfl rfl hlen rfl (Rd.own (List.Mem.head _)) rfl (by dsimp only; omega)) rfl rfl ?_; rintro _ _ ⟨bn, kn, rfl, rfl⟩; dsimp only [List.eraseIdx]) | (refine Xg.ev (EvF.move rfl rfl) rfl rfl ?_) | (refine Xg.ev (EvF.cmp rfl rfl rfl rfl) rfl rfl ?_) | (refine Xg.ev (EvF.add64 rfl rfl rfl (by omega) (by omega)) rfl rfl ?_) | (refine Xg.ev (EvF.fieldAddr rfl rfl (te rfl) rfl (te rfl) (by decide)) rfl rfl ?_) | (refine Xg.ev (EvF.indexSlice rfl rfl rfl (te rfl) (te rfl) (by omega) (by omega)) rfl rfl ?_) | (refine Xg.ev (EvF.loadV rfl rfl (LoadV.own (te rfl) rfl (List.Mem.head _) rfl)) rfl rfl ?_) | (refine Xg.ev (EvF.loadV rfl rfl (LoadV.own (te rfl) rfl (List.Mem.tail _ (List.Mem.tail _ (List.Mem.head _))) rfl)) rfl rfl ?_) | (refine Xg.ev (EvF.loadV rfl rfl (LoadV.whole (te rfl) rfl (List.Mem.head _) rfl)) rfl rfl ?_) | (refine Xg.st (StF.alloc rfl Try.zeroValue61 rfl) rfl rfl ?_; rintro _ _ ⟨bx, rfl, rfl⟩) | (refine Xg.st0 (StF.storeAll (i := 0) rfl rfl rfl (te rfl) rfl rfl rfl rfl) rfl ?_; rintro _ _ ⟨rfl, rfl⟩; dsimp only [List.set]) | (refine Xg.st0 (StF.storeOne (i := 3) rfl rfl rfl rfl (te rfl) rfl rfl (Nat.le_of_ble_eq_true rfl)) rfl ?_; rintro _ _ ⟨rfl, rfl⟩; dsimp only [List.set]))))) | (refine XO.done rfl ?_; refine hK _ _ ?_; clear hK K) | refine X.seq rfl ?_ | refine X.region rfl (fun K hK => ?_) | refine X.skip rfl ?_ | (refine X.ite rfl rfl (fun hc => ?_); (first | (with_reducible refine Xb.case hc (fun h => ?_) (fun h => ?_))) <;> clear hc))
      · have h5' := woutD_out he (hz.1 (by assumption))
        have h6' : (woutD D l (k + 1)).length = (woutD D l k).length + 1 := by rw [h5']; simp
        refine ⟨_, _, _, (by (repeat (first | exact Sub.nil _ | refine Sub.cons rfl ?_)); done), ?_, ⟨k + 1, some ⟨bn, 0, none⟩, kn, [⟨bn, 0, (woutD D l (k + 1)).flatMap cLk, some 32, kn * 6⟩], rfl, by omega, .inr ⟨bn, rfl, rfl⟩, rfl, rfl⟩, by omega⟩
        rw [h5', List.flatMap_append]
        unfold cDk
        dsimp only
        rw [List.length_append]
        exact (by (repeat (first | exact List.Sublist.refl _ | apply List.Sublist.cons_cons | apply List.Sublist.cons)); done)
      · have h5' := woutD_in he (Decidable.not_not.1 (fun q => absurd (hz.2 q) (by assumption)))
        refine ⟨_, _, _, (by (repeat (first | exact Sub.nil _ | refine Sub.cons rfl ?_)); done), ?_, ⟨k + 1, some ⟨t6, 0, none⟩, co, _, rfl, by omega, .inr ⟨t6, rfl, rfl⟩, rfl, rfl⟩, by omega⟩
        rw [h5']
        exact (by (repeat (first | exact List.Sublist.refl _ | apply List.Sublist.cons)); done)
    · have hfull : woutD D l D.looks.length = woutD D l k := by rw [show D.looks.length = k by omega]
      rw [hfull]
      refine ret_one (by first | exact .inr rfl | exact .inl rfl) Try.results21 ⟨_, rfl, LoadV.whole (te rfl) rfl (List.Mem.tail _ (List.Mem.tail _ (List.Mem.tail _ (List.Mem.tail _ (List.Mem.tail _ (List.Mem.tail _ (List.Mem.tail _ (List.Mem.head _)))))))) rfl⟩ (H' := ⟨t6, 0, (woutD D l k).flatMap cLk, some 32, co * 6⟩ :: rAges D.room t1 k1 :: rBoxes D.room t2 k2 :: rMats D.room t3 k3 :: rInt D.bales t4 k4 :: rInt D.cls t5 k5 :: H) (by (repeat (first | exact List.Sublist.refl _ | apply List.Sublist.cons_cons | apply List.Sublist.cons)); done) ⟨t1, k1, t2, k2, t3, k3, t4, k4, t5, k5, _, _, _, rfl, rfl, .inr ⟨t6, rfl, rfl⟩⟩
end Go.Proofs.Ytminkpgacomicab
end
section
set_option linter.unusedVariables false
set_option linter.unusedSimpArgs false
namespace Go.Proofs.Ytminkpgacomicab
open Go Go.Fw
set_option maxRecDepth 10000
set_option maxHeartbeats 8000000 in
theorem spoilD_spec (D : Dk) (t1 k1 t2 k2 t3 k3 t4 k4 t5 k5 t6 k6 : Nat) (H : List Row) (l1 : D.room.ages.length ≤ 1000000) (l2 : D.room.boxes.length ≤ 1000000) (l3 : D.room.mats.length ≤ 1000000) (l4 : D.bales.length ≤ 1000000) (l5 : D.cls.length ≤ 1000000) (l6 : D.looks.length ≤ 1000000) :
    Fc Try.prog 11 [.agg (cDk D (plD t1 k1 t2 k2 t3 k3 t4 k4 t5 k5 t6 k6)).toArray] (rAges D.room t1 k1 :: rBoxes D.room t2 k2 :: rMats D.room t3 k3 :: rInt D.bales t4 k4 :: rInt D.cls t5 k5 :: rLooks D t6 k6 :: H) (fun v H' => v = .tuple #[] ∧ H' = H) := by
  have hc1 : (D.room.ages.flatMap cSp).length = D.room.ages.length * 2 := flat_len (fun _ _ => rfl)
  have hc2 : (D.room.boxes.flatMap cBx).length = D.room.boxes.length * 2 := flat_len (fun _ _ => rfl)
  have hc3 : (D.room.mats.flatMap cMt).length = D.room.mats.length * 6 := flat_len (fun _ _ => rfl)
  have hc4 : (D.bales.flatMap cI).length = D.bales.length * 1 := flat_len (fun _ _ => rfl)
  have hc5 : (D.cls.flatMap cI).length = D.cls.length * 1 := flat_len (fun _ _ => rfl)
  have hc6 : (D.looks.flatMap cLk).length = D.looks.length * 6 := flat_len (fun _ _ => rfl)
  unfold rAges rBoxes rMats rInt rLooks
  generalize D.room.ages.flatMap cSp = cs1 at hc1 ⊢
  generalize D.room.boxes.flatMap cBx = cs2 at hc2 ⊢
  generalize D.room.mats.flatMap cMt = cs3 at hc3 ⊢
  generalize D.bales.flatMap cI = cs4 at hc4 ⊢
  generalize D.cls.flatMap cI = cs5 at hc5 ⊢
  generalize D.looks.flatMap cLk = cs6 at hc6 ⊢
  refine Fc.mk (callable Try.call11) Try.func11 rfl Try.ntmps11 rfl ?_; dsimp only [fr]
  refine X.seq rfl ?_; refine X.region rfl (fun K hK => ?_); repeat' (first | (refine XO.op rfl ?_; (first | ((first | refine Xo.ng rfl ?_); (first | (refine Xg.st (StF.boxAgg rfl rfl) rfl rfl ?_; rintro _ _ ⟨bx, rfl, rfl⟩))))) | (refine XO.done rfl ?_; refine hK _ _ ?_; clear hK K))
  rename Nat => b1
  repeat' (first | (refine XO.op rfl ?_; (first | ((first | refine Xo.ng rfl ?_); (first | (refine Xg.ev (EvF.move rfl rfl) rfl rfl ?_) | (refine Xg.ev (EvF.fieldAddr rfl rfl (te rfl) rfl (te rfl) (by decide)) rfl rfl ?_) | (refine Xg.ev (EvF.lenSlice rfl rfl (te rfl)) rfl rfl ?_) | (refine Xg.ev (EvF.loadV rfl rfl (LoadV.own (te rfl) rfl (List.Mem.head _) rfl)) rfl rfl ?_))))) | (refine XO.done rfl ?_; refine hK _ _ ?_; clear hK K) | refine X.seq rfl ?_ | refine X.region rfl (fun K hK => ?_) | refine X.block rfl ?_)
  refine X.lp rfl (fun q F' H' => ∃ (k : Nat) (ds1 : List Value), q = D.room.ages.length - k ∧ k ≤ D.room.ages.length ∧ ds1.length = D.room.ages.length * 2 ∧ ⟨b1, 0, cDk D (plD t1 k1 t2 k2 t3 k3 t4 k4 t5 k5 t6 k6), some 30, 9⟩ :: ⟨t1, 0, ds1, some 57, k1 * 2⟩ :: ⟨t2, 0, cs2, some 59, k2 * 2⟩ :: ⟨t3, 0, cs3, some 61, k3 * 6⟩ :: ⟨t4, 0, cs4, some 3, k4 * 1⟩ :: ⟨t5, 0, cs5, some 3, k5 * 1⟩ :: ⟨t6, 0, cs6, some 32, k6 * 6⟩ :: H = H' ∧ F' = [(1, .pointer (some ⟨b1, 0, none⟩)), (11, .int .i64 D.room.ages.length), (12, .int .i64 k)])
    D.room.ages.length [(1, .pointer (some ⟨b1, 0, none⟩)), (11, .int .i64 D.room.ages.length), (12, .int .i64 (0 : Nat))] _ (by (repeat (first | exact Sub.nil _ | refine Sub.cons rfl ?_)); done) (List.Sublist.refl _) ⟨0, cs1, rfl, Nat.zero_le _, hc1, rfl, rfl⟩ ?_
  rintro _ _ H2 ⟨k, ds1, rfl, hk, hds1, hH, rfl⟩
  subst hH
  repeat' (first | (refine XO.op rfl ?_; (first | ((first | refine Xo.ng rfl ?_); (first | (refine Xg.st0 (StF.storeOne (i := 1) rfl rfl rfl rfl (te rfl) rfl rfl (by rw [hds1]; show 0 + k * 2 + 0 < _; omega)) rfl ?_; rintro _ _ ⟨rfl, rfl⟩; dsimp only [List.set]) | (refine Xg.ev (EvF.move rfl rfl) rfl rfl ?_) | (refine Xg.ev (EvF.assign rfl rfl) rfl rfl ?_) | (refine Xg.ev (EvF.cmp rfl rfl rfl rfl) rfl rfl ?_) | (refine Xg.ev (EvF.add64 rfl rfl rfl (by omega) (by omega)) rfl rfl ?_) | (refine Xg.ev (EvF.fieldAddr rfl rfl (te rfl) rfl (te rfl) (by decide)) rfl rfl ?_) | (refine Xg.ev (EvF.lenSlice rfl rfl (te rfl)) rfl rfl ?_) | (refine Xg.ev (EvF.indexSlice rfl rfl rfl (te rfl) (te rfl) (by omega) (by omega)) rfl rfl ?_) | (refine Xg.ev (EvF.loadV rfl rfl (LoadV.own (te rfl) rfl (List.Mem.head _) rfl)) rfl rfl ?_))))) | (refine XO.done rfl ?_; refine hK _ _ ?_; clear hK K) | refine X.seq rfl ?_ | refine X.region rfl (fun K hK => ?_) | refine X.block rfl ?_ | (refine X.brk rfl ?_; repeat (first | refine blockX_hit rfl ?_ | refine blockX_miss (by decide) ?_)) | refine X.skip rfl ?_ | (refine X.ite rfl rfl (fun hc => ?_); (first | (with_reducible refine Xb.case hc (fun h => ?_) (fun h => ?_))) <;> clear hc))
  · exact ⟨_, [(1, .pointer (some ⟨b1, 0, none⟩)), (11, .int .i64 D.room.ages.length), (12, .int .i64 (k + 1 : Nat))], _, (by (repeat (first | exact Sub.nil _ | refine Sub.cons rfl ?_)); done), List.Sublist.refl _, ⟨k + 1, _, rfl, by omega, by rw [List.length_set]; exact hds1, rfl, rfl⟩, by omega⟩
  clear h hk
  refine X.lp rfl (fun q F' H' => ∃ (k : Nat) (ds2 : List Value), q = D.room.boxes.length - k ∧ k ≤ D.room.boxes.length ∧ ds2.length = D.room.boxes.length * 2 ∧ ⟨b1, 0, cDk D (plD t1 k1 t2 k2 t3 k3 t4 k4 t5 k5 t6 k6), some 30, 9⟩ :: ⟨t1, 0, ds1, some 57, k1 * 2⟩ :: ⟨t2, 0, ds2, some 59, k2 * 2⟩ :: ⟨t3, 0, cs3, some 61, k3 * 6⟩ :: ⟨t4, 0, cs4, some 3, k4 * 1⟩ :: ⟨t5, 0, cs5, some 3, k5 * 1⟩ :: ⟨t6, 0, cs6, some 32, k6 * 6⟩ :: H = H' ∧ F' = [(1, .pointer (some ⟨b1, 0, none⟩)), (25, .int .i64 D.room.boxes.length), (26, .int .i64 k)])
    D.room.boxes.length [(1, .pointer (some ⟨b1, 0, none⟩)), (25, .int .i64 D.room.boxes.length), (26, .int .i64 (0 : Nat))] _ (by (repeat (first | exact Sub.nil _ | refine Sub.cons rfl ?_)); done) (List.Sublist.refl _) ⟨0, cs2, rfl, Nat.zero_le _, hc2, rfl, rfl⟩ ?_
  rintro _ _ H2 ⟨k, ds2, rfl, hk, hds2, hH, rfl⟩
  subst hH
  repeat' (first | (refine XO.op rfl ?_; (first | ((first | refine Xo.ng rfl ?_); (first | (refine Xg.st0 (StF.storeOne (i := 2) rfl rfl rfl rfl (te rfl) rfl rfl (by rw [hds2]; show 0 + k * 2 + 0 < _; omega)) rfl ?_; rintro _ _ ⟨rfl, rfl⟩; dsimp only [List.set]) | (refine Xg.ev (EvF.move rfl rfl) rfl rfl ?_) | (refine Xg.ev (EvF.assign rfl rfl) rfl rfl ?_) | (refine Xg.ev (EvF.cmp rfl rfl rfl rfl) rfl rfl ?_) | (refine Xg.ev (EvF.add64 rfl rfl rfl (by omega) (by omega)) rfl rfl ?_) | (refine Xg.ev (EvF.fieldAddr rfl rfl (te rfl) rfl (te rfl) (by decide)) rfl rfl ?_) | (refine Xg.ev (EvF.lenSlice rfl rfl (te rfl)) rfl rfl ?_) | (refine Xg.ev (EvF.indexSlice rfl rfl rfl (te rfl) (te rfl) (by omega) (by omega)) rfl rfl ?_) | (refine Xg.ev (EvF.loadV rfl rfl (LoadV.own (te rfl) rfl (List.Mem.head _) rfl)) rfl rfl ?_))))) | (refine XO.done rfl ?_; refine hK _ _ ?_; clear hK K) | refine X.seq rfl ?_ | refine X.region rfl (fun K hK => ?_) | refine X.block rfl ?_ | (refine X.brk rfl ?_; repeat (first | refine blockX_hit rfl ?_ | refine blockX_miss (by decide) ?_)) | refine X.skip rfl ?_ | (refine X.ite rfl rfl (fun hc => ?_); (first | (with_reducible refine Xb.case hc (fun h => ?_) (fun h => ?_))) <;> clear hc))
  · exact ⟨_, [(1, .pointer (some ⟨b1, 0, none⟩)), (25, .int .i64 D.room.boxes.length), (26, .int .i64 (k + 1 : Nat))], _, (by (repeat (first | exact Sub.nil _ | refine Sub.cons rfl ?_)); done), List.Sublist.refl _, ⟨k + 1, _, rfl, by omega, by rw [List.length_set]; exact hds2, rfl, rfl⟩, by omega⟩
  clear h hk
  refine X.lp rfl (fun q F' H' => ∃ (k : Nat) (ds3 : List Value), q = D.room.mats.length - k ∧ k ≤ D.room.mats.length ∧ ds3.length = D.room.mats.length * 6 ∧ ⟨b1, 0, cDk D (plD t1 k1 t2 k2 t3 k3 t4 k4 t5 k5 t6 k6), some 30, 9⟩ :: ⟨t1, 0, ds1, some 57, k1 * 2⟩ :: ⟨t2, 0, ds2, some 59, k2 * 2⟩ :: ⟨t3, 0, ds3, some 61, k3 * 6⟩ :: ⟨t4, 0, cs4, some 3, k4 * 1⟩ :: ⟨t5, 0, cs5, some 3, k5 * 1⟩ :: ⟨t6, 0, cs6, some 32, k6 * 6⟩ :: H = H' ∧ F' = [(1, .pointer (some ⟨b1, 0, none⟩)), (39, .int .i64 D.room.mats.length), (40, .int .i64 k)])
    D.room.mats.length [(1, .pointer (some ⟨b1, 0, none⟩)), (39, .int .i64 D.room.mats.length), (40, .int .i64 (0 : Nat))] _ (by (repeat (first | exact Sub.nil _ | refine Sub.cons rfl ?_)); done) (List.Sublist.refl _) ⟨0, cs3, rfl, Nat.zero_le _, hc3, rfl, rfl⟩ ?_
  rintro _ _ H2 ⟨k, ds3, rfl, hk, hds3, hH, rfl⟩
  subst hH
  repeat' (first | (refine XO.op rfl ?_; (first | ((first | refine Xo.ng rfl ?_); (first | (refine Xg.st0 (StF.storeOne (i := 3) rfl rfl rfl rfl (te rfl) rfl rfl (by rw [hds3]; show 0 + k * 6 + 2 < _; omega)) rfl ?_; rintro _ _ ⟨rfl, rfl⟩; dsimp only [List.set]) | (refine Xg.ev (EvF.move rfl rfl) rfl rfl ?_) | (refine Xg.ev (EvF.assign rfl rfl) rfl rfl ?_) | (refine Xg.ev (EvF.cmp rfl rfl rfl rfl) rfl rfl ?_) | (refine Xg.ev (EvF.add64 rfl rfl rfl (by omega) (by omega)) rfl rfl ?_) | (refine Xg.ev (EvF.fieldAddr rfl rfl (te rfl) rfl (te rfl) (by decide)) rfl rfl ?_) | (refine Xg.ev (EvF.lenSlice rfl rfl (te rfl)) rfl rfl ?_) | (refine Xg.ev (EvF.indexSlice rfl rfl rfl (te rfl) (te rfl) (by omega) (by omega)) rfl rfl ?_) | (refine Xg.ev (EvF.loadV rfl rfl (LoadV.own (te rfl) rfl (List.Mem.head _) rfl)) rfl rfl ?_))))) | (refine XO.done rfl ?_; refine hK _ _ ?_; clear hK K) | refine X.seq rfl ?_ | refine X.region rfl (fun K hK => ?_) | refine X.block rfl ?_ | (refine X.brk rfl ?_; repeat (first | refine blockX_hit rfl ?_ | refine blockX_miss (by decide) ?_)) | refine X.skip rfl ?_ | (refine X.ite rfl rfl (fun hc => ?_); (first | (with_reducible refine Xb.case hc (fun h => ?_) (fun h => ?_))) <;> clear hc))
  · exact ⟨_, [(1, .pointer (some ⟨b1, 0, none⟩)), (39, .int .i64 D.room.mats.length), (40, .int .i64 (k + 1 : Nat))], _, (by (repeat (first | exact Sub.nil _ | refine Sub.cons rfl ?_)); done), List.Sublist.refl _, ⟨k + 1, _, rfl, by omega, by rw [List.length_set]; exact hds3, rfl, rfl⟩, by omega⟩
  clear h hk
  refine X.lp rfl (fun q F' H' => ∃ (k : Nat) (ds4 : List Value), q = D.bales.length - k ∧ k ≤ D.bales.length ∧ ds4.length = D.bales.length * 1 ∧ ⟨b1, 0, cDk D (plD t1 k1 t2 k2 t3 k3 t4 k4 t5 k5 t6 k6), some 30, 9⟩ :: ⟨t1, 0, ds1, some 57, k1 * 2⟩ :: ⟨t2, 0, ds2, some 59, k2 * 2⟩ :: ⟨t3, 0, ds3, some 61, k3 * 6⟩ :: ⟨t4, 0, ds4, some 3, k4 * 1⟩ :: ⟨t5, 0, cs5, some 3, k5 * 1⟩ :: ⟨t6, 0, cs6, some 32, k6 * 6⟩ :: H = H' ∧ F' = [(1, .pointer (some ⟨b1, 0, none⟩)), (52, .int .i64 D.bales.length), (53, .int .i64 k)])
    D.bales.length [(1, .pointer (some ⟨b1, 0, none⟩)), (52, .int .i64 D.bales.length), (53, .int .i64 (0 : Nat))] _ (by (repeat (first | exact Sub.nil _ | refine Sub.cons rfl ?_)); done) (List.Sublist.refl _) ⟨0, cs4, rfl, Nat.zero_le _, hc4, rfl, rfl⟩ ?_
  rintro _ _ H2 ⟨k, ds4, rfl, hk, hds4, hH, rfl⟩
  subst hH
  repeat' (first | (refine XO.op rfl ?_; (first | ((first | refine Xo.ng rfl ?_); (first | (refine Xg.st0 (StF.storeOne (i := 4) rfl rfl rfl rfl (te rfl) rfl rfl (by rw [hds4]; show 0 + k * 1 + 0 < _; omega)) rfl ?_; rintro _ _ ⟨rfl, rfl⟩; dsimp only [List.set]) | (refine Xg.ev (EvF.move rfl rfl) rfl rfl ?_) | (refine Xg.ev (EvF.assign rfl rfl) rfl rfl ?_) | (refine Xg.ev (EvF.cmp rfl rfl rfl rfl) rfl rfl ?_) | (refine Xg.ev (EvF.add64 rfl rfl rfl (by omega) (by omega)) rfl rfl ?_) | (refine Xg.ev (EvF.fieldAddr rfl rfl (te rfl) rfl (te rfl) (by decide)) rfl rfl ?_) | (refine Xg.ev (EvF.lenSlice rfl rfl (te rfl)) rfl rfl ?_) | (refine Xg.ev (EvF.indexSlice rfl rfl rfl (te rfl) (te rfl) (by omega) (by omega)) rfl rfl ?_) | (refine Xg.ev (EvF.loadV rfl rfl (LoadV.own (te rfl) rfl (List.Mem.head _) rfl)) rfl rfl ?_))))) | (refine XO.done rfl ?_; refine hK _ _ ?_; clear hK K) | refine X.seq rfl ?_ | refine X.region rfl (fun K hK => ?_) | refine X.block rfl ?_ | (refine X.brk rfl ?_; repeat (first | refine blockX_hit rfl ?_ | refine blockX_miss (by decide) ?_)) | refine X.skip rfl ?_ | (refine X.ite rfl rfl (fun hc => ?_); (first | (with_reducible refine Xb.case hc (fun h => ?_) (fun h => ?_))) <;> clear hc))
  · exact ⟨_, [(1, .pointer (some ⟨b1, 0, none⟩)), (52, .int .i64 D.bales.length), (53, .int .i64 (k + 1 : Nat))], _, (by (repeat (first | exact Sub.nil _ | refine Sub.cons rfl ?_)); done), List.Sublist.refl _, ⟨k + 1, _, rfl, by omega, by rw [List.length_set]; exact hds4, rfl, rfl⟩, by omega⟩
  clear h hk
  refine X.lp rfl (fun q F' H' => ∃ (k : Nat) (ds5 : List Value), q = D.cls.length - k ∧ k ≤ D.cls.length ∧ ds5.length = D.cls.length * 1 ∧ ⟨b1, 0, cDk D (plD t1 k1 t2 k2 t3 k3 t4 k4 t5 k5 t6 k6), some 30, 9⟩ :: ⟨t1, 0, ds1, some 57, k1 * 2⟩ :: ⟨t2, 0, ds2, some 59, k2 * 2⟩ :: ⟨t3, 0, ds3, some 61, k3 * 6⟩ :: ⟨t4, 0, ds4, some 3, k4 * 1⟩ :: ⟨t5, 0, ds5, some 3, k5 * 1⟩ :: ⟨t6, 0, cs6, some 32, k6 * 6⟩ :: H = H' ∧ F' = [(1, .pointer (some ⟨b1, 0, none⟩)), (63, .int .i64 D.cls.length), (64, .int .i64 k)])
    D.cls.length [(1, .pointer (some ⟨b1, 0, none⟩)), (63, .int .i64 D.cls.length), (64, .int .i64 (0 : Nat))] _ (by (repeat (first | exact Sub.nil _ | refine Sub.cons rfl ?_)); done) (List.Sublist.refl _) ⟨0, cs5, rfl, Nat.zero_le _, hc5, rfl, rfl⟩ ?_
  rintro _ _ H2 ⟨k, ds5, rfl, hk, hds5, hH, rfl⟩
  subst hH
  repeat' (first | (refine XO.op rfl ?_; (first | ((first | refine Xo.ng rfl ?_); (first | (refine Xg.st0 (StF.storeOne (i := 5) rfl rfl rfl rfl (te rfl) rfl rfl (by rw [hds5]; show 0 + k * 1 + 0 < _; omega)) rfl ?_; rintro _ _ ⟨rfl, rfl⟩; dsimp only [List.set]) | (refine Xg.ev (EvF.move rfl rfl) rfl rfl ?_) | (refine Xg.ev (EvF.assign rfl rfl) rfl rfl ?_) | (refine Xg.ev (EvF.cmp rfl rfl rfl rfl) rfl rfl ?_) | (refine Xg.ev (EvF.add64 rfl rfl rfl (by omega) (by omega)) rfl rfl ?_) | (refine Xg.ev (EvF.fieldAddr rfl rfl (te rfl) rfl (te rfl) (by decide)) rfl rfl ?_) | (refine Xg.ev (EvF.lenSlice rfl rfl (te rfl)) rfl rfl ?_) | (refine Xg.ev (EvF.indexSlice rfl rfl rfl (te rfl) (te rfl) (by omega) (by omega)) rfl rfl ?_) | (refine Xg.ev (EvF.loadV rfl rfl (LoadV.own (te rfl) rfl (List.Mem.head _) rfl)) rfl rfl ?_))))) | (refine XO.done rfl ?_; refine hK _ _ ?_; clear hK K) | refine X.seq rfl ?_ | refine X.region rfl (fun K hK => ?_) | refine X.block rfl ?_ | (refine X.brk rfl ?_; repeat (first | refine blockX_hit rfl ?_ | refine blockX_miss (by decide) ?_)) | refine X.skip rfl ?_ | (refine X.ite rfl rfl (fun hc => ?_); (first | (with_reducible refine Xb.case hc (fun h => ?_) (fun h => ?_))) <;> clear hc))
  · exact ⟨_, [(1, .pointer (some ⟨b1, 0, none⟩)), (63, .int .i64 D.cls.length), (64, .int .i64 (k + 1 : Nat))], _, (by (repeat (first | exact Sub.nil _ | refine Sub.cons rfl ?_)); done), List.Sublist.refl _, ⟨k + 1, _, rfl, by omega, by rw [List.length_set]; exact hds5, rfl, rfl⟩, by omega⟩
  clear h hk
  refine X.lp rfl (fun q F' H' => ∃ (k : Nat) (ds6 : List Value), q = D.looks.length - k ∧ k ≤ D.looks.length ∧ ds6.length = D.looks.length * 6 ∧ ⟨b1, 0, cDk D (plD t1 k1 t2 k2 t3 k3 t4 k4 t5 k5 t6 k6), some 30, 9⟩ :: ⟨t1, 0, ds1, some 57, k1 * 2⟩ :: ⟨t2, 0, ds2, some 59, k2 * 2⟩ :: ⟨t3, 0, ds3, some 61, k3 * 6⟩ :: ⟨t4, 0, ds4, some 3, k4 * 1⟩ :: ⟨t5, 0, ds5, some 3, k5 * 1⟩ :: ⟨t6, 0, ds6, some 32, k6 * 6⟩ :: H = H' ∧ F' = [(1, .pointer (some ⟨b1, 0, none⟩)), (74, .int .i64 D.looks.length), (75, .int .i64 k)])
    D.looks.length [(1, .pointer (some ⟨b1, 0, none⟩)), (74, .int .i64 D.looks.length), (75, .int .i64 (0 : Nat))] _ (by (repeat (first | exact Sub.nil _ | refine Sub.cons rfl ?_)); done) (List.Sublist.refl _) ⟨0, cs6, rfl, Nat.zero_le _, hc6, rfl, rfl⟩ ?_
  rintro _ _ H2 ⟨k, ds6, rfl, hk, hds6, hH, rfl⟩
  subst hH
  repeat' (first | (refine XO.op rfl ?_; (first | ((first | refine Xo.ng rfl ?_); (first | (refine Xg.st0 (StF.storeOne (i := 6) rfl rfl rfl rfl (te rfl) rfl rfl (by rw [hds6]; show 0 + k * 6 + 5 < _; omega)) rfl ?_; rintro _ _ ⟨rfl, rfl⟩; dsimp only [List.set]) | (refine Xg.ev (EvF.move rfl rfl) rfl rfl ?_) | (refine Xg.ev (EvF.assign rfl rfl) rfl rfl ?_) | (refine Xg.ev (EvF.cmp rfl rfl rfl rfl) rfl rfl ?_) | (refine Xg.ev (EvF.add64 rfl rfl rfl (by omega) (by omega)) rfl rfl ?_) | (refine Xg.ev (EvF.fieldAddr rfl rfl (te rfl) rfl (te rfl) (by decide)) rfl rfl ?_) | (refine Xg.ev (EvF.indexSlice rfl rfl rfl (te rfl) (te rfl) (by omega) (by omega)) rfl rfl ?_) | (refine Xg.ev (EvF.loadV rfl rfl (LoadV.own (te rfl) rfl (List.Mem.head _) rfl)) rfl rfl ?_))))) | (refine XO.done rfl ?_; refine hK _ _ ?_; clear hK K) | refine X.seq rfl ?_ | refine X.region rfl (fun K hK => ?_) | refine X.block rfl ?_ | (refine X.brk rfl ?_; repeat (first | refine blockX_hit rfl ?_ | refine blockX_miss (by decide) ?_)) | refine X.skip rfl ?_ | (refine X.ite rfl rfl (fun hc => ?_); (first | (with_reducible refine Xb.case hc (fun h => ?_) (fun h => ?_))) <;> clear hc))
  · exact ⟨_, [(1, .pointer (some ⟨b1, 0, none⟩)), (74, .int .i64 D.looks.length), (75, .int .i64 (k + 1 : Nat))], _, (by (repeat (first | exact Sub.nil _ | refine Sub.cons rfl ?_)); done), List.Sublist.refl _, ⟨k + 1, _, rfl, by omega, by rw [List.length_set]; exact hds6, rfl, rfl⟩, by omega⟩
  clear h hk
  exact ret_none (by first | exact .inr rfl | exact .inl rfl) Try.results11 (H' := H) (by (repeat (first | exact List.Sublist.refl _ | apply List.Sublist.cons)); done) ⟨rfl, rfl⟩
end Go.Proofs.Ytminkpgacomicab
end
section
set_option linter.unusedVariables false
set_option linter.unusedSimpArgs false
namespace Go.Proofs.Ytminkpgacomicab
open Go Go.Fw
set_option maxRecDepth 10000
set_option maxHeartbeats 8000000 in
theorem spoilD0_spec (H : List Row) : Fc Try.prog 11 [.agg (cDk Dz pzd).toArray] H (fun v H' => v = .tuple #[] ∧ H' = H) := by
  refine Fc.mk (callable Try.call11) Try.func11 rfl Try.ntmps11 rfl ?_; dsimp only [fr]
  refine X.seq rfl ?_; refine X.region rfl (fun K hK => ?_); repeat' (first | (refine XO.op rfl ?_; (first | ((first | refine Xo.ng rfl ?_); (first | (refine Xg.st (StF.boxAgg rfl rfl) rfl rfl ?_; rintro _ _ ⟨bx, rfl, rfl⟩))))) | (refine XO.done rfl ?_; refine hK _ _ ?_; clear hK K))
  rename Nat => b1
  repeat' (first | (refine XO.op rfl ?_; (first | ((first | refine Xo.ng rfl ?_); (first | (refine Xg.ev (EvF.move rfl rfl) rfl rfl ?_) | (refine Xg.ev (EvF.assign rfl rfl) rfl rfl ?_) | (refine Xg.ev (EvF.cmp rfl rfl rfl rfl) rfl rfl ?_) | (refine Xg.ev (EvF.fieldAddr rfl rfl (te rfl) rfl (te rfl) (by decide)) rfl rfl ?_) | (refine Xg.ev (EvF.lenSlice rfl rfl (te rfl)) rfl rfl ?_) | (refine Xg.ev (EvF.loadV rfl rfl (LoadV.own (te rfl) rfl (List.Mem.head _) rfl)) rfl rfl ?_))))) | (refine XO.done rfl ?_; refine hK _ _ ?_; clear hK K) | refine X.seq rfl ?_ | refine X.region rfl (fun K hK => ?_) | refine X.block rfl ?_ | (refine X.brk rfl ?_; repeat (first | refine blockX_hit rfl ?_ | refine blockX_miss (by decide) ?_)) | refine X.skip rfl ?_ | (refine X.ite rfl rfl (fun hc => ?_); (first | (with_reducible refine Xb.case hc (fun h => ?_) (fun h => ?_))) <;> clear hc))
  refine X.lp rfl (fun q F' H' => ⟨b1, 0, cDk Dz pzd, some 30, 9⟩ :: H = H' ∧ F' = [(1, .pointer (some ⟨b1, 0, none⟩)), (11, .int .i64 (0 : Nat)), (12, .int .i64 (0 : Nat))]) 0 [(1, .pointer (some ⟨b1, 0, none⟩)), (11, .int .i64 (0 : Nat)), (12, .int .i64 (0 : Nat))] _ (by (repeat (first | exact Sub.nil _ | refine Sub.cons rfl ?_)); done) (List.Sublist.refl _) ⟨rfl, rfl⟩ ?_
  rintro _ _ H2 ⟨hH, rfl⟩
  subst hH
  repeat' (first | (refine XO.op rfl ?_; (first | ((first | refine Xo.ng rfl ?_); (first | (refine Xg.ev (EvF.move rfl rfl) rfl rfl ?_) | (refine Xg.ev (EvF.assign rfl rfl) rfl rfl ?_) | (refine Xg.ev (EvF.cmp rfl rfl rfl rfl) rfl rfl ?_) | (refine Xg.ev (EvF.fieldAddr rfl rfl (te rfl) rfl (te rfl) (by decide)) rfl rfl ?_) | (refine Xg.ev (EvF.lenSlice rfl rfl (te rfl)) rfl rfl ?_) | (refine Xg.ev (EvF.loadV rfl rfl (LoadV.own (te rfl) rfl (List.Mem.head _) rfl)) rfl rfl ?_))))) | (refine XO.done rfl ?_; refine hK _ _ ?_; clear hK K) | refine X.seq rfl ?_ | refine X.region rfl (fun K hK => ?_) | refine X.block rfl ?_ | (refine X.brk rfl ?_; repeat (first | refine blockX_hit rfl ?_ | refine blockX_miss (by decide) ?_)) | refine X.skip rfl ?_ | (refine X.ite rfl rfl (fun hc => ?_); (first | (with_reducible refine Xb.case hc (fun h => ?_) (fun h => ?_))) <;> clear hc))
  any_goals (exfalso; omega)
  refine X.lp rfl (fun q F' H' => ⟨b1, 0, cDk Dz pzd, some 30, 9⟩ :: H = H' ∧ F' = [(1, .pointer (some ⟨b1, 0, none⟩)), (25, .int .i64 (0 : Nat)), (26, .int .i64 (0 : Nat))]) 0 [(1, .pointer (some ⟨b1, 0, none⟩)), (25, .int .i64 (0 : Nat)), (26, .int .i64 (0 : Nat))] _ (by (repeat (first | exact Sub.nil _ | refine Sub.cons rfl ?_)); done) (List.Sublist.refl _) ⟨rfl, rfl⟩ ?_
  rintro _ _ H2 ⟨hH, rfl⟩
  subst hH
  repeat' (first | (refine XO.op rfl ?_; (first | ((first | refine Xo.ng rfl ?_); (first | (refine Xg.ev (EvF.move rfl rfl) rfl rfl ?_) | (refine Xg.ev (EvF.assign rfl rfl) rfl rfl ?_) | (refine Xg.ev (EvF.cmp rfl rfl rfl rfl) rfl rfl ?_) | (refine Xg.ev (EvF.fieldAddr rfl rfl (te rfl) rfl (te rfl) (by decide)) rfl rfl ?_) | (refine Xg.ev (EvF.lenSlice rfl rfl (te rfl)) rfl rfl ?_) | (refine Xg.ev (EvF.loadV rfl rfl (LoadV.own (te rfl) rfl (List.Mem.head _) rfl)) rfl rfl ?_))))) | (refine XO.done rfl ?_; refine hK _ _ ?_; clear hK K) | refine X.seq rfl ?_ | refine X.region rfl (fun K hK => ?_) | refine X.block rfl ?_ | (refine X.brk rfl ?_; repeat (first | refine blockX_hit rfl ?_ | refine blockX_miss (by decide) ?_)) | refine X.skip rfl ?_ | (refine X.ite rfl rfl (fun hc => ?_); (first | (with_reducible refine Xb.case hc (fun h => ?_) (fun h => ?_))) <;> clear hc))
  any_goals (exfalso; omega)
  refine X.lp rfl (fun q F' H' => ⟨b1, 0, cDk Dz pzd, some 30, 9⟩ :: H = H' ∧ F' = [(1, .pointer (some ⟨b1, 0, none⟩)), (39, .int .i64 (0 : Nat)), (40, .int .i64 (0 : Nat))]) 0 [(1, .pointer (some ⟨b1, 0, none⟩)), (39, .int .i64 (0 : Nat)), (40, .int .i64 (0 : Nat))] _ (by (repeat (first | exact Sub.nil _ | refine Sub.cons rfl ?_)); done) (List.Sublist.refl _) ⟨rfl, rfl⟩ ?_
  rintro _ _ H2 ⟨hH, rfl⟩
  subst hH
  repeat' (first | (refine XO.op rfl ?_; (first | ((first | refine Xo.ng rfl ?_); (first | (refine Xg.ev (EvF.move rfl rfl) rfl rfl ?_) | (refine Xg.ev (EvF.assign rfl rfl) rfl rfl ?_) | (refine Xg.ev (EvF.cmp rfl rfl rfl rfl) rfl rfl ?_) | (refine Xg.ev (EvF.fieldAddr rfl rfl (te rfl) rfl (te rfl) (by decide)) rfl rfl ?_) | (refine Xg.ev (EvF.lenSlice rfl rfl (te rfl)) rfl rfl ?_) | (refine Xg.ev (EvF.loadV rfl rfl (LoadV.own (te rfl) rfl (List.Mem.head _) rfl)) rfl rfl ?_))))) | (refine XO.done rfl ?_; refine hK _ _ ?_; clear hK K) | refine X.seq rfl ?_ | refine X.region rfl (fun K hK => ?_) | refine X.block rfl ?_ | (refine X.brk rfl ?_; repeat (first | refine blockX_hit rfl ?_ | refine blockX_miss (by decide) ?_)) | refine X.skip rfl ?_ | (refine X.ite rfl rfl (fun hc => ?_); (first | (with_reducible refine Xb.case hc (fun h => ?_) (fun h => ?_))) <;> clear hc))
  any_goals (exfalso; omega)
  refine X.lp rfl (fun q F' H' => ⟨b1, 0, cDk Dz pzd, some 30, 9⟩ :: H = H' ∧ F' = [(1, .pointer (some ⟨b1, 0, none⟩)), (52, .int .i64 (0 : Nat)), (53, .int .i64 (0 : Nat))]) 0 [(1, .pointer (some ⟨b1, 0, none⟩)), (52, .int .i64 (0 : Nat)), (53, .int .i64 (0 : Nat))] _ (by (repeat (first | exact Sub.nil _ | refine Sub.cons rfl ?_)); done) (List.Sublist.refl _) ⟨rfl, rfl⟩ ?_
  rintro _ _ H2 ⟨hH, rfl⟩
  subst hH
  repeat' (first | (refine XO.op rfl ?_; (first | ((first | refine Xo.ng rfl ?_); (first | (refine Xg.ev (EvF.move rfl rfl) rfl rfl ?_) | (refine Xg.ev (EvF.assign rfl rfl) rfl rfl ?_) | (refine Xg.ev (EvF.cmp rfl rfl rfl rfl) rfl rfl ?_) | (refine Xg.ev (EvF.fieldAddr rfl rfl (te rfl) rfl (te rfl) (by decide)) rfl rfl ?_) | (refine Xg.ev (EvF.lenSlice rfl rfl (te rfl)) rfl rfl ?_) | (refine Xg.ev (EvF.loadV rfl rfl (LoadV.own (te rfl) rfl (List.Mem.head _) rfl)) rfl rfl ?_))))) | (refine XO.done rfl ?_; refine hK _ _ ?_; clear hK K) | refine X.seq rfl ?_ | refine X.region rfl (fun K hK => ?_) | refine X.block rfl ?_ | (refine X.brk rfl ?_; repeat (first | refine blockX_hit rfl ?_ | refine blockX_miss (by decide) ?_)) | refine X.skip rfl ?_ | (refine X.ite rfl rfl (fun hc => ?_); (first | (with_reducible refine Xb.case hc (fun h => ?_) (fun h => ?_))) <;> clear hc))
  any_goals (exfalso; omega)
  refine X.lp rfl (fun q F' H' => ⟨b1, 0, cDk Dz pzd, some 30, 9⟩ :: H = H' ∧ F' = [(1, .pointer (some ⟨b1, 0, none⟩)), (63, .int .i64 (0 : Nat)), (64, .int .i64 (0 : Nat))]) 0 [(1, .pointer (some ⟨b1, 0, none⟩)), (63, .int .i64 (0 : Nat)), (64, .int .i64 (0 : Nat))] _ (by (repeat (first | exact Sub.nil _ | refine Sub.cons rfl ?_)); done) (List.Sublist.refl _) ⟨rfl, rfl⟩ ?_
  rintro _ _ H2 ⟨hH, rfl⟩
  subst hH
  repeat' (first | (refine XO.op rfl ?_; (first | ((first | refine Xo.ng rfl ?_); (first | (refine Xg.ev (EvF.move rfl rfl) rfl rfl ?_) | (refine Xg.ev (EvF.assign rfl rfl) rfl rfl ?_) | (refine Xg.ev (EvF.cmp rfl rfl rfl rfl) rfl rfl ?_) | (refine Xg.ev (EvF.fieldAddr rfl rfl (te rfl) rfl (te rfl) (by decide)) rfl rfl ?_) | (refine Xg.ev (EvF.lenSlice rfl rfl (te rfl)) rfl rfl ?_) | (refine Xg.ev (EvF.loadV rfl rfl (LoadV.own (te rfl) rfl (List.Mem.head _) rfl)) rfl rfl ?_))))) | (refine XO.done rfl ?_; refine hK _ _ ?_; clear hK K) | refine X.seq rfl ?_ | refine X.region rfl (fun K hK => ?_) | refine X.block rfl ?_ | (refine X.brk rfl ?_; repeat (first | refine blockX_hit rfl ?_ | refine blockX_miss (by decide) ?_)) | refine X.skip rfl ?_ | (refine X.ite rfl rfl (fun hc => ?_); (first | (with_reducible refine Xb.case hc (fun h => ?_) (fun h => ?_))) <;> clear hc))
  any_goals (exfalso; omega)
  refine X.lp rfl (fun q F' H' => ⟨b1, 0, cDk Dz pzd, some 30, 9⟩ :: H = H' ∧ F' = [(1, .pointer (some ⟨b1, 0, none⟩)), (74, .int .i64 (0 : Nat)), (75, .int .i64 (0 : Nat))]) 0 [(1, .pointer (some ⟨b1, 0, none⟩)), (74, .int .i64 (0 : Nat)), (75, .int .i64 (0 : Nat))] _ (by (repeat (first | exact Sub.nil _ | refine Sub.cons rfl ?_)); done) (List.Sublist.refl _) ⟨rfl, rfl⟩ ?_
  rintro _ _ H2 ⟨hH, rfl⟩
  subst hH
  repeat' (first | (refine XO.op rfl ?_; (first | ((first | refine Xo.ng rfl ?_); (first | (refine Xg.ev (EvF.move rfl rfl) rfl rfl ?_) | (refine Xg.ev (EvF.assign rfl rfl) rfl rfl ?_) | (refine Xg.ev (EvF.cmp rfl rfl rfl rfl) rfl rfl ?_) | (refine Xg.ev (EvF.fieldAddr rfl rfl (te rfl) rfl (te rfl) (by decide)) rfl rfl ?_) | (refine Xg.ev (EvF.lenSlice rfl rfl (te rfl)) rfl rfl ?_) | (refine Xg.ev (EvF.loadV rfl rfl (LoadV.own (te rfl) rfl (List.Mem.head _) rfl)) rfl rfl ?_))))) | (refine XO.done rfl ?_; refine hK _ _ ?_; clear hK K) | refine X.seq rfl ?_ | refine X.region rfl (fun K hK => ?_) | refine X.block rfl ?_ | (refine X.brk rfl ?_; repeat (first | refine blockX_hit rfl ?_ | refine blockX_miss (by decide) ?_)) | refine X.skip rfl ?_ | (refine X.ite rfl rfl (fun hc => ?_); (first | (with_reducible refine Xb.case hc (fun h => ?_) (fun h => ?_))) <;> clear hc))
  any_goals (exfalso; omega)
  exact ret_none (by first | exact .inr rfl | exact .inl rfl) Try.results11 (H' := H) (by (repeat (first | exact List.Sublist.refl _ | apply List.Sublist.cons)); done) ⟨rfl, rfl⟩
end Go.Proofs.Ytminkpgacomicab
end
section
set_option linter.unusedVariables false
set_option linter.unusedSimpArgs false
namespace Go.Proofs.Ytminkpgacomicab
open Go Go.Fw
set_option maxRecDepth 10000
def RefD (F : Dk × Int) (H : List Row) (v : Value) (H' : List Row) : Prop := ∃ p Z, v = tupD F.1 p F.2 ∧ H' = Z ++ H ∧ DkOk Z F.1 p
theorem sleNilD {α : Type} {H : List Row} {a : Option Addr} {enc : α → List Value} {sz : Nat} : SlE H a enc sz [] := ⟨fun _ h => absurd h List.not_mem_nil, fun h => absurd h (Nat.lt_irrefl 0)⟩
theorem DkOk.zero (H : List Row) : DkOk H Dz pzd := ⟨⟨sleNilD, sleNilD, sleNilD, Nat.zero_le _, Nat.zero_le _, Nat.zero_le _⟩, sleNilD, sleNilD, sleNilD, Nat.zero_le _, Nat.zero_le _, Nat.zero_le _⟩
def tsQ : List TOp := [⟨some 37, [], [], []⟩, ⟨some 38, [], [], []⟩, ⟨some 39, [1], [1], []⟩, ⟨some 40, [], [], []⟩, ⟨some 41, [1, 2, 3], [2, 3], []⟩, ⟨some 42, [0, 1, 2, 3, 4], [0, 4], [0]⟩, ⟨some 43, [], [], []⟩, ⟨some 44, [6], [6], []⟩, ⟨some 45, [0, 1, 2, 3, 4, 5, 6, 7], [5, 7], [5, 7]⟩, ⟨some 46, [], [], []⟩, ⟨some 47, [9], [9], []⟩, ⟨some 48, [], [], []⟩, ⟨some 49, [9, 10, 11], [10, 11], []⟩, ⟨some 50, [0, 1, 2, 3, 4, 5, 6, 7, 8, 9, 10, 11, 12], [8, 12], [8]⟩, ⟨some 51, [0, 1, 2, 3, 4, 5, 6, 7, 8, 9, 10, 11, 12, 13], [], []⟩, ⟨none, [0, 1, 2, 3, 4, 5, 6, 7, 8, 9, 10, 11, 12, 13, 14], [14, 13], [16]⟩, ⟨none, [], [], []⟩]
def valQ (b2 b7 : Nat) (D : Dk) (p : Pd) (x : Lk) (k0 : Nat) (k : Nat) (env : Env) : Value :=
  match k with
  | 0 => .slice (some ⟨(env 0).1, 0, none⟩) 0 0
  | 1 => .pointer (some ⟨b2, 8, none⟩)
  | 2 => .slice p.a6 D.looks.length p.c6
  | 3 => .int .i64 k0
  | 4 => .slice p.a6 (D.looks.take k0).length p.c6
  | 5 => .slice (some ⟨(env 5).1, 0, none⟩) (D.looks.take k0).length (env 5).2
  | 6 => .agg (cLk x).toArray
  | 7 => .slice (some ⟨(env 7).1, 0, none⟩) 1 1
  | 8 => .slice (some ⟨(env 8).1, 0, none⟩) ((D.looks.take k0).length + 1) (env 8).2
  | 9 => .pointer (some ⟨b2, 8, none⟩)
  | 10 => .slice p.a6 D.looks.length p.c6
  | 11 => .int .i64 k0
  | 12 => .slice (sfrom p.a6 p.c6 k0 6) (D.looks.drop k0).length (p.c6 - k0)
  | 13 => .slice (some ⟨(env 13).1, 0, none⟩) (insLk x D.looks).length (env 13).2
  | 14 => .pointer (some ⟨b7, 8, none⟩)
  | _ => undef
def rowsQ (b7 t1 k1 t2 k2 t3 k3 t4 k4 t5 k5 t6 k6 : Nat) (D : Dk) (x : Lk) (k0 : Nat) (k : Nat) (env : Env) : List Row :=
  match k with
  | 0 => [⟨(env 0).1, 0, [], some 32, 0⟩]
  | 5 => [⟨(env 5).1, 0, (D.looks.take k0).flatMap cLk, some 32, (env 5).2 * 6⟩]
  | 7 => [⟨(env 7).1, 0, cLk x, some 32, 1 * 6⟩]
  | 8 => [⟨(env 8).1, 0, (D.looks.take k0).flatMap cLk ++ cLk x, some 32, (env 8).2 * 6⟩]
  | 13 => [⟨(env 13).1, 0, (insLk x D.looks).flatMap cLk, some 32, (env 13).2 * 6⟩]
  | 15 => [⟨b7, 0, cDk (putDk D x) ⟨⟨some ⟨t1, 0, none⟩, k1, some ⟨t2, 0, none⟩, k2, some ⟨t3, 0, none⟩, k3⟩, some ⟨t4, 0, none⟩, k4, some ⟨t5, 0, none⟩, k5, some ⟨(env 13).1, 0, none⟩, (env 13).2⟩, some 30, 9⟩]
  | 16 => [⟨b7, 0, cDk D ⟨⟨some ⟨t1, 0, none⟩, k1, some ⟨t2, 0, none⟩, k2, some ⟨t3, 0, none⟩, k3⟩, some ⟨t4, 0, none⟩, k4, some ⟨t5, 0, none⟩, k5, some ⟨t6, 0, none⟩, k6⟩, some 30, 9⟩]
  | _ => []
theorem locQ (b2 b7 t1 k1 t2 k2 t3 k3 t4 k4 t5 k5 t6 k6 : Nat) (D : Dk) (p : Pd) (x : Lk) (k0 : Nat) : ∀ k env i q9, i ≠ k → (tAt tsQ k).sup.contains i = false → valQ b2 b7 D p x k0 k (upd env i q9) = valQ b2 b7 D p x k0 k env ∧ rowsQ b7 t1 k1 t2 k2 t3 k3 t4 k4 t5 k5 t6 k6 D x k0 k (upd env i q9) = rowsQ b7 t1 k1 t2 k2 t3 k3 t4 k4 t5 k5 t6 k6 D x k0 k env := by
  intro k env i q hk hs
  have hu : ∀ j, j ≠ i → upd env i q j = env j := fun j hj => by unfold upd; rw [if_neg hj]
  match k, hk, hs with
  | 0, hk, hs => exact ⟨by simp only [valQ, hu 0 (fun e => hk e.symm)], by simp only [rowsQ, hu 0 (fun e => hk e.symm)]⟩
  | 1, _, _ => exact ⟨rfl, rfl⟩
  | 2, _, _ => exact ⟨rfl, rfl⟩
  | 3, _, _ => exact ⟨rfl, rfl⟩
  | 4, _, _ => exact ⟨rfl, rfl⟩
  | 5, hk, hs => exact ⟨by simp only [valQ, hu 5 (fun e => hk e.symm)], by simp only [rowsQ, hu 5 (fun e => hk e.symm)]⟩
  | 6, _, _ => exact ⟨rfl, rfl⟩
  | 7, hk, hs => exact ⟨by simp only [valQ, hu 7 (fun e => hk e.symm)], by simp only [rowsQ, hu 7 (fun e => hk e.symm)]⟩
  | 8, hk, hs => exact ⟨by simp only [valQ, hu 8 (fun e => hk e.symm)], by simp only [rowsQ, hu 8 (fun e => hk e.symm)]⟩
  | 9, _, _ => exact ⟨rfl, rfl⟩
  | 10, _, _ => exact ⟨rfl, rfl⟩
  | 11, _, _ => exact ⟨rfl, rfl⟩
  | 12, _, _ => exact ⟨rfl, rfl⟩
  | 13, hk, hs => exact ⟨by simp only [valQ, hu 13 (fun e => hk e.symm)], by simp only [rowsQ, hu 13 (fun e => hk e.symm)]⟩
  | 14, _, _ => exact ⟨rfl, rfl⟩
  | 15, hk, hs => exact ⟨by simp only [valQ, hu 13 (by rintro rfl; cases hs)], by simp only [rowsQ, hu 13 (by rintro rfl; cases hs)]⟩
  | 16, _, _ => exact ⟨rfl, rfl⟩
  | _ + 17, _, _ => exact ⟨rfl, rfl⟩
set_option maxHeartbeats 8000000 in
theorem refPutD_spec (D : Dk) (p : Pd) (x : Lk) (H : List Row) (hD : DkOk H D p) (h1 : D.room.ages.length ≤ 1000000) (h2 : D.room.boxes.length ≤ 1000000) (h3 : D.room.mats.length ≤ 1000000) (h4 : D.bales.length ≤ 1000000) (h5 : D.cls.length ≤ 1000000) (h6 : D.looks.length ≤ 1000000) (hc : D.looks.length ≤ p.c6) : Fc Try.prog 7 [.agg (cDk D p).toArray, .agg (cLk x).toArray] H (RefD (gputF D x) H) := by
  have hD3 : ∀ r1 r2 r3, DkOk (r1 :: r2 :: r3 :: H) D p := fun r1 r2 r3 => hD.sub (fun _ h => List.Mem.tail _ (List.Mem.tail _ (List.Mem.tail _ h)))
  have hlen := lenLk D.looks
  have hil := insLk_len x D.looks
  obtain ⟨pr, a4, c4, a5, c5, a6, c6⟩ := p
  dsimp only at hc
  refine Fc.mk (callable Try.call7) Try.func7 rfl Try.ntmps7 rfl ?_; dsimp only [fr]
  refine X.seq rfl ?_; refine X.region rfl (fun K hK => ?_); repeat' (first | (refine XO.op rfl ?_; (first | ((first | refine Xo.ng rfl ?_); (first | (refine Xg.ev (EvF.assign rfl rfl) rfl rfl ?_) | (refine Xg.st (StF.boxAgg rfl rfl) rfl rfl ?_; rintro _ _ ⟨bx, rfl, rfl⟩) | (refine Xg.st (StF.alloc rfl Try.zeroValue30 rfl) rfl rfl ?_; rintro _ _ ⟨bx, rfl, rfl⟩))))) | (refine XO.done rfl ?_; refine hK _ _ ?_; clear hK K))
  rename_i b2 b3
  rename Nat => b4
  repeat' (first | (refine XO.op rfl ?_; (first | ((first | refine Xo.ng rfl ?_); (first | (refine Xg.ev (EvF.build (cs := cZd) rfl ArgsP.nil (te rfl) (Places.cons (te rfl) (Places.cons (te rfl) (Places.cons (te rfl) (Places.cons (te rfl) (Places.cons (te rfl) Places.nil))))) Try.zeroValue30 rfl) rfl rfl ?_) | (refine Xg.call (EnF.st rfl (by (repeat (first | exact Args.nil | refine Args.cons rfl ?_)); done)) rfl rfl (desk_spec D _ _ (hD3 _ _ _)) ?_; rintro _ H9 ⟨rfl, hH9⟩; subst H9) | (refine Xg.ev (EvF.assign rfl rfl) rfl rfl ?_) | (refine Xg.ev (EvF.cmp rfl rfl rfl rfl) rfl rfl ?_) | (refine Xg.ev (EvF.not rfl rfl) rfl rfl ?_) | (refine Xg.ev (EvF.fieldAddr rfl rfl (te rfl) rfl (te rfl) (by decide)) rfl rfl ?_) | (refine Xg.ev (EvF.lenSlice rfl rfl (te rfl)) rfl rfl ?_) | (refine Xg.ev (EvF.loadV rfl rfl (LoadV.own (te rfl) rfl (List.Mem.tail _ (List.Mem.tail _ (List.Mem.head _))) rfl)) rfl rfl ?_) | (refine Xg.ev (EvF.loadV rfl rfl (LoadV.whole (te rfl) rfl (List.Mem.tail _ (List.Mem.tail _ (List.Mem.head _))) rfl)) rfl rfl ?_) | (refine Xg.st0 (StF.storeAll (i := 0) rfl rfl rfl (te rfl) rfl rfl rfl rfl) rfl ?_; rintro _ _ ⟨rfl, rfl⟩; dsimp only [List.set]))))) | (refine XO.done rfl ?_; refine hK _ _ ?_; clear hK K) | refine X.seq rfl ?_ | refine X.region rfl (fun K hK => ?_) | refine X.block rfl ?_ | refine X.skip rfl ?_ | refine X.ret rfl ?_ | (refine X.ite rfl rfl (fun hc => ?_); (first | (with_reducible refine Xb.case hc (fun h => ?_) (fun h => ?_)) | (with_reducible refine Xb.caseN hc (fun h => ?_) (fun h => ?_))) <;> clear hc))
  · refine ret_two (by first | exact .inr rfl | exact .inl rfl) Try.results7 ⟨_, rfl, LoadV.whole (te rfl) rfl (List.Mem.head _) rfl⟩ rfl (H' := H) (by (repeat (first | exact List.Sublist.refl _ | apply List.Sublist.cons)); done) ?_
    have e : gputF D x = (Dz, 20) := by unfold gputF; rw [if_neg (fun q => h ((deskOk_iff _).1 q))]
    unfold RefD; rw [e]
    exact ⟨pzd, [], rfl, rfl, DkOk.zero _⟩
  · have hok : deskOk D := (deskOk_iff _).2 (by assumption)
    refine ret_two (by first | exact .inr rfl | exact .inl rfl) Try.results7 ⟨_, rfl, LoadV.whole (te rfl) rfl (List.Mem.head _) rfl⟩ rfl (H' := H) (by (repeat (first | exact List.Sublist.refl _ | apply List.Sublist.cons)); done) ?_
    have e : gputF D x = (Dz, 9) := by unfold gputF; rw [if_pos hok, if_pos (by omega)]
    unfold RefD; rw [e]
    exact ⟨pzd, [], rfl, rfl, DkOk.zero _⟩
  have hdr : deskR D := by assumption
  have hok : deskOk D := (deskOk_iff _).2 hdr
  have hlim : ¬ 12 ≤ D.looks.length := by
    have := hdr.2.2.2.2.1
    omega
  refine X.lp rfl (fun q F' H' => ∃ k : Nat, q = D.looks.length - k ∧ k ≤ D.looks.length ∧ (∀ i e, i < k → D.looks[i]? = some e → e.number < x.number) ∧ ⟨b4, 0, cZd, some 30, 9⟩ :: ⟨b3, 0, cLk x, some 32, 6⟩ :: ⟨b2, 0, cDk D ⟨pr, a4, c4, a5, c5, a6, c6⟩, some 30, 9⟩ :: H = H' ∧
      F' = [(2, .pointer (some ⟨b2, 0, none⟩)), (3, .pointer (some ⟨b3, 0, none⟩)), (4, .pointer (some ⟨b4, 0, none⟩)), (6, .int .i64 k)])
    D.looks.length [(2, .pointer (some ⟨b2, 0, none⟩)), (3, .pointer (some ⟨b3, 0, none⟩)), (4, .pointer (some ⟨b4, 0, none⟩)), (6, .int .i64 (0 : Nat))] _ (by (repeat (first | exact Sub.nil _ | refine Sub.cons rfl ?_)); done) (by (repeat (first | exact List.Sublist.refl _ | apply List.Sublist.cons_cons | apply List.Sublist.cons)); done) ⟨0, by omega, by omega, fun i _ hi => absurd hi (by omega), rfl, rfl⟩ ?_
  rintro _ _ H2 ⟨k, rfl, hk, hn, hH, rfl⟩
  subst hH
  have hkl : (D.looks.take k).length = k := by rw [List.length_take]; omega
  have hlx : ((D.looks.take k).flatMap cLk ++ cLk x).length = ((D.looks.take k).length + 1) * 6 := by rw [List.length_append, lenLk]; show _ + 6 = _; omega
  by_cases hlt : k < D.looks.length
  · obtain ⟨b, off, e, rfl, he⟩ := hD.looks.elem (i := k) (by omega)
    repeat' (first | refine X.seq rfl ?_)
    refine X.regionD rfl mixed (by kernel_rfl) (fun K hK => ?_)
    repeat' (first | (refine XO.op rfl ?_; (first | ((first | refine Xo.ng rfl ?_); (first | (refine Xg.call (EnF.st rfl (by (repeat (first | exact Args.nil | refine Args.cons rfl ?_)); done)) rfl rfl (twinD_spec D _ _ (hD3 _ _ _) h1 h2 h3 h4 h5 h6) ?_; rintro _ _ ⟨t1, k1, t2, k2, t3, k3, t4, k4, t5, k5, t6, k6, rfl, rfl⟩) | (refine Xg.ev (EvF.move rfl rfl) rfl rfl ?_) | (refine Xg.ev (EvF.assign rfl rfl) rfl rfl ?_) | (refine Xg.ev (EvF.add64 rfl rfl rfl (by omega) (by omega)) rfl rfl ?_) | (refine Xg.ev (EvF.loadV rfl rfl (LoadV.whole (te rfl) rfl (List.Mem.tail _ (List.Mem.tail _ (List.Mem.head _))) rfl)) rfl rfl ?_) | (refine Xg.st (StF.alloc rfl Try.zeroValue30 rfl) rfl rfl ?_; rintro _ _ ⟨bx, rfl, rfl⟩) | (refine Xg.st0 (StF.storeAll (i := 0) rfl rfl rfl (te rfl) rfl rfl rfl rfl) rfl ?_; rintro _ _ ⟨rfl, rfl⟩; dsimp only [List.set]))))) | (refine XO.done rfl ?_; refine hK _ _ ?_; clear hK K) | (refine XQ.op rfl ?_; (first | ((first | refine Yo.ng rfl ?_ | (refine Yo.g rfl rfl ?_; with_reducible refine Yw.tt ?_)); (first | (refine Yg.ev (EvF.loadV rfl rfl (LoadV.el1 (hD3 _ _ _).looks he (te rfl) rfl (fun _ hm => hm) rfl)) rfl rfl ?_) | (refine Yg.ev (EvF.move rfl rfl) rfl rfl ?_) | (refine Yg.ev (EvF.pickT rfl rfl rfl) rfl rfl ?_) | (refine Yg.ev (EvF.pickF rfl rfl rfl) rfl rfl ?_) | (refine Yg.ev (EvF.cmp rfl rfl rfl rfl) rfl rfl ?_) | (refine Yg.ev (EvF.fieldAddr rfl rfl (te rfl) rfl (te rfl) (by decide)) rfl rfl ?_) | (refine Yg.ev (EvF.lenSlice rfl rfl (te rfl)) rfl rfl ?_) | (refine Yg.ev (EvF.indexSlice rfl rfl rfl (te rfl) (te rfl) (by omega) (by omega)) rfl rfl ?_) | (refine Yg.ev (EvF.loadV rfl rfl (LoadV.own (te rfl) rfl (List.Mem.tail _ (List.Mem.head _)) rfl)) rfl rfl ?_) | (refine Yg.ev (EvF.loadV rfl rfl (LoadV.own (te rfl) rfl (List.Mem.tail _ (List.Mem.tail _ (List.Mem.head _))) rfl)) rfl rfl ?_))) | (refine Yo.g rfl rfl ?_; (first | (with_reducible refine Yw.ft rfl rfl ?_) | (with_reducible refine Yw.case (fun h => ?_) (fun h => ?_) <;> simp only [h, decide_true, decide_false, Bool.not_true, Bool.not_false, and_self, and_true, true_and, and_false, false_and]))))) | (refine XQ.done rfl ?_; refine hK _ ?_; clear hK K) | refine X.seq rfl ?_ | refine X.region rfl (fun K hK => ?_) | refine X.block rfl ?_ | (refine X.brk rfl ?_; repeat (first | refine blockX_hit rfl ?_ | refine blockX_miss (by decide) ?_)) | refine X.skip rfl ?_ | (refine X.ite rfl rfl (fun hc => ?_); (first | (with_reducible refine Xb.f hc ?_) | (with_reducible refine Xb.case hc (fun h => ?_) (fun h => ?_))) <;> clear hc))
    any_goals (exfalso; omega)
    · refine ⟨_, [(2, .pointer (some ⟨b2, 0, none⟩)), (3, .pointer (some ⟨b3, 0, none⟩)), (4, .pointer (some ⟨b4, 0, none⟩)), (6, .int .i64 (k + 1 : Nat))], _, (by (repeat (first | exact Sub.nil _ | refine Sub.cons rfl ?_)); done), (by (repeat (first | exact List.Sublist.refl _ | apply List.Sublist.cons_cons | apply List.Sublist.cons)); done), ⟨k + 1, rfl, by omega, (fun i e' hi he' => ?_), rfl, rfl⟩, by omega⟩
      rcases Nat.lt_or_ge i k with h9 | h9
      · exact hn i e' h9 he'
      · obtain rfl : i = k := by omega
        rw [he] at he'; cases he'; assumption
    have hins := insLk_at x D.looks k hk hn (fun e' he' => by rw [he] at he'; cases he'; assumption)
    have hnl : (D.looks.take k).length + 1 + (D.looks.drop k).length = (insLk x D.looks).length := by rw [hil, List.length_take, List.length_drop]; omega
    have hfl : (D.looks.take k).flatMap cLk ++ cLk x ++ (D.looks.drop k).flatMap cLk = (insLk x D.looks).flatMap cLk := by rw [hins]; simp [List.flatMap_append]
    rename Nat => b7
    refine X.regionOb tsQ [2, 3, 4, 6, 7] [(2, .pointer (some ⟨b2, 0, none⟩)), (3, .pointer (some ⟨b3, 0, none⟩)), (4, .pointer (some ⟨b4, 0, none⟩)), (6, .int .i64 k), (7, .pointer (some ⟨b7, 0, none⟩))] (valQ b2 b7 D ⟨pr, a4, c4, a5, c5, some ⟨b, off, none⟩, c6⟩ x k) (rowsQ b7 t1 k1 t2 k2 t3 k3 t4 k4 t5 k5 t6 k6 D x k) (fun _ => (0, 0))
      (rAges D.room t1 k1 :: rBoxes D.room t2 k2 :: rMats D.room t3 k3 :: rInt D.bales t4 k4 :: rInt D.cls t5 k5 :: rLooks D t6 k6 :: ⟨b4, 0, cZd, some 30, 9⟩ :: ⟨b3, 0, cLk x, some 32, 6⟩ :: ⟨b2, 0, cDk D ⟨pr, a4, c4, a5, c5, some ⟨b, off, none⟩, c6⟩, some 30, 9⟩ :: H) rfl mixed (by (repeat (first | exact Sub.nil _ | refine Sub.cons rfl ?_)); done) rfl (by kernel_rfl) (locQ b2 b7 t1 k1 t2 k2 t3 k3 t4 k4 t5 k5 t6 k6 D _ x k) (List.Sublist.refl _) ?_ ?_
    · repeat' (first | exact AllF.done rfl | (refine AllF.step rfl ?_ ?_; · (first | fail | ((first | refine Ob.ng rfl ?_); (first | exact ObK.pure (fun env R hR => by exact ⟨_, EvF.move rfl rfl, rfl⟩) rfl (fun _ => rfl) | exact ObK.pure (fun env R hR => by exact ⟨_, EvF.fieldAddr rfl rfl (te rfl) rfl (te rfl) (by decide), rfl⟩) rfl (fun _ => rfl) | (exact fun env S hS => (StF.buildNil rfl elLk).op.mono (fun v H' ⟨b, hv, hH⟩ => ⟨(b, 0), fun _ => hv, by rw [hH]; exact List.Perm.refl _⟩)) | (exact ObK.pure (fun env S hS => ⟨_, EvF.loadV rfl rfl (LoadV.own (te rfl) rfl (hS _ (List.Mem.tail _ (List.Mem.tail _ (List.Mem.tail _ (List.Mem.tail _ (List.Mem.tail _ (List.Mem.tail _ (List.Mem.tail _ (List.Mem.tail _ (List.Mem.head _)))))))))) rfl), rfl⟩) rfl (fun _ => rfl)) | (exact ObK.pure (fun env S hS => ⟨_, EvF.loadV rfl rfl (LoadV.whole (te rfl) rfl (hS _ (List.Mem.tail _ (List.Mem.tail _ (List.Mem.tail _ (List.Mem.tail _ (List.Mem.tail _ (List.Mem.tail _ (List.Mem.tail _ (List.Mem.head _))))))))) rfl), rfl⟩) rfl (fun _ => rfl)) | (exact ObK.pure (fun env S hS => ⟨_, EvF.sliceTo (hh := k) rfl rfl (te rfl) (te rfl) rfl (by dsimp only; omega), by show Value.slice _ k _ = Value.slice _ (D.looks.take k).length _; rw [hkl]⟩) rfl (fun _ => rfl)) | (exact ObK.pure (fun env S hS => ⟨_, EvF.sliceFrom (lo := k) rfl rfl (te rfl) (te rfl) rfl hk hc, by show Value.slice _ (D.looks.length - k) _ = Value.slice _ (D.looks.drop k).length _; rw [List.length_drop]⟩) rfl (fun _ => rfl)) | (exact fun env S hS => (StF.buildOne rfl elLk rfl rfl rfl (by decide) (by decide)).op.mono (fun v H' ⟨b, hv, hH⟩ => ⟨(b, 0), fun _ => hv, by rw [hH]; exact List.Perm.refl _⟩)) | (exact fun env S hS => (StF.appendSl (i := 0) (l := D.looks.take k) rfl elLk rfl rfl rfl (sleTake (hD.looks.sub (fun r hr => List.mem_append_right _ (hS r (List.Mem.tail _ (List.Mem.tail _ (List.Mem.tail _ (List.Mem.tail _ (List.Mem.tail _ (List.Mem.tail _ (List.Mem.tail _ (List.Mem.tail _ (List.Mem.tail _ hr)))))))))))) k) (fun e _ => one_lk e) rfl (by decide) (by omega)).op.mono (fun v H' ⟨b, c, hv, hH⟩ => ⟨(b, c), fun _ => by rw [hv, Nat.zero_add]; rfl, by rw [hH]; exact List.Perm.refl _⟩)) | (exact fun env S hS => (StF.appendOwn (i := 0) rfl elLk rfl rfl rfl (lenLk _) rfl (Rd.own (List.Mem.tail _ (List.Mem.head _))) rfl (by omega)).op.drop (fun v H' ⟨b, c, hv, hH⟩ => ⟨_, by rw [hH]; exact List.Sublist.cons_cons _ (List.Sublist.cons _ (List.Sublist.refl _)), (b, c), fun _ => hv, List.Perm.refl _⟩)) | (exact fun env S hS => (StF.appendSl (i := 0) (l := D.looks.drop k) rfl elLk rfl rfl rfl (sleFrom (hD.looks.sub (fun r hr => List.mem_append_right _ (hS r (List.Mem.tail _ (List.Mem.tail _ (List.Mem.tail _ (List.Mem.tail _ (List.Mem.tail _ (List.Mem.tail _ (List.Mem.tail _ (List.Mem.tail _ (List.Mem.tail _ hr)))))))))))) hc k) (fun e _ => one_lk e) hlx (by decide) (by omega)).op.mono (fun v H' ⟨b, c, hv, hH⟩ => ⟨(b, c), fun _ => by rw [hv, hnl]; rfl, by rw [hH, hfl]; exact List.Perm.refl _⟩)) | (exact fun env S hS => (StF.storeOne (i := 0) rfl rfl rfl rfl (te rfl) rfl rfl (Nat.le_of_ble_eq_true rfl)).op.mono (fun v H' ⟨hv, hH⟩ => ⟨(0, 0), fun h => absurd rfl h, by rw [hH]; exact List.Perm.refl _⟩)))))))
    · intro env t ha hv
      refine ⟨_, ha, ?_⟩
      show X _ _ _ _ (⟨(env 13).1, 0, (insLk x D.looks).flatMap cLk, some 32, (env 13).2 * 6⟩ :: ⟨b7, 0, cDk (putDk D x) ⟨⟨some ⟨t1, 0, none⟩, k1, some ⟨t2, 0, none⟩, k2, some ⟨t3, 0, none⟩, k3⟩, some ⟨t4, 0, none⟩, k4, some ⟨t5, 0, none⟩, k5, some ⟨(env 13).1, 0, none⟩, (env 13).2⟩, some 30, 9⟩ :: rAges D.room t1 k1 :: rBoxes D.room t2 k2 :: rMats D.room t3 k3 :: rInt D.bales t4 k4 :: rInt D.cls t5 k5 :: rLooks D t6 k6 :: ⟨b4, 0, cZd, some 30, 9⟩ :: ⟨b3, 0, cLk x, some 32, 6⟩ :: ⟨b2, 0, cDk D ⟨pr, a4, c4, a5, c5, some ⟨b, off, none⟩, c6⟩, some 30, 9⟩ :: H) _
      repeat' (first | (refine XO.op rfl ?_; (first | ((first | refine Xo.ng rfl ?_); (first | (refine Xg.call (EnF.st rfl (by (repeat (first | exact Args.nil | refine Args.cons rfl ?_)); done)) rfl rfl (desk_spec (putDk D x) ⟨⟨some ⟨t1, 0, none⟩, k1, some ⟨t2, 0, none⟩, k2, some ⟨t3, 0, none⟩, k3⟩, some ⟨t4, 0, none⟩, k4, some ⟨t5, 0, none⟩, k5, some ⟨(env 13).1, 0, none⟩, (env 13).2⟩ _ ⟨⟨ownSl (fun _ => rfl) (List.Mem.tail _ (List.Mem.tail _ (List.Mem.head _))), ownSl (fun _ => rfl) (List.Mem.tail _ (List.Mem.tail _ (List.Mem.tail _ (List.Mem.head _)))), ownSl (fun _ => rfl) (List.Mem.tail _ (List.Mem.tail _ (List.Mem.tail _ (List.Mem.tail _ (List.Mem.head _))))), hD.room.l1, hD.room.l2, hD.room.l3⟩, ownSl (fun _ => rfl) (List.Mem.tail _ (List.Mem.tail _ (List.Mem.tail _ (List.Mem.tail _ (List.Mem.tail _ (List.Mem.head _)))))), ownSl (fun _ => rfl) (List.Mem.tail _ (List.Mem.tail _ (List.Mem.tail _ (List.Mem.tail _ (List.Mem.tail _ (List.Mem.tail _ (List.Mem.head _))))))), ownSl (fun _ => rfl) (List.Mem.head _), hD.l4, hD.l5, (by show (insLk x D.looks).length ≤ _; omega)⟩) ?_; rintro _ H9 ⟨rfl, hH9⟩; subst H9) | (refine Xg.ev (EvF.build (cs := cZd) rfl ArgsP.nil (te rfl) (Places.cons (te rfl) (Places.cons (te rfl) (Places.cons (te rfl) (Places.cons (te rfl) (Places.cons (te rfl) Places.nil))))) Try.zeroValue30 rfl) rfl rfl ?_) | (refine Xg.st0 (StF.storeAll (i := 8) rfl rfl rfl (te rfl) rfl rfl rfl rfl) rfl ?_; rintro _ _ ⟨rfl, rfl⟩; dsimp only [List.set]) | (refine Xg.ev (EvF.assign rfl rfl) rfl rfl ?_) | (refine Xg.ev (EvF.not rfl rfl) rfl rfl ?_) | (refine Xg.ev (EvF.loadV rfl rfl (LoadV.whole (te rfl) rfl (List.Mem.tail _ (List.Mem.head _)) rfl)) rfl rfl ?_))))) | (refine XO.done rfl ?_; refine hK _ _ ?_; clear hK K) | refine X.seq rfl ?_ | refine X.region rfl (fun K hK => ?_) | refine X.skip rfl ?_ | refine X.ret rfl ?_ | (refine X.ite rfl rfl (fun hc => ?_); (first | (with_reducible refine Xb.caseN hc (fun h => ?_) (fun h => ?_))) <;> clear hc))
      · refine ret_two (by first | exact .inr rfl | exact .inl rfl) Try.results7 ⟨_, rfl, LoadV.whole (te rfl) rfl (List.Mem.tail _ (List.Mem.tail _ (List.Mem.tail _ (List.Mem.tail _ (List.Mem.tail _ (List.Mem.tail _ (List.Mem.tail _ (List.Mem.tail _ (List.Mem.head _))))))))) rfl⟩ rfl (H' := H) (by (repeat (first | exact List.Sublist.refl _ | apply List.Sublist.cons)); done) ?_
        have e : gputF D x = (Dz, 21) := by unfold gputF; rw [if_pos hok, if_neg hlim, if_neg (fun q => absurd ((deskOk_iff _).1 q) (by assumption))]
        unfold RefD; rw [e]
        exact ⟨pzd, [], rfl, rfl, DkOk.zero _⟩
      · refine ret_two (by first | exact .inr rfl | exact .inl rfl) Try.results7 ⟨_, rfl, LoadV.whole (te rfl) rfl (List.Mem.tail _ (List.Mem.tail _ (List.Mem.tail _ (List.Mem.tail _ (List.Mem.tail _ (List.Mem.tail _ (List.Mem.tail _ (List.Mem.tail _ (List.Mem.head _))))))))) rfl⟩ rfl (H' := [⟨(env 13).1, 0, (insLk x D.looks).flatMap cLk, some 32, (env 13).2 * 6⟩, rAges D.room t1 k1, rBoxes D.room t2 k2, rMats D.room t3 k3, rInt D.bales t4 k4, rInt D.cls t5 k5] ++ H) (by (repeat (first | exact List.Sublist.refl _ | apply List.Sublist.cons_cons | apply List.Sublist.cons)); done) ?_
        have e : gputF D x = (putDk D x, 0) := by unfold gputF; rw [if_pos hok, if_neg hlim, if_pos ((deskOk_iff _).2 (by assumption))]
        unfold RefD; rw [e]
        exact ⟨⟨⟨some ⟨t1, 0, none⟩, k1, some ⟨t2, 0, none⟩, k2, some ⟨t3, 0, none⟩, k3⟩, some ⟨t4, 0, none⟩, k4, some ⟨t5, 0, none⟩, k5, some ⟨(env 13).1, 0, none⟩, (env 13).2⟩, _, rfl, rfl, ⟨⟨ownSl (fun _ => rfl) (List.Mem.tail _ (List.Mem.head _)), ownSl (fun _ => rfl) (List.Mem.tail _ (List.Mem.tail _ (List.Mem.head _))), ownSl (fun _ => rfl) (List.Mem.tail _ (List.Mem.tail _ (List.Mem.tail _ (List.Mem.head _)))), hD.room.l1, hD.room.l2, hD.room.l3⟩, ownSl (fun _ => rfl) (List.Mem.tail _ (List.Mem.tail _ (List.Mem.tail _ (List.Mem.tail _ (List.Mem.head _))))), ownSl (fun _ => rfl) (List.Mem.tail _ (List.Mem.tail _ (List.Mem.tail _ (List.Mem.tail _ (List.Mem.tail _ (List.Mem.head _)))))), ownSl (fun _ => rfl) (List.Mem.head _), hD.l4, hD.l5, (by show (insLk x D.looks).length ≤ _; omega)⟩⟩
  · repeat' (first | refine X.seq rfl ?_)
    refine X.regionD rfl mixed (by kernel_rfl) (fun K hK => ?_)
    repeat' (first | (refine XO.op rfl ?_; (first | ((first | refine Xo.ng rfl ?_); (first | (refine Xg.call (EnF.st rfl (by (repeat (first | exact Args.nil | refine Args.cons rfl ?_)); done)) rfl rfl (twinD_spec D _ _ (hD3 _ _ _) h1 h2 h3 h4 h5 h6) ?_; rintro _ _ ⟨t1, k1, t2, k2, t3, k3, t4, k4, t5, k5, t6, k6, rfl, rfl⟩) | (refine Xg.ev (EvF.loadV rfl rfl (LoadV.whole (te rfl) rfl (List.Mem.tail _ (List.Mem.tail _ (List.Mem.head _))) rfl)) rfl rfl ?_) | (refine Xg.st (StF.alloc rfl Try.zeroValue30 rfl) rfl rfl ?_; rintro _ _ ⟨bx, rfl, rfl⟩) | (refine Xg.st0 (StF.storeAll (i := 0) rfl rfl rfl (te rfl) rfl rfl rfl rfl) rfl ?_; rintro _ _ ⟨rfl, rfl⟩; dsimp only [List.set]))))) | (refine XO.done rfl ?_; refine hK _ _ ?_; clear hK K) | (refine XQ.op rfl ?_; (first | ((first | refine Yo.ng rfl ?_ | (refine Yo.g rfl rfl ?_; with_reducible refine Yw.tt ?_)); (first | (refine Yg.ev (EvF.move rfl rfl) rfl rfl ?_) | (refine Yg.ev (EvF.pickF rfl rfl rfl) rfl rfl ?_) | (refine Yg.ev (EvF.cmp rfl rfl rfl rfl) rfl rfl ?_) | (refine Yg.ev (EvF.fieldAddr rfl rfl (te rfl) rfl (te rfl) (by decide)) rfl rfl ?_) | (refine Yg.ev (EvF.lenSlice rfl rfl (te rfl)) rfl rfl ?_) | (refine Yg.ev (EvF.loadV rfl rfl (LoadV.own (te rfl) rfl (List.Mem.tail _ (List.Mem.tail _ (List.Mem.head _))) rfl)) rfl rfl ?_))) | (refine Yo.g rfl rfl ?_; (first | (with_reducible refine Yw.ft rfl rfl ?_) | (with_reducible refine Yw.case (fun h => ?_) (fun h => ?_) <;> simp only [h, decide_true, decide_false, Bool.not_true, Bool.not_false, and_self, and_true, true_and, and_false, false_and]) | (with_reducible refine Yw.caseB (fun h => ?_) (fun h => ?_) <;> simp only [h, decide_true, decide_false, Bool.not_true, Bool.not_false, and_self, and_true, true_and, and_false, false_and]))))) | (refine XQ.done rfl ?_; refine hK _ ?_; clear hK K) | refine X.seq rfl ?_ | refine X.region rfl (fun K hK => ?_) | (refine X.brk rfl ?_; repeat (first | refine blockX_hit rfl ?_ | refine blockX_miss (by decide) ?_)) | (refine X.ite rfl rfl (fun hc => ?_); (first | (with_reducible refine Xb.f hc ?_)) <;> clear hc))
    any_goals (exfalso; omega)
    have hins := insLk_at x D.looks k hk hn (fun e' he' => by rw [List.getElem?_eq_none (by omega)] at he'; cases he')
    have hnl : (D.looks.take k).length + 1 + (D.looks.drop k).length = (insLk x D.looks).length := by rw [hil, List.length_take, List.length_drop]; omega
    have hfl : (D.looks.take k).flatMap cLk ++ cLk x ++ (D.looks.drop k).flatMap cLk = (insLk x D.looks).flatMap cLk := by rw [hins]; simp [List.flatMap_append]
    rename Nat => b7
    refine X.regionOb tsQ [2, 3, 4, 6, 7] [(2, .pointer (some ⟨b2, 0, none⟩)), (3, .pointer (some ⟨b3, 0, none⟩)), (4, .pointer (some ⟨b4, 0, none⟩)), (6, .int .i64 k), (7, .pointer (some ⟨b7, 0, none⟩))] (valQ b2 b7 D ⟨pr, a4, c4, a5, c5, a6, c6⟩ x k) (rowsQ b7 t1 k1 t2 k2 t3 k3 t4 k4 t5 k5 t6 k6 D x k) (fun _ => (0, 0))
      (rAges D.room t1 k1 :: rBoxes D.room t2 k2 :: rMats D.room t3 k3 :: rInt D.bales t4 k4 :: rInt D.cls t5 k5 :: rLooks D t6 k6 :: ⟨b4, 0, cZd, some 30, 9⟩ :: ⟨b3, 0, cLk x, some 32, 6⟩ :: ⟨b2, 0, cDk D ⟨pr, a4, c4, a5, c5, a6, c6⟩, some 30, 9⟩ :: H) rfl mixed (by (repeat (first | exact Sub.nil _ | refine Sub.cons rfl ?_)); done) rfl (by kernel_rfl) (locQ b2 b7 t1 k1 t2 k2 t3 k3 t4 k4 t5 k5 t6 k6 D _ x k) (List.Sublist.refl _) ?_ ?_
    · repeat' (first | exact AllF.done rfl | (refine AllF.step rfl ?_ ?_; · (first | fail | ((first | refine Ob.ng rfl ?_); (first | exact ObK.pure (fun env R hR => by exact ⟨_, EvF.move rfl rfl, rfl⟩) rfl (fun _ => rfl) | exact ObK.pure (fun env R hR => by exact ⟨_, EvF.fieldAddr rfl rfl (te rfl) rfl (te rfl) (by decide), rfl⟩) rfl (fun _ => rfl) | (exact fun env S hS => (StF.buildNil rfl elLk).op.mono (fun v H' ⟨b, hv, hH⟩ => ⟨(b, 0), fun _ => hv, by rw [hH]; exact List.Perm.refl _⟩)) | (exact ObK.pure (fun env S hS => ⟨_, EvF.loadV rfl rfl (LoadV.own (te rfl) rfl (hS _ (List.Mem.tail _ (List.Mem.tail _ (List.Mem.tail _ (List.Mem.tail _ (List.Mem.tail _ (List.Mem.tail _ (List.Mem.tail _ (List.Mem.tail _ (List.Mem.head _)))))))))) rfl), rfl⟩) rfl (fun _ => rfl)) | (exact ObK.pure (fun env S hS => ⟨_, EvF.loadV rfl rfl (LoadV.whole (te rfl) rfl (hS _ (List.Mem.tail _ (List.Mem.tail _ (List.Mem.tail _ (List.Mem.tail _ (List.Mem.tail _ (List.Mem.tail _ (List.Mem.tail _ (List.Mem.head _))))))))) rfl), rfl⟩) rfl (fun _ => rfl)) | (exact ObK.pure (fun env S hS => ⟨_, EvF.sliceTo (hh := k) rfl rfl (te rfl) (te rfl) rfl (by dsimp only; omega), by show Value.slice _ k _ = Value.slice _ (D.looks.take k).length _; rw [hkl]⟩) rfl (fun _ => rfl)) | (exact ObK.pure (fun env S hS => ⟨_, EvF.sliceFrom (lo := k) rfl rfl (te rfl) (te rfl) rfl hk hc, by show Value.slice _ (D.looks.length - k) _ = Value.slice _ (D.looks.drop k).length _; rw [List.length_drop]⟩) rfl (fun _ => rfl)) | (exact fun env S hS => (StF.buildOne rfl elLk rfl rfl rfl (by decide) (by decide)).op.mono (fun v H' ⟨b, hv, hH⟩ => ⟨(b, 0), fun _ => hv, by rw [hH]; exact List.Perm.refl _⟩)) | (exact fun env S hS => (StF.appendSl (i := 0) (l := D.looks.take k) rfl elLk rfl rfl rfl (sleTake (hD.looks.sub (fun r hr => List.mem_append_right _ (hS r (List.Mem.tail _ (List.Mem.tail _ (List.Mem.tail _ (List.Mem.tail _ (List.Mem.tail _ (List.Mem.tail _ (List.Mem.tail _ (List.Mem.tail _ (List.Mem.tail _ hr)))))))))))) k) (fun e _ => one_lk e) rfl (by decide) (by omega)).op.mono (fun v H' ⟨b, c, hv, hH⟩ => ⟨(b, c), fun _ => by rw [hv, Nat.zero_add]; rfl, by rw [hH]; exact List.Perm.refl _⟩)) | (exact fun env S hS => (StF.appendOwn (i := 0) rfl elLk rfl rfl rfl (lenLk _) rfl (Rd.own (List.Mem.tail _ (List.Mem.head _))) rfl (by omega)).op.drop (fun v H' ⟨b, c, hv, hH⟩ => ⟨_, by rw [hH]; exact List.Sublist.cons_cons _ (List.Sublist.cons _ (List.Sublist.refl _)), (b, c), fun _ => hv, List.Perm.refl _⟩)) | (exact fun env S hS => (StF.appendSl (i := 0) (l := D.looks.drop k) rfl elLk rfl rfl rfl (sleFrom (hD.looks.sub (fun r hr => List.mem_append_right _ (hS r (List.Mem.tail _ (List.Mem.tail _ (List.Mem.tail _ (List.Mem.tail _ (List.Mem.tail _ (List.Mem.tail _ (List.Mem.tail _ (List.Mem.tail _ (List.Mem.tail _ hr)))))))))))) hc k) (fun e _ => one_lk e) hlx (by decide) (by omega)).op.mono (fun v H' ⟨b, c, hv, hH⟩ => ⟨(b, c), fun _ => by rw [hv, hnl]; rfl, by rw [hH, hfl]; exact List.Perm.refl _⟩)) | (exact fun env S hS => (StF.storeOne (i := 0) rfl rfl rfl rfl (te rfl) rfl rfl (Nat.le_of_ble_eq_true rfl)).op.mono (fun v H' ⟨hv, hH⟩ => ⟨(0, 0), fun h => absurd rfl h, by rw [hH]; exact List.Perm.refl _⟩)))))))
    · intro env t ha hv
      refine ⟨_, ha, ?_⟩
      show X _ _ _ _ (⟨(env 13).1, 0, (insLk x D.looks).flatMap cLk, some 32, (env 13).2 * 6⟩ :: ⟨b7, 0, cDk (putDk D x) ⟨⟨some ⟨t1, 0, none⟩, k1, some ⟨t2, 0, none⟩, k2, some ⟨t3, 0, none⟩, k3⟩, some ⟨t4, 0, none⟩, k4, some ⟨t5, 0, none⟩, k5, some ⟨(env 13).1, 0, none⟩, (env 13).2⟩, some 30, 9⟩ :: rAges D.room t1 k1 :: rBoxes D.room t2 k2 :: rMats D.room t3 k3 :: rInt D.bales t4 k4 :: rInt D.cls t5 k5 :: rLooks D t6 k6 :: ⟨b4, 0, cZd, some 30, 9⟩ :: ⟨b3, 0, cLk x, some 32, 6⟩ :: ⟨b2, 0, cDk D ⟨pr, a4, c4, a5, c5, a6, c6⟩, some 30, 9⟩ :: H) _
      repeat' (first | (refine XO.op rfl ?_; (first | ((first | refine Xo.ng rfl ?_); (first | (refine Xg.call (EnF.st rfl (by (repeat (first | exact Args.nil | refine Args.cons rfl ?_)); done)) rfl rfl (desk_spec (putDk D x) ⟨⟨some ⟨t1, 0, none⟩, k1, some ⟨t2, 0, none⟩, k2, some ⟨t3, 0, none⟩, k3⟩, some ⟨t4, 0, none⟩, k4, some ⟨t5, 0, none⟩, k5, some ⟨(env 13).1, 0, none⟩, (env 13).2⟩ _ ⟨⟨ownSl (fun _ => rfl) (List.Mem.tail _ (List.Mem.tail _ (List.Mem.head _))), ownSl (fun _ => rfl) (List.Mem.tail _ (List.Mem.tail _ (List.Mem.tail _ (List.Mem.head _)))), ownSl (fun _ => rfl) (List.Mem.tail _ (List.Mem.tail _ (List.Mem.tail _ (List.Mem.tail _ (List.Mem.head _))))), hD.room.l1, hD.room.l2, hD.room.l3⟩, ownSl (fun _ => rfl) (List.Mem.tail _ (List.Mem.tail _ (List.Mem.tail _ (List.Mem.tail _ (List.Mem.tail _ (List.Mem.head _)))))), ownSl (fun _ => rfl) (List.Mem.tail _ (List.Mem.tail _ (List.Mem.tail _ (List.Mem.tail _ (List.Mem.tail _ (List.Mem.tail _ (List.Mem.head _))))))), ownSl (fun _ => rfl) (List.Mem.head _), hD.l4, hD.l5, (by show (insLk x D.looks).length ≤ _; omega)⟩) ?_; rintro _ H9 ⟨rfl, hH9⟩; subst H9) | (refine Xg.ev (EvF.build (cs := cZd) rfl ArgsP.nil (te rfl) (Places.cons (te rfl) (Places.cons (te rfl) (Places.cons (te rfl) (Places.cons (te rfl) (Places.cons (te rfl) Places.nil))))) Try.zeroValue30 rfl) rfl rfl ?_) | (refine Xg.st0 (StF.storeAll (i := 8) rfl rfl rfl (te rfl) rfl rfl rfl rfl) rfl ?_; rintro _ _ ⟨rfl, rfl⟩; dsimp only [List.set]) | (refine Xg.ev (EvF.assign rfl rfl) rfl rfl ?_) | (refine Xg.ev (EvF.not rfl rfl) rfl rfl ?_) | (refine Xg.ev (EvF.loadV rfl rfl (LoadV.whole (te rfl) rfl (List.Mem.tail _ (List.Mem.head _)) rfl)) rfl rfl ?_))))) | (refine XO.done rfl ?_; refine hK _ _ ?_; clear hK K) | refine X.seq rfl ?_ | refine X.region rfl (fun K hK => ?_) | refine X.skip rfl ?_ | refine X.ret rfl ?_ | (refine X.ite rfl rfl (fun hc => ?_); (first | (with_reducible refine Xb.caseN hc (fun h => ?_) (fun h => ?_))) <;> clear hc))
      · refine ret_two (by first | exact .inr rfl | exact .inl rfl) Try.results7 ⟨_, rfl, LoadV.whole (te rfl) rfl (List.Mem.tail _ (List.Mem.tail _ (List.Mem.tail _ (List.Mem.tail _ (List.Mem.tail _ (List.Mem.tail _ (List.Mem.tail _ (List.Mem.tail _ (List.Mem.head _))))))))) rfl⟩ rfl (H' := H) (by (repeat (first | exact List.Sublist.refl _ | apply List.Sublist.cons)); done) ?_
        have e : gputF D x = (Dz, 21) := by unfold gputF; rw [if_pos hok, if_neg hlim, if_neg (fun q => absurd ((deskOk_iff _).1 q) (by assumption))]
        unfold RefD; rw [e]
        exact ⟨pzd, [], rfl, rfl, DkOk.zero _⟩
      · refine ret_two (by first | exact .inr rfl | exact .inl rfl) Try.results7 ⟨_, rfl, LoadV.whole (te rfl) rfl (List.Mem.tail _ (List.Mem.tail _ (List.Mem.tail _ (List.Mem.tail _ (List.Mem.tail _ (List.Mem.tail _ (List.Mem.tail _ (List.Mem.tail _ (List.Mem.head _))))))))) rfl⟩ rfl (H' := [⟨(env 13).1, 0, (insLk x D.looks).flatMap cLk, some 32, (env 13).2 * 6⟩, rAges D.room t1 k1, rBoxes D.room t2 k2, rMats D.room t3 k3, rInt D.bales t4 k4, rInt D.cls t5 k5] ++ H) (by (repeat (first | exact List.Sublist.refl _ | apply List.Sublist.cons_cons | apply List.Sublist.cons)); done) ?_
        have e : gputF D x = (putDk D x, 0) := by unfold gputF; rw [if_pos hok, if_neg hlim, if_pos ((deskOk_iff _).2 (by assumption))]
        unfold RefD; rw [e]
        exact ⟨⟨⟨some ⟨t1, 0, none⟩, k1, some ⟨t2, 0, none⟩, k2, some ⟨t3, 0, none⟩, k3⟩, some ⟨t4, 0, none⟩, k4, some ⟨t5, 0, none⟩, k5, some ⟨(env 13).1, 0, none⟩, (env 13).2⟩, _, rfl, rfl, ⟨⟨ownSl (fun _ => rfl) (List.Mem.tail _ (List.Mem.head _)), ownSl (fun _ => rfl) (List.Mem.tail _ (List.Mem.tail _ (List.Mem.head _))), ownSl (fun _ => rfl) (List.Mem.tail _ (List.Mem.tail _ (List.Mem.tail _ (List.Mem.head _)))), hD.room.l1, hD.room.l2, hD.room.l3⟩, ownSl (fun _ => rfl) (List.Mem.tail _ (List.Mem.tail _ (List.Mem.tail _ (List.Mem.tail _ (List.Mem.head _))))), ownSl (fun _ => rfl) (List.Mem.tail _ (List.Mem.tail _ (List.Mem.tail _ (List.Mem.tail _ (List.Mem.tail _ (List.Mem.head _)))))), ownSl (fun _ => rfl) (List.Mem.head _), hD.l4, hD.l5, (by show (insLk x D.looks).length ≤ _; omega)⟩⟩
end Go.Proofs.Ytminkpgacomicab
end
section
set_option linter.unusedVariables false
set_option linter.unusedSimpArgs false
namespace Go.Proofs.Ytminkpgacomicab
open Go Go.Fw
set_option maxRecDepth 10000
def StrikeDR (D : Dk) (l : List Int) (H : List Row) (v : Value) (H' : List Row) : Prop :=
  (¬ deskR D ∧ v = tupD Dz pzd 20 ∧ H' = H) ∨ (deskR D ∧ ¬ sOk (D.looks.map (·.number)) none l ∧ v = tupD Dz pzd 21 ∧ H' = H) ∨
    (deskR D ∧ sOk (D.looks.map (·.number)) none l ∧ ∃ t1 k1 t2 k2 t3 k3 t4 k4 t5 k5 ao co Z, v = tupD { D with looks := woutD D l D.looks.length } ⟨⟨some ⟨t1, 0, none⟩, k1, some ⟨t2, 0, none⟩, k2, some ⟨t3, 0, none⟩, k3⟩, some ⟨t4, 0, none⟩, k4, some ⟨t5, 0, none⟩, k5, ao, co⟩ 0 ∧ H' = Z ++ rAges D.room t1 k1 :: rBoxes D.room t2 k2 :: rMats D.room t3 k3 :: rInt D.bales t4 k4 :: rInt D.cls t5 k5 :: H ∧
      ((Z = [] ∧ ao = none ∧ co = 0 ∧ woutD D l D.looks.length = []) ∨ ∃ t6, Z = [⟨t6, 0, (woutD D l D.looks.length).flatMap cLk, some 32, co * 6⟩] ∧ ao = some ⟨t6, 0, none⟩))
set_option maxHeartbeats 8000000 in
theorem refStrD0_spec (D : Dk) (p : Pd) (l : List Int) (a : Option Addr) (c : Nat) (H : List Row) (hD : DkOk H D p) (hl : SlE H a cI 1 l) (hb : l.length ≤ 1000000) (h1 : D.room.ages.length ≤ 1000000) (h2 : D.room.boxes.length ≤ 1000000) (h3 : D.room.mats.length ≤ 1000000) (h4 : D.bales.length ≤ 1000000) (h5 : D.cls.length ≤ 1000000) (h6 : D.looks.length ≤ 1000000) : Fc Try.prog 9 [.agg (cDk D p).toArray, .slice a l.length c] H (StrikeDR D l H) := by
  obtain ⟨pr, a4, c4, a5, c5, a6, c6⟩ := p
  have hD2 : ∀ r r', DkOk (r :: r' :: H) D ⟨pr, a4, c4, a5, c5, a6, c6⟩ := fun r r' => hD.sub (fun _ h => List.mem_cons_of_mem _ (List.mem_cons_of_mem _ h))
  refine Fc.mk (callable Try.call9) Try.func9 rfl Try.ntmps9 rfl ?_; dsimp only [fr]
  repeat' (first | (refine XO.op rfl ?_; (first | ((first | refine Xo.ng rfl ?_); (first | (refine Xg.ev (EvF.build (cs := cZd) rfl ArgsP.nil (te rfl) (Places.cons (te rfl) (Places.cons (te rfl) (Places.cons (te rfl) (Places.cons (te rfl) (Places.cons (te rfl) Places.nil))))) Try.zeroValue30 rfl) rfl rfl ?_) | (refine Xg.call (EnF.st rfl (by (repeat (first | exact Args.nil | refine Args.cons rfl ?_)); done)) rfl rfl (desk_spec D _ _ (hD2 _ _)) ?_; rintro _ H9 ⟨rfl, hH9⟩; subst H9) | (refine Xg.ev (EvF.move rfl rfl) rfl rfl ?_) | (refine Xg.ev (EvF.assign rfl rfl) rfl rfl ?_) | (refine Xg.ev (EvF.not rfl rfl) rfl rfl ?_) | (refine Xg.ev (EvF.lenSlice rfl rfl (te rfl)) rfl rfl ?_) | (refine Xg.ev (EvF.loadV rfl rfl (LoadV.whole (te rfl) rfl (List.Mem.tail _ (List.Mem.head _)) rfl)) rfl rfl ?_) | (refine Xg.st (StF.boxAgg rfl rfl) rfl rfl ?_; rintro _ _ ⟨bx, rfl, rfl⟩) | (refine Xg.st (StF.alloc rfl Try.zeroValue30 rfl) rfl rfl ?_; rintro _ _ ⟨bx, rfl, rfl⟩) | (refine Xg.st0 (StF.storeAll (i := 0) rfl rfl rfl (te rfl) rfl rfl rfl rfl) rfl ?_; rintro _ _ ⟨rfl, rfl⟩; dsimp only [List.set]))))) | (refine XO.done rfl ?_; refine hK _ _ ?_; clear hK K) | refine X.seq rfl ?_ | refine X.region rfl (fun K hK => ?_) | refine X.block rfl ?_ | refine X.skip rfl ?_ | refine X.ret rfl ?_ | (refine X.ite rfl rfl (fun hc => ?_); (first | (with_reducible refine Xb.caseN hc (fun h => ?_) (fun h => ?_))) <;> clear hc))
  · refine ret_two (by first | exact .inr rfl | exact .inl rfl) Try.results9 ⟨_, rfl, LoadV.whole (te rfl) rfl (List.Mem.head _) rfl⟩ rfl (H' := H) (by (repeat (first | exact List.Sublist.refl _ | apply List.Sublist.cons_cons | apply List.Sublist.cons)); done) (.inl ⟨h, rfl, rfl⟩)
  have hdr : deskR D := by assumption
  rename_i br
  refine X.lp rfl (fun q F' H' => ∃ k : Nat, q = l.length - k ∧ k ≤ l.length ∧ (sOk (D.looks.map (·.number)) none l ↔ sOk (D.looks.map (·.number)) (prev l k) (l.drop k)) ∧ ⟨bx, 0, cZd, some 30, 9⟩ :: ⟨br, 0, cDk D ⟨pr, a4, c4, a5, c5, a6, c6⟩, some 30, 9⟩ :: H = H' ∧ F' = [(1, .slice a l.length c), (2, .pointer (some ⟨br, 0, none⟩)), (4, .pointer (some ⟨bx, 0, none⟩)), (15, .slice a l.length c), (16, .int .i64 l.length), (17, .int .i64 k)])
    l.length [(1, .slice a l.length c), (2, .pointer (some ⟨br, 0, none⟩)), (4, .pointer (some ⟨bx, 0, none⟩)), (15, .slice a l.length c), (16, .int .i64 l.length), (17, .int .i64 (0 : Nat))] _ (by (repeat (first | exact Sub.nil _ | refine Sub.cons rfl ?_)); done) (by (repeat (first | exact List.Sublist.refl _ | apply List.Sublist.cons_cons | apply List.Sublist.cons)); done) ⟨0, by omega, by omega, by simp [prev], rfl, rfl⟩ ?_
  rintro _ _ _ ⟨k, rfl, hk, hn', rfl, rfl⟩
  by_cases hkl : k < l.length
  · obtain ⟨e, he⟩ : ∃ e, l[k]? = some e := ⟨_, List.getElem?_eq_getElem hkl⟩
    obtain ⟨e', he'⟩ : ∃ e', l[k - 1]? = some e' := ⟨_, List.getElem?_eq_getElem (by omega)⟩
    obtain ⟨b, off, e0, rfl, he0⟩ := hl.elem (i := k) (by omega)
    obtain rfl : e = e0 := by rw [he] at he0; cases he0; rfl
    rw [drop_cons he] at hn'
    repeat' (first | (refine XO.op rfl ?_; (first | ((first | refine Xo.ng rfl ?_); (first | (refine Xg.ev (EvF.loadV rfl rfl (LoadV.el0 (hl.sub (fun _ hm => by repeat (first | exact hm | apply List.Mem.tail))) he (te rfl) rfl (fun _ hm => hm) rfl)) rfl rfl ?_) | (refine Xg.ev (EvF.move rfl rfl) rfl rfl ?_) | (refine Xg.ev (EvF.assign rfl rfl) rfl rfl ?_) | (refine Xg.ev (EvF.cmp rfl rfl rfl rfl) rfl rfl ?_) | (refine Xg.ev (EvF.fieldAddr rfl rfl (te rfl) rfl (te rfl) (by decide)) rfl rfl ?_) | (refine Xg.ev (EvF.lenSlice rfl rfl (te rfl)) rfl rfl ?_) | (refine Xg.ev (EvF.indexSlice rfl rfl rfl (te rfl) (te rfl) (by omega) (by omega)) rfl rfl ?_) | (refine Xg.ev (EvF.loadV rfl rfl (LoadV.own (te rfl) rfl (List.Mem.tail _ (List.Mem.head _)) rfl)) rfl rfl ?_) | (refine Xg.ev (EvF.loadV rfl rfl (LoadV.whole (te rfl) rfl (List.Mem.tail _ (List.Mem.head _)) rfl)) rfl rfl ?_))))) | (refine XO.done rfl ?_; refine hK _ _ ?_; clear hK K) | refine X.seq rfl ?_ | refine X.region rfl (fun K hK => ?_) | refine X.block rfl ?_ | (refine X.brk rfl ?_; repeat (first | refine blockX_hit rfl ?_ | refine blockX_miss (by decide) ?_)) | refine X.skip rfl ?_ | (refine X.ite rfl rfl (fun hc => ?_); (first | (with_reducible refine Xb.case hc (fun h => ?_) (fun h => ?_))) <;> clear hc))
    any_goals (exfalso; omega)
    refine X.lp rfl (fun q F' H' => ∃ (j : Nat) (f : Bool), q = D.looks.length - j ∧ j ≤ D.looks.length ∧ (f = true ↔ ∃ m ∈ D.looks.take j, m.number = e) ∧ ⟨bx, 0, cZd, some 30, 9⟩ :: ⟨br, 0, cDk D ⟨pr, a4, c4, a5, c5, a6, c6⟩, some 30, 9⟩ :: H = H' ∧ F' = [(1, .slice (some ⟨b, off, none⟩) l.length c), (2, .pointer (some ⟨br, 0, none⟩)), (4, .pointer (some ⟨bx, 0, none⟩)), (6, .int .i64 k), (7, .int .i64 e), (8, .bool f), (15, .slice (some ⟨b, off, none⟩) l.length c), (16, .int .i64 l.length), (17, .int .i64 k), (23, .slice a6 D.looks.length c6), (24, .int .i64 D.looks.length), (25, .int .i64 j)])
      D.looks.length [(1, .slice (some ⟨b, off, none⟩) l.length c), (2, .pointer (some ⟨br, 0, none⟩)), (4, .pointer (some ⟨bx, 0, none⟩)), (6, .int .i64 k), (7, .int .i64 e), (8, .bool false), (15, .slice (some ⟨b, off, none⟩) l.length c), (16, .int .i64 l.length), (17, .int .i64 k), (23, .slice a6 D.looks.length c6), (24, .int .i64 D.looks.length), (25, .int .i64 (0 : Nat))] _ (by (repeat (first | exact Sub.nil _ | refine Sub.cons rfl ?_)); done) (by (repeat (first | exact List.Sublist.refl _ | apply List.Sublist.cons_cons | apply List.Sublist.cons)); done) ⟨0, false, by omega, by omega, by simp, rfl, rfl⟩ ?_
    rintro _ _ _ ⟨j, f, rfl, hj, hf, rfl, rfl⟩
    by_cases hjl : j < D.looks.length
    · obtain ⟨m, hm⟩ : ∃ m, D.looks[j]? = some m := ⟨_, List.getElem?_eq_getElem hjl⟩
      obtain ⟨b', off', m0, rfl, hm0⟩ := hD.looks.elem (i := j) (by omega)
      have hf' : (∃ x ∈ D.looks.take (j + 1), x.number = e) ↔ (∃ x ∈ D.looks.take j, x.number = e) ∨ m.number = e := by
        rw [take_snoc hm]
        simp only [List.mem_append, List.mem_singleton]
        constructor
        · rintro ⟨x, hx | rfl, hx2⟩
          · exact .inl ⟨x, hx, hx2⟩
          · exact .inr hx2
        · rintro (⟨x, hx, hx2⟩ | hx)
          · exact ⟨x, .inl hx, hx2⟩
          · exact ⟨m, .inr rfl, hx⟩
      cases f
      · repeat' (first | (refine XO.op rfl ?_; (first | ((first | refine Xo.ng rfl ?_ | (refine Xo.g rfl rfl ?_; with_reducible refine Xw.tt ?_) | (refine Xo.g rfl rfl ?_; with_reducible refine Xw.ff ?_)); (first | (refine Xg.ev (EvF.loadV rfl rfl (LoadV.elA0 (hD.looks.sub (fun _ hm => by repeat (first | exact hm | apply List.Mem.tail))) hm (te rfl) rfl (fun _ hm => hm) rfl)) rfl rfl ?_) | (refine Xg.ev (EvF.move rfl rfl) rfl rfl ?_) | (refine Xg.ev (EvF.assign rfl rfl) rfl rfl ?_) | (refine Xg.ev (EvF.pickT rfl rfl rfl) rfl rfl ?_) | (refine Xg.ev (EvF.pickF rfl rfl rfl) rfl rfl ?_) | (refine Xg.ev (EvF.cmp rfl rfl rfl rfl) rfl rfl ?_) | (refine Xg.ev (EvF.add64 rfl rfl rfl (by omega) (by omega)) rfl rfl ?_) | (refine Xg.ev (EvF.sub64 rfl rfl rfl (by omega) (by omega)) rfl rfl ?_) | (refine Xg.ev (EvF.not rfl rfl) rfl rfl ?_) | (refine Xg.ev (EvF.fieldAddr rfl rfl (te rfl) rfl (te rfl) (by decide)) rfl rfl ?_) | (refine Xg.ev (EvF.indexSlice rfl rfl rfl (te rfl) (te rfl) (by omega) (by omega)) rfl rfl ?_) | (refine Xg.ev (EvF.loadV rfl rfl (LoadV.own (te rfl) rfl (List.Mem.head _) rfl)) rfl rfl ?_) | (refine Xg.st (StF.alloc rfl Try.zeroValue61 rfl) rfl rfl ?_; rintro _ _ ⟨bx, rfl, rfl⟩) | (refine Xg.st0 (StF.storeAll (i := 0) rfl rfl rfl (te rfl) rfl rfl rfl rfl) rfl ?_; rintro _ _ ⟨rfl, rfl⟩; dsimp only [List.set]))) | (refine Xo.g rfl rfl ?_; (first | (with_reducible refine Xw.tf rfl rfl ?_) | (with_reducible refine Xw.ft rfl rfl ?_) | (with_reducible refine Xw.case (fun h => ?_) (fun h => ?_) <;> simp only [h, decide_true, decide_false, Bool.not_true, Bool.not_false, and_self, and_true, true_and, and_false, false_and]) | (with_reducible refine Xw.caseB (fun h => ?_) (fun h => ?_) <;> simp only [h, decide_true, decide_false, Bool.not_true, Bool.not_false, and_self, and_true, true_and, and_false, false_and]))) | (refine Xo.sk rfl rfl rfl rfl ?_))) | (refine XO.done rfl ?_; refine hK _ _ ?_; clear hK K) | refine X.seq rfl ?_ | refine X.region rfl (fun K hK => ?_) | refine X.block rfl ?_ | (refine X.brk rfl ?_; repeat (first | refine blockX_hit rfl ?_ | refine blockX_miss (by decide) ?_)) | refine X.skip rfl ?_ | (refine X.ite rfl rfl (fun hc => ?_); (first | (with_reducible refine Xb.t hc ?_) | (with_reducible refine Xb.f hc ?_) | (with_reducible refine Xb.case hc (fun h => ?_) (fun h => ?_))) <;> clear hc))
        any_goals (exfalso; omega)
        refine ⟨_, _, _, (by (repeat (first | exact Sub.nil _ | refine Sub.cons rfl ?_)); done), (by (repeat (first | exact List.Sublist.refl _ | apply List.Sublist.cons_cons | apply List.Sublist.cons)); done), ⟨j + 1, decide (m.number = e), rfl, by omega, by rw [hf', ← hf]; simp, rfl, rfl⟩, by omega⟩
      · repeat' (first | (refine XO.op rfl ?_; (first | ((first | refine Xo.ng rfl ?_ | (refine Xo.g rfl rfl ?_; with_reducible refine Xw.tt ?_) | (refine Xo.g rfl rfl ?_; with_reducible refine Xw.ff ?_)); (first | (refine Xg.ev (EvF.loadV rfl rfl (LoadV.elA0 (hD.looks.sub (fun _ hm => by repeat (first | exact hm | apply List.Mem.tail))) hm (te rfl) rfl (fun _ hm => hm) rfl)) rfl rfl ?_) | (refine Xg.ev (EvF.move rfl rfl) rfl rfl ?_) | (refine Xg.ev (EvF.assign rfl rfl) rfl rfl ?_) | (refine Xg.ev (EvF.pickT rfl rfl rfl) rfl rfl ?_) | (refine Xg.ev (EvF.pickF rfl rfl rfl) rfl rfl ?_) | (refine Xg.ev (EvF.cmp rfl rfl rfl rfl) rfl rfl ?_) | (refine Xg.ev (EvF.add64 rfl rfl rfl (by omega) (by omega)) rfl rfl ?_) | (refine Xg.ev (EvF.sub64 rfl rfl rfl (by omega) (by omega)) rfl rfl ?_) | (refine Xg.ev (EvF.not rfl rfl) rfl rfl ?_) | (refine Xg.ev (EvF.indexSlice rfl rfl rfl (te rfl) (te rfl) (by omega) (by omega)) rfl rfl ?_) | (refine Xg.st (StF.alloc rfl Try.zeroValue61 rfl) rfl rfl ?_; rintro _ _ ⟨bx, rfl, rfl⟩) | (refine Xg.st0 (StF.storeAll (i := 0) rfl rfl rfl (te rfl) rfl rfl rfl rfl) rfl ?_; rintro _ _ ⟨rfl, rfl⟩; dsimp only [List.set]))) | (refine Xo.g rfl rfl ?_; (first | (with_reducible refine Xw.tf rfl rfl ?_) | (with_reducible refine Xw.ft rfl rfl ?_) | (with_reducible refine Xw.case (fun h => ?_) (fun h => ?_) <;> simp only [h, decide_true, decide_false, Bool.not_true, Bool.not_false, and_self, and_true, true_and, and_false, false_and]) | (with_reducible refine Xw.caseB (fun h => ?_) (fun h => ?_) <;> simp only [h, decide_true, decide_false, Bool.not_true, Bool.not_false, and_self, and_true, true_and, and_false, false_and]))) | (refine Xo.sk rfl rfl rfl rfl ?_))) | (refine XO.done rfl ?_; refine hK _ _ ?_; clear hK K) | refine X.seq rfl ?_ | refine X.region rfl (fun K hK => ?_) | refine X.block rfl ?_ | (refine X.brk rfl ?_; repeat (first | refine blockX_hit rfl ?_ | refine blockX_miss (by decide) ?_)) | refine X.skip rfl ?_ | (refine X.ite rfl rfl (fun hc => ?_); (first | (with_reducible refine Xb.t hc ?_) | (with_reducible refine Xb.f hc ?_) | (with_reducible refine Xb.case hc (fun h => ?_) (fun h => ?_))) <;> clear hc))
        any_goals (exfalso; omega)
        refine ⟨_, _, _, (by (repeat (first | exact Sub.nil _ | refine Sub.cons rfl ?_)); done), (by (repeat (first | exact List.Sublist.refl _ | apply List.Sublist.cons_cons | apply List.Sublist.cons)); done), ⟨j + 1, true, rfl, by omega, by rw [hf', ← hf]; simp, rfl, rfl⟩, by omega⟩
    · have hall : f = true ↔ e ∈ D.looks.map (·.number) := by
        rw [hf, List.take_of_length_le (by omega)]
        simp [List.mem_map]
      cases f
      · repeat' (first | (refine XO.op rfl ?_; (first | ((first | refine Xo.ng rfl ?_ | (refine Xo.g rfl rfl ?_; with_reducible refine Xw.tt ?_) | (refine Xo.g rfl rfl ?_; with_reducible refine Xw.ff ?_)); (first | (refine Xg.ev (EvF.build (cs := cZd) rfl ArgsP.nil (te rfl) (Places.cons (te rfl) (Places.cons (te rfl) (Places.cons (te rfl) (Places.cons (te rfl) (Places.cons (te rfl) Places.nil))))) Try.zeroValue30 rfl) rfl rfl ?_) | (refine Xg.ev (EvF.move rfl rfl) rfl rfl ?_) | (refine Xg.ev (EvF.assign rfl rfl) rfl rfl ?_) | (refine Xg.ev (EvF.pickT rfl rfl rfl) rfl rfl ?_) | (refine Xg.ev (EvF.pickF rfl rfl rfl) rfl rfl ?_) | (refine Xg.ev (EvF.cmp rfl rfl rfl rfl) rfl rfl ?_) | (refine Xg.ev (EvF.add64 rfl rfl rfl (by omega) (by omega)) rfl rfl ?_) | (refine Xg.ev (EvF.sub64 rfl rfl rfl (by omega) (by omega)) rfl rfl ?_) | (refine Xg.ev (EvF.not rfl rfl) rfl rfl ?_) | (refine Xg.ev (EvF.indexSlice rfl rfl rfl (te rfl) (te rfl) (by omega) (by omega)) rfl rfl ?_) | (refine Xg.st0 (StF.storeAll (i := 0) rfl rfl rfl (te rfl) rfl rfl rfl rfl) rfl ?_; rintro _ _ ⟨rfl, rfl⟩; dsimp only [List.set]))) | (refine Xo.g rfl rfl ?_; (first | (with_reducible refine Xw.tf rfl rfl ?_) | (with_reducible refine Xw.ft rfl rfl ?_) | (with_reducible refine Xw.case (fun h => ?_) (fun h => ?_) <;> simp only [h, decide_true, decide_false, Bool.not_true, Bool.not_false, and_self, and_true, true_and, and_false, false_and]) | (with_reducible refine Xw.caseB (fun h => ?_) (fun h => ?_) <;> simp only [h, decide_true, decide_false, Bool.not_true, Bool.not_false, and_self, and_true, true_and, and_false, false_and]))) | (refine Xo.sk rfl rfl rfl rfl ?_))) | (refine XO.done rfl ?_; refine hK _ _ ?_; clear hK K) | refine X.seq rfl ?_ | refine X.region rfl (fun K hK => ?_) | refine X.block rfl ?_ | (refine X.brk rfl ?_; repeat (first | refine blockX_hit rfl ?_ | refine blockX_miss (by decide) ?_)) | refine X.skip rfl ?_ | refine X.ret rfl ?_ | (refine X.ite rfl rfl (fun hc => ?_); (first | (with_reducible refine Xb.t hc ?_) | (with_reducible refine Xb.f hc ?_) | (with_reducible refine Xb.case hc (fun h => ?_) (fun h => ?_))) <;> clear hc))
        any_goals (exfalso; first | omega | contradiction | (rename (!false) = false => hx9; cases hx9; done) | (rename (!true) = true => hx9; cases hx9; done))
        refine ret_two (by first | exact .inr rfl | exact .inl rfl) Try.results9 ⟨_, rfl, LoadV.whole (te rfl) rfl (List.Mem.head _) rfl⟩ rfl (H' := H) (by (repeat (first | exact List.Sublist.refl _ | apply List.Sublist.cons_cons | apply List.Sublist.cons)); done) (.inr (.inl ⟨hdr, (fun hx => Bool.noConfusion (hall.2 (hn'.1 hx).1)), rfl, rfl⟩))
      · have hin := hall.1 rfl
        repeat' (first | (refine XO.op rfl ?_; (first | ((first | refine Xo.ng rfl ?_ | (refine Xo.g rfl rfl ?_; with_reducible refine Xw.tt ?_) | (refine Xo.g rfl rfl ?_; with_reducible refine Xw.ff ?_)); (first | (refine Xg.ev (EvF.build (cs := cZd) rfl ArgsP.nil (te rfl) (Places.cons (te rfl) (Places.cons (te rfl) (Places.cons (te rfl) (Places.cons (te rfl) (Places.cons (te rfl) Places.nil))))) Try.zeroValue30 rfl) rfl rfl ?_) | (refine Xg.ev (EvF.loadV (v := .int .i64 e') rfl rfl (by rw [show ((k : Int) - 1).toNat = k - 1 from by omega]; exact LoadV.el0 hl he' (te rfl) rfl (fun _ hm => List.Mem.tail _ (List.Mem.tail _ hm)) rfl)) rfl rfl ?_) | (refine Xg.ev (EvF.move rfl rfl) rfl rfl ?_) | (refine Xg.ev (EvF.assign rfl rfl) rfl rfl ?_) | (refine Xg.ev (EvF.pickT rfl rfl rfl) rfl rfl ?_) | (refine Xg.ev (EvF.pickF rfl rfl rfl) rfl rfl ?_) | (refine Xg.ev (EvF.cmp rfl rfl rfl rfl) rfl rfl ?_) | (refine Xg.ev (EvF.add64 rfl rfl rfl (by omega) (by omega)) rfl rfl ?_) | (refine Xg.ev (EvF.sub64 rfl rfl rfl (by omega) (by omega)) rfl rfl ?_) | (refine Xg.ev (EvF.not rfl rfl) rfl rfl ?_) | (refine Xg.ev (EvF.indexSlice rfl rfl rfl (te rfl) (te rfl) (by omega) (by omega)) rfl rfl ?_) | (refine Xg.st0 (StF.storeAll (i := 0) rfl rfl rfl (te rfl) rfl rfl rfl rfl) rfl ?_; rintro _ _ ⟨rfl, rfl⟩; dsimp only [List.set]))) | (refine Xo.g rfl rfl ?_; (first | (with_reducible refine Xw.tf rfl rfl ?_) | (with_reducible refine Xw.ft rfl rfl ?_) | (with_reducible refine Xw.case (fun h => ?_) (fun h => ?_) <;> simp only [h, decide_true, decide_false, Bool.not_true, Bool.not_false, and_self, and_true, true_and, and_false, false_and]) | (with_reducible refine Xw.caseB (fun h => ?_) (fun h => ?_) <;> simp only [h, decide_true, decide_false, Bool.not_true, Bool.not_false, and_self, and_true, true_and, and_false, false_and]))) | (refine Xo.sk rfl rfl rfl rfl ?_))) | (refine XO.done rfl ?_; refine hK _ _ ?_; clear hK K) | refine X.seq rfl ?_ | refine X.region rfl (fun K hK => ?_) | refine X.block rfl ?_ | (refine X.brk rfl ?_; repeat (first | refine blockX_hit rfl ?_ | refine blockX_miss (by decide) ?_)) | refine X.skip rfl ?_ | refine X.ret rfl ?_ | (refine X.ite rfl rfl (fun hc => ?_); (first | (with_reducible refine Xb.t hc ?_) | (with_reducible refine Xb.f hc ?_) | (with_reducible refine Xb.case hc (fun h => ?_) (fun h => ?_))) <;> clear hc))
        any_goals (exfalso; first | omega | contradiction | (rename (!false) = false => hx9; cases hx9; done) | (rename (!true) = true => hx9; cases hx9; done))
        all_goals first
          | (refine ret_two (by first | exact .inr rfl | exact .inl rfl) Try.results9 ⟨_, rfl, LoadV.whole (te rfl) rfl (List.Mem.head _) rfl⟩ rfl (H' := H) (by (repeat (first | exact List.Sublist.refl _ | apply List.Sublist.cons_cons | apply List.Sublist.cons)); done) (.inr (.inl ⟨hdr, (fun hx => ?_), rfl, rfl⟩))
             have h4 := (hn'.1 hx).2.1 e' (by unfold prev; rw [if_neg (by omega)]; exact he')
             omega)
          | (refine ⟨_, _, _, (by (repeat (first | exact Sub.nil _ | refine Sub.cons rfl ?_)); done), (by (repeat (first | exact List.Sublist.refl _ | apply List.Sublist.cons_cons | apply List.Sublist.cons)); done), ⟨k + 1, rfl, by omega, hn'.trans ⟨fun hx => ?_, fun hx => ?_⟩, rfl, rfl⟩, by omega⟩
             · have h4 := hx.2.2
               unfold prev; rw [if_neg (by omega), Nat.add_sub_cancel, he]; exact h4
             · unfold prev at hx ⊢
               rw [if_neg (by omega), Nat.add_sub_cancel, he] at hx
               refine ⟨hin, fun q hq => ?_, hx⟩
               first
                 | (rw [if_neg (by omega), he'] at hq
                    cases hq
                    omega)
                 | (rw [if_pos (by omega)] at hq
                    cases hq))
  · have hok : sOk (D.looks.map (·.number)) none l := hn'.2 (by rw [List.drop_eq_nil_of_le (by omega)]; exact trivial)
    repeat' (first | (refine XO.op rfl ?_; (first | ((first | refine Xo.ng rfl ?_); (first | (refine Xg.call (EnF.st rfl (by (repeat (first | exact Args.nil | refine Args.cons rfl ?_)); done)) rfl rfl (withoutD_spec D _ l _ _ _ (hD.sub (fun _ hm => by repeat (first | exact hm | apply List.Mem.tail))) (hl.sub (fun _ hm => by repeat (first | exact hm | apply List.Mem.tail))) hb h1 h2 h3 h4 h5 h6) ?_; rintro _ _ ⟨t1, k1, t2, k2, t3, k3, t4, k4, t5, k5, ao, co, Z, rfl, rfl, hz⟩) | (refine Xg.ev (EvF.move rfl rfl) rfl rfl ?_) | (refine Xg.ev (EvF.cmp rfl rfl rfl rfl) rfl rfl ?_) | (refine Xg.ev (EvF.loadV rfl rfl (LoadV.whole (te rfl) rfl (List.Mem.tail _ (List.Mem.head _)) rfl)) rfl rfl ?_))))) | (refine XO.done rfl ?_; refine hK _ _ ?_; clear hK K) | refine X.seq rfl ?_ | refine X.region rfl (fun K hK => ?_) | refine X.block rfl ?_ | (refine X.brk rfl ?_; repeat (first | refine blockX_hit rfl ?_ | refine blockX_miss (by decide) ?_)) | refine X.skip rfl ?_ | (refine X.ite rfl rfl (fun hc => ?_); (first | (with_reducible refine Xb.case hc (fun h => ?_) (fun h => ?_))) <;> clear hc))
    any_goals (exfalso; omega)
    rcases hz with ⟨rfl, rfl, rfl, hw⟩ | ⟨t6, rfl, rfl⟩
    · simp only [List.nil_append]
      repeat' (first | (refine XO.op rfl ?_; (first | ((first | refine Xo.ng rfl ?_); (first | (refine Xg.st0 (StF.storeAll (i := 5) rfl rfl rfl (te rfl) rfl rfl rfl rfl) rfl ?_; rintro _ _ ⟨rfl, rfl⟩; dsimp only [List.set]) | (refine Xg.ev (EvF.assign rfl rfl) rfl rfl ?_))))) | (refine XO.done rfl ?_; refine hK _ _ ?_; clear hK K) | refine X.ret rfl ?_)
      refine ret_two (by first | exact .inr rfl | exact .inl rfl) Try.results9 ⟨_, rfl, LoadV.whole (te rfl) rfl (List.Mem.tail _ (List.Mem.tail _ (List.Mem.tail _ (List.Mem.tail _ (List.Mem.tail _ (List.Mem.head _)))))) rfl⟩ rfl (H' := rAges D.room t1 k1 :: rBoxes D.room t2 k2 :: rMats D.room t3 k3 :: rInt D.bales t4 k4 :: rInt D.cls t5 k5 :: H) (by (repeat (first | exact List.Sublist.refl _ | apply List.Sublist.cons_cons | apply List.Sublist.cons)); done) (.inr (.inr ⟨hdr, hok, t1, k1, t2, k2, t3, k3, t4, k4, t5, k5, none, 0, [], rfl, rfl, .inl ⟨rfl, rfl, rfl, hw⟩⟩))
    · simp only [List.cons_append, List.nil_append]
      repeat' (first | (refine XO.op rfl ?_; (first | ((first | refine Xo.ng rfl ?_); (first | (refine Xg.st0 (StF.storeAll (i := 6) rfl rfl rfl (te rfl) rfl rfl rfl rfl) rfl ?_; rintro _ _ ⟨rfl, rfl⟩; dsimp only [List.set]) | (refine Xg.ev (EvF.assign rfl rfl) rfl rfl ?_))))) | (refine XO.done rfl ?_; refine hK _ _ ?_; clear hK K) | refine X.ret rfl ?_)
      refine ret_two (by first | exact .inr rfl | exact .inl rfl) Try.results9 ⟨_, rfl, LoadV.whole (te rfl) rfl (List.Mem.tail _ (List.Mem.tail _ (List.Mem.tail _ (List.Mem.tail _ (List.Mem.tail _ (List.Mem.tail _ (List.Mem.head _))))))) rfl⟩ rfl (H' := ⟨t6, 0, (woutD D l D.looks.length).flatMap cLk, some 32, co * 6⟩ :: rAges D.room t1 k1 :: rBoxes D.room t2 k2 :: rMats D.room t3 k3 :: rInt D.bales t4 k4 :: rInt D.cls t5 k5 :: H) (by (repeat (first | exact List.Sublist.refl _ | apply List.Sublist.cons_cons | apply List.Sublist.cons)); done) (.inr (.inr ⟨hdr, hok, t1, k1, t2, k2, t3, k3, t4, k4, t5, k5, _, _, _, rfl, rfl, .inr ⟨t6, rfl, rfl⟩⟩))
end Go.Proofs.Ytminkpgacomicab
end
section
set_option linter.unusedVariables false
set_option linter.unusedSimpArgs false
namespace Go.Proofs.Ytminkpgacomicab
open Go Go.Fw
set_option maxRecDepth 10000
theorem rises_nodup : ∀ (l : List Int) (p : Int), rises p l → l.Nodup
  | [], _, _ => List.nodup_nil
  | n :: t, p, h => List.nodup_cons.2 ⟨fun hm => by have := rises_mem t n n h.2 hm; omega, rises_nodup t n h.2⟩
theorem filter_perm {A B : List Int} (hA : A.Nodup) (hB : B.Nodup) : (A.filter (fun a => decide (a ∈ B))).Perm (B.filter (fun b => decide (b ∈ A))) := by
  refine (List.perm_ext_iff_of_nodup (hA.sublist List.filter_sublist) (hB.sublist List.filter_sublist)).2 (fun a => ?_)
  simp only [List.mem_filter, decide_eq_true_eq]
  exact And.comm
theorem filter_split {α : Type} (p : α → Bool) : ∀ l : List α, (l.filter (fun a => !p a)).length + (l.filter p).length = l.length
  | [] => rfl
  | a :: l => by
    have := filter_split p l
    by_cases h : p a = true <;> simp [h] <;> omega
theorem all_in {A B : List Int} (hA : A.Nodup) (hB : B.Nodup) : (A.filter (fun a => !decide (a ∈ B))).length + B.length = A.length ↔ ∀ b ∈ B, b ∈ A := by
  have h1 := filter_split (fun a => decide (a ∈ B)) A
  have h2 := (filter_perm hA hB).length_eq
  have h3 : (B.filter (fun b => decide (b ∈ A))).length ≤ B.length := List.length_filter_le _ _
  constructor
  · intro h b hb
    have h4 : (B.filter (fun b => decide (b ∈ A))).length = B.length := by omega
    have h5 := List.length_filter_eq_length_iff.1 h4 b hb
    exact of_decide_eq_true h5
  · intro h
    have h4 : B.filter (fun b => decide (b ∈ A)) = B := List.filter_eq_self.2 (fun b hb => decide_eq_true (h b hb))
    rw [h4] at h2
    omega
theorem sOk_mem (ns : List Int) : ∀ (l : List Int) (p : Option Int), sOk ns p l → ∀ n ∈ l, n ∈ ns
  | [], _, _, _, h => absurd h List.not_mem_nil
  | m :: t, p, h, n, hn => by
    rcases List.mem_cons.1 hn with rfl | hn
    · exact h.1
    · exact sOk_mem ns t (some m) h.2.2 n hn
theorem sOk_rises (ns : List Int) : ∀ (l : List Int) (p : Int), sOk ns (some p) l → rises p l
  | [], _, _ => trivial
  | m :: t, p, h => ⟨h.2.1 p rfl, sOk_rises ns t m h.2.2⟩
theorem rises_sOk (ns : List Int) : ∀ (l : List Int) (p : Int), rises p l → (∀ n ∈ l, n ∈ ns) → sOk ns (some p) l
  | [], _, _, _ => trivial
  | m :: t, p, h, hm => ⟨hm m List.mem_cons_self, fun q hq => by cases hq; exact h.1, rises_sOk ns t m h.2 (fun n hn => hm n (List.mem_cons_of_mem _ hn))⟩
theorem lastOf_mem : ∀ (l : List Int) (p : Int), lastOf p l = p ∨ lastOf p l ∈ l
  | [], _ => .inl rfl
  | n :: t, p => by
    right
    rcases lastOf_mem t n with h | h
    · simp only [lastOf]; rw [h]; exact List.mem_cons_self
    · exact List.mem_cons_of_mem _ h
theorem lastOf_ge : ∀ (l : List Int) (p n : Int), rises p l → n ∈ l → n ≤ lastOf p l
  | [], _, _, _, h => absurd h List.not_mem_nil
  | m :: t, p, n, h, hn => by
    rcases List.mem_cons.1 hn with rfl | hn
    · exact rises_le t _ h.2
    · exact lastOf_ge t m n h.2 hn
theorem left_lenD (ms : List Lk) (l : List Int) : (leftLk ms l).length = ((ms.map (·.number)).filter (fun n => !decide (n ∈ l))).length := by
  unfold leftLk
  rw [List.filter_map, List.length_map]
  rfl
theorem strD_iff (D : Dk) (l : List Int) (hok : deskR D) : sOk (D.looks.map (·.number)) none l ↔ strOkL D.looks l := by
  have hrO : risesOk (D.looks.map (·.number)) := hok.2.2.2.2.2.2.2.2
  obtain ⟨hr, hl9⟩ := hrO
  have hnd := rises_nodup _ _ hr
  unfold strOkL risesOk
  rw [left_lenD, ← List.length_map (f := fun m : Lk => m.number)]
  constructor
  · intro h
    have hin := sOk_mem _ l none h
    have hri : rises 0 l := by
      cases l with
      | nil => trivial
      | cons n t => exact ⟨rises_mem _ _ _ hr (hin n List.mem_cons_self), sOk_rises _ t n h.2.2⟩
    refine ⟨⟨hri, ?_⟩, (all_in hnd (rises_nodup _ _ hri)).2 hin⟩
    rcases lastOf_mem l 0 with h0 | h0
    · omega
    · have := lastOf_ge _ _ _ hr (hin _ h0)
      omega
  · rintro ⟨⟨hri, _⟩, hc⟩
    have hin := (all_in hnd (rises_nodup _ _ hri)).1 hc
    cases l with
    | nil => trivial
    | cons n t => exact ⟨hin n List.mem_cons_self, (fun q hq => by cases hq), rises_sOk _ t n hri.2 (fun m hm => hin m (List.mem_cons_of_mem _ hm))⟩
theorem struckD_eq (D : Dk) (l : List Int) : woutD D l D.looks.length = leftLk D.looks l := by
  unfold woutD leftLk
  rw [List.take_length]
  exact List.filter_congr (fun m _ => by simp)
theorem refStrD_spec (D : Dk) (p : Pd) (l : List Int) (a : Option Addr) (c : Nat) (H : List Row) (hD : DkOk H D p) (hl : SlE H a cI 1 l) (hb : l.length ≤ 1000000) (h1 : D.room.ages.length ≤ 1000000) (h2 : D.room.boxes.length ≤ 1000000) (h3 : D.room.mats.length ≤ 1000000) (h4 : D.bales.length ≤ 1000000) (h5 : D.cls.length ≤ 1000000) (h6 : D.looks.length ≤ 1000000) : Fc Try.prog 9 [.agg (cDk D p).toArray, .slice a l.length c] H (RefD (gstrF D l) H) := by
  refine (refStrD0_spec D p l a c H hD hl hb h1 h2 h3 h4 h5 h6).mono (fun v H' h => ?_)
  unfold RefD
  have hle : (leftLk D.looks l).length ≤ D.looks.length := List.length_filter_le _ _
  have hl6 := hD.l6
  rcases h with ⟨hr, rfl, rfl⟩ | ⟨hr, hs, rfl, rfl⟩ | ⟨hr, hs, t1, k1, t2, k2, t3, k3, t4, k4, t5, k5, ao, co, Z, rfl, rfl, hz⟩
  · have e : gstrF D l = (Dz, 20) := by unfold gstrF; rw [if_neg (fun q => hr ((deskOk_iff _).1 q))]
    rw [e]
    exact ⟨pzd, [], rfl, rfl, DkOk.zero _⟩
  · have e : gstrF D l = (Dz, 21) := by unfold gstrF; rw [if_pos ((deskOk_iff _).2 hr), if_neg (fun q => hs ((strD_iff D l hr).2 q))]
    rw [e]
    exact ⟨pzd, [], rfl, rfl, DkOk.zero _⟩
  · have e : gstrF D l = (strDk D l, 0) := by unfold gstrF; rw [if_pos ((deskOk_iff _).2 hr), if_pos ((strD_iff D l hr).1 hs)]
    rw [e]
    rw [struckD_eq] at *
    rcases hz with ⟨rfl, rfl, rfl, hm⟩ | ⟨t6, rfl, rfl⟩
    · refine ⟨_, [rAges D.room t1 k1, rBoxes D.room t2 k2, rMats D.room t3 k3, rInt D.bales t4 k4, rInt D.cls t5 k5], rfl, rfl, ⟨⟨ownSl (fun _ => rfl) (List.Mem.head _), ownSl (fun _ => rfl) (List.Mem.tail _ (List.Mem.head _)), ownSl (fun _ => rfl) (List.Mem.tail _ (List.Mem.tail _ (List.Mem.head _))), hD.room.l1, hD.room.l2, hD.room.l3⟩, ownSl (fun _ => rfl) (List.Mem.tail _ (List.Mem.tail _ (List.Mem.tail _ (List.Mem.head _)))), ownSl (fun _ => rfl) (List.Mem.tail _ (List.Mem.tail _ (List.Mem.tail _ (List.Mem.tail _ (List.Mem.head _))))), ?_, hD.l4, hD.l5, by show (leftLk D.looks l).length ≤ _; omega⟩⟩
      show SlE _ none cLk 6 (leftLk D.looks l)
      rw [hm]; exact sleNilD
    · exact ⟨_, [rLooks (strDk D l) t6 co, rAges D.room t1 k1, rBoxes D.room t2 k2, rMats D.room t3 k3, rInt D.bales t4 k4, rInt D.cls t5 k5], rfl, rfl, ⟨⟨ownSl (fun _ => rfl) (List.Mem.tail _ (List.Mem.head _)), ownSl (fun _ => rfl) (List.Mem.tail _ (List.Mem.tail _ (List.Mem.head _))), ownSl (fun _ => rfl) (List.Mem.tail _ (List.Mem.tail _ (List.Mem.tail _ (List.Mem.head _)))), hD.room.l1, hD.room.l2, hD.room.l3⟩, ownSl (fun _ => rfl) (List.Mem.tail _ (List.Mem.tail _ (List.Mem.tail _ (List.Mem.tail _ (List.Mem.head _))))), ownSl (fun _ => rfl) (List.Mem.tail _ (List.Mem.tail _ (List.Mem.tail _ (List.Mem.tail _ (List.Mem.tail _ (List.Mem.head _)))))), ownSl (fun _ => rfl) (List.Mem.head _), hD.l4, hD.l5, by show (leftLk D.looks l).length ≤ _; omega⟩⟩
end Go.Proofs.Ytminkpgacomicab
end
section
set_option linter.unusedVariables false
set_option linter.unusedSimpArgs false
namespace Go.Fw
open Go Go.RowKit
theorem Fc.perm {P : Program} {f : FuncId} {args : List Value} {H H' : List Row} {R : Value → List Row → Prop} (h : Fc P f args H R) (hp : H.Perm H') : Fc P f args H' R := by
  unfold Fc at *
  exact ⟨h.1, fun B w0 w hS => h.2 B w0 w (hS.perm hp)⟩
theorem XO.permH {P : Program} {n : Nat} {ops : Array Oper} {i : Nat} {F : FS} {H H' : List Row} {N : FS → List Row → Prop} (hp : H'.Perm H) (k : XO P n ops i F H' N) : XO P n ops i F H N := by
  unfold XO WO at *
  intro t ha ρ ds B w0 w hS
  exact k t ha ρ ds B w0 w (hS.perm hp)
theorem XO.weakH {P : Program} {n : Nat} {ops : Array Oper} {i : Nat} {F : FS} {H H' : List Row} {N : FS → List Row → Prop} (hp : H'.Sublist H) (k : XO P n ops i F H' N) : XO P n ops i F H N := by
  unfold XO WO at *
  intro t ha ρ ds B w0 w hS
  exact k t ha ρ ds B w0 w (hS.sub hp)
theorem perm1 {α : Type} (V A Z T : List α) : (Z ++ (V ++ (A ++ T))).Perm (V ++ (A ++ (Z ++ T))) :=
  ((List.perm_append_comm_assoc Z V (A ++ T))).trans (List.Perm.append_left V (List.perm_append_comm_assoc Z A T))
theorem EvF.cmpSelf {P : Program} {n : Nat} {H : List Row} {F : FS} {o : Oper} {T T' : TypeId} {x y : Operand} {k : IntKind} {p : Int} (h : o.op = .binOp .eql T x y T') (hx : evF F x = some (.int k p)) (hy : evF F y = some (.int k p)) : EvF P n H F o (.bool true) := by
  have := EvF.cmp (P := P) (n := n) (H := H) h hx hy rfl
  rwa [decide_eq_true rfl] at this
end Go.Fw
namespace Go.Proofs.Ytminkpgacomicab
open Go Go.Fw
set_option maxRecDepth 10000
theorem OwnDk.ok {Z : List Row} {D : Dk} {p : Pd} (h : OwnDk Z D p) (h1 : D.room.ages.length ≤ 1000000) (h2 : D.room.boxes.length ≤ 1000000) (h3 : D.room.mats.length ≤ 1000000) (h4 : D.bales.length ≤ 1000000) (h5 : D.cls.length ≤ 1000000) (h6 : D.looks.length ≤ 1000000) : DkOk Z D p := by
  rcases h with ⟨rfl, rfl, rfl⟩ | ⟨t1, k1, t2, k2, t3, k3, t4, k4, t5, k5, t6, k6, rfl, hp⟩
  · exact DkOk.zero _
  · exact ⟨⟨ownSl (fun _ => rfl) (hp.mem_iff.2 (List.Mem.tail _ (List.Mem.tail _ (List.Mem.head _)))), ownSl (fun _ => rfl) (hp.mem_iff.2 (List.Mem.tail _ (List.Mem.tail _ (List.Mem.tail _ (List.Mem.head _))))), ownSl (fun _ => rfl) (hp.mem_iff.2 (List.Mem.tail _ (List.Mem.tail _ (List.Mem.tail _ (List.Mem.tail _ (List.Mem.head _)))))), by omega, by omega, by omega⟩, ownSl (fun _ => rfl) (hp.mem_iff.2 (List.Mem.head _)), ownSl (fun _ => rfl) (hp.mem_iff.2 (List.Mem.tail _ (List.Mem.head _))), ownSl (fun _ => rfl) (hp.mem_iff.2 (List.Mem.tail _ (List.Mem.tail _ (List.Mem.tail _ (List.Mem.tail _ (List.Mem.tail _ (List.Mem.head _))))))), by omega, by omega, by omega⟩
theorem permD {α : Type} (a b c d e f : α) : List.Perm [d, e, a, b, c, f] [a, b, c, d, e, f] :=
  (List.perm_append_comm (l₁ := [d, e]) (l₂ := [a, b, c])).append_right [f]
theorem spoilOwnD {Z : List Row} {D : Dk} {p : Pd} (h : OwnDk Z D p) (h1 : D.room.ages.length ≤ 1000000) (h2 : D.room.boxes.length ≤ 1000000) (h3 : D.room.mats.length ≤ 1000000) (h4 : D.bales.length ≤ 1000000) (h5 : D.cls.length ≤ 1000000) (h6 : D.looks.length ≤ 1000000) (H : List Row) : Fc Try.prog 11 [.agg (cDk D p).toArray] (Z ++ H) (fun v H' => v = .tuple #[] ∧ H' = H) := by
  rcases h with ⟨rfl, rfl, rfl⟩ | ⟨t1, k1, t2, k2, t3, k3, t4, k4, t5, k5, t6, k6, rfl, hp⟩
  · exact spoilD0_spec H
  · exact (spoilD_spec D t1 k1 t2 k2 t3 k3 t4 k4 t5 k5 t6 k6 H h1 h2 h3 h4 h5 h6).perm (List.Perm.append_right H ((permD _ _ _ _ _ _).symm.trans hp.symm))
theorem sameD_self (D : Dk) (p q : Pd) (H : List Row) (hD : DkOk H D p) (hS : DkOk H D q) : Fc Try.prog 10 [.agg (cDk D p).toArray, .agg (cDk D q).toArray] H (fun v H' => v = .bool true ∧ H' = H) :=
  (sameD_spec D D p q H hD hS).mono (fun v H' ⟨h1, h2⟩ => ⟨by rw [h1, decide_eq_true rfl], h2⟩)
theorem sameIntsD_self (l : List Int) (a a' : Option Addr) (c c' : Nat) (H : List Row) (hl : SlE H a cI 1 l) (hm : SlE H a' cI 1 l) (hb : l.length ≤ 9223372036854775807) : Fc Try.prog 12 [.slice a l.length c, .slice a' l.length c'] H (fun v H' => v = .bool true ∧ H' = H) :=
  (sameIntsD_spec l l a a' c c' H hl hm hb).mono (fun v H' ⟨h1, h2⟩ => ⟨by rw [h1, decide_eq_true rfl], h2⟩)
def smallD (D : Dk) (n : Nat) : Prop := D.room.ages.length ≤ n ∧ D.room.boxes.length ≤ n ∧ D.room.mats.length ≤ n ∧ D.bales.length ≤ n ∧ D.cls.length ≤ n ∧ D.looks.length ≤ n
theorem smallD_zero (n : Nat) : smallD Dz n := ⟨Nat.zero_le _, Nat.zero_le _, Nat.zero_le _, Nat.zero_le _, Nat.zero_le _, Nat.zero_le _⟩
theorem smallD_put {D : Dk} (x : Lk) (h : smallD D 1000) : smallD (gputF D x).1 1001 := by
  obtain ⟨h1, h2, h3, h4, h5, h6⟩ := h
  have := insLk_len x D.looks
  unfold gputF putDk
  split
  · split
    · exact smallD_zero _
    · split
      · exact ⟨by dsimp only; omega, by dsimp only; omega, by dsimp only; omega, by dsimp only; omega, by dsimp only; omega, by dsimp only; omega⟩
      · exact smallD_zero _
  · exact smallD_zero _
theorem smallD_str {D : Dk} (l : List Int) (h : smallD D 1000) : smallD (gstrF D l).1 1001 := by
  obtain ⟨h1, h2, h3, h4, h5, h6⟩ := h
  have : (leftLk D.looks l).length ≤ D.looks.length := List.length_filter_le _ _
  unfold gstrF strDk
  split
  · split
    · exact ⟨by dsimp only; omega, by dsimp only; omega, by dsimp only; omega, by dsimp only; omega, by dsimp only; omega, by dsimp only; omega⟩
    · exact smallD_zero _
  · exact smallD_zero _
end Go.Proofs.Ytminkpgacomicab
end
