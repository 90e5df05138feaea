/- The reference: Strike answers as the program. -/
import Derived.Test.YtmljpmcipcoaaaaQ2
import Derived.Test.YtmljpmcipcoaaaaP15
set_option linter.unusedSimpArgs false
namespace Go.Proofs.Ytmljpmcipcoaaaa
open Go Go.Fw
set_option maxRecDepth 10000
theorem rises_nodup : ∀ (l : List Int) (p : Int), rises p l → l.Nodup
  | [], _, _ => List.nodup_nil
  | n :: t, p, h => List.nodup_cons.2 ⟨fun hm => by have := rises_mem t n n h.2 hm; omega, rises_nodup t n h.2⟩
theorem filter_perm {A B : List Int} (hA : A.Nodup) (hB : B.Nodup) : (A.filter (fun a => decide (a ∈ B))).Perm (B.filter (fun b => decide (b ∈ A))) := by
  refine (List.perm_ext_iff_of_nodup (hA.sublist List.filter_sublist) (hB.sublist List.filter_sublist)).2 (fun a => ?_)
  simp only [List.mem_filter, decide_eq_true_eq]
  exact And.comm
theorem filter_split {α : Type} (p : α → Bool) : ∀ l : List α, (l.filter (fun a => !p a)).length + (l.filter p).length = l.length
  | [] => rfl
  | a :: l => by
    have := filter_split p l
    by_cases h : p a = true <;> simp [h] <;> omega
theorem all_in {A B : List Int} (hA : A.Nodup) (hB : B.Nodup) : (A.filter (fun a => !decide (a ∈ B))).length + B.length = A.length ↔ ∀ b ∈ B, b ∈ A := by
  have h1 := filter_split (fun a => decide (a ∈ B)) A
  have h2 := (filter_perm hA hB).length_eq
  have h3 : (B.filter (fun b => decide (b ∈ A))).length ≤ B.length := List.length_filter_le _ _
  constructor
  · intro h b hb
    have h4 : (B.filter (fun b => decide (b ∈ A))).length = B.length := by omega
    have h5 := List.length_filter_eq_length_iff.1 h4 b hb
    exact of_decide_eq_true h5
  · intro h
    have h4 : B.filter (fun b => decide (b ∈ A)) = B := List.filter_eq_self.2 (fun b hb => decide_eq_true (h b hb))
    rw [h4] at h2
    omega
theorem sOk_mem (ns : List Int) : ∀ (l : List Int) (p : Option Int), sOk ns p l → ∀ n ∈ l, n ∈ ns
  | [], _, _, _, h => absurd h List.not_mem_nil
  | m :: t, p, h, n, hn => by
    rcases List.mem_cons.1 hn with rfl | hn
    · exact h.1
    · exact sOk_mem ns t (some m) h.2.2 n hn
theorem sOk_rises (ns : List Int) : ∀ (l : List Int) (p : Int), sOk ns (some p) l → rises p l
  | [], _, _ => trivial
  | m :: t, p, h => ⟨h.2.1 p rfl, sOk_rises ns t m h.2.2⟩
theorem rises_sOk (ns : List Int) : ∀ (l : List Int) (p : Int), rises p l → (∀ n ∈ l, n ∈ ns) → sOk ns (some p) l
  | [], _, _, _ => trivial
  | m :: t, p, h, hm => ⟨hm m List.mem_cons_self, fun q hq => by cases hq; exact h.1, rises_sOk ns t m h.2 (fun n hn => hm n (List.mem_cons_of_mem _ hn))⟩
theorem lastOf_mem : ∀ (l : List Int) (p : Int), lastOf p l = p ∨ lastOf p l ∈ l
  | [], _ => .inl rfl
  | n :: t, p => by
    right
    rcases lastOf_mem t n with h | h
    · simp only [lastOf]; rw [h]; exact List.mem_cons_self
    · exact List.mem_cons_of_mem _ h
theorem lastOf_ge : ∀ (l : List Int) (p n : Int), rises p l → n ∈ l → n ≤ lastOf p l
  | [], _, _, _, h => absurd h List.not_mem_nil
  | m :: t, p, n, h, hn => by
    rcases List.mem_cons.1 hn with rfl | hn
    · exact rises_le t _ h.2
    · exact lastOf_ge t m n h.2 hn
theorem left_len (ms : List Mt) (l : List Int) : (leftMt ms l).length = ((ms.map (·.number)).filter (fun n => !decide (n ∈ l))).length := by
  unfold leftMt
  rw [List.filter_map, List.length_map]
  rfl
theorem str_iff (R : Rm) (l : List Int) (hok : roomOk R) : sOk (R.mats.map (·.number)) none l ↔ strOk R.mats l := by
  obtain ⟨_, _, _, hm⟩ := hok
  obtain ⟨hr, hl9, _⟩ := (okMats_iff R R.mats 0 (by omega)).1 hm
  have hnd := rises_nodup _ _ hr
  unfold strOk risesOk
  rw [left_len, ← List.length_map (f := fun m : Mt => m.number)]
  constructor
  · intro h
    have hin := sOk_mem _ l none h
    have hri : rises 0 l := by
      cases l with
      | nil => trivial
      | cons n t => exact ⟨rises_mem _ _ _ hr (hin n List.mem_cons_self), sOk_rises _ t n h.2.2⟩
    refine ⟨⟨hri, ?_⟩, (all_in hnd (rises_nodup _ _ hri)).2 hin⟩
    rcases lastOf_mem l 0 with h0 | h0
    · omega
    · have := lastOf_ge _ _ _ hr (hin _ h0)
      omega
  · rintro ⟨⟨hri, _⟩, hc⟩
    have hin := (all_in hnd (rises_nodup _ _ hri)).1 hc
    cases l with
    | nil => trivial
    | cons n t => exact ⟨hin n List.mem_cons_self, (fun q hq => by cases hq), rises_sOk _ t n hri.2 (fun m hm => hin m (List.mem_cons_of_mem _ hm))⟩
theorem struck_eq (R : Rm) (l : List Int) : struck R l = strRm R l := by
  unfold struck strRm wout leftMt
  rw [List.take_length]
  congr 1
  exact List.filter_congr (fun m _ => by simp)
theorem refStr_spec (R : Rm) (p : Pl) (l : List Int) (a : Option Addr) (c : Nat) (H : List Row) (hR : RmOk H R p) (hl : SlE H a cI 1 l) (hb : l.length ≤ 1000000) (h1 : R.ages.length ≤ 1000000) (h2 : R.boxes.length ≤ 1000000) (h3 : R.mats.length ≤ 1000000) :
    Fc Try.prog 46 [.agg (cRm R p).toArray, .slice a l.length c] H (RefR (strF R l) H) := by
  refine (strike_spec R p l a c H hR hl hb h1 h2 h3).mono (fun v H' h => ?_)
  unfold RefR
  rcases h with ⟨hr, rfl, rfl⟩ | ⟨hr, hs, rfl, rfl⟩ | ⟨hr, hs, t1, k1, t2, k2, ao, co, Z, rfl, rfl, hz⟩
  · have e : strF R l = (Rz, 10) := by unfold strF; rw [if_neg hr]
    rw [e]
    exact ⟨pz, [], rfl, rfl, RmOk.zero _⟩
  · have e : strF R l = (Rz, 12) := by unfold strF; rw [if_pos hr, if_neg (fun q => hs ((str_iff R l hr).2 q))]
    rw [e]
    exact ⟨pz, [], rfl, rfl, RmOk.zero _⟩
  · have e : strF R l = (strRm R l, 0) := by unfold strF; rw [if_pos hr, if_pos ((str_iff R l hr).1 hs)]
    have hle : (leftMt R.mats l).length ≤ R.mats.length := List.length_filter_le _ _
    rw [e, struck_eq] at *
    rcases hz with ⟨rfl, rfl, rfl, hm⟩ | ⟨t3, rfl, rfl⟩
    · refine ⟨_, [rAges R t1 k1, rBoxes R t2 k2], rfl, rfl, ⟨ownSl (fun _ => rfl) (List.Mem.head _), ownSl (fun _ => rfl) (List.Mem.tail _ (List.Mem.head _)), ?_, hR.l1, hR.l2, by show (leftMt R.mats l).length ≤ _; omega⟩⟩
      rw [hm]; exact sleNil
    · exact ⟨_, [rMats (strRm R l) t3 co, rAges R t1 k1, rBoxes R t2 k2], rfl, rfl, ⟨ownSl (fun _ => rfl) (List.Mem.tail _ (List.Mem.head _)), ownSl (fun _ => rfl) (List.Mem.tail _ (List.Mem.tail _ (List.Mem.head _))), ownSl (fun _ => rfl) (List.Mem.head _), hR.l1, hR.l2, by show (leftMt R.mats l).length ≤ _; omega⟩⟩
end Go.Proofs.Ytmljpmcipcoaaaa
