/- Own work: contracts of functions, from rows of what is known of the memory; contracts of functions, from rows of what is known of the memory; contracts of functions, from rows of what is known of the memory; contracts of functions, from rows of what is known of the memory; contracts of functions, from rows of what is known of the memory; contracts of functions, from rows of what is known of the memory; contracts of functions, from rows of what is known of the memory; contracts of functions, from rows of what is known of the memory; contracts of functions, from rows of what is known of the memory; contracts of functions, from rows of what is known of the memory; contracts of functions, from rows of what is known of the memory; contracts of functions, from rows of what is known of the memory; contract -/
import Derived.Test.YtcjlegjchllgjaaGreatW02
import Derived.Test.YtcjlegjchllgjaaGreatChecked
import Derived.Tactics2
import Derived.OpenShut
import Derived.ProofKit
import Derived.Test.YtcjlegjchllgjaaGreatRows
import Derived.WalkKit
import Derived.ChangeOld
import Derived.ShutString
section
set_option linter.unusedVariables false
set_option linter.unusedSimpArgs false
namespace Go.Proofs.YtcjlegjchllgjaaGreat
open Go Go.Fw
set_option maxRecDepth 10000
theorem HD0 {l : List Lo} {m : List Int} {s : List Lo} : HD ⟨[], l, m, s⟩ := fun d hd => absurd hd List.not_mem_nil
def dueB (T : Tm) (m : Int) : Bool := decide (T.dl ≤ m ∧ m ≤ T.dh)
theorem allows1_spec (T : Tm) (p : Pt) (c : Cl) (m : Int) (bc bm capc capm : Nat) (owc owm : Option Kd) (H : List Row) (hc : ⟨bc, 0, cCl c, owc, capc⟩ ∈ H) (hm : ⟨bm, 0, [.int .i64 m], owm, capm⟩ ∈ H) :
    Fc Tryz.prog 50 ([.agg (cTm T p).toArray] ++ [.pointer (some ⟨bc, 0, none⟩), .pointer (some ⟨bm, 0, none⟩)]) H (fun v H' => v = .bool (may T c && dueB T m) ∧ H' = H) := by
  show Fc Tryz.prog 50 [.agg (cTm T p).toArray, .pointer (some ⟨bc, 0, none⟩), .pointer (some ⟨bm, 0, none⟩)] H _
  refine Fc.mk (callable Tryz.call50) Tryz.func50 rfl Tryz.ntmps50 rfl ?_; dsimp only [fr]
  repeat' (first | (refine XO.op rfl ?_; (first | ((first | refine Xo.ng rfl ?_ | (refine Xo.g rfl rfl ?_; with_reducible refine Xw.tt ?_)); (first | (refine Xg.ev (EvF.loadV rfl rfl (LoadV.whole (te rfl) rfl (List.Mem.tail _ hc) rfl)) rfl rfl ?_) | (refine Xg.ev (EvF.loadV rfl rfl (LoadV.own (te rfl) rfl (List.Mem.tail _ hm) rfl)) rfl rfl ?_) | (refine Xg.call (EnF.st rfl (Args.cons rfl (Args.cons rfl Args.nil))) rfl rfl (allows_spec T p c _) ?_; rintro _ H9 ⟨rfl, hH9⟩; subst H9) | (refine Xg.ev (EvF.loadV rfl rfl (LoadV.ownAgg (vs := cSp ⟨T.dl, T.dh⟩) (te rfl) rfl (List.Mem.head _) rfl rfl)) rfl rfl ?_) | (refine Xg.st (StF.buildOne rfl elI rfl rfl rfl (by decide) (by decide)) rfl rfl ?_; rintro _ _ ⟨bs, rfl, rfl⟩) | (refine Xg.call (EnF.st rfl (Args.cons rfl (Args.cons rfl Args.nil))) rfl rfl (within1_spec ⟨T.dl, T.dh⟩ m _ _ _ _ _ (List.Mem.head _)) ?_; rintro _ H9 ⟨rfl, hH9⟩; subst H9) | (refine Xg.ev (EvF.move rfl rfl) rfl rfl ?_) | (refine Xg.ev (EvF.assign rfl rfl) rfl rfl ?_) | (refine Xg.ev (EvF.pickT rfl rfl rfl) rfl rfl ?_) | (refine Xg.ev (EvF.pickF rfl rfl rfl) rfl rfl ?_) | (refine Xg.ev (EvF.fieldAddr rfl rfl (te rfl) rfl (te rfl) (by decide)) rfl rfl ?_) | (refine Xg.ev (EvF.loadV rfl rfl (LoadV.whole (te rfl) rfl (List.Mem.head _) rfl)) rfl rfl ?_) | (refine Xg.st (StF.boxAgg rfl rfl) rfl rfl ?_; rintro _ _ ⟨bx, rfl, rfl⟩))) | (refine Xo.g rfl rfl ?_; (first | (with_reducible refine Xw.ft rfl rfl ?_) | (with_reducible refine Xw.case (fun h => ?_) (fun h => ?_) <;> simp only [h, decide_true, decide_false, Bool.not_true, Bool.not_false, and_self, and_true, true_and, and_false, false_and]))))) | (refine XO.done rfl ?_; refine hK _ _ ?_; clear hK K) | refine X.seq rfl ?_ | refine X.region rfl (fun K hK => ?_) | refine X.ret rfl ?_)
  all_goals (refine ret_one (by first | exact .inr rfl | exact .inl rfl) Tryz.results50 rfl (H' := H) (by (repeat (first | exact List.Sublist.refl _ | apply List.Sublist.cons)); done) ?_; simp only [and_true, true_and])
  all_goals (unfold may dueB; congr 1; simp [*])
def lo1 (c : Cl) : Lo := ⟨c.g, c.g, c.s, c.s⟩
def abA (c : Cl) (m : Int) : Ab := ⟨[], [lo1 c], [m], []⟩
def tsAl : List TOp := [⟨some 8, [], [], []⟩, ⟨some 9, [], [], []⟩, ⟨some 10, [1], [1], []⟩, ⟨some 11, [1, 2], [2], []⟩, ⟨some 12, [], [], []⟩, ⟨some 13, [4], [4], []⟩, ⟨some 14, [1, 2, 3, 4, 5], [3, 5], []⟩, ⟨some 15, [], [], []⟩, ⟨some 16, [0, 1, 2, 3, 4, 5, 6, 7], [0, 6, 7], [3, 5]⟩, ⟨some 17, [0, 1, 2, 3, 4, 5, 6, 7, 8], [8], []⟩, ⟨some 18, [0, 1, 2, 3, 4, 5, 6, 7, 8], [8], []⟩, ⟨some 6, [0, 1, 2, 3, 4, 5, 6, 7, 8, 9, 10], [9], []⟩, ⟨some 7, [0, 1, 2, 3, 4, 5, 6, 7, 8, 9, 10, 11], [10], []⟩]
def valAl (b1 b2 b3 : Nat) (T : Tm) (p : Pt) (c : Cl) (m : Int) (r : Bool) (er : Int) (k : Nat) (env : Env) : Value :=
  match k with
  | 0 => .agg (cTm T p).toArray
  | 1 => .agg (cCl c).toArray
  | 2 => .agg (cLo (lo1 c)).toArray
  | 3 => .slice (some ⟨(env 3).1, 0, none⟩) 1 1
  | 4 => .int .i64 m
  | 5 => .slice (some ⟨(env 5).1, 0, none⟩) 1 1
  | 6 => .agg (cAb (abA c m) ⟨none, 0, some ⟨(env 3).1, 0, none⟩, 1, some ⟨(env 5).1, 0, none⟩, 1, none, 0⟩).toArray
  | 7 => .func (.func 50) #[] #[.pointer (some ⟨b2, 0, none⟩), .pointer (some ⟨b3, 0, none⟩)]
  | 8 => .tuple #[.bool r, .int .i64 er]
  | 9 => .bool r
  | 10 => .int .i64 er
  | 11 => .bool r
  | 12 => .int .i64 er
  | _ => undef
def rowsAl (b1 b2 b3 : Nat) (T : Tm) (p : Pt) (c : Cl) (m : Int) (r : Bool) (er : Int) (k : Nat) (env : Env) : List Row :=
  match k with
  | 3 => [⟨(env 3).1, 0, cLo (lo1 c), some 92, 1 * 4⟩]
  | 5 => [⟨(env 5).1, 0, [.int .i64 m], some 3, 1 * 1⟩]
  | _ => []
theorem locAl (b1 b2 b3 : Nat) (T : Tm) (p : Pt) (c : Cl) (m : Int) (r : Bool) (er : Int) : ∀ k env i q9, i ≠ k → (tAt tsAl k).sup.contains i = false → valAl b1 b2 b3 T p c m r er k (upd env i q9) = valAl b1 b2 b3 T p c m r er k env ∧ rowsAl b1 b2 b3 T p c m r er k (upd env i q9) = rowsAl b1 b2 b3 T p c m r er k env := by
  intro k env i q hk hs
  have hu : ∀ j, j ≠ i → upd env i q j = env j := fun j hj => by unfold upd; rw [if_neg hj]
  match k, hk, hs with
  | 0, _, _ => exact ⟨rfl, rfl⟩
  | 1, _, _ => exact ⟨rfl, rfl⟩
  | 2, _, _ => exact ⟨rfl, rfl⟩
  | 3, hk, hs => exact ⟨by simp only [valAl, hu 3 (fun e => hk e.symm)], by simp only [rowsAl, hu 3 (fun e => hk e.symm)]⟩
  | 4, _, _ => exact ⟨rfl, rfl⟩
  | 5, hk, hs => exact ⟨by simp only [valAl, hu 5 (fun e => hk e.symm)], by simp only [rowsAl, hu 5 (fun e => hk e.symm)]⟩
  | 6, hk, hs => exact ⟨by simp only [valAl, hu 3 (by rintro rfl; cases hs), hu 5 (by rintro rfl; cases hs)], by simp only [rowsAl, hu 3 (by rintro rfl; cases hs), hu 5 (by rintro rfl; cases hs)]⟩
  | 7, _, _ => exact ⟨rfl, rfl⟩
  | 8, _, _ => exact ⟨rfl, rfl⟩
  | 9, _, _ => exact ⟨rfl, rfl⟩
  | 10, _, _ => exact ⟨rfl, rfl⟩
  | 11, _, _ => exact ⟨rfl, rfl⟩
  | 12, _, _ => exact ⟨rfl, rfl⟩
  | _ + 13, _, _ => exact ⟨rfl, rfl⟩
noncomputable def allowsR (T : Tm) (c : Cl) (m : Int) : Bool := if openE T (abA c m) = 0 then (may T c && dueB T m) else false
set_option maxHeartbeats 4000000 in
theorem kallows_spec (T : Tm) (p : Pt) (c : Cl) (m : Int) (H : List Row) (hT : TmOk H T p) :
    Fc Tryz.prog 17 [.agg (cTm T p).toArray, .agg (cCl c).toArray, .int .i64 m] H (fun v H' => v = .tuple #[.bool (allowsR T c m), .int .i64 (openE T (abA c m))] ∧ H' = H) := by
  obtain ⟨r, hr⟩ : ∃ r, allowsR T c m = r := ⟨_, rfl⟩
  obtain ⟨er, her⟩ : ∃ r, openE T (abA c m) = r := ⟨_, rfl⟩
  rw [hr, her]
  refine Fc.mk (callable Tryz.call17) Tryz.func17 rfl Tryz.ntmps17 rfl ?_; dsimp only [fr]
  refine X.seq rfl ?_; refine X.region rfl (fun K hK => ?_); repeat' (first | (refine XO.op rfl ?_; (first | ((first | refine Xo.ng rfl ?_); (first | (refine Xg.ev (EvF.assign rfl rfl) rfl rfl ?_) | (refine Xg.st (StF.boxAgg rfl rfl) rfl rfl ?_; rintro _ _ ⟨bx, rfl, rfl⟩) | (refine Xg.st (StF.boxOne rfl rfl rfl) rfl rfl ?_; rintro _ _ ⟨bx, rfl, rfl⟩))))) | (refine XO.done rfl ?_; refine hK _ _ ?_; clear hK K))
  rename_i b1 b2; rename Nat => b3
  refine X.seq rfl ?_
  refine X.regionOb tsAl [3, 4, 5] [(3, .pointer (some ⟨b1, 0, none⟩)), (4, .pointer (some ⟨b2, 0, none⟩)), (5, .pointer (some ⟨b3, 0, none⟩))] (valAl b1 b2 b3 T p c m r er) (rowsAl b1 b2 b3 T p c m r er) (fun _ => (0, 0)) (⟨b3, 0, [.int .i64 m], some 3, 1⟩ :: ⟨b2, 0, cCl c, some 27, 2⟩ :: ⟨b1, 0, cTm T p, some 32, 11⟩ :: H) rfl mixed (by (repeat (first | exact Sub.nil _ | refine Sub.cons rfl ?_)); done) rfl (by kernel_rfl) (locAl b1 b2 b3 T p c m r er) (List.Sublist.refl _) ?_ ?_
  · repeat' (first | exact AllF.done rfl | (refine AllF.step rfl ?_ ?_; · (first | fail | ((first | refine Ob.ng rfl ?_); (first | exact ObK.pure (fun env R hR => by exact ⟨_, EvF.assign rfl rfl, rfl⟩) rfl (fun _ => rfl) | exact ObK.pure (fun env R hR => by exact ⟨_, EvF.loadV rfl rfl (LoadV.own (te rfl) rfl (hR _ (List.Mem.head _)) rfl), rfl⟩) rfl (fun _ => rfl) | exact ObK.pure (fun env R hR => by exact ⟨_, EvF.loadV rfl rfl (LoadV.whole (te rfl) rfl (hR _ (List.Mem.tail _ (List.Mem.head _))) rfl), rfl⟩) rfl (fun _ => rfl) | exact ObK.pure (fun env R hR => by exact ⟨_, EvF.loadV rfl rfl (LoadV.whole (te rfl) rfl (hR _ (List.Mem.tail _ (List.Mem.tail _ (List.Mem.head _)))) rfl), rfl⟩) rfl (fun _ => rfl) | (exact fun env S hS => (StF.buildOne rfl elI rfl rfl rfl (by decide) (by decide)).op.mono (fun v H' ⟨b, hv, hH⟩ => ⟨(b, 0), fun _ => hv, by rw [hH]; exact List.Perm.refl _⟩)) | (exact fun env S hS => (StF.buildOne rfl elLo rfl rfl rfl (by decide) (by decide)).op.mono (fun v H' ⟨b, hv, hH⟩ => ⟨(b, 0), fun _ => hv, by rw [hH]; exact List.Perm.refl _⟩)) | (exact fun env S hS => OpF.callV (Z := []) (EnF.st rfl (Args.cons rfl Args.nil)) (only_spec c _) rfl rfl) | (exact ObK.pure (fun env S hS => ⟨_, EvF.build (cs := cAb (abA c m) ⟨none, 0, some ⟨(env 3).1, 0, none⟩, 1, some ⟨(env 5).1, 0, none⟩, 1, none, 0⟩) rfl (ArgsP.cons rfl (ArgsP.cons rfl ArgsP.nil)) (te rfl) (Places.cons (te rfl) (Places.cons (te rfl) (Places.cons (te rfl) (Places.cons (te rfl) Places.nil)))) Tryz.zeroValue97 rfl, rfl⟩) rfl (fun _ => rfl)) | (exact ObK.pure (fun env S hS => ⟨_, EvF.makeFunc rfl Args.nil (Args.cons rfl (Args.cons rfl Args.nil)), rfl⟩) rfl (fun _ => rfl)) | (exact ObK.pure (fun env S hS => ⟨_, EvF.extract rfl rfl rfl, rfl⟩) rfl (fun _ => rfl)) | (exact fun env S hS => OpF.callV (Z := [_, _]) (EnF.st rfl (Args.cons rfl (Args.cons rfl (Args.cons rfl Args.nil)))) (toldB_spec T p (abA c m) ⟨none, 0, some ⟨(env 3).1, 0, none⟩, 1, some ⟨(env 5).1, 0, none⟩, 1, none, 0⟩ _ [.pointer (some ⟨b2, 0, none⟩), .pointer (some ⟨b3, 0, none⟩)] (may T c && dueB T m) _ (hT.sub (fun _ h => List.mem_append_right _ (hS _ (List.Mem.tail _ (List.Mem.tail _ (List.Mem.tail _ h)))))) ⟨sleNil, SlE.ofRow (List.Mem.head _) (fun _ _ => rfl), SlE.ofRow (List.Mem.tail _ (List.Mem.head _)) (fun _ _ => rfl), sleNil, (fun d hd => absurd hd List.not_mem_nil), Nat.zero_le _, Nat.le_of_ble_eq_true rfl, Nat.le_of_ble_eq_true rfl, Nat.zero_le _⟩ HD0 (fun _ _ l hl => absurd hl List.not_mem_nil) (fun _ Z => allows1_spec T p c m b2 b3 _ _ _ _ _ (List.mem_append_right _ (List.mem_append_right _ (hS _ (List.Mem.tail _ (List.Mem.head _))))) (List.mem_append_right _ (List.mem_append_right _ (hS _ (List.Mem.head _)))))) (by rw [her, ← hr]; unfold allowsR; rw [her]; rfl) rfl))))))
  · intro env t ha hv
    refine ⟨_, ((ha.sub (F' := []) (Sub.nil _)).cons (hv 11 6 (Nat.le_of_ble_eq_true rfl) rfl)).cons (hv 12 7 (Nat.le_of_ble_eq_true rfl) rfl), ?_⟩
    show X _ _ _ _ (⟨b3, 0, [.int .i64 m], some 3, 1⟩ :: ⟨b2, 0, cCl c, some 27, 2⟩ :: ⟨b1, 0, cTm T p, some 32, 11⟩ :: H) _
    repeat' (first | refine X.ret rfl ?_)
    exact ret_two (by first | exact .inr rfl | exact .inl rfl) Tryz.results17 rfl rfl (H' := H) (by (repeat (first | exact List.Sublist.refl _ | apply List.Sublist.cons)); done) ⟨rfl, rfl⟩
end Go.Proofs.YtcjlegjchllgjaaGreat
end
section
set_option linter.unusedVariables false
set_option linter.unusedSimpArgs false
namespace Go.Proofs.YtcjlegjchllgjaaGreat
open Go Go.Fw
set_option maxRecDepth 10000
theorem openE_zero {T : Tm} {A : Ab} (h : openE T A = 0) : tmOk T ∧ askD A ∧ askG A ∧ askS A ∧ askM A ∧ askN T A := by
  unfold openE at h
  by_cases h1 : tmOk T
  · by_cases h2 : askD A
    · by_cases h3 : askG A
      · by_cases h4 : askS A
        · by_cases h5 : askM A
          · by_cases h6 : askN T A
            · exact ⟨h1, h2, h3, h4, h5, h6⟩
            · simp [h1, h2, h3, h4, h5, h6] at h
          · simp [h1, h2, h3, h4, h5] at h
        · simp [h1, h2, h3, h4] at h
      · simp [h1, h2, h3] at h
    · simp [h1, h2] at h
  · simp [h1] at h
def abI (c : Cl) : Ab := ⟨[], [lo1 c], [], [lo1 c]⟩
theorem ask1 {c : Cl} {A : Ab} (hl : lo1 c ∈ A.lots) (hG : askG A) (hS : askS A) : (1 ≤ c.g ∧ c.g ≤ 9) ∧ (1 ≤ c.s ∧ c.s ≤ 9) := by
  have h1 := hG _ hl
  have h2 := hS _ hl
  unfold partOk lo1 at h1 h2
  exact ⟨h1.2.1, h2.2.1⟩
theorem HI1 {c : Cl} {d : List Dy} {m : List Int} {l : List Lo} : HI ⟨d, lo1 c :: l, m, [lo1 c]⟩ := by
  intro hG hS l hl
  simp only [List.mem_cons, List.not_mem_nil, or_false] at hl
  subst hl
  obtain ⟨h1, h2⟩ := ask1 (c := c) List.mem_cons_self hG hS
  exact ⟨h1, h1, h2, h2⟩
theorem invoice1_spec (T : Tm) (p : Pt) (c : Cl) (bc capc : Nat) (owc : Option Kd) (H : List Row) (hT : TmOk H T p) (hok : tmOk T) (hg : (1 ≤ c.g ∧ c.g ≤ 9) ∧ (1 ≤ c.s ∧ c.s ≤ 9)) (hc : ⟨bc, 0, cCl c, owc, capc⟩ ∈ H) :
    Fc Tryz.prog 47 ([.agg (cTm T p).toArray] ++ [.pointer (some ⟨bc, 0, none⟩)]) H (fun v H' => v = .int .i64 (val T c.g c.s) ∧ H' = H) := by
  show Fc Tryz.prog 47 [.agg (cTm T p).toArray, .pointer (some ⟨bc, 0, none⟩)] H _
  have hp := hok.num.1
  refine Fc.mk (callable Tryz.call47) Tryz.func47 rfl Tryz.ntmps47 rfl ?_; dsimp only [fr]
  repeat' (first | (refine XO.op rfl ?_; (first | ((first | refine Xo.ng rfl ?_); (first | (refine Xg.ev (EvF.loadV rfl rfl (LoadV.whole (te rfl) rfl (List.Mem.tail _ hc) rfl)) rfl rfl ?_) | (refine Xg.call (EnF.st rfl (Args.cons rfl (Args.cons rfl Args.nil))) rfl rfl (value_spec T p c _ (hT.sub (fun _ h => List.Mem.tail _ h)) hok.gr hok.st (by omega) hg.1 hg.2) ?_; rintro _ H9 ⟨rfl, hH9⟩; subst H9) | (refine Xg.ev (EvF.assign rfl rfl) rfl rfl ?_) | (refine Xg.ev (EvF.loadV rfl rfl (LoadV.whole (te rfl) rfl (List.Mem.head _) rfl)) rfl rfl ?_) | (refine Xg.st (StF.boxAgg rfl rfl) rfl rfl ?_; rintro _ _ ⟨bx, rfl, rfl⟩))))) | (refine XO.done rfl ?_; refine hK _ _ ?_; clear hK K) | refine X.seq rfl ?_ | refine X.region rfl (fun K hK => ?_) | refine X.ret rfl ?_)
  refine ret_one (by first | exact .inr rfl | exact .inl rfl) Tryz.results47 rfl (H' := H) (by (repeat (first | exact List.Sublist.refl _ | apply List.Sublist.cons)); done) ?_; simp only [and_true, true_and]
noncomputable def invR (T : Tm) (c : Cl) : Int := if openE T (abI c) = 0 then val T c.g c.s else 0
set_option maxHeartbeats 4000000 in
theorem kinvoice_spec (T : Tm) (p : Pt) (c : Cl) (H : List Row) (hT : TmOk H T p) :
    Fc Tryz.prog 14 [.agg (cTm T p).toArray, .agg (cCl c).toArray] H (fun v H' => v = .tuple #[.int .i64 (invR T c), .int .i64 (openE T (abI c))] ∧ H' = H) := by
  have hT3 : ∀ Z : List Row, TmOk (Z ++ H) T p := fun Z => hT.sub (fun _ h => List.mem_append_right _ h)
  refine Fc.mk (callable Tryz.call14) Tryz.func14 rfl Tryz.ntmps14 rfl ?_; dsimp only [fr]
  repeat' (first | (refine XO.op rfl ?_; (first | ((first | refine Xo.ng rfl ?_); (first | (refine Xg.call (EnF.st rfl (Args.cons rfl Args.nil)) rfl rfl (only_spec c _) ?_; rintro _ H9 ⟨rfl, hH9⟩; subst H9) | (refine Xg.st (StF.buildOne rfl elLo rfl rfl rfl (by decide) (by decide)) rfl rfl ?_; rintro _ _ ⟨bs, rfl, rfl⟩) | (refine Xg.ev (EvF.build (cs := cAb (abI c) ⟨none, 0, some ⟨bs, 0, none⟩, 1, none, 0, some ⟨bs, 0, none⟩, 1⟩) rfl (ArgsP.cons rfl (ArgsP.cons rfl ArgsP.nil)) (te rfl) (Places.cons (te rfl) (Places.cons (te rfl) (Places.cons (te rfl) (Places.cons (te rfl) Places.nil)))) Tryz.zeroValue97 rfl) rfl rfl ?_) | (refine Xg.ev (EvF.makeFunc rfl Args.nil (Args.cons rfl Args.nil)) rfl rfl ?_) | (refine Xg.call (EnF.st rfl (Args.cons rfl (Args.cons rfl (Args.cons rfl Args.nil)))) rfl rfl (toldI_spec T p (abI c) ⟨none, 0, some ⟨bs, 0, none⟩, 1, none, 0, some ⟨bs, 0, none⟩, 1⟩ _ [_] (val T c.g c.s) _ (hT3 [_, _, _]) ⟨sleNil, SlE.ofRow (List.Mem.head _) (fun _ _ => rfl), sleNil, SlE.ofRow (List.Mem.head _) (fun _ _ => rfl), (fun d hd => absurd hd List.not_mem_nil), Nat.zero_le _, Nat.le_of_ble_eq_true rfl, Nat.zero_le _, Nat.le_of_ble_eq_true rfl⟩ HD0 HI1 (fun hE Z => invoice1_spec T p c _ _ _ _ ((hT3 [_, _, _]).sub (fun _ h => List.mem_append_right _ h)) (openE_zero hE).1 (ask1 (A := abI c) List.mem_cons_self (openE_zero hE).2.2.1 (openE_zero hE).2.2.2.1) (List.mem_append_right _ (List.Mem.tail _ (List.Mem.head _))))) ?_; rintro _ H9 ⟨rfl, hH9⟩; subst H9) | (refine Xg.ev (EvF.move rfl rfl) rfl rfl ?_) | (refine Xg.ev (EvF.assign rfl rfl) rfl rfl ?_) | (refine Xg.ev (EvF.loadV rfl rfl (LoadV.whole (te rfl) rfl (List.Mem.head _) rfl)) rfl rfl ?_) | (refine Xg.ev (EvF.loadV rfl rfl (LoadV.whole (te rfl) rfl (List.Mem.tail _ (List.Mem.tail _ (List.Mem.head _))) rfl)) rfl rfl ?_) | (refine Xg.ev (EvF.extract rfl rfl rfl) rfl rfl ?_) | (refine Xg.st (StF.boxAgg rfl rfl) rfl rfl ?_; rintro _ _ ⟨bx, rfl, rfl⟩))))) | (refine XO.done rfl ?_; refine hK _ _ ?_; clear hK K) | refine X.seq rfl ?_ | refine X.region rfl (fun K hK => ?_) | refine X.ret rfl ?_)
  exact ret_two (by first | exact .inr rfl | exact .inl rfl) Tryz.results14 rfl rfl (H' := H) (by (repeat (first | exact List.Sublist.refl _ | apply List.Sublist.cons)); done) ⟨rfl, rfl⟩
theorem w4_spec (n lo hi : Int) (H : List Row) : Fc Tryz.prog 119 [.int .i64 n, .int .i64 lo, .int .i64 hi] H (fun v H' => v = .bool (decide (lo ≤ n ∧ n ≤ hi)) ∧ H' = H) := by
  refine Fc.mk (callable Tryz.call119) Tryz.func119 rfl Tryz.ntmps119 rfl ?_; dsimp only [fr]
  repeat' (first | (refine XO.op rfl ?_; (first | ((first | refine Xo.ng rfl ?_ | (refine Xo.g rfl rfl ?_; with_reducible refine Xw.tt ?_)); (first | (refine Xg.ev (EvF.move rfl rfl) rfl rfl ?_) | (refine Xg.ev (EvF.assign rfl rfl) rfl rfl ?_) | (refine Xg.ev (EvF.pickT rfl rfl rfl) rfl rfl ?_) | (refine Xg.ev (EvF.pickF rfl rfl rfl) rfl rfl ?_) | (refine Xg.ev (EvF.cmp rfl rfl rfl rfl) rfl rfl ?_) | (refine Xg.ev (EvF.fieldAddr rfl rfl (te rfl) rfl (te rfl) (by decide)) rfl rfl ?_) | (refine Xg.ev (EvF.lenSlice rfl rfl (te rfl)) rfl rfl ?_) | (refine Xg.ev (EvF.loadV rfl rfl (LoadV.own (te rfl) rfl (List.Mem.head _) rfl)) rfl rfl ?_) | (refine Xg.ev (EvF.loadV rfl rfl (LoadV.own (te rfl) rfl (List.Mem.tail _ (List.Mem.head _)) rfl)) rfl rfl ?_) | (refine Xg.st (StF.boxAgg rfl rfl) rfl rfl ?_; rintro _ _ ⟨bx, rfl, rfl⟩))) | (refine Xo.g rfl rfl ?_; (first | (with_reducible refine Xw.ft rfl rfl ?_) | (with_reducible refine Xw.case (fun h => ?_) (fun h => ?_) <;> simp only [h, decide_true, decide_false, Bool.not_true, Bool.not_false, and_self, and_true, true_and, and_false, false_and]))))) | (refine XO.done rfl ?_; refine hK _ _ ?_; clear hK K) | refine X.seq rfl ?_ | refine X.region rfl (fun K hK => ?_) | refine X.block rfl ?_ | (refine X.brk rfl ?_; repeat (first | refine blockX_hit rfl ?_ | refine blockX_miss (by decide) ?_)) | refine X.skip rfl ?_ | refine X.ret rfl ?_ | (refine X.ite rfl rfl (fun hc => ?_); (first | (with_reducible refine Xb.case hc (fun h => ?_) (fun h => ?_)) | (with_reducible refine Xb.caseN hc (fun h => ?_) (fun h => ?_))) <;> clear hc))
  all_goals (refine ret_one (by first | exact .inr rfl | exact .inl rfl) Tryz.results119 rfl (H' := H) (by (repeat (first | exact List.Sublist.refl _ | apply List.Sublist.cons)); done) ?_; simp only [and_true, true_and])
  all_goals simp [*]
theorem rvalue_spec (T : Tm) (p : Pt) (c : Cl) (H : List Row) (hT : TmOk H T p) (hG : tab T.G) (hS : tab T.S) (hp : -10000000 ≤ T.price ∧ T.price ≤ 10000000) (hg : 1 ≤ c.g ∧ c.g ≤ 9) (hs : 1 ≤ c.s ∧ c.s ≤ 9) :
    Fc Tryz.prog 42 [.agg (cTm T p).toArray, .agg (cCl c).toArray] H (fun v H' => v = .int .i64 (val T c.g c.s) ∧ H' = H) := by
  have h1 := at1_get hg hG.1
  have h2 := at1_get hs hS.1
  have q1 := hG.at1 hg
  have q2 := hS.at1 hs
  have lg := hG.1
  have ls := hS.1
  obtain ⟨b1, o1, e1, he1, _⟩ := hT.gr.elem (i := 0) (by omega)
  obtain ⟨b2, o2, e2, he2, _⟩ := hT.st.elem (i := 0) (by omega)
  have hT2 : ∀ r1 r2, TmOk (r1 :: r2 :: H) T p := fun r1 r2 => hT.sub (fun _ h => List.Mem.tail _ (List.Mem.tail _ h))
  obtain ⟨a1, c1, a2, c2⟩ := p
  simp only at he1 he2
  subst he1 he2
  refine Fc.mk (callable Tryz.call42) Tryz.func42 rfl Tryz.ntmps42 rfl ?_; dsimp only [fr]
  repeat' (first | (refine XO.op rfl ?_; (first | ((first | refine Xo.ng rfl ?_); (first | (refine Xg.ev (EvF.assign rfl rfl) rfl rfl ?_) | (refine Xg.st (StF.boxAgg rfl rfl) rfl rfl ?_; rintro _ _ ⟨bx, rfl, rfl⟩))))) | (refine XO.done rfl ?_; refine hK _ _ ?_; clear hK K) | (refine XQ.op rfl ?_; (first | ((first | refine Yo.ng rfl ?_); (first | (refine Yg.ev (EvF.indexSlice rfl rfl rfl (te rfl) (te rfl) (by omega) (by omega)) rfl rfl ?_) | (refine Yg.ev (EvF.loadV rfl rfl (LoadV.el0 (hT2 _ _).gr h1 (te rfl) rfl (fun _ hm => hm) rfl)) rfl rfl ?_) | (refine Yg.ev (EvF.loadV rfl rfl (LoadV.el0 (hT2 _ _).st h2 (te rfl) rfl (fun _ hm => hm) rfl)) rfl rfl ?_) | (refine Yg.ev (EvF.assign rfl rfl) rfl rfl ?_) | (refine Yg.ev (EvF.add64 rfl rfl rfl (by omega) (by omega)) rfl rfl ?_) | (refine Yg.ev (EvF.sub64 rfl rfl rfl (by omega) (by omega)) rfl rfl ?_) | (refine Yg.ev (EvF.fieldAddr rfl rfl (te rfl) rfl (te rfl) (by decide)) rfl rfl ?_) | (refine Yg.ev (EvF.loadV rfl rfl (LoadV.own (te rfl) rfl (List.Mem.head _) rfl)) rfl rfl ?_) | (refine Yg.ev (EvF.loadV rfl rfl (LoadV.own (te rfl) rfl (List.Mem.tail _ (List.Mem.head _)) rfl)) rfl rfl ?_))))) | (refine XQ.done rfl ?_; refine hK _ ?_; clear hK K) | refine X.seq rfl ?_ | refine X.region rfl (fun K hK => ?_) | refine X.regionD rfl mixed (by kernel_rfl) (fun K hK => ?_) | refine X.ret rfl ?_)
  refine ret_one (by first | exact .inr rfl | exact .inl rfl) Tryz.results42 rfl (H' := H) (by (repeat (first | exact List.Sublist.refl _ | apply List.Sublist.cons)); done) ?_; simp only [and_true, true_and]
  rfl
theorem rmay_spec (T : Tm) (p : Pt) (c : Cl) (H : List Row) :
    Fc Tryz.prog 37 [.agg (cTm T p).toArray, .agg (cCl c).toArray] H (fun v H' => v = .bool (may T c) ∧ H' = H) := by
  refine Fc.mk (callable Tryz.call37) Tryz.func37 rfl Tryz.ntmps37 rfl ?_; dsimp only [fr]
  repeat' (first | (refine XO.op rfl ?_; (first | ((first | refine Xo.ng rfl ?_ | (refine Xo.g rfl rfl ?_; with_reducible refine Xw.tt ?_)); (first | (refine Xg.ev (EvF.move rfl rfl) rfl rfl ?_) | (refine Xg.ev (EvF.assign rfl rfl) rfl rfl ?_) | (refine Xg.ev (EvF.pickT rfl rfl rfl) rfl rfl ?_) | (refine Xg.ev (EvF.pickF rfl rfl rfl) rfl rfl ?_) | (refine Xg.ev (EvF.cmp rfl rfl rfl rfl) rfl rfl ?_) | (refine Xg.ev (EvF.fieldAddr rfl rfl (te rfl) rfl (te rfl) (by decide)) rfl rfl ?_) | (refine Xg.ev (EvF.lenSlice rfl rfl (te rfl)) rfl rfl ?_) | (refine Xg.ev (EvF.loadV rfl rfl (LoadV.own (te rfl) rfl (List.Mem.head _) rfl)) rfl rfl ?_) | (refine Xg.ev (EvF.loadV rfl rfl (LoadV.own (te rfl) rfl (List.Mem.tail _ (List.Mem.head _)) rfl)) rfl rfl ?_) | (refine Xg.st (StF.boxAgg rfl rfl) rfl rfl ?_; rintro _ _ ⟨bx, rfl, rfl⟩))) | (refine Xo.g rfl rfl ?_; (first | (with_reducible refine Xw.ft rfl rfl ?_) | (with_reducible refine Xw.case (fun h => ?_) (fun h => ?_) <;> simp only [h, decide_true, decide_false, Bool.not_true, Bool.not_false, and_self, and_true, true_and, and_false, false_and]))))) | (refine XO.done rfl ?_; refine hK _ _ ?_; clear hK K) | refine X.seq rfl ?_ | refine X.region rfl (fun K hK => ?_) | refine X.block rfl ?_ | (refine X.brk rfl ?_; repeat (first | refine blockX_hit rfl ?_ | refine blockX_miss (by decide) ?_)) | refine X.skip rfl ?_ | refine X.ret rfl ?_ | (refine X.ite rfl rfl (fun hc => ?_); (first | (with_reducible refine Xb.case hc (fun h => ?_) (fun h => ?_)) | (with_reducible refine Xb.caseN hc (fun h => ?_) (fun h => ?_))) <;> clear hc))
  all_goals (refine ret_one (by first | exact .inr rfl | exact .inl rfl) Tryz.results37 rfl (H' := H) (by (repeat (first | exact List.Sublist.refl _ | apply List.Sublist.cons)); done) ?_; simp only [and_true, true_and])
  all_goals (unfold may; congr 1; simp [*])
noncomputable instance (l : List Int) : Decidable (tab l) := Classical.propDecidable _
theorem nine_spec (l : List Int) (a : Option Addr) (c : Nat) (H : List Row) (hl : SlE H a cI 1 l) (hb : l.length ≤ 1000000) : Fc Tryz.prog 120 [.slice a l.length c] H (fun v H' => v = .bool (decide (tab l)) ∧ H' = H) := by
  refine Fc.mk (callable Tryz.call120) Tryz.func120 rfl Tryz.ntmps120 rfl ?_; dsimp only [fr]
  repeat' (first | (refine XO.op rfl ?_; (first | ((first | refine Xo.ng rfl ?_ | (refine Xo.g rfl rfl ?_; with_reducible refine Xw.tt ?_)); (first | (refine Xg.ev (EvF.move rfl rfl) rfl rfl ?_) | (refine Xg.ev (EvF.assign rfl rfl) rfl rfl ?_) | (refine Xg.ev (EvF.pickT rfl rfl rfl) rfl rfl ?_) | (refine Xg.ev (EvF.pickF rfl rfl rfl) rfl rfl ?_) | (refine Xg.ev (EvF.cmp rfl rfl rfl rfl) rfl rfl ?_) | (refine Xg.ev (EvF.fieldAddr rfl rfl (te rfl) rfl (te rfl) (by decide)) rfl rfl ?_) | (refine Xg.ev (EvF.lenSlice rfl rfl (te rfl)) rfl rfl ?_) | (refine Xg.ev (EvF.loadV rfl rfl (LoadV.own (te rfl) rfl (List.Mem.head _) rfl)) rfl rfl ?_) | (refine Xg.ev (EvF.loadV rfl rfl (LoadV.own (te rfl) rfl (List.Mem.tail _ (List.Mem.head _)) rfl)) rfl rfl ?_) | (refine Xg.st (StF.boxAgg rfl rfl) rfl rfl ?_; rintro _ _ ⟨bx, rfl, rfl⟩))) | (refine Xo.g rfl rfl ?_; (first | (with_reducible refine Xw.ft rfl rfl ?_) | (with_reducible refine Xw.case (fun h => ?_) (fun h => ?_) <;> simp only [h, decide_true, decide_false, Bool.not_true, Bool.not_false, and_self, and_true, true_and, and_false, false_and]))))) | (refine XO.done rfl ?_; refine hK _ _ ?_; clear hK K) | refine X.seq rfl ?_ | refine X.region rfl (fun K hK => ?_) | refine X.block rfl ?_ | (refine X.brk rfl ?_; repeat (first | refine blockX_hit rfl ?_ | refine blockX_miss (by decide) ?_)) | refine X.skip rfl ?_ | refine X.ret rfl ?_ | (refine X.ite rfl rfl (fun hc => ?_); (first | (with_reducible refine Xb.case hc (fun h => ?_) (fun h => ?_)) | (with_reducible refine Xb.caseN hc (fun h => ?_) (fun h => ?_))) <;> clear hc))
  · refine ret_one (by first | exact .inr rfl | exact .inl rfl) Tryz.results120 rfl (H' := H) (by (repeat (first | exact List.Sublist.refl _ | apply List.Sublist.cons)); done) ?_; simp only [and_true, true_and]
    congr 1; symm; exact decide_eq_false (fun q => by have := q.1; omega)
  refine X.lp rfl (fun q F' H' => ∃ k : Nat, q = l.length - k ∧ k ≤ l.length ∧ (∀ j x, j < k → l[j]? = some x → -1000 ≤ x ∧ x ≤ 1000) ∧ H = H' ∧
      F' = [(8, .slice a l.length c), (9, .int .i64 l.length), (10, .int .i64 k)])
    l.length [(8, .slice a l.length c), (9, .int .i64 l.length), (10, .int .i64 (0 : Nat))] _ (by (repeat (first | exact Sub.nil _ | refine Sub.cons rfl ?_)); done) (by (repeat (first | exact List.Sublist.refl _ | apply List.Sublist.cons_cons | apply List.Sublist.cons)); done) ⟨0, by omega, by omega, (fun j x hj => absurd hj (by omega)), rfl, rfl⟩ ?_
  rintro _ _ H2 ⟨k, rfl, hk, hn, hH, rfl⟩
  subst hH
  repeat' (first | (refine XO.op rfl ?_; (first | ((first | refine Xo.ng rfl ?_ | (refine Xo.g rfl rfl ?_; with_reducible refine Xw.tt ?_)); (first | (refine Xg.ev (EvF.move rfl rfl) rfl rfl ?_) | (refine Xg.ev (EvF.assign rfl rfl) rfl rfl ?_) | (refine Xg.ev (EvF.pickT rfl rfl rfl) rfl rfl ?_) | (refine Xg.ev (EvF.pickF rfl rfl rfl) rfl rfl ?_) | (refine Xg.ev (EvF.cmp rfl rfl rfl rfl) rfl rfl ?_) | (refine Xg.ev (EvF.fieldAddr rfl rfl (te rfl) rfl (te rfl) (by decide)) rfl rfl ?_) | (refine Xg.ev (EvF.lenSlice rfl rfl (te rfl)) rfl rfl ?_) | (refine Xg.ev (EvF.loadV rfl rfl (LoadV.own (te rfl) rfl (List.Mem.head _) rfl)) rfl rfl ?_) | (refine Xg.ev (EvF.loadV rfl rfl (LoadV.own (te rfl) rfl (List.Mem.tail _ (List.Mem.head _)) rfl)) rfl rfl ?_) | (refine Xg.st (StF.boxAgg rfl rfl) rfl rfl ?_; rintro _ _ ⟨bx, rfl, rfl⟩))) | (refine Xo.g rfl rfl ?_; (first | (with_reducible refine Xw.ft rfl rfl ?_) | (with_reducible refine Xw.case (fun h => ?_) (fun h => ?_) <;> simp only [h, decide_true, decide_false, Bool.not_true, Bool.not_false, and_self, and_true, true_and, and_false, false_and]))))) | (refine XO.done rfl ?_; refine hK _ _ ?_; clear hK K) | refine X.seq rfl ?_ | refine X.region rfl (fun K hK => ?_) | refine X.block rfl ?_ | (refine X.brk rfl ?_; repeat (first | refine blockX_hit rfl ?_ | refine blockX_miss (by decide) ?_)) | refine X.skip rfl ?_ | refine X.ret rfl ?_ | (refine X.ite rfl rfl (fun hc => ?_); (first | (with_reducible refine Xb.case hc (fun h => ?_) (fun h => ?_)) | (with_reducible refine Xb.caseN hc (fun h => ?_) (fun h => ?_))) <;> clear hc))
  · obtain ⟨b, off, e, rfl, he⟩ := hl.elem (i := k) (by omega)
    repeat' (first | (refine XO.op rfl ?_; (first | ((first | refine Xo.ng rfl ?_); (first | (refine Xg.ev (EvF.loadV rfl rfl (LoadV.el0 hl he (te rfl) rfl (fun _ hm => hm) rfl)) rfl rfl ?_) | (refine Xg.call (EnF.st rfl (Args.cons rfl (Args.cons rfl (Args.cons rfl Args.nil)))) rfl rfl (w4_spec _ _ _ _) ?_; rintro _ H9 ⟨rfl, hH9⟩; subst H9) | (refine Xg.ev (EvF.move rfl rfl) rfl rfl ?_) | (refine Xg.ev (EvF.assign rfl rfl) rfl rfl ?_) | (refine Xg.ev (EvF.add64 rfl rfl rfl (by omega) (by omega)) rfl rfl ?_) | (refine Xg.ev (EvF.not rfl rfl) rfl rfl ?_) | (refine Xg.ev (EvF.indexSlice rfl rfl rfl (te rfl) (te rfl) (by omega) (by omega)) rfl rfl ?_))))) | (refine XO.done rfl ?_; refine hK _ _ ?_; clear hK K) | refine X.seq rfl ?_ | refine X.region rfl (fun K hK => ?_) | refine X.skip rfl ?_ | refine X.ret rfl ?_ | (refine X.ite rfl rfl (fun hc => ?_); (first | (with_reducible refine Xb.caseN hc (fun h => ?_) (fun h => ?_))) <;> clear hc))
    all_goals first
      | (refine ret_one (by first | exact .inr rfl | exact .inl rfl) Tryz.results120 rfl (H' := H) (by (repeat (first | exact List.Sublist.refl _ | apply List.Sublist.cons)); done) ?_; simp only [and_true, true_and]; congr 1; symm; exact decide_eq_false (fun q => by have := q.2 e (List.mem_of_getElem? he); omega))
      | (refine ⟨_, _, _, (by (repeat (first | exact Sub.nil _ | refine Sub.cons rfl ?_)); done), (by (repeat (first | exact List.Sublist.refl _ | apply List.Sublist.cons_cons | apply List.Sublist.cons)); done), ⟨k + 1, rfl, by omega, (fun j x hj hx => ?_), rfl, rfl⟩, by omega⟩
         rcases Nat.lt_or_ge j k with h1 | h1
         · exact hn j x h1 hx
         · obtain rfl : j = k := by omega
           rw [he] at hx; cases hx; omega)
  · refine ret_one (by first | exact .inr rfl | exact .inl rfl) Tryz.results120 rfl (H' := H) (by (repeat (first | exact List.Sublist.refl _ | apply List.Sublist.cons)); done) ?_; simp only [and_true, true_and]
    congr 1; symm
    refine decide_eq_true ⟨by omega, fun x hx => ?_⟩
    obtain ⟨i, hi, rfl⟩ := List.mem_iff_getElem.1 hx
    exact hn i _ (by omega) (List.getElem?_eq_getElem hi)
end Go.Proofs.YtcjlegjchllgjaaGreat
end
section
set_option linter.unusedVariables false
set_option linter.unusedSimpArgs false
namespace Go.Proofs.YtcjlegjchllgjaaGreat
open Go Go.Fw
set_option maxRecDepth 10000
theorem falls_iff' : ∀ (l : List Int), falls l ↔ ∀ q a b, l[q]? = some a → l[q + 1]? = some b → b ≤ a
  | [] => by simp [falls]
  | [x] => ⟨fun _ q a b _ h2 => by simp at h2, fun _ => trivial⟩
  | x :: y :: l => by
    have ih := falls_iff' (y :: l)
    show (y ≤ x ∧ falls (y :: l)) ↔ _
    rw [ih]
    constructor
    · rintro ⟨h1, h2⟩ q a b ha hb
      cases q with
      | zero => simp at ha hb; subst ha hb; exact h1
      | succ q => exact h2 q a b (by simpa using ha) (by simpa using hb)
    · intro h
      exact ⟨h 0 x y rfl rfl, fun q a b ha hb => h (q + 1) a b (by simpa using ha) (by simpa using hb)⟩
set_option maxHeartbeats 8000000 in
theorem rterms_spec (T : Tm) (p : Pt) (H : List Row) (hT : TmOk H T p) : Fc Tryz.prog 87 [.agg (cTm T p).toArray] H (fun v H' => v = .bool (decide (tmOk T)) ∧ H' = H) := by
  have l1 := hT.l1
  have l2 := hT.l2
  have hT1 : ∀ Z : List Row, TmOk (Z ++ H) T p := fun Z => hT.sub (fun _ h => List.mem_append_right _ h)
  obtain ⟨a1, c1, a2, c2⟩ := p
  refine Fc.mk (callable Tryz.call87) Tryz.func87 rfl Tryz.ntmps87 rfl ?_; dsimp only [fr]
  repeat' (first | (refine XO.op rfl ?_; (first | ((first | refine Xo.ng rfl ?_ | (refine Xo.g rfl rfl ?_; with_reducible refine Xw.ff ?_)); (first | (refine Xg.call (EnF.st rfl (Args.cons rfl (Args.cons rfl (Args.cons rfl Args.nil)))) rfl rfl (w4_spec _ _ _ _) ?_; rintro _ H9 ⟨rfl, hH9⟩; subst H9) | (refine Xg.call (EnF.st rfl (Args.cons rfl Args.nil)) rfl rfl (nine_spec T.G a1 c1 _ (hT1 [_]).gr l1) ?_; rintro _ H9 ⟨rfl, hH9⟩; subst H9) | (refine Xg.call (EnF.st rfl (Args.cons rfl Args.nil)) rfl rfl (nine_spec T.S a2 c2 _ (hT1 [_]).st l2) ?_; rintro _ H9 ⟨rfl, hH9⟩; subst H9) | (refine Xg.ev (EvF.move rfl rfl) rfl rfl ?_) | (refine Xg.ev (EvF.assign rfl rfl) rfl rfl ?_) | (refine Xg.ev (EvF.pickT rfl rfl rfl) rfl rfl ?_) | (refine Xg.ev (EvF.pickF rfl rfl rfl) rfl rfl ?_) | (refine Xg.ev (EvF.not rfl rfl) rfl rfl ?_) | (refine Xg.ev (EvF.fieldAddr rfl rfl (te rfl) rfl (te rfl) (by decide)) rfl rfl ?_) | (refine Xg.ev (EvF.loadV rfl rfl (LoadV.own (te rfl) rfl (List.Mem.head _) rfl)) rfl rfl ?_) | (refine Xg.st (StF.boxAgg rfl rfl) rfl rfl ?_; rintro _ _ ⟨bx, rfl, rfl⟩))) | (refine Xo.g rfl rfl ?_; (first | (with_reducible refine Xw.tf rfl rfl ?_) | (with_reducible refine Xw.caseN (fun h => ?_) (fun h => ?_) <;> simp only [h, decide_true, decide_false, Bool.not_true, Bool.not_false, and_self, and_true, true_and, and_false, false_and]))))) | (refine XO.done rfl ?_; refine hK _ _ ?_; clear hK K) | refine X.seq rfl ?_ | refine X.region rfl (fun K hK => ?_) | refine X.block rfl ?_ | refine X.skip rfl ?_ | refine X.ret rfl ?_ | (refine X.ite rfl rfl (fun hc => ?_); (first | (with_reducible refine Xb.t hc ?_) | (with_reducible refine Xb.caseN hc (fun h => ?_) (fun h => ?_))) <;> clear hc))
  any_goals (refine ret_one (by first | exact .inr rfl | exact .inl rfl) Tryz.results87 rfl (H' := H) (by (repeat (first | exact List.Sublist.refl _ | apply List.Sublist.cons)); done) ?_; simp only [and_true, true_and]; congr 1; symm; exact decide_eq_false (fun q => by have := q.cls; have := q.num; first | omega | exact absurd q.gr (by assumption) | exact absurd q.st (by assumption)))
  have hG : tab T.G := by assumption
  have hS : tab T.S := by assumption
  have hg9 : 1 ≤ T.g ∧ T.g ≤ 9 := by assumption
  have hs9 : 1 ≤ T.s ∧ T.s ≤ 9 := by assumption
  have hpr : 1 ≤ T.price ∧ T.price ≤ 1000000 := by assumption
  have g1 := hG.1
  have g2 := hS.1
  obtain ⟨b1, o1, _, he1, _⟩ := hT.gr.elem (i := 0) (by omega)
  obtain ⟨b2, o2, _, he2, _⟩ := hT.st.elem (i := 0) (by omega)
  simp only at he1 he2
  subst he1 he2
  refine X.lp rfl (fun m F' H' => ∃ k : Nat, m = 9 - k ∧ k < 9 ∧ (∀ j x y, j < k → T.G[j]? = some x → T.G[j + 1]? = some y → y ≤ x) ∧ (∀ j x y, j < k → T.S[j]? = some x → T.S[j + 1]? = some y → x ≤ y) ∧ H' = ⟨bx, 0, cTm T ⟨some ⟨b1, o1, none⟩, c1, some ⟨b2, o2, none⟩, c2⟩, some 32, 11⟩ :: H ∧
      F' = [(1, .pointer (some ⟨bx, 0, none⟩)), (3, .int .i64 (k + 1 : Nat))])
    9 [(1, .pointer (some ⟨bx, 0, none⟩)), (3, .int .i64 (0 + 1 : Nat))] _ (by (repeat (first | exact Sub.nil _ | refine Sub.cons rfl ?_)); done) (List.Sublist.refl _) ⟨0, by omega, by omega, (fun j x y hj => absurd hj (by omega)), (fun j x y hj => absurd hj (by omega)), rfl, rfl⟩ ?_
  rintro _ _ _ ⟨k, rfl, hk, hn, hn2, rfl, rfl⟩
  repeat' (first | (refine XO.op rfl ?_; (first | ((first | refine Xo.ng rfl ?_); (first | (refine Xg.ev (EvF.move rfl rfl) rfl rfl ?_) | (refine Xg.ev (EvF.cmp rfl rfl rfl rfl) rfl rfl ?_) | (refine Xg.ev (EvF.sub64 rfl rfl rfl (by omega) (by omega)) rfl rfl ?_) | (refine Xg.ev (EvF.fieldAddr rfl rfl (te rfl) rfl (te rfl) (by decide)) rfl rfl ?_) | (refine Xg.ev (EvF.indexSlice rfl rfl rfl (te rfl) (te rfl) (by omega) (by omega)) rfl rfl ?_) | (refine Xg.ev (EvF.loadV rfl rfl (LoadV.own (te rfl) rfl (List.Mem.head _) rfl)) rfl rfl ?_))))) | (refine XO.done rfl ?_; refine hK _ _ ?_; clear hK K) | refine X.seq rfl ?_ | refine X.region rfl (fun K hK => ?_) | refine X.block rfl ?_ | (refine X.brk rfl ?_; repeat (first | refine blockX_hit rfl ?_ | refine blockX_miss (by decide) ?_)) | refine X.skip rfl ?_ | (refine X.ite rfl rfl (fun hc => ?_); (first | (with_reducible refine Xb.case hc (fun h => ?_) (fun h => ?_))) <;> clear hc))
  · have hk8 : k + 1 < 9 := by omega
    obtain ⟨x, hx⟩ : ∃ x, T.G[k]? = some x := ⟨_, List.getElem?_eq_getElem (by omega)⟩
    obtain ⟨y, hy⟩ : ∃ x, T.G[k + 1]? = some x := ⟨_, List.getElem?_eq_getElem (by omega)⟩
    obtain ⟨x', hx'⟩ : ∃ x, T.S[k]? = some x := ⟨_, List.getElem?_eq_getElem (by omega)⟩
    obtain ⟨y', hy'⟩ : ∃ x, T.S[k + 1]? = some x := ⟨_, List.getElem?_eq_getElem (by omega)⟩
    have ek : ((k + 1 : Nat) : Int) - 1 = (k : Int) := by omega
    have hgx : T.G[(((k + 1 : Nat) : Int) - 1).toNat]? = some x := by rw [ek]; exact hx
    have hsx : T.S[(((k + 1 : Nat) : Int) - 1).toNat]? = some x' := by rw [ek]; exact hx'
    repeat' (first | (refine XO.op rfl ?_; (first | ((first | refine Xo.ng rfl ?_); (first | (refine Xg.ev (EvF.move rfl rfl) rfl rfl ?_) | (refine Xg.ev (EvF.assign rfl rfl) rfl rfl ?_) | (refine Xg.ev (EvF.add64 rfl rfl rfl (by omega) (by omega)) rfl rfl ?_))))) | (refine XO.done rfl ?_; refine hK _ _ ?_; clear hK K) | (refine XQ.op rfl ?_; (first | ((first | refine Yo.ng rfl ?_ | (refine Yo.g rfl rfl ?_; with_reducible refine Yw.ff ?_)); (first | (refine Yg.ev (EvF.indexSlice rfl rfl rfl (te rfl) (te rfl) (by omega) (by omega)) rfl rfl ?_) | (refine Yg.ev (EvF.loadV rfl rfl (LoadV.el0 (hT1 [_]).gr hgx (te rfl) rfl (fun _ hm => hm) rfl)) rfl rfl ?_) | (refine Yg.ev (EvF.loadV rfl rfl (LoadV.el0 (hT1 [_]).st hsx (te rfl) rfl (fun _ hm => hm) rfl)) rfl rfl ?_) | (refine Yg.ev (EvF.loadV rfl rfl (LoadV.el0 (n := k + 1) (hT1 [_]).gr hy (te rfl) rfl (fun _ h => h) rfl)) rfl rfl ?_) | (refine Yg.ev (EvF.loadV rfl rfl (LoadV.el0 (n := k + 1) (hT1 [_]).st hy' (te rfl) rfl (fun _ h => h) rfl)) rfl rfl ?_) | (refine Yg.ev (EvF.move rfl rfl) rfl rfl ?_) | (refine Yg.ev (EvF.pickT rfl rfl rfl) rfl rfl ?_) | (refine Yg.ev (EvF.pickF rfl rfl rfl) rfl rfl ?_) | (refine Yg.ev (EvF.cmp rfl rfl rfl rfl) rfl rfl ?_) | (refine Yg.ev (EvF.sub64 rfl rfl rfl (by omega) (by omega)) rfl rfl ?_) | (refine Yg.ev (EvF.fieldAddr rfl rfl (te rfl) rfl (te rfl) (by decide)) rfl rfl ?_) | (refine Yg.ev (EvF.loadV rfl rfl (LoadV.own (te rfl) rfl (List.Mem.head _) rfl)) rfl rfl ?_))) | (refine Yo.g rfl rfl ?_; (first | (with_reducible refine Yw.tf rfl rfl ?_) | (with_reducible refine Yw.case (fun h => ?_) (fun h => ?_) <;> simp only [h, decide_true, decide_false, Bool.not_true, Bool.not_false, and_self, and_true, true_and, and_false, false_and]))))) | (refine XQ.done rfl ?_; refine hK _ ?_; clear hK K) | refine X.seq rfl ?_ | refine X.region rfl (fun K hK => ?_) | refine X.regionD rfl mixed (by kernel_rfl) (fun K hK => ?_) | refine X.skip rfl ?_ | refine X.ret rfl ?_ | (refine X.ite rfl rfl (fun hc => ?_); (first | (with_reducible refine Xb.t hc ?_) | (with_reducible refine Xb.case hc (fun h => ?_) (fun h => ?_))) <;> clear hc))
    · refine ret_one (by first | exact .inr rfl | exact .inl rfl) Tryz.results87 rfl (H' := H) (by (repeat (first | exact List.Sublist.refl _ | apply List.Sublist.cons)); done) ?_; simp only [and_true, true_and]
      congr 1; symm; exact decide_eq_false (fun q => by have := (falls_iff' _).1 q.ord.1 k x y hx hy; omega)
    · refine ret_one (by first | exact .inr rfl | exact .inl rfl) Tryz.results87 rfl (H' := H) (by (repeat (first | exact List.Sublist.refl _ | apply List.Sublist.cons)); done) ?_; simp only [and_true, true_and]
      congr 1; symm; exact decide_eq_false (fun q => by have := (grows_iff _).1 q.ord.2 k x' y' hx' hy'; omega)
    · refine ⟨_, [(1, .pointer (some ⟨bx, 0, none⟩)), (3, .int .i64 (k + 1 + 1 : Nat))], _, (by (repeat (first | exact Sub.nil _ | refine Sub.cons rfl ?_)); done), List.Sublist.refl _, ⟨k + 1, rfl, by omega, (fun j u v hj hu hv => ?_), (fun j u v hj hu hv => ?_), rfl, rfl⟩, by omega⟩
      · rcases Nat.lt_or_ge j k with h1 | h1
        · exact hn j u v h1 hu hv
        · obtain rfl : j = k := by omega
          rw [hx] at hu; rw [hy] at hv; cases hu; cases hv; omega
      · rcases Nat.lt_or_ge j k with h1 | h1
        · exact hn2 j u v h1 hu hv
        · obtain rfl : j = k := by omega
          rw [hx'] at hu; rw [hy'] at hv; cases hu; cases hv; omega
  · have hG8 : falls T.G := (falls_iff' _).2 (fun q a b ha hb => hn q a b (by have := (List.getElem?_eq_some_iff.1 hb).1; omega) ha hb)
    have hS8 : grows T.S := (grows_iff _).2 (fun q a b ha hb => hn2 q a b (by have := (List.getElem?_eq_some_iff.1 hb).1; omega) ha hb)
    have q1 := at1_get hg9 g1
    have q2 := at1_get hs9 g2
    repeat' (first | (refine XO.op rfl ?_; (first | ((first | refine Xo.ng rfl ?_ | (refine Xo.g rfl rfl ?_; with_reducible refine Xw.ff ?_)); (first | (refine Xg.ev (EvF.indexSlice rfl rfl rfl (te rfl) (te rfl) (by omega) (by omega)) rfl rfl ?_) | (refine Xg.ev (EvF.loadV rfl rfl (LoadV.el0 (hT1 [_]).gr q1 (te rfl) rfl (fun _ hm => hm) rfl)) rfl rfl ?_) | (refine Xg.ev (EvF.loadV rfl rfl (LoadV.el0 (hT1 [_]).st q2 (te rfl) rfl (fun _ hm => hm) rfl)) rfl rfl ?_) | (refine Xg.call (EnF.st rfl (Args.cons rfl (Args.cons rfl (Args.cons rfl Args.nil)))) rfl rfl (w4_spec _ _ _ _) ?_; rintro _ H9 ⟨rfl, hH9⟩; subst H9) | (refine Xg.ev (EvF.build (cs := cCl ⟨T.worst, T.short⟩) rfl (ArgsP.cons rfl (ArgsP.cons rfl ArgsP.nil)) (te rfl) (Places.cons (te rfl) (Places.cons (te rfl) Places.nil)) Tryz.zeroValue27 rfl) rfl rfl ?_) | (refine Xg.call (EnF.st rfl (Args.cons rfl (Args.cons rfl Args.nil))) rfl rfl (rvalue_spec T _ ⟨T.worst, T.short⟩ _ (hT1 [_]) hG hS (by omega) (show 1 ≤ T.worst ∧ T.worst ≤ 9 by omega) (show 1 ≤ T.short ∧ T.short ≤ 9 by omega)) ?_; rintro _ H9 ⟨rfl, hH9⟩; subst H9) | (refine Xg.ev (EvF.move rfl rfl) rfl rfl ?_) | (refine Xg.ev (EvF.assign rfl rfl) rfl rfl ?_) | (refine Xg.ev (EvF.pickT rfl rfl rfl) rfl rfl ?_) | (refine Xg.ev (EvF.pickF rfl rfl rfl) rfl rfl ?_) | (refine Xg.ev (EvF.cmp rfl rfl rfl rfl) rfl rfl ?_) | (refine Xg.ev (EvF.sub64 rfl rfl rfl (by omega) (by omega)) rfl rfl ?_) | (refine Xg.ev (EvF.not rfl rfl) rfl rfl ?_) | (refine Xg.ev (EvF.fieldAddr rfl rfl (te rfl) rfl (te rfl) (by decide)) rfl rfl ?_) | (refine Xg.ev (EvF.loadV rfl rfl (LoadV.own (te rfl) rfl (List.Mem.head _) rfl)) rfl rfl ?_) | (refine Xg.ev (EvF.loadV rfl rfl (LoadV.whole (te rfl) rfl (List.Mem.head _) rfl)) rfl rfl ?_))) | (refine Xo.g rfl rfl ?_; (first | (with_reducible refine Xw.tf rfl rfl ?_) | (with_reducible refine Xw.caseN (fun h => ?_) (fun h => ?_) <;> simp only [h, decide_true, decide_false, Bool.not_true, Bool.not_false, and_self, and_true, true_and, and_false, false_and]))))) | (refine XO.done rfl ?_; refine hK _ _ ?_; clear hK K) | refine X.seq rfl ?_ | refine X.region rfl (fun K hK => ?_) | refine X.skip rfl ?_ | refine X.ret rfl ?_ | (refine X.ite rfl rfl (fun hc => ?_); (first | (with_reducible refine Xb.t hc ?_) | (with_reducible refine Xb.caseN hc (fun h => ?_) (fun h => ?_))) <;> clear hc))
    all_goals (refine ret_one (by first | exact .inr rfl | exact .inl rfl) Tryz.results87 rfl (H' := H) (by (repeat (first | exact List.Sublist.refl _ | apply List.Sublist.cons)); done) ?_; simp only [and_true, true_and])
    all_goals first
      | (congr 1; symm; exact decide_eq_false (fun q => by have := q.cls; have := q.num; have := q.zero; omega))
      | (congr 1; exact decide_eq_decide.2 ⟨fun q => ⟨by omega, by omega, hG, hS, ⟨hG8, hS8⟩, ⟨by omega, by omega⟩, q⟩, fun q => q.least⟩)
def clsE (c : Cl) : Int := if 1 ≤ c.g ∧ c.g ≤ 9 then (if 1 ≤ c.s ∧ c.s ≤ 9 then 0 else 42) else 41
noncomputable def askedE (T : Tm) (c : Cl) : Int := if tmOk T then clsE c else 40
end Go.Proofs.YtcjlegjchllgjaaGreat
end
section
set_option linter.unusedVariables false
set_option linter.unusedSimpArgs false
namespace Go.Proofs.YtcjlegjchllgjaaGreat
open Go Go.Fw
set_option maxRecDepth 10000
noncomputable instance : DecidableEq Sp := fun _ _ => Classical.propDecidable _
noncomputable instance : DecidableEq Cl := fun _ _ => Classical.propDecidable _
noncomputable instance : DecidableEq Tm := fun _ _ => Classical.propDecidable _
theorem eqI (d : Nat) (a b : Int) (w : World) : (Op.equalIn (d + 1) 3 (.int .i64 a) (.int .i64 b)).run Tryz.prog w = .ok (decide (a = b)) w := by
  rw [run_equalIn_int w d 3 .i64 .i64 a b (by kernel_rfl)]
  by_cases h : a = b <;> simp [h]
theorem eqSp (d : Nat) (e f : Sp) (w : World) : (Op.equalIn (d + 2) 30 (.agg (cSp e).toArray) (.agg (cSp f).toArray)).run Tryz.prog w = .ok (decide (e = f)) w := by
  have hS : Tryz.prog.underlying 30 = some (.struct (Tryz.prog.fieldsOf 30)) := by kernel_rfl
  rw [run_equalIn_agg w (d + 1) 30 _ _ hS (by kernel_rfl)]
  simp only [Program.fieldsOf, Tryz.underlying30]
  go_simp
  obtain ⟨e1, e2⟩ := e
  obtain ⟨f1, f2⟩ := f
  by_cases h1 : e1 = f1 <;> by_cases h2 : e2 = f2 <;> simp [cSp, eqI, Result.andThen, h1, h2]
theorem eqCl (d : Nat) (e f : Cl) (w : World) : (Op.equalIn (d + 2) 27 (.agg (cCl e).toArray) (.agg (cCl f).toArray)).run Tryz.prog w = .ok (decide (e = f)) w := by
  have hS : Tryz.prog.underlying 27 = some (.struct (Tryz.prog.fieldsOf 27)) := by kernel_rfl
  rw [run_equalIn_agg w (d + 1) 27 _ _ hS (by kernel_rfl)]
  simp only [Program.fieldsOf, Tryz.underlying27]
  go_simp
  obtain ⟨e1, e2⟩ := e
  obtain ⟨f1, f2⟩ := f
  by_cases h1 : e1 = f1 <;> by_cases h2 : e2 = f2 <;> simp [cCl, eqI, Result.andThen, h1, h2]
theorem sameInts_spec (l m : List Int) (a a' : Option Addr) (c c' : Nat) (H : List Row) (hl : SlE H a cI 1 l) (hm : SlE H a' cI 1 m) (hb : l.length ≤ 1000000) (hb' : m.length ≤ 1000000) :
    Fc Tryz.prog 44 [.slice a l.length c, .slice a' m.length c'] H (fun v H' => v = .bool (decide (l = m)) ∧ H' = H) := by
  refine Fc.mk (callable Tryz.call44) Tryz.func44 rfl Tryz.ntmps44 rfl ?_; dsimp only [fr]
  repeat' (first | (refine XO.op rfl ?_; (first | ((first | refine Xo.ng rfl ?_ | (refine Xo.g rfl rfl ?_; with_reducible refine Xw.ff ?_)); (first | (refine Xg.ev (EvF.move rfl rfl) rfl rfl ?_) | (refine Xg.ev (EvF.assign rfl rfl) rfl rfl ?_) | (refine Xg.ev (EvF.pickT rfl rfl rfl) rfl rfl ?_) | (refine Xg.ev (EvF.pickF rfl rfl rfl) rfl rfl ?_) | (refine Xg.ev (EvF.cmp rfl rfl rfl rfl) rfl rfl ?_) | (refine Xg.ev (EvF.fieldAddr rfl rfl (te rfl) rfl (te rfl) (by decide)) rfl rfl ?_) | (refine Xg.ev (EvF.lenSlice rfl rfl (te rfl)) rfl rfl ?_) | (refine Xg.ev (EvF.loadV rfl rfl (LoadV.own (te rfl) rfl (List.Mem.head _) rfl)) rfl rfl ?_) | (refine Xg.st (StF.boxAgg rfl rfl) rfl rfl ?_; rintro _ _ ⟨bx, rfl, rfl⟩))) | (refine Xo.g rfl rfl ?_; (first | (with_reducible refine Xw.tf rfl rfl ?_) | (with_reducible refine Xw.case (fun h => ?_) (fun h => ?_) <;> simp only [h, decide_true, decide_false, Bool.not_true, Bool.not_false, and_self, and_true, true_and, and_false, false_and]))))) | (refine XO.done rfl ?_; refine hK _ _ ?_; clear hK K) | refine X.seq rfl ?_ | refine X.region rfl (fun K hK => ?_) | refine X.block rfl ?_ | refine X.skip rfl ?_ | refine X.ret rfl ?_ | (refine X.ite rfl rfl (fun hc => ?_); (first | (with_reducible refine Xb.caseN hc (fun h => ?_) (fun h => ?_))) <;> clear hc))
  · refine ret_one (by first | exact .inr rfl | exact .inl rfl) Tryz.results44 rfl (H' := H) (by (repeat (first | exact List.Sublist.refl _ | apply List.Sublist.cons)); done) ?_; simp only [and_true, true_and]
    congr 1; symm; exact decide_eq_false (fun q => by subst q; omega)
  have hlm : l.length = m.length := by omega
  refine X.lp rfl (fun q F' H' => ∃ k : Nat, q = l.length - k ∧ k ≤ l.length ∧ (l = m ↔ l.drop k = m.drop k) ∧ H = H' ∧
      F' = [(0, .slice a l.length c), (1, .slice a' m.length c'), (5, .int .i64 k)])
    l.length [(0, .slice a l.length c), (1, .slice a' m.length c'), (5, .int .i64 (0 : Nat))] _ (by (repeat (first | exact Sub.nil _ | refine Sub.cons rfl ?_)); done) (by (repeat (first | exact List.Sublist.refl _ | apply List.Sublist.cons_cons | apply List.Sublist.cons)); done) ⟨0, by omega, by omega, by simp, rfl, rfl⟩ ?_
  rintro _ _ H2 ⟨k, rfl, hk, hn, hH, rfl⟩
  subst hH
  repeat' (first | (refine XO.op rfl ?_; (first | ((first | refine Xo.ng rfl ?_); (first | (refine Xg.ev (EvF.move rfl rfl) rfl rfl ?_) | (refine Xg.ev (EvF.assign rfl rfl) rfl rfl ?_) | (refine Xg.ev (EvF.cmp rfl rfl rfl rfl) rfl rfl ?_) | (refine Xg.ev (EvF.lenSlice rfl rfl (te rfl)) rfl rfl ?_))))) | (refine XO.done rfl ?_; refine hK _ _ ?_; clear hK K) | refine X.seq rfl ?_ | refine X.region rfl (fun K hK => ?_) | refine X.block rfl ?_ | (refine X.brk rfl ?_; repeat (first | refine blockX_hit rfl ?_ | refine blockX_miss (by decide) ?_)) | refine X.skip rfl ?_ | refine X.ret rfl ?_ | (refine X.ite rfl rfl (fun hc => ?_); (first | (with_reducible refine Xb.case hc (fun h => ?_) (fun h => ?_))) <;> clear hc))
  · obtain ⟨b, off, e, rfl, he⟩ := hl.elem (i := k) (by omega)
    obtain ⟨b2, off2, f, rfl, hf⟩ := hm.elem (i := k) (by omega)
    rw [drop_cons he, drop_cons hf, List.cons.injEq] at hn
    repeat' (first | (refine XO.op rfl ?_; (first | ((first | refine Xo.ng rfl ?_); (first | (refine Xg.ev (EvF.move rfl rfl) rfl rfl ?_) | (refine Xg.ev (EvF.assign rfl rfl) rfl rfl ?_) | (refine Xg.ev (EvF.add64 rfl rfl rfl (by omega) (by omega)) rfl rfl ?_))))) | (refine XO.done rfl ?_; refine hK _ _ ?_; clear hK K) | (refine XQ.op rfl ?_; (first | ((first | refine Yo.ng rfl ?_); (first | (refine Yg.ev (EvF.indexSlice rfl rfl rfl (te rfl) (te rfl) (by omega) (by omega)) rfl rfl ?_) | (refine Yg.ev (EvF.loadV rfl rfl (LoadV.el0 hl he (te rfl) rfl (fun _ hm => hm) rfl)) rfl rfl ?_) | (refine Yg.ev (EvF.loadV rfl rfl (LoadV.el0 hm hf (te rfl) rfl (fun _ hm => hm) rfl)) rfl rfl ?_) | (refine Yg.ev (EvF.move rfl rfl) rfl rfl ?_) | (refine Yg.ev (EvF.cmp rfl rfl rfl rfl) rfl rfl ?_))))) | (refine XQ.done rfl ?_; refine hK _ ?_; clear hK K) | refine X.seq rfl ?_ | refine X.region rfl (fun K hK => ?_) | refine X.regionD rfl mixed (by kernel_rfl) (fun K hK => ?_) | refine X.skip rfl ?_ | refine X.ret rfl ?_ | (refine X.ite rfl rfl (fun hc => ?_); (first | (with_reducible refine Xb.caseN hc (fun h => ?_) (fun h => ?_))) <;> clear hc))
    all_goals first
      | (refine ret_one (by first | exact .inr rfl | exact .inl rfl) Tryz.results44 rfl (H' := H) (by (repeat (first | exact List.Sublist.refl _ | apply List.Sublist.cons)); done) ?_; simp only [and_true, true_and]; congr 1; symm; exact decide_eq_false (fun q => absurd (hn.1 q).1 (by assumption)))
      | (refine ⟨_, _, _, (by (repeat (first | exact Sub.nil _ | refine Sub.cons rfl ?_)); done), (by (repeat (first | exact List.Sublist.refl _ | apply List.Sublist.cons_cons | apply List.Sublist.cons)); done), ⟨k + 1, rfl, by omega, hn.trans (and_iff_right (by assumption)), rfl, rfl⟩, by omega⟩)
  · rw [List.drop_eq_nil_of_le (by omega), List.drop_eq_nil_of_le (by omega)] at hn
    refine ret_one (by first | exact .inr rfl | exact .inl rfl) Tryz.results44 rfl (H' := H) (by (repeat (first | exact List.Sublist.refl _ | apply List.Sublist.cons)); done) ?_; simp only [and_true, true_and]
    congr 1; symm; exact decide_eq_true (hn.2 rfl)
theorem Tm.ext' {R S : Tm} (h1 : R.g = S.g) (h2 : R.s = S.s) (h3 : R.price = S.price) (h4 : R.worst = S.worst) (h5 : R.short = S.short) (h6 : R.G = S.G) (h7 : R.S = S.S) (h8 : R.dl = S.dl) (h9 : R.dh = S.dh) (h10 : R.bales = S.bales) (h11 : R.fee = S.fee) : R = S := by
  cases R; cases S; simp_all
set_option maxHeartbeats 4000000 in
theorem sameT_spec (T U : Tm) (p q : Pt) (H : List Row) (hT : TmOk H T p) (hU : TmOk H U q) : Fc Tryz.prog 43 [.agg (cTm T p).toArray, .agg (cTm U q).toArray] H (fun v H' => v = .bool (decide (T = U)) ∧ H' = H) := by
  have hT2 : ∀ Z : List Row, TmOk (Z ++ H) T p := fun Z => hT.sub (fun _ h => List.mem_append_right _ h)
  have hU2 : ∀ Z : List Row, TmOk (Z ++ H) U q := fun Z => hU.sub (fun _ h => List.mem_append_right _ h)
  refine Fc.mk (callable Tryz.call43) Tryz.func43 rfl Tryz.ntmps43 rfl ?_; dsimp only [fr]
  repeat' (first | (refine XO.op rfl ?_; (first | ((first | refine Xo.ng rfl ?_ | (refine Xo.g rfl rfl ?_; with_reducible refine Xw.tt ?_)); (first | (refine Xg.ev (EvF.loadV rfl rfl (LoadV.ownAgg (vs := cCl ⟨T.g, T.s⟩) (te rfl) rfl (List.Mem.tail _ (List.Mem.head _)) rfl rfl)) rfl rfl ?_) | (refine Xg.ev (EvF.loadV rfl rfl (LoadV.ownAgg (vs := cCl ⟨U.g, U.s⟩) (te rfl) rfl (List.Mem.head _) rfl rfl)) rfl rfl ?_) | (refine Xg.ev (EvF.loadV rfl rfl (LoadV.ownAgg (vs := cSp ⟨T.dl, T.dh⟩) (te rfl) rfl (List.Mem.tail _ (List.Mem.head _)) rfl rfl)) rfl rfl ?_) | (refine Xg.ev (EvF.loadV rfl rfl (LoadV.ownAgg (vs := cSp ⟨U.dl, U.dh⟩) (te rfl) rfl (List.Mem.head _) rfl rfl)) rfl rfl ?_) | (refine Xg.ev (EvF.eqSt rfl rfl rfl (by kernel_rfl) (fun w => eqCl 9998 ⟨T.g, T.s⟩ ⟨U.g, U.s⟩ w) rfl) rfl rfl ?_) | (refine Xg.ev (EvF.eqSt rfl rfl rfl (by kernel_rfl) (fun w => eqSp 9998 ⟨T.dl, T.dh⟩ ⟨U.dl, U.dh⟩ w) rfl) rfl rfl ?_) | (refine Xg.call (EnF.st rfl (Args.cons rfl (Args.cons rfl Args.nil))) rfl rfl (sameInts_spec T.G U.G p.a1 q.a1 p.c1 q.c1 _ (hT2 [_, _]).gr (hU2 [_, _]).gr hT.l1 hU.l1) ?_; rintro _ H9 ⟨rfl, hH9⟩; subst H9) | (refine Xg.call (EnF.st rfl (Args.cons rfl (Args.cons rfl Args.nil))) rfl rfl (sameInts_spec T.S U.S p.a2 q.a2 p.c2 q.c2 _ (hT2 [_, _]).st (hU2 [_, _]).st hT.l2 hU.l2) ?_; rintro _ H9 ⟨rfl, hH9⟩; subst H9) | (refine Xg.ev (EvF.move rfl rfl) rfl rfl ?_) | (refine Xg.ev (EvF.assign rfl rfl) rfl rfl ?_) | (refine Xg.ev (EvF.pickT rfl rfl rfl) rfl rfl ?_) | (refine Xg.ev (EvF.pickF rfl rfl rfl) rfl rfl ?_) | (refine Xg.ev (EvF.cmp rfl rfl rfl rfl) rfl rfl ?_) | (refine Xg.ev (EvF.fieldAddr rfl rfl (te rfl) rfl (te rfl) (by decide)) rfl rfl ?_) | (refine Xg.ev (EvF.loadV rfl rfl (LoadV.own (te rfl) rfl (List.Mem.head _) rfl)) rfl rfl ?_) | (refine Xg.ev (EvF.loadV rfl rfl (LoadV.own (te rfl) rfl (List.Mem.tail _ (List.Mem.head _)) rfl)) rfl rfl ?_) | (refine Xg.st (StF.boxAgg rfl rfl) rfl rfl ?_; rintro _ _ ⟨bx, rfl, rfl⟩))) | (refine Xo.g rfl rfl ?_; (first | (with_reducible refine Xw.ft rfl rfl ?_) | (with_reducible refine Xw.case (fun h => ?_) (fun h => ?_) <;> simp only [h, decide_true, decide_false, Bool.not_true, Bool.not_false, and_self, and_true, true_and, and_false, false_and]))))) | (refine XO.done rfl ?_; refine hK _ _ ?_; clear hK K) | refine X.seq rfl ?_ | refine X.region rfl (fun K hK => ?_) | refine X.ret rfl ?_)
  all_goals (refine ret_one (by first | exact .inr rfl | exact .inl rfl) Tryz.results43 rfl (H' := H) (by (repeat (first | exact List.Sublist.refl _ | apply List.Sublist.cons)); done) ?_; simp only [and_true, true_and])
  all_goals (congr 1; (try simp only [Cl.mk.injEq, Sp.mk.injEq] at *))
  all_goals first
    | (symm; exact decide_eq_false (fun q => by subst q; simp_all; done))
    | (exact decide_eq_decide.2 ⟨fun q => Tm.ext' (by omega) (by omega) (by omega) (by omega) (by omega) (by assumption) (by assumption) (by omega) (by omega) (by omega) (by omega), fun q => by subst q; rfl⟩)
theorem great_spec (T : Tm) (p : Pt) (H : List Row) : Fc Tryz.prog 86 [.agg (cTm T p).toArray] H (fun v H' => v = .bool (decide (T.G.length > 30 ∨ T.S.length > 30)) ∧ H' = H) := by
  refine Fc.mk (callable Tryz.call86) Tryz.func86 rfl Tryz.ntmps86 rfl ?_; dsimp only [fr]
  repeat' (first | (refine XO.op rfl ?_; (first | ((first | refine Xo.ng rfl ?_ | (refine Xo.g rfl rfl ?_; with_reducible refine Xw.ff ?_)); (first | (refine Xg.ev (EvF.move rfl rfl) rfl rfl ?_) | (refine Xg.ev (EvF.assign rfl rfl) rfl rfl ?_) | (refine Xg.ev (EvF.pickT rfl rfl rfl) rfl rfl ?_) | (refine Xg.ev (EvF.pickF rfl rfl rfl) rfl rfl ?_) | (refine Xg.ev (EvF.cmp rfl rfl rfl rfl) rfl rfl ?_) | (refine Xg.ev (EvF.fieldAddr rfl rfl (te rfl) rfl (te rfl) (by decide)) rfl rfl ?_) | (refine Xg.ev (EvF.lenSlice rfl rfl (te rfl)) rfl rfl ?_) | (refine Xg.ev (EvF.loadV rfl rfl (LoadV.own (te rfl) rfl (List.Mem.head _) rfl)) rfl rfl ?_) | (refine Xg.st (StF.boxAgg rfl rfl) rfl rfl ?_; rintro _ _ ⟨bx, rfl, rfl⟩))) | (refine Xo.g rfl rfl ?_; (first | (with_reducible refine Xw.tf rfl rfl ?_) | (with_reducible refine Xw.case (fun h => ?_) (fun h => ?_) <;> simp only [h, decide_true, decide_false, Bool.not_true, Bool.not_false, and_self, and_true, true_and, and_false, false_and]))))) | (refine XO.done rfl ?_; refine hK _ _ ?_; clear hK K) | refine X.seq rfl ?_ | refine X.region rfl (fun K hK => ?_) | refine X.block rfl ?_ | refine X.skip rfl ?_ | refine X.ret rfl ?_ | (refine X.ite rfl rfl (fun hc => ?_); (first | (with_reducible refine Xb.caseN hc (fun h => ?_) (fun h => ?_))) <;> clear hc))
  all_goals (refine ret_one (by first | exact .inr rfl | exact .inl rfl) Tryz.results86 rfl (H' := H) (by (repeat (first | exact List.Sublist.refl _ | apply List.Sublist.cons)); done) ?_; simp only [and_true, true_and])
  all_goals (congr 1; simp only [decide_eq_decide, eq_comm (a := true), decide_eq_true_eq]; omega)
end Go.Proofs.YtcjlegjchllgjaaGreat
end
section
set_option linter.unusedVariables false
set_option linter.unusedSimpArgs false
namespace Go.Proofs.YtcjlegjchllgjaaGreat
open Go Go.Fw
set_option maxRecDepth 10000
theorem cls_lo1 (T : Tm) (c : Cl) : cls T (lo1 c) = if may T c then [c] else [] := by
  have e : ∀ a : Int, ir a a = [a] := fun a => by unfold ir; rw [show (a - a + 1).toNat = 1 by omega]; simp
  unfold cls clsI lo1
  simp only [e, rowC, List.flatMap_cons, List.flatMap_nil, List.map_cons, List.map_nil, List.append_nil, List.filter_cons, List.filter_nil]
theorem openI (T : Tm) (c : Cl) : openE T (abI c) = if tmOk T then (if 1 ≤ c.g ∧ c.g ≤ 9 then (if 1 ≤ c.s ∧ c.s ≤ 9 then (if may T c = true then 0 else 6) else 42) else 41) else 40 := by
  unfold openE
  have h1 : askD (abI c) := fun d hd => absurd hd List.not_mem_nil
  have h2 : askG (abI c) ↔ 1 ≤ c.g ∧ c.g ≤ 9 := by simp [askG, abI, lo1, partOk]
  have h3 : askS (abI c) ↔ 1 ≤ c.s ∧ c.s ≤ 9 := by simp [askS, abI, lo1, partOk]
  have h4 : askM (abI c) := fun d hd => absurd hd List.not_mem_nil
  have h5 : askN T (abI c) ↔ may T c = true := by
    simp only [askN, abI, List.mem_cons, List.not_mem_nil, or_false, forall_eq, cls_lo1]
    split <;> simp_all
  simp only [h1, h2, h3, h4, h5, if_true]
theorem openI' (T : Tm) (c : Cl) : openE T (abI c) = if askedE T c = 0 then (if may T c = true then 0 else 6) else askedE T c := by
  rw [openI]; unfold askedE clsE
  by_cases h1 : tmOk T <;> by_cases h2 : 1 ≤ c.g ∧ c.g ≤ 9 <;> by_cases h3 : 1 ≤ c.s ∧ c.s ≤ 9 <;> simp only [h1, h2, h3, if_true, if_false] <;> simp
theorem askedE_zero {T : Tm} {c : Cl} (h : askedE T c = 0) : tmOk T ∧ (1 ≤ c.g ∧ c.g ≤ 9) ∧ (1 ≤ c.s ∧ c.s ≤ 9) := by
  unfold askedE clsE at h
  by_cases h1 : tmOk T
  · by_cases h2 : 1 ≤ c.g ∧ c.g ≤ 9
    · by_cases h3 : 1 ≤ c.s ∧ c.s ≤ 9
      · exact ⟨h1, h2, h3⟩
      · simp [h1, h2, h3] at h
    · simp [h1, h2] at h
  · simp [h1] at h
end Go.Proofs.YtcjlegjchllgjaaGreat
end
section
set_option linter.unusedVariables false
set_option linter.unusedSimpArgs false
namespace Go.Fw
open Go
theorem EvF.eqSelf {P : Program} {n : Nat} {H : List Row} {F : FS} {o : Oper} {T T' : TypeId} {x y : Operand} {k : IntKind} {p : Int} (h : o.op = .binOp .eql T x y T') (hx : evF F x = some (.int k p)) (hy : evF F y = some (.int k p)) : EvF P n H F o (.bool true) := by
  have := EvF.cmp (P := P) (n := n) (H := H) h hx hy rfl
  rwa [decide_eq_true rfl] at this
end Go.Fw
namespace Go.Proofs.YtcjlegjchllgjaaGreat
open Go Go.Fw
set_option maxRecDepth 10000
theorem sameT_self (T : Tm) (p q : Pt) (H : List Row) (hT : TmOk H T p) (hU : TmOk H T q) : Fc Tryz.prog 43 [.agg (cTm T p).toArray, .agg (cTm T q).toArray] H (fun v H' => v = .bool true ∧ H' = H) :=
  (sameT_spec T T p q H hT hU).mono (fun v H' ⟨h1, h2⟩ => ⟨by rw [h1, decide_eq_true rfl], h2⟩)
theorem greatT (T : Tm) (p : Pt) (h : T.G.length > 30 ∨ T.S.length > 30) (H : List Row) : Fc Tryz.prog 86 [.agg (cTm T p).toArray] H (fun v H' => v = .bool true ∧ H' = H) := by
  have := great_spec T p H
  rwa [decide_eq_true h] at this
theorem greatF (T : Tm) (p : Pt) (h : ¬ (T.G.length > 30 ∨ T.S.length > 30)) (H : List Row) : Fc Tryz.prog 86 [.agg (cTm T p).toArray] H (fun v H' => v = .bool false ∧ H' = H) := by
  have := great_spec T p H
  rwa [decide_eq_false h] at this
theorem ownT (T : Tm) (t1 k1 t2 k2 : Nat) (H : List Row) (l1 : T.G.length ≤ 1000000) (l2 : T.S.length ≤ 1000000) (m1 : (⟨t1, 0, T.G.flatMap cI, some 3, k1 * 1⟩ : Row) ∈ H) (m2 : (⟨t2, 0, T.S.flatMap cI, some 3, k2 * 1⟩ : Row) ∈ H) : TmOk H T ⟨some ⟨t1, 0, none⟩, k1, some ⟨t2, 0, none⟩, k2⟩ :=
  ⟨SlE.ofRow m1 (fun _ _ => rfl), SlE.ofRow m2 (fun _ _ => rfl), l1, l2⟩
end Go.Proofs.YtcjlegjchllgjaaGreat
end
section
set_option linter.unusedVariables false
namespace Go.Proofs.YtcjlegjchllgjaaGreat
open Go Go.Fw Go.ChangeShapes Go.WideShapes Go.ChangeAt Go.RowKit
set_option linter.unusedVariables false
set_option maxRecDepth 100000
instance : Inhabited Sp := ⟨⟨0, 0⟩⟩
instance : Inhabited Cl := ⟨⟨0, 0⟩⟩
section
variable {H : Type} {enc : TypeId × Value → H} {w : World} {base : Nat} {spare : Nat → Bool} {held : Bool} {fuel : Nat} {cs : List Value} {x : DataW H × List MemPlace}
theorem open_i (h : DataW.trod enc Tryz.prog w base spare held fuel 3 cs = some x) : ∃ q : Int, cs = cI q ∧ True := by
  obtain ⟨q, h1, _⟩ := trod_i (te rfl) h
  exact ⟨q, h1, trivial⟩
theorem open_sp (h : DataW.trod enc Tryz.prog w base spare held fuel 30 cs = some x) : ∃ q : Sp, cs = cSp q ∧ True := by
  obtain ⟨hl, hf⟩ := trod_st (te rfl) h
  obtain ⟨n0, y0, h0⟩ := hf 0 0 3 _ rfl (te rfl)
  obtain ⟨n1, y1, h1⟩ := hf 1 1 3 _ rfl (te rfl)
  match cs, hl with
  | [a, b], _ =>
    obtain ⟨lo, e0, w0⟩ := open_i h0
    obtain ⟨hi, e1, w1⟩ := open_i h1
    simp [cI] at e0 e1
    subst e0 e1
    exact ⟨⟨lo, hi⟩, rfl, trivial⟩
theorem open_cl (h : DataW.trod enc Tryz.prog w base spare held fuel 27 cs = some x) : ∃ q : Cl, cs = cCl q ∧ True := by
  obtain ⟨hl, hf⟩ := trod_st (te rfl) h
  obtain ⟨n0, y0, h0⟩ := hf 0 0 3 _ rfl (te rfl)
  obtain ⟨n1, y1, h1⟩ := hf 1 1 3 _ rfl (te rfl)
  match cs, hl with
  | [a, b], _ =>
    obtain ⟨lo, e0, w0⟩ := open_i h0
    obtain ⟨hi, e1, w1⟩ := open_i h1
    simp [cI] at e0 e1
    subst e0 e1
    exact ⟨⟨lo, hi⟩, rfl, trivial⟩
end
structure InTm (w : World) (T : Tm) (p : Pt) : Prop where
  gr : InSl w p.a1 cI 1 T.G
  st : InSl w p.a2 cI 1 T.S
def rowsTm (T : Tm) (p : Pt) : List Row := rowsOf p.a1 cI T.G ++ rowsOf p.a2 cI T.S
theorem InTm.ok {w : World} {T : Tm} {p : Pt} {N : Nat} (h : InTm w T p) : ∀ r ∈ rowsTm T p, r.own = none ∧ r.ok N w := by
  intro r hr
  rcases List.mem_append.1 hr with hr | hr
  · exact h.gr.ok r hr
  · exact h.st.ok r hr
theorem InTm.g {w : World} {T : Tm} {p : Pt} (h : InTm w T p) {H : List Row} (hs : ∀ r ∈ rowsTm T p, r ∈ H) : SlE H p.a1 cI 1 T.G := h.gr.sl (fun r hr => hs r (List.mem_append_left _ hr))
theorem InTm.s {w : World} {T : Tm} {p : Pt} (h : InTm w T p) {H : List Row} (hs : ∀ r ∈ rowsTm T p, r ∈ H) : SlE H p.a2 cI 1 T.S := h.st.sl (fun r hr => hs r (List.mem_append_right _ hr))
section
variable {H : Type} {enc : TypeId × Value → H} {w : World} {base : Nat} {spare : Nat → Bool} {held : Bool} {v : Value} {d : DataW H} {p : List MemPlace} {r : Reach} {b0 : Nat}
theorem open_terms (hv : Value.okWide Tryz.prog w r b0 32 v) (h : DataW.Trod enc Tryz.prog w base spare held 32 v d p) : ∃ T pl, v = .agg (cTm T pl).toArray ∧ InTm w T pl := by
  obtain ⟨fa, hu, _⟩ := ti_struct (te (T := 32) rfl)
  obtain ⟨⟨cs⟩, rfl, _⟩ := okWide_struct hu hv
  obtain ⟨fuel, hf⟩ := h
  obtain ⟨hl, hf⟩ := trod_st (te rfl) hf
  obtain ⟨n0, y0, h0⟩ := hf 0 0 27 _ rfl (te rfl)
  obtain ⟨n1, y1, h1⟩ := hf 1 2 3 _ rfl (te rfl)
  obtain ⟨n2, y2, h2⟩ := hf 2 3 3 _ rfl (te rfl)
  obtain ⟨n3, y3, h3⟩ := hf 3 4 3 _ rfl (te rfl)
  obtain ⟨n4, y4, h4⟩ := hf 4 5 28 _ rfl (te rfl)
  obtain ⟨n5, y5, h5⟩ := hf 5 6 28 _ rfl (te rfl)
  obtain ⟨n6, y6, h6⟩ := hf 6 7 30 _ rfl (te rfl)
  obtain ⟨n7, y7, h7⟩ := hf 7 9 3 _ rfl (te rfl)
  obtain ⟨n8, y8, h8⟩ := hf 8 10 3 _ rfl (te rfl)
  match cs, hl with
  | [a, b, c, d, e, f, g, i, j, k, l], _ =>
    obtain ⟨q0, e0, w0⟩ := open_cl h0
    obtain ⟨q1, e1, w1⟩ := open_i h1
    obtain ⟨q2, e2, w2⟩ := open_i h2
    obtain ⟨q3, e3, w3⟩ := open_i h3
    obtain ⟨q6, e6, w6⟩ := open_sp h6
    obtain ⟨q7, e7, w7⟩ := open_i h7
    obtain ⟨q8, e8, w8⟩ := open_i h8
    simp [cI, cSp, cCl, Value.cells] at e0 e1 e2 e3 e6 e7 e8
    obtain ⟨l4, a4, c4, e4, i4, _, k4⟩ := open_sl (te rfl) (te rfl) rfl (by decide) (fun _ _ _ => open_i) (fun _ => rfl) h4
    obtain ⟨l5, a5, c5, e5, i5, _, k5⟩ := open_sl (te rfl) (te rfl) rfl (by decide) (fun _ _ _ => open_i) (fun _ => rfl) h5
    obtain ⟨e01, e02⟩ := e0
    obtain ⟨e61, e62⟩ := e6
    subst e01 e02 e1 e2 e3 e4 e5 e61 e62 e7 e8
    exact ⟨⟨q0.g, q0.s, q1, q2, q3, l4, l5, q6.lo, q6.hi, q7, q8⟩, ⟨a4, c4, a5, c5⟩, rfl, i4, i5⟩
theorem open_int (hv : Value.okWide Tryz.prog w r b0 3 v) : ∃ q : Int, v = .int .i64 q := okWide_int Tryz.underlying3 hv
end
theorem ownK : ownKnob Tryz.prog.godebug = none := by kernel_rfl
theorem laidO : laidOutB Tryz.prog = true := by kernel_rfl
end Go.Proofs.YtcjlegjchllgjaaGreat
end
section
set_option linter.unusedVariables false
set_option linter.unusedSimpArgs false
namespace Go.Proofs.YtcjlegjchllgjaaGreat
open Go Go.Fw
set_option maxRecDepth 10000
/-- a call about nothing, about one class -/
def abO : Ab := ⟨[], [], [], []⟩
def abC (c : Cl) : Ab := ⟨[], [lo1 c], [], []⟩
theorem openO (T : Tm) : openE T abO = if tmOk T then 0 else 40 := by
  unfold openE
  have h1 : askD abO := fun d hd => absurd hd List.not_mem_nil
  have h2 : askG abO := fun d hd => absurd hd List.not_mem_nil
  have h3 : askS abO := fun d hd => absurd hd List.not_mem_nil
  have h4 : askM abO := fun d hd => absurd hd List.not_mem_nil
  have h5 : askN T abO := fun d hd => absurd hd List.not_mem_nil
  simp only [h1, h2, h3, h4, h5, if_true]
theorem openC (T : Tm) (c : Cl) : openE T (abC c) = askedE T c := by
  unfold openE askedE clsE
  have h1 : askD (abC c) := fun d hd => absurd hd List.not_mem_nil
  have h2 : askG (abC c) ↔ 1 ≤ c.g ∧ c.g ≤ 9 := by simp [askG, abC, lo1, partOk]
  have h3 : askS (abC c) ↔ 1 ≤ c.s ∧ c.s ≤ 9 := by simp [askS, abC, lo1, partOk]
  have h4 : askM (abC c) := fun d hd => absurd hd List.not_mem_nil
  have h5 : askN T (abC c) := fun d hd => absurd hd List.not_mem_nil
  simp only [h1, h2, h3, h4, h5, if_true]
/-- the first class that is none -/
def cErr : List Cl → Int
  | [] => 0
  | c :: l => if clsE c = 0 then cErr l else clsE c
theorem cErr_app : ∀ (l m : List Cl), cErr l = 0 → cErr (l ++ m) = cErr m
  | [], _, _ => rfl
  | c :: l, m, h => by
    by_cases h1 : clsE c = 0
    · show (if clsE c = 0 then cErr (l ++ m) else clsE c) = _
      rw [if_pos h1]
      exact cErr_app l m (by have : (if clsE c = 0 then cErr l else clsE c) = 0 := h; rwa [if_pos h1] at this)
    · exact absurd (by have : (if clsE c = 0 then cErr l else clsE c) = 0 := h; rwa [if_neg h1] at this) h1
theorem cErr_at {l : List Cl} {k : Nat} {c : Cl} (h : cErr (l.take k) = 0) (hc : l[k]? = some c) : cErr l = if clsE c = 0 then cErr (l.drop (k + 1)) else clsE c := by
  conv => lhs; rw [← List.take_append_drop k l, cErr_app _ _ h, drop_cons hc]
  rfl
theorem cErr_snoc {l : List Cl} {k : Nat} {c : Cl} (h : cErr (l.take k) = 0) (hc : l[k]? = some c) (h0 : clsE c = 0) : cErr (l.take (k + 1)) = 0 := by
  rw [take_snoc hc, cErr_app _ _ h]
  show (if clsE c = 0 then cErr [] else clsE c) = 0
  rw [if_pos h0]; rfl
theorem clsE_zero {c : Cl} (h : clsE c = 0) : (1 ≤ c.g ∧ c.g ≤ 9) ∧ (1 ≤ c.s ∧ c.s ≤ 9) := by
  unfold clsE at h
  by_cases h2 : 1 ≤ c.g ∧ c.g ≤ 9
  · by_cases h3 : 1 ≤ c.s ∧ c.s ≤ 9
    · exact ⟨h2, h3⟩
    · simp [h2, h3] at h
  · simp [h2] at h
/-- what some classes come to -/
def sumV (T : Tm) : List Cl → Int
  | [] => 0
  | c :: l => (if may T c = true then val T c.g c.s else 0) + sumV T l
theorem sumV_app (T : Tm) : ∀ (l m : List Cl), sumV T (l ++ m) = sumV T l + sumV T m
  | [], m => by show sumV T m = 0 + sumV T m; omega
  | c :: l, m => by
    show _ + sumV T (l ++ m) = _ + sumV T l + sumV T m
    rw [sumV_app T l m]; omega
theorem sumV_snoc {T : Tm} {l : List Cl} {k : Nat} {c : Cl} (hc : l[k]? = some c) : sumV T (l.take (k + 1)) = sumV T (l.take k) + (if may T c = true then val T c.g c.s else 0) := by
  rw [take_snoc hc, sumV_app]
  show _ + (_ + 0) = _
  omega
theorem at1_bd {l : List Int} (h : ∀ n ∈ l, -1000 ≤ n ∧ n ≤ 1000) (i : Int) : -1000 ≤ at1 l i ∧ at1 l i ≤ 1000 := by
  unfold at1
  rw [List.getD_eq_getElem?_getD]
  cases e : l[(i - 1).toNat]? with
  | none => exact ⟨by decide, by decide⟩
  | some x => exact h x (List.mem_of_getElem? e)
theorem val_bd {T : Tm} (h : tmOk T) (g s : Int) : -2000 ≤ val T g s ∧ val T g s ≤ 1002000 := by
  have h1 := at1_bd h.gr.2 g
  have h2 := at1_bd h.st.2 s
  have h3 := h.num.1
  unfold val
  omega
theorem sumV_bd {T : Tm} (h : tmOk T) : ∀ (l : List Cl), -2000 * (l.length : Int) ≤ sumV T l ∧ sumV T l ≤ 1002000 * (l.length : Int)
  | [] => ⟨by simp [sumV], by simp [sumV]⟩
  | c :: l => by
    have ih := sumV_bd h l
    have hv := val_bd h c.g c.s
    show _ ≤ (if may T c = true then val T c.g c.s else 0) + sumV T l ∧ (if may T c = true then val T c.g c.s else 0) + sumV T l ≤ _
    rw [List.length_cons]
    split <;> omega
/-- which may not be delivered -/
def refsA (T : Tm) : Nat → List Cl → List Int
  | _, [] => []
  | k, c :: l => if may T c = true then refsA T (k + 1) l else (k : Int) :: refsA T (k + 1) l
theorem refsA_app (T : Tm) : ∀ (l m : List Cl) (k : Nat), refsA T k (l ++ m) = refsA T k l ++ refsA T (k + l.length) m
  | [], _, _ => rfl
  | c :: l, m, k => by
    show (if may T c = true then refsA T (k + 1) (l ++ m) else (k : Int) :: refsA T (k + 1) (l ++ m)) = (if may T c = true then refsA T (k + 1) l else (k : Int) :: refsA T (k + 1) l) ++ _
    rw [refsA_app T l m (k + 1), List.length_cons, show k + 1 + l.length = k + (l.length + 1) by omega]
    split <;> rfl
theorem refsA_len (T : Tm) : ∀ (l : List Cl) (k : Nat), (refsA T k l).length ≤ l.length
  | [], _ => Nat.le_refl _
  | c :: l, k => by
    have := refsA_len T l (k + 1)
    show (if may T c = true then refsA T (k + 1) l else (k : Int) :: refsA T (k + 1) l).length ≤ _
    rw [List.length_cons]
    split
    · omega
    · rw [List.length_cons]; omega
theorem refsA_snoc {T : Tm} {l : List Cl} {k : Nat} {c : Cl} (hc : l[k]? = some c) : refsA T 0 (l.take (k + 1)) = refsA T 0 (l.take k) ++ (if may T c = true then [] else [(k : Int)]) := by
  have hk := (List.getElem?_eq_some_iff.1 hc).1
  rw [take_snoc hc, refsA_app, List.length_take, Nat.min_eq_left (by omega), Nat.zero_add]
  rfl
noncomputable def totE (T : Tm) (m : Int) (l : List Cl) : Int := if tmOk T then (if T.dl ≤ m ∧ m ≤ T.dh then (if (l.length : Int) ≤ T.bales then cErr l else 4) else 44) else 40
noncomputable def totS (T : Tm) (m : Int) (l : List Cl) : Int := if totE T m l = 0 then sumV T l else 0
noncomputable def totI (T : Tm) (m : Int) (l : List Cl) : List Int := if totE T m l = 0 then refsA T 0 l else []
/-- a list of numbers of one's own, or none -/
def OutI (k : List Int) (v : Value) (Z : List Row) : Prop := (k = [] ∧ v = .slice none 0 0 ∧ Z = []) ∨ ∃ b q, v = .slice (some ⟨b, 0, none⟩) k.length q ∧ Z = [⟨b, 0, k.flatMap cI, some 3, q * 1⟩]
theorem OutI.nil : OutI [] (.slice none 0 0) [] := .inl ⟨rfl, rfl, rfl⟩
noncomputable def opT (T : Tm) (A : Ab) : Tm := if openE T A = 0 then T else Tz
noncomputable def opP (T : Tm) (p : Pt) (A : Ab) : Pt := if openE T A = 0 then p else pz
theorem openD_spec (T : Tm) (p : Pt) (A : Ab) (q : Pa) (H : List Row) (hT : TmOk H T p) (hA : AbOk H A q) (hd : HD A) (hi : HI A) :
    Fc Tryz.prog 59 [.agg (cTm T p).toArray, .agg (cAb A q).toArray] H (fun v H' => v = .tuple #[.agg (cTm (opT T A) (opP T p A)).toArray, .int .i64 (openE T A)] ∧ H' = H) := by
  refine (open_spec T p A q H hT hA hd hi).mono ?_
  rintro v H' ⟨⟨h, rfl⟩ | ⟨h, rfl⟩, rfl⟩
  · unfold opT opP; rw [if_pos h, if_pos h, h]; exact ⟨rfl, rfl⟩
  · unfold opT opP; rw [if_neg h, if_neg h]; exact ⟨rfl, rfl⟩
theorem okO (H : List Row) : AbOk H abO ⟨none, 0, none, 0, none, 0, none, 0⟩ := ⟨sleNil, sleNil, sleNil, sleNil, (fun d hd => absurd hd List.not_mem_nil), Nat.zero_le _, Nat.zero_le _, Nat.zero_le _, Nat.zero_le _⟩
theorem HI0 {d : List Dy} {l : List Lo} {m : List Int} : HI ⟨d, l, m, []⟩ := fun _ _ l hl => absurd hl List.not_mem_nil
theorem okC (H : List Row) (c : Cl) (b cap : Nat) (ow : Option Kd) (hm : ⟨b, 0, cLo (lo1 c), ow, cap⟩ ∈ H) : AbOk H (abC c) ⟨none, 0, some ⟨b, 0, none⟩, 1, none, 0, none, 0⟩ := ⟨sleNil, SlE.ofRow (cap := cap) (ow := ow) hm (fun _ _ => rfl), sleNil, sleNil, (fun d hd => absurd hd List.not_mem_nil), Nat.zero_le _, Nat.le_of_ble_eq_true rfl, Nat.zero_le _, Nat.zero_le _⟩
theorem openOk (T : Tm) (p : Pt) (H : List Row) (hT : TmOk H T p) (h : tmOk T) : Fc Tryz.prog 59 [.agg (cTm T p).toArray, .agg (cAb abO ⟨none, 0, none, 0, none, 0, none, 0⟩).toArray] H (fun v H' => v = .tuple #[.agg (cTm T p).toArray, .int .i64 0] ∧ H' = H) := by
  have e : openE T abO = 0 := by rw [openO, if_pos h]
  have := openD_spec T p abO _ H hT (okO H) HD0 HI0
  unfold opT opP at this
  rwa [e, if_pos rfl, if_pos rfl] at this
theorem openNo (T : Tm) (p : Pt) (H : List Row) (hT : TmOk H T p) (h : ¬ tmOk T) : Fc Tryz.prog 59 [.agg (cTm T p).toArray, .agg (cAb abO ⟨none, 0, none, 0, none, 0, none, 0⟩).toArray] H (fun v H' => v = .tuple #[.agg (cTm Tz pz).toArray, .int .i64 40] ∧ H' = H) := by
  have e : openE T abO = 40 := by rw [openO, if_neg h]
  have := openD_spec T p abO _ H hT (okO H) HD0 HI0
  unfold opT opP at this
  rwa [e, if_neg (by decide), if_neg (by decide)] at this
theorem OutI.zero {T : Tm} {m : Int} {l : List Cl} (h : totE T m l ≠ 0) : totS T m l = 0 ∧ totI T m l = [] := by
  unfold totS totI
  rw [if_neg h, if_neg h]
  exact ⟨rfl, rfl⟩
theorem tot_err {T : Tm} {m e : Int} {l : List Cl} (h : totE T m l = e) (h0 : e ≠ 0) (H : List Row) : ∃ w Z, Value.tuple #[.int .i64 0, .slice none 0 0, .int .i64 e] = .tuple #[.int .i64 (totS T m l), w, .int .i64 (totE T m l)] ∧ OutI (totI T m l) w Z ∧ H = Z ++ H := by
  have := OutI.zero (T := T) (m := m) (l := l) (by rw [h]; exact h0)
  rw [this.1, this.2, h]
  exact ⟨_, [], rfl, OutI.nil, rfl⟩
def tsTo : List TOp := [⟨some 47, [], [], []⟩, ⟨some 48, [], [], []⟩, ⟨some 49, [1], [1], []⟩, ⟨some 50, [1, 2], [2], []⟩, ⟨some 51, [1, 2, 3], [3], []⟩, ⟨some 52, [0, 1, 2, 3, 4], [0, 4], [3]⟩, ⟨some 46, [0, 1, 2, 3, 4, 5], [5], []⟩, ⟨some 53, [0, 1, 2, 3, 4, 5, 6], [6], []⟩, ⟨some 54, [0, 1, 2, 3, 4, 5, 6], [6], []⟩, ⟨some 12, [], [], []⟩, ⟨none, [0, 1, 2, 3, 4, 5, 6, 7, 9], [9, 7], [9]⟩, ⟨some 13, [0, 1, 2, 3, 4, 5, 6, 7, 8, 9, 10], [8], []⟩]
def valTo (b3 b9 b11 n cc : Nat) (sv kk er : Int) (out : Value) (a : Option Addr) (T U : Tm) (p u : Pt) (c : Cl) (k : Nat) (env : Env) : Value :=
  match k with
  | 0 => .agg (cTm T p).toArray
  | 1 => .agg (cCl c).toArray
  | 2 => .agg (cLo (lo1 c)).toArray
  | 3 => .slice (some ⟨(env 3).1, 0, none⟩) 1 1
  | 4 => .agg (cAb (abC c) ⟨none, 0, some ⟨(env 3).1, 0, none⟩, 1, none, 0, none, 0⟩).toArray
  | 5 => .tuple #[.agg (cTm U u).toArray, .int .i64 er]
  | 6 => .tuple #[.agg (cTm U u).toArray, .int .i64 er]
  | 7 => .agg (cTm U u).toArray
  | 8 => .int .i64 er
  | 9 => .pointer (some ⟨(env 9).1, 0, none⟩)
  | 10 => undef
  | 11 => .int .i64 er
  | _ => undef
def rowsTo (b3 b9 b11 n cc : Nat) (sv kk er : Int) (out : Value) (a : Option Addr) (T U : Tm) (p u : Pt) (c : Cl) (k : Nat) (env : Env) : List Row :=
  match k with
  | 3 => [⟨(env 3).1, 0, cLo (lo1 c), some 92, 1 * 4⟩]
  | 9 => [⟨(env 9).1, 0, cTm Tz pz, some 99, 11⟩]
  | 10 => [⟨(env 9).1, 0, cTm U u, some 99, 11⟩]
  | _ => []
theorem locTo (b3 b9 b11 n cc : Nat) (sv kk er : Int) (out : Value) (a : Option Addr) (T U : Tm) (p u : Pt) (c : Cl) : ∀ k env i q9, i ≠ k → (tAt tsTo k).sup.contains i = false → valTo b3 b9 b11 n cc sv kk er out a T U p u c k (upd env i q9) = valTo b3 b9 b11 n cc sv kk er out a T U p u c k env ∧ rowsTo b3 b9 b11 n cc sv kk er out a T U p u c k (upd env i q9) = rowsTo b3 b9 b11 n cc sv kk er out a T U p u c k env := by
  intro k env i q hk hs
  have hu : ∀ j, j ≠ i → upd env i q j = env j := fun j hj => by unfold upd; rw [if_neg hj]
  match k, hk, hs with
  | 0, _, _ => exact ⟨rfl, rfl⟩
  | 1, _, _ => exact ⟨rfl, rfl⟩
  | 2, _, _ => exact ⟨rfl, rfl⟩
  | 3, hk, hs => exact ⟨by simp only [valTo, hu 3 (fun e => hk e.symm)], by simp only [rowsTo, hu 3 (fun e => hk e.symm)]⟩
  | 4, hk, hs => exact ⟨by simp only [valTo, hu 3 (by rintro rfl; cases hs)], by simp only [rowsTo, hu 3 (by rintro rfl; cases hs)]⟩
  | 5, _, _ => exact ⟨rfl, rfl⟩
  | 6, _, _ => exact ⟨rfl, rfl⟩
  | 7, _, _ => exact ⟨rfl, rfl⟩
  | 8, _, _ => exact ⟨rfl, rfl⟩
  | 9, hk, hs => exact ⟨by simp only [valTo, hu 9 (fun e => hk e.symm)], by simp only [rowsTo, hu 9 (fun e => hk e.symm)]⟩
  | 10, hk, hs => exact ⟨by simp only [valTo, hu 9 (by rintro rfl; cases hs)], by simp only [rowsTo, hu 9 (by rintro rfl; cases hs)]⟩
  | 11, _, _ => exact ⟨rfl, rfl⟩
  | _ + 12, _, _ => exact ⟨rfl, rfl⟩
set_option maxHeartbeats 8000000 in
theorem ktotal_spec (T : Tm) (p : Pt) (m : Int) (l : List Cl) (a : Option Addr) (cc : Nat) (H : List Row) (hT : TmOk H T p) (hl : SlE H a cCl 2 l) (hb : l.length ≤ 1000) :
    Fc Tryz.prog 29 [.agg (cTm T p).toArray, .int .i64 m, .slice a l.length cc] H (fun v H' => ∃ w Z, v = .tuple #[.int .i64 (totS T m l), w, .int .i64 (totE T m l)] ∧ OutI (totI T m l) w Z ∧ H' = Z ++ H) := by
  have hT1 : ∀ Z : List Row, TmOk (Z ++ H) T p := fun Z => hT.sub (fun _ h => List.mem_append_right _ h)
  have hl1 : ∀ Z : List Row, SlE (Z ++ H) a cCl 2 l := fun Z => hl.sub (fun _ h => List.mem_append_right _ h)
  by_cases hok : tmOk T
  · refine Fc.mk (callable Tryz.call29) Tryz.func29 rfl Tryz.ntmps29 rfl ?_; dsimp only [fr]
    repeat' (first | (refine XO.op rfl ?_; (first | ((first | refine Xo.ng rfl ?_); (first | (refine Xg.ev (EvF.build (cs := cAb abO ⟨none, 0, none, 0, none, 0, none, 0⟩) rfl ArgsP.nil (te rfl) (Places.cons (te rfl) (Places.cons (te rfl) (Places.cons (te rfl) (Places.cons (te rfl) Places.nil)))) Tryz.zeroValue97 rfl) rfl rfl ?_) | (refine Xg.call (EnF.st rfl (Args.cons rfl (Args.cons rfl Args.nil))) rfl rfl (openOk T p _ (hT1 [_]) hok) ?_; rintro _ H9 ⟨rfl, hH9⟩; subst H9) | (refine Xg.ev (EvF.loadV rfl rfl (LoadV.ownAgg (vs := cSp ⟨T.dl, T.dh⟩) (te rfl) rfl (List.Mem.head _) rfl rfl)) rfl rfl ?_) | (refine Xg.st (StF.buildOne rfl elI rfl rfl rfl (by decide) (by decide)) rfl rfl ?_; rintro _ _ ⟨bs, rfl, rfl⟩) | (refine Xg.call (EnF.st rfl (Args.cons rfl (Args.cons rfl Args.nil))) rfl rfl (within1_spec ⟨T.dl, T.dh⟩ m _ _ _ _ _ (List.Mem.head _)) ?_; rintro _ H9 ⟨rfl, hH9⟩; subst H9) | (refine Xg.ev (EvF.move rfl rfl) rfl rfl ?_) | (refine Xg.ev (EvF.assign rfl rfl) rfl rfl ?_) | (refine Xg.ev (EvF.cmp rfl rfl rfl rfl) rfl rfl ?_) | (refine Xg.ev (EvF.not rfl rfl) rfl rfl ?_) | (refine Xg.ev (EvF.fieldAddr rfl rfl (te rfl) rfl (te rfl) (by decide)) rfl rfl ?_) | (refine Xg.ev (EvF.lenSlice rfl rfl (te rfl)) rfl rfl ?_) | (refine Xg.ev (EvF.loadV rfl rfl (LoadV.own (te rfl) rfl (List.Mem.tail _ (List.Mem.head _)) rfl)) rfl rfl ?_) | (refine Xg.ev (EvF.loadV rfl rfl (LoadV.whole (te rfl) rfl (List.Mem.head _) rfl)) rfl rfl ?_) | (refine Xg.ev (EvF.extract rfl rfl rfl) rfl rfl ?_) | (refine Xg.st (StF.boxAgg rfl rfl) rfl rfl ?_; rintro _ _ ⟨bx, rfl, rfl⟩) | (refine Xg.st (StF.alloc rfl Tryz.zeroValue32 rfl) rfl rfl ?_; rintro _ _ ⟨bx, rfl, rfl⟩) | (refine Xg.st0 (StF.storeAll (i := 0) rfl rfl rfl (te rfl) rfl rfl rfl rfl) rfl ?_; rintro _ _ ⟨rfl, rfl⟩; dsimp only [List.set]))))) | (refine XO.done rfl ?_; refine hK _ _ ?_; clear hK K) | refine X.seq rfl ?_ | refine X.region rfl (fun K hK => ?_) | refine X.block rfl ?_ | refine X.skip rfl ?_ | refine X.ret rfl ?_ | (refine X.ite rfl rfl (fun hc => ?_); (first | (with_reducible refine Xb.case hc (fun h => ?_) (fun h => ?_)) | (with_reducible refine Xb.caseN hc (fun h => ?_) (fun h => ?_))) <;> clear hc))
    · exfalso; omega
    · exact ret_three (by first | exact .inr rfl | exact .inl rfl) Tryz.results29 rfl rfl rfl (H' := H) (by (repeat (first | exact List.Sublist.refl _ | apply List.Sublist.cons)); done) (tot_err (by unfold totE; rw [if_pos hok, if_neg (by assumption)]) (by decide) H)
    · exact ret_three (by first | exact .inr rfl | exact .inl rfl) Tryz.results29 rfl rfl rfl (H' := H) (by (repeat (first | exact List.Sublist.refl _ | apply List.Sublist.cons)); done) (tot_err (by unfold totE; rw [if_pos hok, if_pos (by assumption), if_neg (by omega)]) (by decide) H)
    have hm : T.dl ≤ m ∧ m ≤ T.dh := by assumption
    have hle : (l.length : Int) ≤ T.bales := by omega
    have hE : totE T m l = cErr l := by unfold totE; rw [if_pos hok, if_pos hm, if_pos hle]
    have hnum := hok.num
    obtain ⟨b9, rfl⟩ : ∃ b9, b9 = bx := ⟨_, rfl⟩
    obtain ⟨b3, rfl⟩ : ∃ b3, b3 = bx := ⟨_, rfl⟩
    refine X.lp rfl (fun q F' H' => ∃ (k : Nat) (out : Value) (Z : List Row), q = l.length - k ∧ k ≤ l.length ∧ cErr (l.take k) = 0 ∧ OutI (refsA T 0 (l.take k)) out Z ∧ Z ++ ⟨b9, 0, cTm T p, some 99, 11⟩ :: ⟨b3, 0, cTm T p, some 32, 11⟩ :: H = H' ∧
        F' = [(3, .pointer (some ⟨b3, 0, none⟩)), (6, .int .i64 (sumV T (l.take k))), (7, out), (9, .pointer (some ⟨b9, 0, none⟩)), (39, .slice a l.length cc), (40, .int .i64 l.length), (41, .int .i64 k)])
      l.length [(3, .pointer (some ⟨b3, 0, none⟩)), (6, .int .i64 0), (7, .slice none 0 0), (9, .pointer (some ⟨b9, 0, none⟩)), (39, .slice a l.length cc), (40, .int .i64 l.length), (41, .int .i64 (0 : Nat))] _ (by (repeat (first | exact Sub.nil _ | refine Sub.cons rfl ?_)); done) (by (repeat (first | exact List.Sublist.refl _ | apply List.Sublist.cons_cons | apply List.Sublist.cons)); done) ⟨0, _, [], by omega, by omega, rfl, OutI.nil, rfl, rfl⟩ ?_
    rintro _ _ H2 ⟨k, out, Z, rfl, hk, hz, ⟨hr, rfl, rfl⟩ | ⟨bo, qo, rfl, rfl⟩, hH, rfl⟩
    · rw [List.nil_append] at hH
      subst hH
      repeat' (first | (refine XO.op rfl ?_; (first | ((first | refine Xo.ng rfl ?_); (first | (refine Xg.ev (EvF.move rfl rfl) rfl rfl ?_) | (refine Xg.ev (EvF.assign rfl rfl) rfl rfl ?_) | (refine Xg.ev (EvF.cmp rfl rfl rfl rfl) rfl rfl ?_))))) | (refine XO.done rfl ?_; refine hK _ _ ?_; clear hK K) | refine X.seq rfl ?_ | refine X.region rfl (fun K hK => ?_) | refine X.block rfl ?_ | (refine X.brk rfl ?_; repeat (first | refine blockX_hit rfl ?_ | refine blockX_miss (by decide) ?_)) | refine X.skip rfl ?_ | refine X.ret rfl ?_ | (refine X.ite rfl rfl (fun hc => ?_); (first | (with_reducible refine Xb.case hc (fun h => ?_) (fun h => ?_))) <;> clear hc))
      · obtain ⟨b, off, c, rfl, he⟩ := hl.elem (i := k) (by omega)
        have hv := val_bd hok c.g c.s
        have hs := sumV_bd hok (l.take k)
        rw [List.length_take] at hs
        have hsn := sumV_snoc (T := T) he
        have hrn := refsA_snoc (T := T) he
        rw [hr] at hrn
        repeat' (first | (refine XO.op rfl ?_; (first | ((first | refine Xo.ng rfl ?_); (first | (refine Xg.ev (EvF.loadV rfl rfl (LoadV.elA0 (hl1 [_, _]) he (te rfl) rfl (fun _ hm => hm) rfl)) rfl rfl ?_) | (refine Xg.ev (EvF.assign rfl rfl) rfl rfl ?_) | (refine Xg.ev (EvF.indexSlice rfl rfl rfl (te rfl) (te rfl) (by omega) (by omega)) rfl rfl ?_) | (refine Xg.st (StF.alloc rfl Tryz.zeroValue30 rfl) rfl rfl ?_; rintro _ _ ⟨bx, rfl, rfl⟩) | (refine Xg.st0 (StF.storeAll (i := 0) rfl rfl rfl (te rfl) rfl rfl rfl rfl) rfl ?_; rintro _ _ ⟨rfl, rfl⟩; dsimp only [List.set]))))) | (refine XO.done rfl ?_; refine hK _ _ ?_; clear hK K) | refine X.seq rfl ?_)
        obtain ⟨b11, rfl⟩ : ∃ b, b = bx := ⟨_, rfl⟩
        obtain ⟨U, hU⟩ : ∃ U, opT T (abC c) = U := ⟨_, rfl⟩
        obtain ⟨u, hu⟩ : ∃ u, opP T p (abC c) = u := ⟨_, rfl⟩
        obtain ⟨er, her⟩ : ∃ e, clsE c = e := ⟨_, rfl⟩
        have hop : openE T (abC c) = er := by rw [openC, ← her]; unfold askedE; rw [if_pos hok]
        refine X.regionOb tsTo [3, 6, 7, 9, 10, 11, 39, 40, 41] [(3, .pointer (some ⟨b3, 0, none⟩)), (6, .int .i64 (sumV T (l.take k))), (7, (.slice none 0 0)), (9, .pointer (some ⟨b9, 0, none⟩)), (10, .int .i64 (k : Int)), (11, .pointer (some ⟨b11, 0, none⟩)), (39, .slice (some ⟨b, off, none⟩) l.length cc), (40, .int .i64 (l.length : Nat)), (41, .int .i64 (k : Int))] (valTo b3 b9 b11 l.length cc (sumV T (l.take k)) (k : Int) er (.slice none 0 0) (some ⟨b, off, none⟩) T U p u c) (rowsTo b3 b9 b11 l.length cc (sumV T (l.take k)) (k : Int) er (.slice none 0 0) (some ⟨b, off, none⟩) T U p u c) (fun _ => (0, 0)) (⟨b11, 0, cCl c, some 27, 2⟩ :: ⟨b9, 0, cTm T p, some 99, 11⟩ :: ⟨b3, 0, cTm T p, some 32, 11⟩ :: H) rfl mixed (by (repeat (first | exact Sub.nil _ | refine Sub.cons rfl ?_)); done) rfl (by kernel_rfl) (locTo b3 b9 b11 l.length cc (sumV T (l.take k)) (k : Int) er (.slice none 0 0) (some ⟨b, off, none⟩) T U p u c) (List.Sublist.refl _) ?_ ?_
        · repeat' (first | exact AllF.done rfl | (refine AllF.step rfl ?_ ?_; · (first | fail | ((first | refine Ob.ng rfl ?_); (first | exact ObK.pure (fun env R hR => by exact ⟨_, EvF.move rfl rfl, rfl⟩) rfl (fun _ => rfl) | exact ObK.pure (fun env R hR => by exact ⟨_, EvF.assign rfl rfl, rfl⟩) rfl (fun _ => rfl) | exact ObK.pure (fun env R hR => by exact ⟨_, EvF.loadV rfl rfl (LoadV.whole (te rfl) rfl (hR _ (List.Mem.head _)) rfl), rfl⟩) rfl (fun _ => rfl) | exact ObK.pure (fun env R hR => by exact ⟨_, EvF.loadV rfl rfl (LoadV.whole (te rfl) rfl (hR _ (List.Mem.tail _ (List.Mem.tail _ (List.Mem.head _)))) rfl), rfl⟩) rfl (fun _ => rfl) | (exact fun env S hS => (StF.buildOne rfl elLo rfl rfl rfl (by decide) (by decide)).op.mono (fun v H' ⟨b, hv, hH⟩ => ⟨(b, 0), fun _ => hv, by rw [hH]; exact List.Perm.refl _⟩)) | (exact fun env S hS => OpF.callV (Z := []) (EnF.st rfl (Args.cons rfl Args.nil)) (only_spec c _) rfl rfl) | (exact ObK.pure (fun env S hS => ⟨_, EvF.build (cs := cAb (abC c) ⟨none, 0, some ⟨(env 3).1, 0, none⟩, 1, none, 0, none, 0⟩) rfl (ArgsP.cons rfl ArgsP.nil) (te rfl) (Places.cons (te rfl) (Places.cons (te rfl) (Places.cons (te rfl) (Places.cons (te rfl) Places.nil)))) Tryz.zeroValue97 rfl, rfl⟩) rfl (fun _ => rfl)) | (exact ObK.pure (fun env S hS => ⟨_, EvF.extract rfl rfl rfl, rfl⟩) rfl (fun _ => rfl)) | (exact fun env S hS => (StF.alloc rfl Tryz.zeroValue99 rfl).op.mono (fun v H' ⟨b, hv, hH⟩ => ⟨(b, 0), fun _ => hv, by rw [hH]; exact List.Perm.refl _⟩)) | (exact fun env S hS => (StF.storeAll (i := 0) (vs := cTm U u) (cs := cTm Tz pz) rfl rfl rfl (te rfl) rfl rfl rfl rfl).op.mono (fun v H' ⟨hv, hH⟩ => ⟨(0, 0), fun h => absurd rfl h, by rw [hH]; exact List.Perm.refl _⟩)) | (exact fun env S hS => OpF.callV (Z := [_]) (EnF.st rfl (Args.cons rfl (Args.cons rfl Args.nil))) (openD_spec T p (abC c) ⟨none, 0, some ⟨(env 3).1, 0, none⟩, 1, none, 0, none, 0⟩ _ (hT.sub (fun _ h => List.mem_append_right _ (hS _ (by repeat (first | exact h | apply List.Mem.tail))))) (okC _ c _ _ _ (List.Mem.head _)) HD0 HI0) (by rw [hU, hu, hop]; rfl) rfl))))))
        · intro env t ha hv
          refine ⟨_, ha.cons (hv 11 13 (Nat.le_of_ble_eq_true rfl) rfl), ?_⟩
          show X _ _ _ _ (⟨(env 9).1, 0, cTm U u, some 99, 11⟩ :: ⟨b11, 0, cCl c, some 27, 2⟩ :: ⟨b9, 0, cTm T p, some 99, 11⟩ :: ⟨b3, 0, cTm T p, some 32, 11⟩ :: H) _
          repeat' (first | (refine XO.op rfl ?_; (first | ((first | refine Xo.ng rfl ?_); (first | (refine Xg.call (EnF.st rfl (Args.cons rfl (Args.cons rfl Args.nil))) rfl rfl (allows_spec T p c _) ?_; rintro _ H9 ⟨rfl, hH9⟩; subst H9) | (refine Xg.st (StF.buildOne rfl elI rfl rfl rfl (by decide) (by decide)) rfl rfl ?_; rintro _ _ ⟨bs, rfl, rfl⟩) | (refine Xg.st (StF.appendNew rfl elI rfl rfl (by decide) rfl (Rd.own (List.Mem.head _)) (by decide)) rfl rfl ?_; rintro _ _ ⟨bn, kn, rfl, rfl⟩) | (refine Xg.ev (EvF.move rfl rfl) rfl rfl ?_) | (refine Xg.ev (EvF.assign rfl rfl) rfl rfl ?_) | (refine Xg.ev (EvF.cmp rfl rfl rfl rfl) rfl rfl ?_) | (refine Xg.ev (EvF.add64 rfl rfl rfl (by omega) (by omega)) rfl rfl ?_) | (refine Xg.ev (EvF.loadV rfl rfl (LoadV.whole (te rfl) rfl (List.Mem.tail _ (List.Mem.head _)) rfl)) rfl rfl ?_) | (refine Xg.ev (EvF.loadV rfl rfl (LoadV.whole (te rfl) rfl (List.Mem.tail _ (List.Mem.tail _ (List.Mem.head _))) rfl)) rfl rfl ?_))))) | (refine XO.done rfl ?_; refine hK _ _ ?_; clear hK K) | refine X.seq rfl ?_ | refine X.region rfl (fun K hK => ?_) | refine X.skip rfl ?_ | refine X.ret rfl ?_ | (refine X.ite rfl rfl (fun hc => ?_); (first | (with_reducible refine Xb.case hc (fun h => ?_) (fun h => ?_)) | (with_reducible refine Xb.caseN hc (fun h => ?_) (fun h => ?_))) <;> clear hc))
          · have hne : clsE c ≠ 0 := by omega
            exact ret_three (by first | exact .inr rfl | exact .inl rfl) Tryz.results29 rfl rfl rfl (H' := H) (by (repeat (first | exact List.Sublist.refl _ | apply List.Sublist.cons)); done) (tot_err (by rw [hE, cErr_at hz he, if_neg hne, her]) (by omega) H)
          · have hc0 : clsE c = 0 := by omega
            repeat' (first | (refine XO.op rfl ?_; (first | ((first | refine Xo.ng rfl ?_); (first | (refine Xg.call (EnF.st rfl (Args.cons rfl (Args.cons rfl Args.nil))) rfl rfl (value_spec T p c _ (hT1 [_, _, _, _]) hok.gr hok.st (by omega) (clsE_zero hc0).1 (clsE_zero hc0).2) ?_; rintro _ H9 ⟨rfl, hH9⟩; subst H9) | (refine Xg.ev (EvF.move rfl rfl) rfl rfl ?_) | (refine Xg.ev (EvF.assign rfl rfl) rfl rfl ?_) | (refine Xg.ev (EvF.add64 rfl rfl rfl (by omega) (by omega)) rfl rfl ?_))))) | (refine XO.done rfl ?_; refine hK _ _ ?_; clear hK K) | refine X.region rfl (fun K hK => ?_))
            have hmay : may T c = true := decide_eq_true (by assumption)
            rw [if_pos hmay] at hsn hrn
            refine ⟨_, [(3, .pointer (some ⟨b3, 0, none⟩)), (6, .int .i64 (sumV T (l.take (k + 1)))), (7, .slice none 0 0), (9, .pointer (some ⟨b9, 0, none⟩)), (39, .slice (some ⟨b, off, none⟩) l.length cc), (40, .int .i64 l.length), (41, .int .i64 (k + 1 : Nat))], _, (by rw [hsn]; exact (by (repeat (first | exact Sub.nil _ | refine Sub.cons rfl ?_)); done)), (by (repeat (first | exact List.Sublist.refl _ | apply List.Sublist.cons_cons | apply List.Sublist.cons)); done), ⟨k + 1, _, [], rfl, by omega, cErr_snoc hz he (by omega), .inl ⟨hrn, rfl, rfl⟩, rfl, rfl⟩, by omega⟩
          · have hmay : ¬ may T c = true := fun q => absurd (of_decide_eq_true q) (by assumption)
            rw [if_neg hmay] at hsn hrn
            rw [Int.add_zero] at hsn
            refine ⟨_, [(3, .pointer (some ⟨b3, 0, none⟩)), (6, .int .i64 (sumV T (l.take (k + 1)))), (7, .slice (some ⟨bn, 0, none⟩) 1 kn), (9, .pointer (some ⟨b9, 0, none⟩)), (39, .slice (some ⟨b, off, none⟩) l.length cc), (40, .int .i64 l.length), (41, .int .i64 (k + 1 : Nat))], _, (by rw [hsn]; exact (by (repeat (first | exact Sub.nil _ | refine Sub.cons rfl ?_)); done)), (by (repeat (first | exact List.Sublist.refl _ | apply List.Sublist.cons_cons | apply List.Sublist.cons)); done), ⟨k + 1, _, [⟨bn, 0, [.int .i64 k], some 3, kn * 1⟩], rfl, by omega, cErr_snoc hz he (by omega), .inr ⟨bn, kn, by rw [hrn]; rfl, by rw [hrn]; rfl⟩, rfl, rfl⟩, by omega⟩
      · obtain rfl : k = l.length := by omega
        rw [List.take_length] at hr hz ⊢
        have hE0 : totE T m l = 0 := by rw [hE, hz]
        have hS : totS T m l = sumV T l := by unfold totS; rw [if_pos hE0]
        have hI : totI T m l = refsA T 0 l := by unfold totI; rw [if_pos hE0]
        rw [hS, hI, hE0]
        exact ret_three (by first | exact .inr rfl | exact .inl rfl) Tryz.results29 rfl rfl rfl (H' := H) (by (repeat (first | exact List.Sublist.refl _ | apply List.Sublist.cons)); done) ⟨_, [], rfl, .inl ⟨hr, rfl, rfl⟩, rfl⟩
    · simp only [List.cons_append, List.nil_append] at hH
      subst hH
      repeat' (first | (refine XO.op rfl ?_; (first | ((first | refine Xo.ng rfl ?_); (first | (refine Xg.ev (EvF.move rfl rfl) rfl rfl ?_) | (refine Xg.ev (EvF.assign rfl rfl) rfl rfl ?_) | (refine Xg.ev (EvF.cmp rfl rfl rfl rfl) rfl rfl ?_))))) | (refine XO.done rfl ?_; refine hK _ _ ?_; clear hK K) | refine X.seq rfl ?_ | refine X.region rfl (fun K hK => ?_) | refine X.block rfl ?_ | (refine X.brk rfl ?_; repeat (first | refine blockX_hit rfl ?_ | refine blockX_miss (by decide) ?_)) | refine X.skip rfl ?_ | refine X.ret rfl ?_ | (refine X.ite rfl rfl (fun hc => ?_); (first | (with_reducible refine Xb.case hc (fun h => ?_) (fun h => ?_))) <;> clear hc))
      · obtain ⟨b, off, c, rfl, he⟩ := hl.elem (i := k) (by omega)
        have hv := val_bd hok c.g c.s
        have hs := sumV_bd hok (l.take k)
        rw [List.length_take] at hs
        have hsn := sumV_snoc (T := T) he
        have hrn := refsA_snoc (T := T) he
        have hrl := refsA_len T (l.take k) 0
        rw [List.length_take] at hrl
        repeat' (first | (refine XO.op rfl ?_; (first | ((first | refine Xo.ng rfl ?_); (first | (refine Xg.ev (EvF.loadV rfl rfl (LoadV.elA0 (hl1 [_, _, _]) he (te rfl) rfl (fun _ hm => hm) rfl)) rfl rfl ?_) | (refine Xg.ev (EvF.assign rfl rfl) rfl rfl ?_) | (refine Xg.ev (EvF.indexSlice rfl rfl rfl (te rfl) (te rfl) (by omega) (by omega)) rfl rfl ?_) | (refine Xg.st (StF.alloc rfl Tryz.zeroValue30 rfl) rfl rfl ?_; rintro _ _ ⟨bx, rfl, rfl⟩) | (refine Xg.st0 (StF.storeAll (i := 0) rfl rfl rfl (te rfl) rfl rfl rfl rfl) rfl ?_; rintro _ _ ⟨rfl, rfl⟩; dsimp only [List.set]))))) | (refine XO.done rfl ?_; refine hK _ _ ?_; clear hK K) | refine X.seq rfl ?_)
        obtain ⟨b11, rfl⟩ : ∃ b, b = bx := ⟨_, rfl⟩
        obtain ⟨U, hU⟩ : ∃ U, opT T (abC c) = U := ⟨_, rfl⟩
        obtain ⟨u, hu⟩ : ∃ u, opP T p (abC c) = u := ⟨_, rfl⟩
        obtain ⟨er, her⟩ : ∃ e, clsE c = e := ⟨_, rfl⟩
        have hop : openE T (abC c) = er := by rw [openC, ← her]; unfold askedE; rw [if_pos hok]
        refine X.regionOb tsTo [3, 6, 7, 9, 10, 11, 39, 40, 41] [(3, .pointer (some ⟨b3, 0, none⟩)), (6, .int .i64 (sumV T (l.take k))), (7, (.slice (some ⟨bo, 0, none⟩) (refsA T 0 (l.take k)).length qo)), (9, .pointer (some ⟨b9, 0, none⟩)), (10, .int .i64 (k : Int)), (11, .pointer (some ⟨b11, 0, none⟩)), (39, .slice (some ⟨b, off, none⟩) l.length cc), (40, .int .i64 (l.length : Nat)), (41, .int .i64 (k : Int))] (valTo b3 b9 b11 l.length cc (sumV T (l.take k)) (k : Int) er (.slice (some ⟨bo, 0, none⟩) (refsA T 0 (l.take k)).length qo) (some ⟨b, off, none⟩) T U p u c) (rowsTo b3 b9 b11 l.length cc (sumV T (l.take k)) (k : Int) er (.slice (some ⟨bo, 0, none⟩) (refsA T 0 (l.take k)).length qo) (some ⟨b, off, none⟩) T U p u c) (fun _ => (0, 0)) (⟨b11, 0, cCl c, some 27, 2⟩ :: ⟨bo, 0, (refsA T 0 (l.take k)).flatMap cI, some 3, qo * 1⟩ :: ⟨b9, 0, cTm T p, some 99, 11⟩ :: ⟨b3, 0, cTm T p, some 32, 11⟩ :: H) rfl mixed (by (repeat (first | exact Sub.nil _ | refine Sub.cons rfl ?_)); done) rfl (by kernel_rfl) (locTo b3 b9 b11 l.length cc (sumV T (l.take k)) (k : Int) er (.slice (some ⟨bo, 0, none⟩) (refsA T 0 (l.take k)).length qo) (some ⟨b, off, none⟩) T U p u c) (List.Sublist.refl _) ?_ ?_
        · repeat' (first | exact AllF.done rfl | (refine AllF.step rfl ?_ ?_; · (first | fail | ((first | refine Ob.ng rfl ?_); (first | exact ObK.pure (fun env R hR => by exact ⟨_, EvF.move rfl rfl, rfl⟩) rfl (fun _ => rfl) | exact ObK.pure (fun env R hR => by exact ⟨_, EvF.assign rfl rfl, rfl⟩) rfl (fun _ => rfl) | exact ObK.pure (fun env R hR => by exact ⟨_, EvF.loadV rfl rfl (LoadV.whole (te rfl) rfl (hR _ (List.Mem.head _)) rfl), rfl⟩) rfl (fun _ => rfl) | exact ObK.pure (fun env R hR => by exact ⟨_, EvF.loadV rfl rfl (LoadV.whole (te rfl) rfl (hR _ (List.Mem.tail _ (List.Mem.tail _ (List.Mem.tail _ (List.Mem.head _))))) rfl), rfl⟩) rfl (fun _ => rfl) | (exact fun env S hS => (StF.buildOne rfl elLo rfl rfl rfl (by decide) (by decide)).op.mono (fun v H' ⟨b, hv, hH⟩ => ⟨(b, 0), fun _ => hv, by rw [hH]; exact List.Perm.refl _⟩)) | (exact fun env S hS => OpF.callV (Z := []) (EnF.st rfl (Args.cons rfl Args.nil)) (only_spec c _) rfl rfl) | (exact ObK.pure (fun env S hS => ⟨_, EvF.build (cs := cAb (abC c) ⟨none, 0, some ⟨(env 3).1, 0, none⟩, 1, none, 0, none, 0⟩) rfl (ArgsP.cons rfl ArgsP.nil) (te rfl) (Places.cons (te rfl) (Places.cons (te rfl) (Places.cons (te rfl) (Places.cons (te rfl) Places.nil)))) Tryz.zeroValue97 rfl, rfl⟩) rfl (fun _ => rfl)) | (exact ObK.pure (fun env S hS => ⟨_, EvF.extract rfl rfl rfl, rfl⟩) rfl (fun _ => rfl)) | (exact fun env S hS => (StF.alloc rfl Tryz.zeroValue99 rfl).op.mono (fun v H' ⟨b, hv, hH⟩ => ⟨(b, 0), fun _ => hv, by rw [hH]; exact List.Perm.refl _⟩)) | (exact fun env S hS => (StF.storeAll (i := 0) (vs := cTm U u) (cs := cTm Tz pz) rfl rfl rfl (te rfl) rfl rfl rfl rfl).op.mono (fun v H' ⟨hv, hH⟩ => ⟨(0, 0), fun h => absurd rfl h, by rw [hH]; exact List.Perm.refl _⟩)) | (exact fun env S hS => OpF.callV (Z := [_]) (EnF.st rfl (Args.cons rfl (Args.cons rfl Args.nil))) (openD_spec T p (abC c) ⟨none, 0, some ⟨(env 3).1, 0, none⟩, 1, none, 0, none, 0⟩ _ (hT.sub (fun _ h => List.mem_append_right _ (hS _ (by repeat (first | exact h | apply List.Mem.tail))))) (okC _ c _ _ _ (List.Mem.head _)) HD0 HI0) (by rw [hU, hu, hop]; rfl) rfl))))))
        · intro env t ha hv
          refine ⟨_, ha.cons (hv 11 13 (Nat.le_of_ble_eq_true rfl) rfl), ?_⟩
          show X _ _ _ _ (⟨(env 9).1, 0, cTm U u, some 99, 11⟩ :: ⟨b11, 0, cCl c, some 27, 2⟩ :: ⟨bo, 0, (refsA T 0 (l.take k)).flatMap cI, some 3, qo * 1⟩ :: ⟨b9, 0, cTm T p, some 99, 11⟩ :: ⟨b3, 0, cTm T p, some 32, 11⟩ :: H) _
          repeat' (first | (refine XO.op rfl ?_; (first | ((first | refine Xo.ng rfl ?_); (first | (refine Xg.call (EnF.st rfl (Args.cons rfl (Args.cons rfl Args.nil))) rfl rfl (allows_spec T p c _) ?_; rintro _ H9 ⟨rfl, hH9⟩; subst H9) | (refine Xg.st (StF.buildOne rfl elI rfl rfl rfl (by decide) (by decide)) rfl rfl ?_; rintro _ _ ⟨bs, rfl, rfl⟩) | (refine Xg.st (StF.appendOwn (i := 3) rfl elI rfl rfl rfl (lenI _) rfl (Rd.own (List.Mem.head _)) rfl (by omega)) rfl rfl ?_; rintro _ _ ⟨bn, kn, rfl, rfl⟩; dsimp only [List.eraseIdx]) | (refine Xg.ev (EvF.move rfl rfl) rfl rfl ?_) | (refine Xg.ev (EvF.assign rfl rfl) rfl rfl ?_) | (refine Xg.ev (EvF.cmp rfl rfl rfl rfl) rfl rfl ?_) | (refine Xg.ev (EvF.add64 rfl rfl rfl (by omega) (by omega)) rfl rfl ?_) | (refine Xg.ev (EvF.loadV rfl rfl (LoadV.whole (te rfl) rfl (List.Mem.tail _ (List.Mem.head _)) rfl)) rfl rfl ?_) | (refine Xg.ev (EvF.loadV rfl rfl (LoadV.whole (te rfl) rfl (List.Mem.tail _ (List.Mem.tail _ (List.Mem.tail _ (List.Mem.head _)))) rfl)) rfl rfl ?_))))) | (refine XO.done rfl ?_; refine hK _ _ ?_; clear hK K) | refine X.seq rfl ?_ | refine X.region rfl (fun K hK => ?_) | refine X.skip rfl ?_ | refine X.ret rfl ?_ | (refine X.ite rfl rfl (fun hc => ?_); (first | (with_reducible refine Xb.case hc (fun h => ?_) (fun h => ?_)) | (with_reducible refine Xb.caseN hc (fun h => ?_) (fun h => ?_))) <;> clear hc))
          · have hne : clsE c ≠ 0 := by omega
            exact ret_three (by first | exact .inr rfl | exact .inl rfl) Tryz.results29 rfl rfl rfl (H' := H) (by (repeat (first | exact List.Sublist.refl _ | apply List.Sublist.cons)); done) (tot_err (by rw [hE, cErr_at hz he, if_neg hne, her]) (by omega) H)
          · have hc0 : clsE c = 0 := by omega
            repeat' (first | (refine XO.op rfl ?_; (first | ((first | refine Xo.ng rfl ?_); (first | (refine Xg.call (EnF.st rfl (Args.cons rfl (Args.cons rfl Args.nil))) rfl rfl (value_spec T p c _ (hT1 [_, _, _, _, _]) hok.gr hok.st (by omega) (clsE_zero hc0).1 (clsE_zero hc0).2) ?_; rintro _ H9 ⟨rfl, hH9⟩; subst H9) | (refine Xg.ev (EvF.move rfl rfl) rfl rfl ?_) | (refine Xg.ev (EvF.assign rfl rfl) rfl rfl ?_) | (refine Xg.ev (EvF.add64 rfl rfl rfl (by omega) (by omega)) rfl rfl ?_))))) | (refine XO.done rfl ?_; refine hK _ _ ?_; clear hK K) | refine X.region rfl (fun K hK => ?_))
            have hmay : may T c = true := decide_eq_true (by assumption)
            rw [if_pos hmay] at hsn hrn
            rw [List.append_nil] at hrn
            refine ⟨_, [(3, .pointer (some ⟨b3, 0, none⟩)), (6, .int .i64 (sumV T (l.take (k + 1)))), (7, .slice (some ⟨bo, 0, none⟩) (refsA T 0 (l.take k)).length qo), (9, .pointer (some ⟨b9, 0, none⟩)), (39, .slice (some ⟨b, off, none⟩) l.length cc), (40, .int .i64 l.length), (41, .int .i64 (k + 1 : Nat))], _, (by rw [hsn]; exact (by (repeat (first | exact Sub.nil _ | refine Sub.cons rfl ?_)); done)), (by (repeat (first | exact List.Sublist.refl _ | apply List.Sublist.cons_cons | apply List.Sublist.cons)); done), ⟨k + 1, _, [⟨bo, 0, (refsA T 0 (l.take k)).flatMap cI, some 3, qo * 1⟩], rfl, by omega, cErr_snoc hz he (by omega), .inr ⟨bo, qo, by rw [hrn], by rw [hrn]⟩, rfl, rfl⟩, by omega⟩
          · have hmay : ¬ may T c = true := fun q => absurd (of_decide_eq_true q) (by assumption)
            rw [if_neg hmay] at hsn hrn
            rw [Int.add_zero] at hsn
            refine ⟨_, [(3, .pointer (some ⟨b3, 0, none⟩)), (6, .int .i64 (sumV T (l.take (k + 1)))), (7, .slice (some ⟨bn, 0, none⟩) ((refsA T 0 (l.take k)).length + 1) kn), (9, .pointer (some ⟨b9, 0, none⟩)), (39, .slice (some ⟨b, off, none⟩) l.length cc), (40, .int .i64 l.length), (41, .int .i64 (k + 1 : Nat))], _, (by rw [hsn]; exact (by (repeat (first | exact Sub.nil _ | refine Sub.cons rfl ?_)); done)), (by (repeat (first | exact List.Sublist.refl _ | apply List.Sublist.cons_cons | apply List.Sublist.cons)); done), ⟨k + 1, _, [⟨bn, 0, (refsA T 0 (l.take k)).flatMap cI ++ [.int .i64 k], some 3, kn * 1⟩], rfl, by omega, cErr_snoc hz he (by omega), .inr ⟨bn, kn, by rw [hrn, List.length_append]; rfl, by rw [hrn, List.flatMap_append]; rfl⟩, rfl, rfl⟩, by omega⟩
      · obtain rfl : k = l.length := by omega
        rw [List.take_length] at hz ⊢
        have hE0 : totE T m l = 0 := by rw [hE, hz]
        have hS : totS T m l = sumV T l := by unfold totS; rw [if_pos hE0]
        have hI : totI T m l = refsA T 0 l := by unfold totI; rw [if_pos hE0]
        rw [hS, hI, hE0]
        exact ret_three (by first | exact .inr rfl | exact .inl rfl) Tryz.results29 rfl rfl rfl (H' := ⟨bo, 0, (refsA T 0 l).flatMap cI, some 3, qo * 1⟩ :: H) (by (repeat (first | exact List.Sublist.refl _ | apply List.Sublist.cons_cons | apply List.Sublist.cons)); done) ⟨_, [⟨bo, 0, (refsA T 0 l).flatMap cI, some 3, qo * 1⟩], rfl, .inr ⟨bo, qo, rfl, rfl⟩, rfl⟩
  · refine Fc.mk (callable Tryz.call29) Tryz.func29 rfl Tryz.ntmps29 rfl ?_; dsimp only [fr]
    repeat' (first | (refine XO.op rfl ?_; (first | ((first | refine Xo.ng rfl ?_); (first | (refine Xg.ev (EvF.build (cs := cAb abO ⟨none, 0, none, 0, none, 0, none, 0⟩) rfl ArgsP.nil (te rfl) (Places.cons (te rfl) (Places.cons (te rfl) (Places.cons (te rfl) (Places.cons (te rfl) Places.nil)))) Tryz.zeroValue97 rfl) rfl rfl ?_) | (refine Xg.call (EnF.st rfl (Args.cons rfl (Args.cons rfl Args.nil))) rfl rfl (openNo T p _ (hT1 [_]) hok) ?_; rintro _ H9 ⟨rfl, hH9⟩; subst H9) | (refine Xg.ev (EvF.move rfl rfl) rfl rfl ?_) | (refine Xg.ev (EvF.assign rfl rfl) rfl rfl ?_) | (refine Xg.ev (EvF.cmp rfl rfl rfl rfl) rfl rfl ?_) | (refine Xg.ev (EvF.fieldAddr rfl rfl (te rfl) rfl (te rfl) (by decide)) rfl rfl ?_) | (refine Xg.ev (EvF.loadV rfl rfl (LoadV.whole (te rfl) rfl (List.Mem.head _) rfl)) rfl rfl ?_) | (refine Xg.ev (EvF.loadV rfl rfl (LoadV.ownAgg (te rfl) rfl (List.Mem.head _) rfl rfl)) rfl rfl ?_) | (refine Xg.ev (EvF.extract rfl rfl rfl) rfl rfl ?_) | (refine Xg.st (StF.boxAgg rfl rfl) rfl rfl ?_; rintro _ _ ⟨bx, rfl, rfl⟩) | (refine Xg.st (StF.alloc rfl Tryz.zeroValue32 rfl) rfl rfl ?_; rintro _ _ ⟨bx, rfl, rfl⟩) | (refine Xg.st0 (StF.storeAll (i := 0) rfl rfl rfl (te rfl) rfl rfl rfl rfl) rfl ?_; rintro _ _ ⟨rfl, rfl⟩; dsimp only [List.set]))))) | (refine XO.done rfl ?_; refine hK _ _ ?_; clear hK K) | refine X.seq rfl ?_ | refine X.region rfl (fun K hK => ?_) | refine X.block rfl ?_ | refine X.ret rfl ?_ | (refine X.ite rfl rfl (fun hc => ?_); (first | (with_reducible refine Xb.caseN hc (fun h => ?_) (fun h => ?_))) <;> clear hc))
    all_goals try (exfalso; omega)
    refine ret_three (by first | exact .inr rfl | exact .inl rfl) Tryz.results29 rfl rfl rfl (H' := H) (by (repeat (first | exact List.Sublist.refl _ | apply List.Sublist.cons)); done) (tot_err (by unfold totE; rw [if_neg hok]) (by decide) H)
end Go.Proofs.YtcjlegjchllgjaaGreat
end
section
set_option linter.unusedVariables false
set_option linter.unusedSimpArgs false
namespace Go.Proofs.YtcjlegjchllgjaaGreat
open Go Go.Fw
set_option maxRecDepth 10000
/-- the least, the greatest of some numbers -/
def minL : List Int → Int
  | [] => 0
  | x :: l => l.foldl min x
theorem minL_snoc : ∀ {l : List Int} (x : Int), 0 < l.length → minL (l ++ [x]) = min (minL l) x
  | y :: l, x, _ => by
    show (l ++ [x]).foldl min y = min (l.foldl min y) x
    rw [List.foldl_append]; rfl
def maxL : List Int → Int
  | [] => 0
  | x :: l => l.foldl max x
theorem maxL_snoc : ∀ {l : List Int} (x : Int), 0 < l.length → maxL (l ++ [x]) = max (maxL l) x
  | y :: l, x, _ => by
    show (l ++ [x]).foldl max y = max (l.foldl max y) x
    rw [List.foldl_append]; rfl
theorem minI_spec (l : List Int) (a : Option Addr) (c : Nat) (H : List Row) (hl : SlE H a cI 1 l) (hb : l.length ≤ 1000000) (h0 : 0 < l.length) :
    Fc Tryz.prog 72 [.slice a l.length c] H (fun v H' => v = .int .i64 (minL l) ∧ H' = H) := by
  obtain ⟨b, off, x, rfl, hx⟩ := hl.elem (i := 0) (by omega)
  refine Fc.mk (callable Tryz.call72) Tryz.func72 rfl Tryz.ntmps72 rfl ?_; dsimp only [fr]
  repeat' (first | (refine XO.op rfl ?_; (first | ((first | refine Xo.ng rfl ?_); (first | (refine Xg.ev (EvF.indexSlice rfl rfl rfl (te rfl) (te rfl) (by omega) (by omega)) rfl rfl ?_) | (refine Xg.ev (EvF.loadV rfl rfl (LoadV.el1 hl hx (te rfl) rfl (fun _ hm => hm) rfl)) rfl rfl ?_) | (refine Xg.ev (EvF.move rfl rfl) rfl rfl ?_) | (refine Xg.ev (EvF.assign rfl rfl) rfl rfl ?_) | (refine Xg.ev (EvF.cmp rfl rfl rfl rfl) rfl rfl ?_) | (refine Xg.ev (EvF.lenSlice rfl rfl (te rfl)) rfl rfl ?_))))) | (refine XO.done rfl ?_; refine hK _ _ ?_; clear hK K) | refine X.seq rfl ?_ | refine X.region rfl (fun K hK => ?_) | refine X.block rfl ?_ | refine X.skip rfl ?_ | (refine X.ite rfl rfl (fun hc => ?_); (first | (with_reducible refine Xb.case hc (fun h => ?_) (fun h => ?_))) <;> clear hc))
  all_goals try (exfalso; omega)
  have h1 : minL (l.take 1) = x := by rw [show (1 : Nat) = 0 + 1 from rfl, take_snoc hx]; rfl
  refine X.lp rfl (fun q F' H' => ∃ k : Nat, q = l.length - k ∧ 1 ≤ k ∧ k ≤ l.length ∧ H = H' ∧
      F' = [(0, .slice (some ⟨b, off, none⟩) l.length c), (3, .int .i64 (minL (l.take k))), (4, .int .i64 k)])
    (l.length - 1) [(0, .slice (some ⟨b, off, none⟩) l.length c), (3, .int .i64 (minL (l.take 1))), (4, .int .i64 (1 : Nat))] _ (by rw [h1]; exact (by (repeat (first | exact Sub.nil _ | refine Sub.cons rfl ?_)); done)) (by (repeat (first | exact List.Sublist.refl _ | apply List.Sublist.cons_cons | apply List.Sublist.cons)); done) ⟨1, rfl, by omega, by omega, rfl, rfl⟩ ?_
  rintro _ _ H2 ⟨k, rfl, hk1, hk, hH, rfl⟩
  subst hH
  repeat' (first | (refine XO.op rfl ?_; (first | ((first | refine Xo.ng rfl ?_); (first | (refine Xg.ev (EvF.move rfl rfl) rfl rfl ?_) | (refine Xg.ev (EvF.assign rfl rfl) rfl rfl ?_) | (refine Xg.ev (EvF.cmp rfl rfl rfl rfl) rfl rfl ?_) | (refine Xg.ev (EvF.lenSlice rfl rfl (te rfl)) rfl rfl ?_) | (refine Xg.ev (EvF.indexSlice rfl rfl rfl (te rfl) (te rfl) (by omega) (by omega)) rfl rfl ?_))))) | (refine XO.done rfl ?_; refine hK _ _ ?_; clear hK K) | refine X.seq rfl ?_ | refine X.region rfl (fun K hK => ?_) | refine X.block rfl ?_ | (refine X.brk rfl ?_; repeat (first | refine blockX_hit rfl ?_ | refine blockX_miss (by decide) ?_)) | refine X.skip rfl ?_ | refine X.ret rfl ?_ | (refine X.ite rfl rfl (fun hc => ?_); (first | (with_reducible refine Xb.case hc (fun h => ?_) (fun h => ?_))) <;> clear hc))
  · obtain ⟨y, hy⟩ : ∃ y, l[k]? = some y := ⟨_, List.getElem?_eq_getElem (by omega)⟩
    repeat' (first | (refine XO.op rfl ?_; (first | ((first | refine Xo.ng rfl ?_); (first | (refine Xg.ev (EvF.loadV rfl rfl (LoadV.el0 hl hy (te rfl) rfl (fun _ hm => hm) rfl)) rfl rfl ?_) | (refine Xg.ev (EvF.move rfl rfl) rfl rfl ?_) | (refine Xg.ev (EvF.assign rfl rfl) rfl rfl ?_) | (refine Xg.ev (EvF.add64 rfl rfl rfl (by omega) (by omega)) rfl rfl ?_) | (refine Xg.ev (EvF.min64 rfl rfl rfl) rfl rfl ?_))))) | (refine XO.done rfl ?_; refine hK _ _ ?_; clear hK K) | refine X.region rfl (fun K hK => ?_))
    refine ⟨_, _, _, (by rw [take_snoc hy, minL_snoc y (by rw [List.length_take]; omega)]; exact (by (repeat (first | exact Sub.nil _ | refine Sub.cons rfl ?_)); done)), (by (repeat (first | exact List.Sublist.refl _ | apply List.Sublist.cons_cons | apply List.Sublist.cons)); done), ⟨k + 1, rfl, by omega, by omega, rfl, rfl⟩, by omega⟩
  · obtain rfl : k = l.length := by omega
    rw [List.take_length]
    refine ret_one (by first | exact .inr rfl | exact .inl rfl) Tryz.results72 rfl (H' := H) (by (repeat (first | exact List.Sublist.refl _ | apply List.Sublist.cons)); done) ?_; simp only [and_true, true_and]
theorem maxI_spec (l : List Int) (a : Option Addr) (c : Nat) (H : List Row) (hl : SlE H a cI 1 l) (hb : l.length ≤ 1000000) (h0 : 0 < l.length) :
    Fc Tryz.prog 73 [.slice a l.length c] H (fun v H' => v = .int .i64 (maxL l) ∧ H' = H) := by
  obtain ⟨b, off, x, rfl, hx⟩ := hl.elem (i := 0) (by omega)
  refine Fc.mk (callable Tryz.call73) Tryz.func73 rfl Tryz.ntmps73 rfl ?_; dsimp only [fr]
  repeat' (first | (refine XO.op rfl ?_; (first | ((first | refine Xo.ng rfl ?_); (first | (refine Xg.ev (EvF.indexSlice rfl rfl rfl (te rfl) (te rfl) (by omega) (by omega)) rfl rfl ?_) | (refine Xg.ev (EvF.loadV rfl rfl (LoadV.el1 hl hx (te rfl) rfl (fun _ hm => hm) rfl)) rfl rfl ?_) | (refine Xg.ev (EvF.move rfl rfl) rfl rfl ?_) | (refine Xg.ev (EvF.assign rfl rfl) rfl rfl ?_) | (refine Xg.ev (EvF.cmp rfl rfl rfl rfl) rfl rfl ?_) | (refine Xg.ev (EvF.lenSlice rfl rfl (te rfl)) rfl rfl ?_))))) | (refine XO.done rfl ?_; refine hK _ _ ?_; clear hK K) | refine X.seq rfl ?_ | refine X.region rfl (fun K hK => ?_) | refine X.block rfl ?_ | refine X.skip rfl ?_ | (refine X.ite rfl rfl (fun hc => ?_); (first | (with_reducible refine Xb.case hc (fun h => ?_) (fun h => ?_))) <;> clear hc))
  all_goals try (exfalso; omega)
  have h1 : maxL (l.take 1) = x := by rw [show (1 : Nat) = 0 + 1 from rfl, take_snoc hx]; rfl
  refine X.lp rfl (fun q F' H' => ∃ k : Nat, q = l.length - k ∧ 1 ≤ k ∧ k ≤ l.length ∧ H = H' ∧
      F' = [(0, .slice (some ⟨b, off, none⟩) l.length c), (3, .int .i64 (maxL (l.take k))), (4, .int .i64 k)])
    (l.length - 1) [(0, .slice (some ⟨b, off, none⟩) l.length c), (3, .int .i64 (maxL (l.take 1))), (4, .int .i64 (1 : Nat))] _ (by rw [h1]; exact (by (repeat (first | exact Sub.nil _ | refine Sub.cons rfl ?_)); done)) (by (repeat (first | exact List.Sublist.refl _ | apply List.Sublist.cons_cons | apply List.Sublist.cons)); done) ⟨1, rfl, by omega, by omega, rfl, rfl⟩ ?_
  rintro _ _ H2 ⟨k, rfl, hk1, hk, hH, rfl⟩
  subst hH
  repeat' (first | (refine XO.op rfl ?_; (first | ((first | refine Xo.ng rfl ?_); (first | (refine Xg.ev (EvF.move rfl rfl) rfl rfl ?_) | (refine Xg.ev (EvF.assign rfl rfl) rfl rfl ?_) | (refine Xg.ev (EvF.cmp rfl rfl rfl rfl) rfl rfl ?_) | (refine Xg.ev (EvF.lenSlice rfl rfl (te rfl)) rfl rfl ?_) | (refine Xg.ev (EvF.indexSlice rfl rfl rfl (te rfl) (te rfl) (by omega) (by omega)) rfl rfl ?_))))) | (refine XO.done rfl ?_; refine hK _ _ ?_; clear hK K) | refine X.seq rfl ?_ | refine X.region rfl (fun K hK => ?_) | refine X.block rfl ?_ | (refine X.brk rfl ?_; repeat (first | refine blockX_hit rfl ?_ | refine blockX_miss (by decide) ?_)) | refine X.skip rfl ?_ | refine X.ret rfl ?_ | (refine X.ite rfl rfl (fun hc => ?_); (first | (with_reducible refine Xb.case hc (fun h => ?_) (fun h => ?_))) <;> clear hc))
  · obtain ⟨y, hy⟩ : ∃ y, l[k]? = some y := ⟨_, List.getElem?_eq_getElem (by omega)⟩
    repeat' (first | (refine XO.op rfl ?_; (first | ((first | refine Xo.ng rfl ?_); (first | (refine Xg.ev (EvF.loadV rfl rfl (LoadV.el0 hl hy (te rfl) rfl (fun _ hm => hm) rfl)) rfl rfl ?_) | (refine Xg.ev (EvF.move rfl rfl) rfl rfl ?_) | (refine Xg.ev (EvF.assign rfl rfl) rfl rfl ?_) | (refine Xg.ev (EvF.add64 rfl rfl rfl (by omega) (by omega)) rfl rfl ?_) | (refine Xg.ev (EvF.max64 rfl rfl rfl) rfl rfl ?_))))) | (refine XO.done rfl ?_; refine hK _ _ ?_; clear hK K) | refine X.region rfl (fun K hK => ?_))
    refine ⟨_, _, _, (by rw [take_snoc hy, maxL_snoc y (by rw [List.length_take]; omega)]; exact (by (repeat (first | exact Sub.nil _ | refine Sub.cons rfl ?_)); done)), (by (repeat (first | exact List.Sublist.refl _ | apply List.Sublist.cons_cons | apply List.Sublist.cons)); done), ⟨k + 1, rfl, by omega, by omega, rfl, rfl⟩, by omega⟩
  · obtain rfl : k = l.length := by omega
    rw [List.take_length]
    refine ret_one (by first | exact .inr rfl | exact .inl rfl) Tryz.results73 rfl (H' := H) (by (repeat (first | exact List.Sublist.refl _ | apply List.Sublist.cons)); done) ?_; simp only [and_true, true_and]
/-- a list of classes of one's own, or none -/
def OutC (k : List Cl) (v : Value) (Z : List Row) : Prop := (k = [] ∧ v = .slice none 0 0 ∧ Z = []) ∨ ∃ b q, v = .slice (some ⟨b, 0, none⟩) k.length q ∧ Z = [⟨b, 0, k.flatMap cCl, some 27, q * 2⟩]
theorem OutC.nil : OutC [] (.slice none 0 0) [] := .inl ⟨rfl, rfl, rfl⟩
theorem lenCl (l : List Cl) : (l.flatMap cCl).length = l.length * 2 := flat_len (fun _ _ => rfl)
set_option maxHeartbeats 4000000 in
theorem appendSeq_spec (f : Nat) (cap : List Value) (E : List Row) (xs : List Cl) (hI : Itf Tryz.prog f cap E xs (fun c => [.agg (cCl c).toArray])) (hb : xs.length ≤ 1000000) :
    Fc Tryz.prog 105 [.slice none 0 0, .func (.func f) #[] cap.toArray] E (fun v H' => ∃ Z, OutC xs v Z ∧ H' = Z ++ E) := by
  refine Fc.mkT (callable Tryz.call105) Tryz.func105 rfl Tryz.ntmps105 rfl ?_
  dsimp only [fr]
  refine XT.seq rfl (XT.of0 ?_)
  repeat' (first | (refine XO.op rfl ?_; (first | ((first | refine Xo.ng rfl ?_); (first | (refine Xg.ev (EvF.move rfl rfl) rfl rfl ?_) | (refine Xg.ev (EvF.assign rfl rfl) rfl rfl ?_) | (refine Xg.ev (EvF.lenSlice rfl rfl (te rfl)) rfl rfl ?_) | (refine Xg.ev (EvF.loadV rfl rfl (LoadV.own (te rfl) rfl (List.Mem.head _) rfl)) rfl rfl ?_) | (refine Xg.ev (EvF.loadV rfl rfl (LoadV.own (te rfl) rfl (List.Mem.tail _ (List.Mem.head _)) rfl)) rfl rfl ?_) | (refine Xg.st (StF.boxOne rfl rfl rfl) rfl rfl ?_; rintro _ _ ⟨bx, rfl, rfl⟩) | (refine Xg.st (StF.alloc rfl Tryz.zeroValue30 rfl) rfl rfl ?_; rintro _ _ ⟨bx, rfl, rfl⟩) | (refine Xg.st0 (StF.storeAll (i := 0) rfl rfl rfl (te rfl) rfl rfl rfl rfl) rfl ?_; rintro _ _ ⟨rfl, rfl⟩; dsimp only [List.set]))))) | (refine XO.done rfl ?_; refine hK _ _ ?_; clear hK K) | refine X.seq rfl ?_ | refine X.region rfl (fun K hK => ?_) | refine X.block rfl ?_ | refine X.ret rfl ?_)
  refine XT.seq rfl (XT.seq rfl (XT.of0 ?_))
  repeat' (first | (refine XO.op rfl ?_; (first | ((first | refine Xo.ng rfl ?_); (first | (refine Xg.ev (EvF.move rfl rfl) rfl rfl ?_) | (refine Xg.ev (EvF.assign rfl rfl) rfl rfl ?_) | (refine Xg.ev (EvF.lenSlice rfl rfl (te rfl)) rfl rfl ?_) | (refine Xg.ev (EvF.loadV rfl rfl (LoadV.own (te rfl) rfl (List.Mem.head _) rfl)) rfl rfl ?_) | (refine Xg.ev (EvF.loadV rfl rfl (LoadV.own (te rfl) rfl (List.Mem.tail _ (List.Mem.head _)) rfl)) rfl rfl ?_) | (refine Xg.st (StF.boxOne rfl rfl rfl) rfl rfl ?_; rintro _ _ ⟨bx, rfl, rfl⟩) | (refine Xg.st (StF.alloc rfl Tryz.zeroValue30 rfl) rfl rfl ?_; rintro _ _ ⟨bx, rfl, rfl⟩) | (refine Xg.st0 (StF.storeAll (i := 0) rfl rfl rfl (te rfl) rfl rfl rfl rfl) rfl ?_; rintro _ _ ⟨rfl, rfl⟩; dsimp only [List.set]))))) | (refine XO.done rfl ?_; refine hK _ _ ?_; clear hK K) | refine X.seq rfl ?_ | refine X.region rfl (fun K hK => ?_) | refine X.block rfl ?_ | refine X.ret rfl ?_)
  refine XT.block rfl ?_
  refine XT.weak (F' := [(2, .pointer (some ⟨bx, 0, none⟩)), (6, .func (.func f) #[] cap.toArray)]) (H' := ⟨bx, 0, [.slice none 0 0], some 60, 1⟩ :: E) (by (repeat (first | exact Sub.nil _ | refine Sub.cons rfl ?_)); done) (by (repeat (first | exact List.Sublist.refl _ | apply List.Sublist.cons_cons | apply List.Sublist.cons)); done) ?_
  refine XT.range (ps := [7]) rfl rfl hI rfl (fun _ => rfl) (fun pre Hb => ∃ out Z, OutC pre out Z ∧ Hb = Z ++ [⟨bx, 0, [out], some 60, 1⟩]) (fun _ _ => False) [⟨bx, 0, [.slice none 0 0], some 60, 1⟩] rfl ⟨_, [], OutC.nil, rfl⟩ ?_ ?_ (fun _ _ h => h.elim) (fun _ _ _ h => h.elim) (fun _ _ h => h.elim)
  · rintro pre x _ hpre ⟨out, Z0, ⟨rfl, rfl, rfl⟩ | ⟨bo, qo, rfl, rfl⟩, rfl⟩ Z
    · simp only [List.cons_append, List.nil_append]
      repeat' (first | (refine XO.op rfl ?_; (first | ((first | refine Xo.ng rfl ?_); (first | (refine Xg.ev (EvF.move rfl rfl) rfl rfl ?_) | (refine Xg.ev (EvF.assign rfl rfl) rfl rfl ?_) | (refine Xg.ev (EvF.lenSlice rfl rfl (te rfl)) rfl rfl ?_) | (refine Xg.ev (EvF.loadV rfl rfl (LoadV.own (te rfl) rfl (List.Mem.head _) rfl)) rfl rfl ?_) | (refine Xg.ev (EvF.loadV rfl rfl (LoadV.own (te rfl) rfl (List.Mem.tail _ (List.Mem.head _)) rfl)) rfl rfl ?_) | (refine Xg.st (StF.boxOne rfl rfl rfl) rfl rfl ?_; rintro _ _ ⟨bx, rfl, rfl⟩) | (refine Xg.st (StF.alloc rfl Tryz.zeroValue30 rfl) rfl rfl ?_; rintro _ _ ⟨bx, rfl, rfl⟩) | (refine Xg.st0 (StF.storeAll (i := 0) rfl rfl rfl (te rfl) rfl rfl rfl rfl) rfl ?_; rintro _ _ ⟨rfl, rfl⟩; dsimp only [List.set]))))) | (refine XO.done rfl ?_; refine hK _ _ ?_; clear hK K) | refine X.seq rfl ?_ | refine X.region rfl (fun K hK => ?_) | refine X.block rfl ?_ | refine X.ret rfl ?_)
      refine ⟨rfl, [_, _], List.Sublist.refl _, fun Z' => ?_⟩
      simp only [List.cons_append, List.nil_append]
      repeat' (first | (refine XO.op rfl ?_; (first | ((first | refine Xo.ng rfl ?_); (first | (refine Xg.st (StF.buildOne rfl elCl rfl rfl rfl (by decide) (by decide)) rfl rfl ?_; rintro _ _ ⟨bs, rfl, rfl⟩) | (refine Xg.st (StF.appendNew rfl elCl rfl rfl (by decide) rfl (Rd.own (List.Mem.head _)) (by decide)) rfl rfl ?_; rintro _ _ ⟨bn, kn, rfl, rfl⟩) | (refine Xg.ev (EvF.loadV rfl rfl (LoadV.own (te rfl) rfl (List.Mem.tail _ (List.Mem.head _)) rfl)) rfl rfl ?_) | (refine Xg.ev (EvF.loadV rfl rfl (LoadV.whole (te rfl) rfl (List.Mem.head _) rfl)) rfl rfl ?_) | (refine Xg.st0 (StF.storeOne (i := 3) rfl rfl rfl rfl (te rfl) rfl rfl (Nat.le_of_ble_eq_true rfl)) rfl ?_; rintro _ _ ⟨rfl, rfl⟩; dsimp only [List.set]))))) | (refine XO.done rfl ?_; refine hK _ _ ?_; clear hK K) | refine X.region rfl (fun K hK => ?_) | refine X.block rfl ?_)
      exact ⟨[⟨bn, 0, cCl x, some 27, kn * 2⟩, _], List.Sublist.cons_cons _ (List.Sublist.cons _ (List.Sublist.cons _ (List.Sublist.refl _))), _, [⟨bn, 0, cCl x, some 27, kn * 2⟩], .inr ⟨bn, kn, rfl, rfl⟩, rfl⟩
    · have hlen := pre_len hpre
      have hlc := lenCl pre
      simp only [List.cons_append, List.nil_append]
      repeat' (first | (refine XO.op rfl ?_; (first | ((first | refine Xo.ng rfl ?_); (first | (refine Xg.ev (EvF.move rfl rfl) rfl rfl ?_) | (refine Xg.ev (EvF.assign rfl rfl) rfl rfl ?_) | (refine Xg.ev (EvF.lenSlice rfl rfl (te rfl)) rfl rfl ?_) | (refine Xg.ev (EvF.loadV rfl rfl (LoadV.own (te rfl) rfl (List.Mem.head _) rfl)) rfl rfl ?_) | (refine Xg.ev (EvF.loadV rfl rfl (LoadV.own (te rfl) rfl (List.Mem.tail _ (List.Mem.head _)) rfl)) rfl rfl ?_) | (refine Xg.st (StF.boxOne rfl rfl rfl) rfl rfl ?_; rintro _ _ ⟨bx, rfl, rfl⟩) | (refine Xg.st (StF.alloc rfl Tryz.zeroValue30 rfl) rfl rfl ?_; rintro _ _ ⟨bx, rfl, rfl⟩) | (refine Xg.st0 (StF.storeAll (i := 0) rfl rfl rfl (te rfl) rfl rfl rfl rfl) rfl ?_; rintro _ _ ⟨rfl, rfl⟩; dsimp only [List.set]))))) | (refine XO.done rfl ?_; refine hK _ _ ?_; clear hK K) | refine X.seq rfl ?_ | refine X.region rfl (fun K hK => ?_) | refine X.block rfl ?_ | refine X.ret rfl ?_)
      refine ⟨rfl, [_, _, _], List.Sublist.refl _, fun Z' => ?_⟩
      simp only [List.cons_append, List.nil_append]
      repeat' (first | (refine XO.op rfl ?_; (first | ((first | refine Xo.ng rfl ?_); (first | (refine Xg.st (StF.buildOne rfl elCl rfl rfl rfl (by decide) (by decide)) rfl rfl ?_; rintro _ _ ⟨bs, rfl, rfl⟩) | (refine Xg.st (StF.appendOwn (i := 2) rfl elCl rfl rfl rfl hlc rfl (Rd.own (List.Mem.head _)) rfl (by omega)) rfl rfl ?_; rintro _ _ ⟨bn, kn, rfl, rfl⟩; dsimp only [List.eraseIdx]) | (refine Xg.ev (EvF.loadV rfl rfl (LoadV.own (te rfl) rfl (List.Mem.tail _ (List.Mem.tail _ (List.Mem.head _))) rfl)) rfl rfl ?_) | (refine Xg.ev (EvF.loadV rfl rfl (LoadV.whole (te rfl) rfl (List.Mem.head _) rfl)) rfl rfl ?_) | (refine Xg.st0 (StF.storeOne (i := 3) rfl rfl rfl rfl (te rfl) rfl rfl (Nat.le_of_ble_eq_true rfl)) rfl ?_; rintro _ _ ⟨rfl, rfl⟩; dsimp only [List.set]))))) | (refine XO.done rfl ?_; refine hK _ _ ?_; clear hK K) | refine X.region rfl (fun K hK => ?_) | refine X.block rfl ?_)
      exact ⟨[⟨bn, 0, pre.flatMap cCl ++ cCl x, some 27, kn * 2⟩, _], List.Sublist.cons_cons _ (List.Sublist.cons _ (List.Sublist.cons _ (List.Sublist.refl _))), _, [⟨bn, 0, pre.flatMap cCl ++ cCl x, some 27, kn * 2⟩], .inr ⟨bn, kn, by rw [List.length_append]; rfl, by rw [List.flatMap_append]; rfl⟩, rfl⟩
  · rintro D _ ⟨out, Z0, ⟨rfl, rfl, rfl⟩ | ⟨bo, qo, rfl, rfl⟩, rfl⟩
    · refine XT.seq rfl (XT.of1 ?_)
      simp only [List.cons_append, List.nil_append]
      repeat' (first | (refine XO.op rfl ?_; (first | ((first | refine Xo.ng rfl ?_); (first | (refine Xg.ev (EvF.move rfl rfl) rfl rfl ?_) | (refine Xg.ev (EvF.assign rfl rfl) rfl rfl ?_) | (refine Xg.ev (EvF.lenSlice rfl rfl (te rfl)) rfl rfl ?_) | (refine Xg.ev (EvF.loadV rfl rfl (LoadV.own (te rfl) rfl (List.Mem.head _) rfl)) rfl rfl ?_) | (refine Xg.ev (EvF.loadV rfl rfl (LoadV.own (te rfl) rfl (List.Mem.tail _ (List.Mem.head _)) rfl)) rfl rfl ?_) | (refine Xg.st (StF.boxOne rfl rfl rfl) rfl rfl ?_; rintro _ _ ⟨bx, rfl, rfl⟩) | (refine Xg.st (StF.alloc rfl Tryz.zeroValue30 rfl) rfl rfl ?_; rintro _ _ ⟨bx, rfl, rfl⟩) | (refine Xg.st0 (StF.storeAll (i := 0) rfl rfl rfl (te rfl) rfl rfl rfl rfl) rfl ?_; rintro _ _ ⟨rfl, rfl⟩; dsimp only [List.set]))))) | (refine XO.done rfl ?_; refine hK _ _ ?_; clear hK K) | refine X.seq rfl ?_ | refine X.region rfl (fun K hK => ?_) | refine X.block rfl ?_ | refine X.ret rfl ?_)
      refine ⟨⟨bx, 0, [.slice none 0 0], some 60, 1⟩ :: E, List.Sublist.refl _, XT.of1 ?_⟩
      repeat' (first | (refine XO.op rfl ?_; (first | ((first | refine Xo.ng rfl ?_); (first | (refine Xg.ev (EvF.move rfl rfl) rfl rfl ?_) | (refine Xg.ev (EvF.assign rfl rfl) rfl rfl ?_) | (refine Xg.ev (EvF.lenSlice rfl rfl (te rfl)) rfl rfl ?_) | (refine Xg.ev (EvF.loadV rfl rfl (LoadV.own (te rfl) rfl (List.Mem.head _) rfl)) rfl rfl ?_) | (refine Xg.ev (EvF.loadV rfl rfl (LoadV.own (te rfl) rfl (List.Mem.tail _ (List.Mem.head _)) rfl)) rfl rfl ?_) | (refine Xg.st (StF.boxOne rfl rfl rfl) rfl rfl ?_; rintro _ _ ⟨bx, rfl, rfl⟩) | (refine Xg.st (StF.alloc rfl Tryz.zeroValue30 rfl) rfl rfl ?_; rintro _ _ ⟨bx, rfl, rfl⟩) | (refine Xg.st0 (StF.storeAll (i := 0) rfl rfl rfl (te rfl) rfl rfl rfl rfl) rfl ?_; rintro _ _ ⟨rfl, rfl⟩; dsimp only [List.set]))))) | (refine XO.done rfl ?_; refine hK _ _ ?_; clear hK K) | refine X.seq rfl ?_ | refine X.region rfl (fun K hK => ?_) | refine X.block rfl ?_ | refine X.ret rfl ?_)
      exact ⟨E, (by (repeat (first | exact List.Sublist.refl _ | apply List.Sublist.cons_cons | apply List.Sublist.cons)); done), retT_one (by first | exact .inr rfl | exact .inl rfl) Tryz.results105 rfl (List.Sublist.refl _) ⟨[], OutC.nil, rfl⟩⟩
    · refine XT.seq rfl (XT.of1 ?_)
      simp only [List.cons_append, List.nil_append]
      repeat' (first | (refine XO.op rfl ?_; (first | ((first | refine Xo.ng rfl ?_); (first | (refine Xg.ev (EvF.move rfl rfl) rfl rfl ?_) | (refine Xg.ev (EvF.assign rfl rfl) rfl rfl ?_) | (refine Xg.ev (EvF.lenSlice rfl rfl (te rfl)) rfl rfl ?_) | (refine Xg.ev (EvF.loadV rfl rfl (LoadV.own (te rfl) rfl (List.Mem.head _) rfl)) rfl rfl ?_) | (refine Xg.ev (EvF.loadV rfl rfl (LoadV.own (te rfl) rfl (List.Mem.tail _ (List.Mem.head _)) rfl)) rfl rfl ?_) | (refine Xg.st (StF.boxOne rfl rfl rfl) rfl rfl ?_; rintro _ _ ⟨bx, rfl, rfl⟩) | (refine Xg.st (StF.alloc rfl Tryz.zeroValue30 rfl) rfl rfl ?_; rintro _ _ ⟨bx, rfl, rfl⟩) | (refine Xg.st0 (StF.storeAll (i := 0) rfl rfl rfl (te rfl) rfl rfl rfl rfl) rfl ?_; rintro _ _ ⟨rfl, rfl⟩; dsimp only [List.set]))))) | (refine XO.done rfl ?_; refine hK _ _ ?_; clear hK K) | refine X.seq rfl ?_ | refine X.region rfl (fun K hK => ?_) | refine X.block rfl ?_ | refine X.ret rfl ?_)
      refine ⟨⟨bo, 0, xs.flatMap cCl, some 27, qo * 2⟩ :: ⟨bx, 0, [.slice (some ⟨bo, 0, none⟩) xs.length qo], some 60, 1⟩ :: E, List.Sublist.refl _, XT.of1 ?_⟩
      repeat' (first | (refine XO.op rfl ?_; (first | ((first | refine Xo.ng rfl ?_); (first | (refine Xg.ev (EvF.move rfl rfl) rfl rfl ?_) | (refine Xg.ev (EvF.assign rfl rfl) rfl rfl ?_) | (refine Xg.ev (EvF.lenSlice rfl rfl (te rfl)) rfl rfl ?_) | (refine Xg.ev (EvF.loadV rfl rfl (LoadV.own (te rfl) rfl (List.Mem.head _) rfl)) rfl rfl ?_) | (refine Xg.ev (EvF.loadV rfl rfl (LoadV.own (te rfl) rfl (List.Mem.tail _ (List.Mem.head _)) rfl)) rfl rfl ?_) | (refine Xg.st (StF.boxOne rfl rfl rfl) rfl rfl ?_; rintro _ _ ⟨bx, rfl, rfl⟩) | (refine Xg.st (StF.alloc rfl Tryz.zeroValue30 rfl) rfl rfl ?_; rintro _ _ ⟨bx, rfl, rfl⟩) | (refine Xg.st0 (StF.storeAll (i := 0) rfl rfl rfl (te rfl) rfl rfl rfl rfl) rfl ?_; rintro _ _ ⟨rfl, rfl⟩; dsimp only [List.set]))))) | (refine XO.done rfl ?_; refine hK _ _ ?_; clear hK K) | refine X.seq rfl ?_ | refine X.region rfl (fun K hK => ?_) | refine X.block rfl ?_ | refine X.ret rfl ?_)
      exact ⟨⟨bo, 0, xs.flatMap cCl, some 27, qo * 2⟩ :: E, (by (repeat (first | exact List.Sublist.refl _ | apply List.Sublist.cons_cons | apply List.Sublist.cons)); done), retT_one (by first | exact .inr rfl | exact .inl rfl) Tryz.results105 rfl (List.Sublist.refl _) ⟨[⟨bo, 0, xs.flatMap cCl, some 27, qo * 2⟩], .inr ⟨bo, qo, rfl, rfl⟩, rfl⟩⟩
theorem collect_spec (f : Nat) (cap : List Value) (E : List Row) (xs : List Cl) (hI : Itf Tryz.prog f cap E xs (fun c => [.agg (cCl c).toArray])) (hb : xs.length ≤ 1000000) :
    Fc Tryz.prog 70 [.func (.func f) #[] cap.toArray] E (fun v H' => ∃ Z, OutC xs v Z ∧ H' = Z ++ E) := by
  refine Fc.mk (callable Tryz.call70) Tryz.func70 rfl Tryz.ntmps70 rfl ?_; dsimp only [fr]
  repeat' (first | (refine XO.op rfl ?_; (first | ((first | refine Xo.ng rfl ?_); (first | (refine Xg.call (EnF.st rfl (Args.cons rfl (Args.cons rfl Args.nil))) rfl rfl (appendSeq_spec f cap E xs hI hb) ?_; rintro v _ ⟨Z, hO, rfl⟩) | (refine Xg.ev (EvF.move rfl rfl) rfl rfl ?_) | (refine Xg.ev (EvF.assign rfl rfl) rfl rfl ?_))))) | (refine XO.done rfl ?_; refine hK _ _ ?_; clear hK K) | refine X.seq rfl ?_ | refine X.region rfl (fun K hK => ?_) | refine X.ret rfl ?_)
  exact ret_one (by first | exact .inr rfl | exact .inl rfl) Tryz.results70 rfl (List.Sublist.refl _) ⟨Z, hO, rfl⟩
theorem numbersCl_spec (g : Nat) (first cap : List Value) (f : Cl → Int) (l : List Cl) (a : Option Addr) (c : Nat) (H : List Row) (hl : SlE H a cCl 2 l) (hb : l.length ≤ 1000000) (h0 : 0 < l.length) (hg : ∀ e ∈ l, ∀ Z : List Row, Fc Tryz.prog g (first ++ [.agg (cCl e).toArray] ++ cap) (Z ++ H) (fun v H' => v = .int .i64 (f e) ∧ H' = Z ++ H)) :
    Fc Tryz.prog 69 [.slice a l.length c, .func (.func g) first.toArray cap.toArray] H (fun v H' => ∃ b k, v = .slice (some ⟨b, 0, none⟩) l.length k ∧ H' = ⟨b, 0, (l.map f).flatMap cI, some 3, k * 1⟩ :: H) := by
  refine Fc.mk (callable Tryz.call69) Tryz.func69 rfl Tryz.ntmps69 rfl ?_; dsimp only [fr]
  repeat' (first | (refine XO.op rfl ?_; (first | ((first | refine Xo.ng rfl ?_); (first | (refine Xg.ev (EvF.move rfl rfl) rfl rfl ?_) | (refine Xg.ev (EvF.assign rfl rfl) rfl rfl ?_) | (refine Xg.ev (EvF.lenSlice rfl rfl (te rfl)) rfl rfl ?_) | (refine Xg.ev (EvF.loadV rfl rfl (LoadV.own (te rfl) rfl (List.Mem.head _) rfl)) rfl rfl ?_) | (refine Xg.ev (EvF.loadV rfl rfl (LoadV.own (te rfl) rfl (List.Mem.tail _ (List.Mem.head _)) rfl)) rfl rfl ?_) | (refine Xg.st (StF.boxOne rfl rfl rfl) rfl rfl ?_; rintro _ _ ⟨bx, rfl, rfl⟩) | (refine Xg.st (StF.alloc rfl Tryz.zeroValue30 rfl) rfl rfl ?_; rintro _ _ ⟨bx, rfl, rfl⟩) | (refine Xg.st0 (StF.storeAll (i := 0) rfl rfl rfl (te rfl) rfl rfl rfl rfl) rfl ?_; rintro _ _ ⟨rfl, rfl⟩; dsimp only [List.set]))))) | (refine XO.done rfl ?_; refine hK _ _ ?_; clear hK K) | refine X.seq rfl ?_ | refine X.region rfl (fun K hK => ?_) | refine X.block rfl ?_ | refine X.ret rfl ?_)
  refine X.lp rfl (fun q F' H' => ∃ (k : Nat) (out : Value) (Z : List Row), q = l.length - k ∧ k ≤ l.length ∧ ((k = 0 ∧ out = .slice none 0 0 ∧ Z = []) ∨ ∃ b q, out = .slice (some ⟨b, 0, none⟩) k q ∧ Z = [⟨b, 0, ((l.take k).map f).flatMap cI, some 3, q * 1⟩]) ∧ Z ++ H = H' ∧
      F' = [(1, .func (.func g) first.toArray cap.toArray), (5, out), (8, .slice a l.length c), (9, .int .i64 l.length), (10, .int .i64 k)])
    l.length [(1, .func (.func g) first.toArray cap.toArray), (5, .slice none 0 0), (8, .slice a l.length c), (9, .int .i64 l.length), (10, .int .i64 (0 : Nat))] _ (by (repeat (first | exact Sub.nil _ | refine Sub.cons rfl ?_)); done) (by (repeat (first | exact List.Sublist.refl _ | apply List.Sublist.cons_cons | apply List.Sublist.cons)); done) ⟨0, _, [], by omega, by omega, .inl ⟨rfl, rfl, rfl⟩, rfl, rfl⟩ ?_
  rintro _ _ H2 ⟨k, out, Z, rfl, hk, ⟨rfl, rfl, rfl⟩ | ⟨b0, q0, rfl, rfl⟩, hH, rfl⟩
  · rw [List.nil_append] at hH
    subst hH
    repeat' (first | (refine XO.op rfl ?_; (first | ((first | refine Xo.ng rfl ?_); (first | (refine Xg.ev (EvF.move rfl rfl) rfl rfl ?_) | (refine Xg.ev (EvF.assign rfl rfl) rfl rfl ?_) | (refine Xg.ev (EvF.cmp rfl rfl rfl rfl) rfl rfl ?_))))) | (refine XO.done rfl ?_; refine hK _ _ ?_; clear hK K) | refine X.seq rfl ?_ | refine X.region rfl (fun K hK => ?_) | refine X.block rfl ?_ | (refine X.brk rfl ?_; repeat (first | refine blockX_hit rfl ?_ | refine blockX_miss (by decide) ?_)) | refine X.skip rfl ?_ | refine X.ret rfl ?_ | (refine X.ite rfl rfl (fun hc => ?_); (first | (with_reducible refine Xb.case hc (fun h => ?_) (fun h => ?_))) <;> clear hc))
    · obtain ⟨b, off, e, rfl, he⟩ := hl.elem (i := 0) (by omega)
      have hge : ∀ r, Fc Tryz.prog g (first ++ [.agg (cCl e).toArray] ++ cap) (r :: H) (fun v H' => v = .int .i64 (f e) ∧ H' = r :: H) := fun r => hg e (List.mem_of_getElem? he) [r]
      repeat' (first | (refine XO.op rfl ?_; (first | ((first | refine Xo.ng rfl ?_); (first | (refine Xg.ev (EvF.loadV rfl rfl (LoadV.elA0 hl he (te rfl) rfl (fun _ hm => hm) rfl)) rfl rfl ?_) | (refine Xg.call (EnF.dyn (first := first) rfl rfl (Args.cons rfl Args.nil)) rfl rfl (hge _) ?_; rintro _ H9 ⟨rfl, hH9⟩; subst H9) | (refine Xg.st (StF.buildOne rfl elI rfl rfl rfl (by decide) (by decide)) rfl rfl ?_; rintro _ _ ⟨bs, rfl, rfl⟩) | (refine Xg.st (StF.appendNew rfl elI rfl rfl (by decide) rfl (Rd.own (List.Mem.head _)) (by decide)) rfl rfl ?_; rintro _ _ ⟨bn, kn, rfl, rfl⟩) | (refine Xg.ev (EvF.move rfl rfl) rfl rfl ?_) | (refine Xg.ev (EvF.assign rfl rfl) rfl rfl ?_) | (refine Xg.ev (EvF.add64 rfl rfl rfl (by omega) (by omega)) rfl rfl ?_) | (refine Xg.ev (EvF.indexSlice rfl rfl rfl (te rfl) (te rfl) (by omega) (by omega)) rfl rfl ?_) | (refine Xg.ev (EvF.loadV rfl rfl (LoadV.whole (te rfl) rfl (List.Mem.head _) rfl)) rfl rfl ?_) | (refine Xg.st (StF.alloc rfl Tryz.zeroValue30 rfl) rfl rfl ?_; rintro _ _ ⟨bx, rfl, rfl⟩) | (refine Xg.st0 (StF.storeAll (i := 0) rfl rfl rfl (te rfl) rfl rfl rfl rfl) rfl ?_; rintro _ _ ⟨rfl, rfl⟩; dsimp only [List.set]))))) | (refine XO.done rfl ?_; refine hK _ _ ?_; clear hK K) | refine X.region rfl (fun K hK => ?_))
      refine ⟨_, _, _, (by (repeat (first | exact Sub.nil _ | refine Sub.cons rfl ?_)); done), ?_, ⟨0 + 1, _, [⟨bn, 0, ((l.take (0 + 1)).map f).flatMap cI, some 3, kn * 1⟩], rfl, by omega, .inr ⟨_, _, rfl, rfl⟩, rfl, rfl⟩, by omega⟩
      rw [take_snoc he]
      exact (by (repeat (first | exact List.Sublist.refl _ | apply List.Sublist.cons_cons | apply List.Sublist.cons)); done)
    · exfalso; omega
  · have hlen : (((l.take k).map f).flatMap cI).length = k * 1 := by rw [lenI, List.length_map, List.length_take]; omega
    simp only [List.cons_append, List.nil_append] at hH
    subst hH
    repeat' (first | (refine XO.op rfl ?_; (first | ((first | refine Xo.ng rfl ?_); (first | (refine Xg.ev (EvF.move rfl rfl) rfl rfl ?_) | (refine Xg.ev (EvF.assign rfl rfl) rfl rfl ?_) | (refine Xg.ev (EvF.cmp rfl rfl rfl rfl) rfl rfl ?_))))) | (refine XO.done rfl ?_; refine hK _ _ ?_; clear hK K) | refine X.seq rfl ?_ | refine X.region rfl (fun K hK => ?_) | refine X.block rfl ?_ | (refine X.brk rfl ?_; repeat (first | refine blockX_hit rfl ?_ | refine blockX_miss (by decide) ?_)) | refine X.skip rfl ?_ | refine X.ret rfl ?_ | (refine X.ite rfl rfl (fun hc => ?_); (first | (with_reducible refine Xb.case hc (fun h => ?_) (fun h => ?_))) <;> clear hc))
    · obtain ⟨b, off, e, rfl, he⟩ := hl.elem (i := k) (by omega)
      have hl1 : ∀ r, SlE (r :: H) (some ⟨b, off, none⟩) cCl 2 l := fun r => hl.sub (fun _ h => List.mem_cons_of_mem _ h)
      have hge : ∀ r r', Fc Tryz.prog g (first ++ [.agg (cCl e).toArray] ++ cap) (r :: r' :: H) (fun v H' => v = .int .i64 (f e) ∧ H' = r :: r' :: H) := fun r r' => hg e (List.mem_of_getElem? he) [r, r']
      repeat' (first | (refine XO.op rfl ?_; (first | ((first | refine Xo.ng rfl ?_); (first | (refine Xg.ev (EvF.loadV rfl rfl (LoadV.elA0 (hl1 _) he (te rfl) rfl (fun _ hm => hm) rfl)) rfl rfl ?_) | (refine Xg.call (EnF.dyn (first := first) rfl rfl (Args.cons rfl Args.nil)) rfl rfl (hge _ _) ?_; rintro _ H9 ⟨rfl, hH9⟩; subst H9) | (refine Xg.st (StF.buildOne rfl elI rfl rfl rfl (by decide) (by decide)) rfl rfl ?_; rintro _ _ ⟨bs, rfl, rfl⟩) | (refine Xg.st (StF.appendOwn (i := 2) rfl elI rfl rfl rfl hlen rfl (Rd.own (List.Mem.head _)) rfl (by omega)) rfl rfl ?_; rintro _ _ ⟨bn, kn, rfl, rfl⟩; dsimp only [List.eraseIdx]) | (refine Xg.ev (EvF.move rfl rfl) rfl rfl ?_) | (refine Xg.ev (EvF.assign rfl rfl) rfl rfl ?_) | (refine Xg.ev (EvF.add64 rfl rfl rfl (by omega) (by omega)) rfl rfl ?_) | (refine Xg.ev (EvF.indexSlice rfl rfl rfl (te rfl) (te rfl) (by omega) (by omega)) rfl rfl ?_) | (refine Xg.ev (EvF.loadV rfl rfl (LoadV.whole (te rfl) rfl (List.Mem.head _) rfl)) rfl rfl ?_) | (refine Xg.st (StF.alloc rfl Tryz.zeroValue30 rfl) rfl rfl ?_; rintro _ _ ⟨bx, rfl, rfl⟩) | (refine Xg.st0 (StF.storeAll (i := 0) rfl rfl rfl (te rfl) rfl rfl rfl rfl) rfl ?_; rintro _ _ ⟨rfl, rfl⟩; dsimp only [List.set]))))) | (refine XO.done rfl ?_; refine hK _ _ ?_; clear hK K) | refine X.region rfl (fun K hK => ?_))
      refine ⟨_, _, _, (by (repeat (first | exact Sub.nil _ | refine Sub.cons rfl ?_)); done), ?_, ⟨k + 1, _, [⟨bn, 0, ((l.take (k + 1)).map f).flatMap cI, some 3, kn * 1⟩], rfl, by omega, .inr ⟨_, _, rfl, rfl⟩, rfl, rfl⟩, by omega⟩
      rw [take_snoc he, List.map_append, List.flatMap_append]
      exact (by (repeat (first | exact List.Sublist.refl _ | apply List.Sublist.cons_cons | apply List.Sublist.cons)); done)
    · obtain rfl : k = l.length := by omega
      rw [List.take_length]
      exact ret_one (by first | exact .inr rfl | exact .inl rfl) Tryz.results69 rfl (H' := ⟨b0, 0, (l.map f).flatMap cI, some 3, q0 * 1⟩ :: H) (by (repeat (first | exact List.Sublist.refl _ | apply List.Sublist.cons_cons | apply List.Sublist.cons)); done) ⟨b0, q0, rfl, rfl⟩
end Go.Proofs.YtcjlegjchllgjaaGreat
end
section
set_option linter.unusedVariables false
set_option linter.unusedSimpArgs false
namespace Go.Proofs.YtcjlegjchllgjaaGreat
open Go Go.Fw
set_option maxRecDepth 10000
theorem OutI.sl {k : List Int} {v : Value} {Z H : List Row} (h : OutI k v Z) (hs : ∀ r ∈ Z, r ∈ H) : ∃ a c, v = .slice a k.length c ∧ SlE H a cI 1 k := by
  rcases h with ⟨rfl, rfl, rfl⟩ | ⟨b, q, rfl, rfl⟩
  · exact ⟨_, _, rfl, sleNil⟩
  · exact ⟨_, _, rfl, SlE.ofRow (hs _ (List.Mem.head _)) (fun _ _ => rfl)⟩
theorem OutI.len {k : List Int} {v : Value} {Z : List Row} (h : OutI k v Z) : ∃ a c, v = .slice a k.length c := by
  rcases h with ⟨rfl, rfl, rfl⟩ | ⟨b, q, rfl, rfl⟩ <;> exact ⟨_, _, rfl⟩
theorem sameI_self (l : List Int) (a a' : Option Addr) (c c' : Nat) (H : List Row) (hl : SlE H a cI 1 l) (hm : SlE H a' cI 1 l) (hb : l.length ≤ 1000000) : Fc Tryz.prog 44 [.slice a l.length c, .slice a' l.length c'] H (fun v H' => v = .bool true ∧ H' = H) :=
  (sameInts_spec l l a a' c c' H hl hm hb hb).mono (fun v H' ⟨h1, h2⟩ => ⟨by rw [h1, decide_eq_true rfl], h2⟩)
end Go.Proofs.YtcjlegjchllgjaaGreat
end
section
set_option linter.unusedVariables false
set_option linter.unusedSimpArgs false
namespace Go.Proofs.YtcjlegjchllgjaaGreat
open Go Go.Fw
set_option maxRecDepth 10000
def stepT (T : Tm) (g n : Int) : Tm := { T with G := T.G.set (g - 1).toNat n }
noncomputable def vld (U : Tm) : Tm × Int := if tmOk U then (U, 0) else (Tz, 40)
noncomputable def stepF (T : Tm) (g n : Int) : Tm × Int := if tmOk T then (if 1 ≤ g ∧ g ≤ 9 then vld (stepT T g n) else (Tz, 41)) else (Tz, 40)
def rebT (T : Tm) (c : Cl) : Tm := { T with g := c.g, s := c.s, price := val T c.g c.s, G := T.G.map (fun n => n - at1 T.G c.g), S := T.S.map (fun n => n - at1 T.S c.s) }
noncomputable def rebF (T : Tm) (c : Cl) : Tm × Int := if askedE T c = 0 then (if may T c = true then vld (rebT T c) else (Tz, 6)) else (Tz, askedE T c)
def withB (T : Tm) (n : Int) : Tm := { T with bales := n }
noncomputable def joinF (T U : Tm) : Tm × Int := if tmOk T ∧ tmOk U then (if T = withB U T.bales then (if T.bales + U.bales > 20 then (Tz, 9) else (withB T (T.bales + U.bales), 0)) else (Tz, 2)) else (Tz, 40)
noncomputable def splF (T : Tm) (n : Int) : Tm × Tm × Int := if tmOk T then (if 1 ≤ n ∧ n ≤ T.bales - 1 then (withB T n, withB T (T.bales - n), 0) else (Tz, Tz, 2)) else (Tz, Tz, 40)
/-- where tables of one's own lie -/
def plT (t1 k1 t2 k2 : Nat) : Pt := ⟨some ⟨t1, 0, none⟩, k1, some ⟨t2, 0, none⟩, k2⟩
def rI (l : List Int) (b k : Nat) : Row := ⟨b, 0, l.flatMap cI, some 3, k * 1⟩
/-- terms with tables of their own, or none -/
def OwnTm (Z : List Row) (T : Tm) (p : Pt) : Prop := (T = Tz ∧ p = pz ∧ Z = []) ∨ ∃ t1 k1 t2 k2, p = plT t1 k1 t2 k2 ∧ Z.Perm [rI T.G t1 k1, rI T.S t2 k2]
theorem OwnTm.zero : OwnTm [] Tz pz := .inl ⟨rfl, rfl, rfl⟩
theorem OwnTm.two (T : Tm) (t1 k1 t2 k2 : Nat) : OwnTm [rI T.G t1 k1, rI T.S t2 k2] T (plT t1 k1 t2 k2) := .inr ⟨t1, k1, t2, k2, rfl, List.Perm.refl _⟩
theorem TmOk.zero (H : List Row) : TmOk H Tz pz := ⟨sleNil, sleNil, Nat.zero_le _, Nat.zero_le _⟩
theorem OwnTm.ok {Z : List Row} {T : Tm} {p : Pt} (h : OwnTm Z T p) (h1 : T.G.length ≤ 1000000) (h2 : T.S.length ≤ 1000000) : TmOk Z T p := by
  rcases h with ⟨rfl, rfl, rfl⟩ | ⟨t1, k1, t2, k2, rfl, hp⟩
  · exact TmOk.zero _
  · exact ⟨SlE.ofRow (hp.mem_iff.2 (List.Mem.head _)) (fun _ _ => rfl), SlE.ofRow (hp.mem_iff.2 (List.Mem.tail _ (List.Mem.head _))) (fun _ _ => rfl), h1, h2⟩
/-- what a call returns: terms of its own, and an error -/
def ProgT (F : Tm × Int) (H : List Row) (v : Value) (H' : List Row) : Prop := ∃ p Z, v = .tuple #[.agg (cTm F.1 p).toArray, .int .i64 F.2] ∧ OwnTm Z F.1 p ∧ H' = Z ++ H
theorem EvF.tz {n : Nat} {H : List Row} {F : FS} {o : Oper} (h : o.op = .build 32 #[]) : EvF Tryz.prog n H F o (.agg (cTm Tz pz).toArray) := EvF.build (cs := cTm Tz pz) h ArgsP.nil (te rfl) (Places.cons (te rfl) (Places.cons (te rfl) (Places.cons (te rfl) (Places.cons (te rfl) (Places.cons (te rfl) (Places.cons (te rfl) (Places.cons (te rfl) (Places.cons (te rfl) (Places.cons (te rfl) Places.nil))))))))) Tryz.zeroValue32 rfl
def tsCp : List TOp := [⟨some 3, [], [], []⟩, ⟨some 4, [0], [0], []⟩, ⟨some 5, [0, 1], [1], []⟩, ⟨some 6, [], [], []⟩, ⟨some 7, [3], [3], []⟩, ⟨some 8, [0, 1, 2, 3, 4], [4], []⟩, ⟨some 9, [0, 1, 2, 3, 4], [], []⟩, ⟨none, [0, 1, 2, 3, 4, 5, 6], [6, 2], [10]⟩, ⟨some 10, [0, 1, 2, 3, 4, 5, 6, 7], [], []⟩, ⟨none, [0, 1, 2, 3, 4, 5, 6, 7, 8], [8, 5], [7]⟩, ⟨none, [], [], []⟩]
def valCp (b1 b2 : Nat) (T : Tm) (a1 a2 : Addr) (c1 c2 : Nat) (k : Nat) (env : Env) : Value :=
  match k with
  | 0 => .pointer (some ⟨b1, 5, none⟩)
  | 1 => .slice (some a1) T.G.length c1
  | 2 => .slice (some ⟨(env 2).1, 0, none⟩) T.G.length (env 2).2
  | 3 => .pointer (some ⟨b1, 6, none⟩)
  | 4 => .slice (some a2) T.S.length c2
  | 5 => .slice (some ⟨(env 5).1, 0, none⟩) T.S.length (env 5).2
  | 6 => .pointer (some ⟨b1, 5, none⟩)
  | 7 => undef
  | 8 => .pointer (some ⟨b1, 6, none⟩)
  | 9 => undef
  | _ => undef
def rowsCp (b1 b2 : Nat) (T : Tm) (a1 a2 : Addr) (c1 c2 : Nat) (k : Nat) (env : Env) : List Row :=
  match k with
  | 2 => [rI T.G (env 2).1 (env 2).2]
  | 5 => [rI T.S (env 5).1 (env 5).2]
  | 7 => [⟨b1, 0, cTm T ⟨some ⟨(env 2).1, 0, none⟩, (env 2).2, some a2, c2⟩, some 32, 11⟩]
  | 9 => [⟨b1, 0, cTm T (plT (env 2).1 (env 2).2 (env 5).1 (env 5).2), some 32, 11⟩]
  | 10 => [⟨b1, 0, cTm T ⟨some a1, c1, some a2, c2⟩, some 32, 11⟩]
  | _ => []
theorem locCp (b1 b2 : Nat) (T : Tm) (a1 a2 : Addr) (c1 c2 : Nat) : ∀ k env i q9, i ≠ k → (tAt tsCp k).sup.contains i = false → valCp b1 b2 T a1 a2 c1 c2 k (upd env i q9) = valCp b1 b2 T a1 a2 c1 c2 k env ∧ rowsCp b1 b2 T a1 a2 c1 c2 k (upd env i q9) = rowsCp b1 b2 T a1 a2 c1 c2 k env := by
  intro k env i q hk hs
  have hu : ∀ j, j ≠ i → upd env i q j = env j := fun j hj => by unfold upd; rw [if_neg hj]
  match k, hk, hs with
  | 0, _, _ => exact ⟨rfl, rfl⟩
  | 1, _, _ => exact ⟨rfl, rfl⟩
  | 2, hk, hs => exact ⟨by simp only [valCp, hu 2 (fun e => hk e.symm)], by simp only [rowsCp, hu 2 (fun e => hk e.symm)]⟩
  | 3, _, _ => exact ⟨rfl, rfl⟩
  | 4, _, _ => exact ⟨rfl, rfl⟩
  | 5, hk, hs => exact ⟨by simp only [valCp, hu 5 (fun e => hk e.symm)], by simp only [rowsCp, hu 5 (fun e => hk e.symm)]⟩
  | 6, _, _ => exact ⟨rfl, rfl⟩
  | 7, hk, hs => exact ⟨by simp only [valCp, hu 2 (by rintro rfl; cases hs)], by simp only [rowsCp, hu 2 (by rintro rfl; cases hs)]⟩
  | 8, _, _ => exact ⟨rfl, rfl⟩
  | 9, hk, hs => exact ⟨by simp only [valCp, hu 2 (by rintro rfl; cases hs), hu 5 (by rintro rfl; cases hs)], by simp only [rowsCp, hu 2 (by rintro rfl; cases hs), hu 5 (by rintro rfl; cases hs)]⟩
  | 10, _, _ => exact ⟨rfl, rfl⟩
  | _ + 11, _, _ => exact ⟨rfl, rfl⟩
def rdCp (k : Nat) : List Nat := match k with
  | 1 => [10]
  | 4 => [10]
  | _ => []
set_option maxHeartbeats 8000000 in
theorem copied_spec (T : Tm) (p : Pt) (H : List Row) (hT : TmOk H T p) (h1 : 0 < T.G.length) (h2 : 0 < T.S.length) : Fc Tryz.prog 79 [.agg (cTm T p).toArray] H (fun v H' => ∃ t1 k1 t2 k2, v = .agg (cTm T (plT t1 k1 t2 k2)).toArray ∧ H' = rI T.G t1 k1 :: rI T.S t2 k2 :: H) := by
  have l1 := hT.l1
  have l2 := hT.l2
  obtain ⟨b1, o1, e1, he1, _⟩ := hT.gr.elem (i := 0) (by omega)
  obtain ⟨b2, o2, e2, he2, _⟩ := hT.st.elem (i := 0) (by omega)
  obtain ⟨a1, c1, a2, c2⟩ := p
  simp only at he1 he2
  subst he1 he2
  refine Fc.mk (callable Tryz.call79) Tryz.func79 rfl Tryz.ntmps79 rfl ?_; dsimp only [fr]
  refine X.seq rfl ?_; refine X.region rfl (fun K hK => ?_); repeat' (first | (refine XO.op rfl ?_; (first | ((first | refine Xo.ng rfl ?_); (first | (refine Xg.st (StF.boxAgg rfl rfl) rfl rfl ?_; rintro _ _ ⟨bx, rfl, rfl⟩) | (refine Xg.st (StF.alloc rfl Tryz.zeroValue32 rfl) rfl rfl ?_; rintro _ _ ⟨bx, rfl, rfl⟩))))) | (refine XO.done rfl ?_; refine hK _ _ ?_; clear hK K))
  rename_i bb; rename Nat => br
  refine X.seq rfl ?_
  refine X.permH (H' := ⟨bb, 0, cTm T ⟨some ⟨b1, o1, none⟩, c1, some ⟨b2, o2, none⟩, c2⟩, some 32, 11⟩ :: ⟨br, 0, cTm Tz pz, some 32, 11⟩ :: H) (List.Perm.swap _ _ _) ?_
  refine X.regionRd tsCp rdCp [1, 2] [(1, .pointer (some ⟨bb, 0, none⟩)), (2, .pointer (some ⟨br, 0, none⟩))] (valCp bb br T ⟨b1, o1, none⟩ ⟨b2, o2, none⟩ c1 c2) (rowsCp bb br T ⟨b1, o1, none⟩ ⟨b2, o2, none⟩ c1 c2) (fun _ => (0, 0)) (⟨br, 0, cTm Tz pz, some 32, 11⟩ :: H) rfl mixed (by (repeat (first | exact Sub.nil _ | refine Sub.cons rfl ?_)); done) rfl (by kernel_rfl) (by kernel_rfl) (locCp bb br T ⟨b1, o1, none⟩ ⟨b2, o2, none⟩ c1 c2) (List.Sublist.refl _) ?_ ?_
  · have hs : ∀ (S Z : List Row), (∀ r ∈ ⟨br, 0, cTm Tz pz, some 32, 11⟩ :: H, r ∈ S) → TmOk (Z ++ S) T ⟨some ⟨b1, o1, none⟩, c1, some ⟨b2, o2, none⟩, c2⟩ := fun S Z hS => hT.sub (fun r hr => List.mem_append_right _ (hS r (List.mem_cons_of_mem _ hr)))
    repeat' (first | exact AllF.done rfl | (refine AllF.step rfl ?_ ?_; · (first | exact (Ob.ng rfl (ObK.pure (fun env R hR => by exact ⟨_, EvF.fieldAddr rfl rfl (te rfl) rfl (te rfl) (by decide), rfl⟩) rfl (fun _ => rfl))).toR | (refine ObR.ng rfl ?_; (first | (exact fun env S hS hrd => (StF.ofEv (EvF.loadV rfl rfl (LoadV.own (te rfl) rfl (hrd 10 (List.Mem.head _) _ (List.Mem.head _)) rfl))).op.mono (fun v H' ⟨hv, hH⟩ => ⟨(0, 0), fun _ => hv, by rw [hH]; exact List.Perm.refl _⟩)) | (exact fun env S hS hrd => (OpF.call (EnF.st rfl (Args.cons rfl Args.nil)) (cloneI_spec T.G _ c1 _ (hs S [] hS).gr l1)).mono (fun v H' ⟨b, k, hv, hH⟩ => ⟨(b, k), fun _ => hv, by rw [hH]; exact List.Perm.refl _⟩)) | (exact fun env S hS hrd => (OpF.call (EnF.st rfl (Args.cons rfl Args.nil)) (cloneI_spec T.S _ c2 _ (hs S [] hS).st l2)).mono (fun v H' ⟨b, k, hv, hH⟩ => ⟨(b, k), fun _ => hv, by rw [hH]; exact List.Perm.refl _⟩)) | (exact fun env S hS hrd => (StF.storeOne (i := 0) (cs := cTm T ⟨some ⟨b1, o1, none⟩, c1, some ⟨b2, o2, none⟩, c2⟩) rfl rfl rfl rfl (te rfl) rfl rfl (Nat.le_of_ble_eq_true rfl)).op.mono (fun v H' ⟨hv, hH⟩ => ⟨(0, 0), fun h => absurd rfl h, by rw [hH]; exact List.Perm.refl _⟩)) | (exact fun env S hS hrd => (StF.storeOne (i := 0) (cs := cTm T ⟨some ⟨(env 2).1, 0, none⟩, (env 2).2, some ⟨b2, o2, none⟩, c2⟩) rfl rfl rfl rfl (te rfl) rfl rfl (Nat.le_of_ble_eq_true rfl)).op.mono (fun v H' ⟨hv, hH⟩ => ⟨(0, 0), fun h => absurd rfl h, by rw [hH]; exact List.Perm.refl _⟩)))))))
  · intro env t ha hv
    refine ⟨_, ha, ?_⟩
    show X _ _ _ _ (rI T.G (env 2).1 (env 2).2 :: rI T.S (env 5).1 (env 5).2 :: ⟨bb, 0, cTm T (plT (env 2).1 (env 2).2 (env 5).1 (env 5).2), some 32, 11⟩ :: ⟨br, 0, cTm Tz pz, some 32, 11⟩ :: H) _
    repeat' (first | (refine XO.op rfl ?_; (first | ((first | refine Xo.ng rfl ?_); (first | (refine Xg.ev (EvF.loadV rfl rfl (LoadV.whole (te rfl) rfl (List.Mem.tail _ (List.Mem.tail _ (List.Mem.head _))) rfl)) rfl rfl ?_) | (refine Xg.st0 (StF.storeAll (i := 3) rfl rfl rfl (te rfl) rfl rfl rfl rfl) rfl ?_; rintro _ _ ⟨rfl, rfl⟩; dsimp only [List.set]))))) | (refine XO.done rfl ?_; refine hK _ _ ?_; clear hK K) | refine X.seq rfl ?_ | refine X.region rfl (fun K hK => ?_) | refine X.ret rfl ?_)
    exact ret_one (v := .agg (cTm T (plT (env 2).1 (env 2).2 (env 5).1 (env 5).2)).toArray) (by first | exact .inr rfl | exact .inl rfl) Tryz.results79 ⟨_, rfl, LoadV.whole (te rfl) rfl (List.Mem.tail _ (List.Mem.tail _ (List.Mem.tail _ (List.Mem.head _)))) rfl⟩ (H' := rI T.G (env 2).1 (env 2).2 :: rI T.S (env 5).1 (env 5).2 :: H) (by (repeat (first | exact List.Sublist.refl _ | apply List.Sublist.cons_cons | apply List.Sublist.cons)); done) ⟨_, _, _, _, rfl, rfl⟩
set_option maxHeartbeats 8000000 in
theorem withBales_spec (T : Tm) (p : Pt) (n : Int) (H : List Row) (hT : TmOk H T p) (h1 : 0 < T.G.length) (h2 : 0 < T.S.length) : Fc Tryz.prog 81 [.agg (cTm T p).toArray, .int .i64 n] H (fun v H' => ∃ t1 k1 t2 k2, v = .agg (cTm (withB T n) (plT t1 k1 t2 k2)).toArray ∧ H' = rI T.G t1 k1 :: rI T.S t2 k2 :: H) := by
  refine Fc.mk (callable Tryz.call81) Tryz.func81 rfl Tryz.ntmps81 rfl ?_; dsimp only [fr]
  repeat' (first | (refine XO.op rfl ?_; (first | ((first | refine Xo.ng rfl ?_); (first | (refine Xg.call (EnF.st rfl (by (repeat (first | exact Args.nil | refine Args.cons rfl ?_)); done)) rfl rfl (copied_spec T p _ (hT.sub (fun _ hm => List.Mem.tail _ (List.Mem.tail _ hm))) h1 h2) ?_; rintro _ _ ⟨t1, k1, t2, k2, rfl, rfl⟩) | (refine Xg.ev (EvF.move rfl rfl) rfl rfl ?_) | (refine Xg.ev (EvF.fieldAddr rfl rfl (te rfl) rfl (te rfl) (by decide)) rfl rfl ?_) | (refine Xg.ev (EvF.loadV rfl rfl (LoadV.whole (te rfl) rfl (List.Mem.tail _ (List.Mem.head _)) rfl)) rfl rfl ?_) | (refine Xg.ev (EvF.loadV rfl rfl (LoadV.whole (te rfl) rfl (List.Mem.tail _ (List.Mem.tail _ (List.Mem.tail _ (List.Mem.head _)))) rfl)) rfl rfl ?_) | (refine Xg.st (StF.boxAgg rfl rfl) rfl rfl ?_; rintro _ _ ⟨bx, rfl, rfl⟩) | (refine Xg.st (StF.alloc rfl Tryz.zeroValue32 rfl) rfl rfl ?_; rintro _ _ ⟨bx, rfl, rfl⟩) | (refine Xg.st0 (StF.storeAll (i := 2) rfl rfl rfl (te rfl) rfl rfl rfl rfl) rfl ?_; rintro _ _ ⟨rfl, rfl⟩; dsimp only [List.set]) | (refine Xg.st0 (StF.storeOne (i := 3) rfl rfl rfl rfl (te rfl) rfl rfl (Nat.le_of_ble_eq_true rfl)) rfl ?_; rintro _ _ ⟨rfl, rfl⟩; dsimp only [List.set]) | (refine Xg.st0 (StF.storeAll (i := 3) rfl rfl rfl (te rfl) rfl rfl rfl rfl) rfl ?_; rintro _ _ ⟨rfl, rfl⟩; dsimp only [List.set]))))) | (refine XO.done rfl ?_; refine hK _ _ ?_; clear hK K) | refine X.seq rfl ?_ | refine X.region rfl (fun K hK => ?_) | refine X.ret rfl ?_)
  exact ret_one (v := .agg (cTm (withB T n) (plT t1 k1 t2 k2)).toArray) (by first | exact .inr rfl | exact .inl rfl) Tryz.results81 ⟨_, rfl, LoadV.whole (te rfl) rfl (List.Mem.tail _ (List.Mem.tail _ (List.Mem.head _))) rfl⟩ (H' := rI T.G t1 k1 :: rI T.S t2 k2 :: H) (by (repeat (first | exact List.Sublist.refl _ | apply List.Sublist.cons_cons | apply List.Sublist.cons)); done) ⟨_, _, _, _, rfl, rfl⟩
theorem vld_ok {U : Tm} (h : tmOk U) : vld U = (U, 0) := if_pos h
theorem vld_no {U : Tm} (h : ¬ tmOk U) : vld U = (Tz, 40) := if_neg h
set_option maxHeartbeats 8000000 in
theorem ifValid_spec (T : Tm) (p : Pt) (H : List Row) (hT : TmOk H T p) : Fc Tryz.prog 66 [.agg (cTm T p).toArray] H (fun v H' => (∃ q, v = .tuple #[.agg (cTm (vld T).1 q).toArray, .int .i64 (vld T).2] ∧ ((tmOk T ∧ q = p) ∨ (¬ tmOk T ∧ q = pz))) ∧ H' = H) := by
  have hT2 : ∀ r1 r2, TmOk (r1 :: r2 :: H) T p := fun r1 r2 => hT.sub (fun _ h => List.Mem.tail _ (List.Mem.tail _ h))
  by_cases hok : tmOk T
  · have hc : ∀ H, TmOk H T p → Fc Tryz.prog 33 [.agg (cTm T p).toArray] H (fun v H' => v = .int .i64 0 ∧ H' = H) := fun H h => by
      have := check_spec T p H h
      rwa [if_pos hok] at this
    rw [vld_ok hok]
    refine Fc.mk (callable Tryz.call66) Tryz.func66 rfl Tryz.ntmps66 rfl ?_; dsimp only [fr]
    repeat' (first | (refine XO.op rfl ?_; (first | ((first | refine Xo.ng rfl ?_); (first | (refine Xg.call (EnF.st rfl (Args.cons rfl Args.nil)) rfl rfl (hc _ (hT2 _ _)) ?_; rintro _ H9 ⟨rfl, hH9⟩; subst H9) | (refine Xg.ev (EvF.move rfl rfl) rfl rfl ?_) | (refine Xg.ev (EvF.assign rfl rfl) rfl rfl ?_) | (refine Xg.ev (EvF.cmp rfl rfl rfl rfl) rfl rfl ?_) | (refine Xg.ev (EvF.loadV rfl rfl (LoadV.whole (te rfl) rfl (List.Mem.tail _ (List.Mem.head _)) rfl)) rfl rfl ?_) | (refine Xg.st (StF.boxAgg rfl rfl) rfl rfl ?_; rintro _ _ ⟨bx, rfl, rfl⟩) | (refine Xg.st (StF.alloc rfl Tryz.zeroValue32 rfl) rfl rfl ?_; rintro _ _ ⟨bx, rfl, rfl⟩) | (refine Xg.st0 (StF.storeAll (i := 0) rfl rfl rfl (te rfl) rfl rfl rfl rfl) rfl ?_; rintro _ _ ⟨rfl, rfl⟩; dsimp only [List.set]))))) | (refine XO.done rfl ?_; refine hK _ _ ?_; clear hK K) | refine X.seq rfl ?_ | refine X.region rfl (fun K hK => ?_) | refine X.skip rfl ?_ | refine X.ret rfl ?_ | (refine X.ite rfl rfl (fun hc => ?_); (first | (with_reducible refine Xb.caseN hc (fun h => ?_) (fun h => ?_))) <;> clear hc))
    all_goals try (exfalso; omega)
    exact ret_two (v := .agg (cTm T p).toArray) (by first | exact .inr rfl | exact .inl rfl) Tryz.results66 ⟨_, rfl, LoadV.whole (te rfl) rfl (List.Mem.head _) rfl⟩ rfl (H' := H) (by (repeat (first | exact List.Sublist.refl _ | apply List.Sublist.cons)); done) ⟨⟨_, rfl, .inl ⟨hok, rfl⟩⟩, rfl⟩
  · have hc : ∀ H, TmOk H T p → Fc Tryz.prog 33 [.agg (cTm T p).toArray] H (fun v H' => v = .int .i64 40 ∧ H' = H) := fun H h => by
      have := check_spec T p H h
      rwa [if_neg hok] at this
    rw [vld_no hok]
    refine Fc.mk (callable Tryz.call66) Tryz.func66 rfl Tryz.ntmps66 rfl ?_; dsimp only [fr]
    repeat' (first | (refine XO.op rfl ?_; (first | ((first | refine Xo.ng rfl ?_); (first | (refine Xg.call (EnF.st rfl (Args.cons rfl Args.nil)) rfl rfl (hc _ (hT2 _ _)) ?_; rintro _ H9 ⟨rfl, hH9⟩; subst H9) | (refine Xg.ev (EvF.tz rfl) rfl rfl ?_) | (refine Xg.ev (EvF.move rfl rfl) rfl rfl ?_) | (refine Xg.ev (EvF.assign rfl rfl) rfl rfl ?_) | (refine Xg.ev (EvF.cmp rfl rfl rfl rfl) rfl rfl ?_) | (refine Xg.ev (EvF.loadV rfl rfl (LoadV.whole (te rfl) rfl (List.Mem.tail _ (List.Mem.head _)) rfl)) rfl rfl ?_) | (refine Xg.st (StF.boxAgg rfl rfl) rfl rfl ?_; rintro _ _ ⟨bx, rfl, rfl⟩) | (refine Xg.st (StF.alloc rfl Tryz.zeroValue32 rfl) rfl rfl ?_; rintro _ _ ⟨bx, rfl, rfl⟩) | (refine Xg.st0 (StF.storeAll (i := 0) rfl rfl rfl (te rfl) rfl rfl rfl rfl) rfl ?_; rintro _ _ ⟨rfl, rfl⟩; dsimp only [List.set]))))) | (refine XO.done rfl ?_; refine hK _ _ ?_; clear hK K) | refine X.seq rfl ?_ | refine X.region rfl (fun K hK => ?_) | refine X.skip rfl ?_ | refine X.ret rfl ?_ | (refine X.ite rfl rfl (fun hc => ?_); (first | (with_reducible refine Xb.caseN hc (fun h => ?_) (fun h => ?_))) <;> clear hc))
    all_goals try (exfalso; omega)
    exact ret_two (v := .agg (cTm Tz pz).toArray) (by first | exact .inr rfl | exact .inl rfl) Tryz.results66 ⟨_, rfl, LoadV.whole (te rfl) rfl (List.Mem.head _) rfl⟩ rfl (H' := H) (by (repeat (first | exact List.Sublist.refl _ | apply List.Sublist.cons)); done) ⟨⟨_, rfl, .inr ⟨hok, rfl⟩⟩, rfl⟩
end Go.Proofs.YtcjlegjchllgjaaGreat
end
section
set_option linter.unusedVariables false
set_option linter.unusedSimpArgs false
namespace Go.Proofs.YtcjlegjchllgjaaGreat
open Go Go.Fw
set_option maxRecDepth 10000
def knw (so no : Bool) : Int := if no = false then 2 else if so = false then 0 else 1
theorem lknown_spec (so no : Bool) (H : List Row) : Fc Tryz.prog 56 [.bool so, .bool no] H (fun v H' => v = .int .u8 (knw so no) ∧ H' = H) := by
  cases so <;> cases no
  all_goals (refine Fc.mk (callable Tryz.call56) Tryz.func56 rfl Tryz.ntmps56 rfl ?_; dsimp only [fr])
  all_goals repeat' (first | (refine XO.op rfl ?_; (first | ((first | refine Xo.ng rfl ?_); (first | (refine Xg.ev (EvF.move rfl rfl) rfl rfl ?_) | (refine Xg.ev (EvF.assign rfl rfl) rfl rfl ?_) | (refine Xg.ev (EvF.not rfl rfl) rfl rfl ?_))))) | (refine XO.done rfl ?_; refine hK _ _ ?_; clear hK K) | refine X.seq rfl ?_ | refine X.region rfl (fun K hK => ?_) | refine X.block rfl ?_ | refine X.skip rfl ?_ | refine X.ret rfl ?_ | (refine X.ite rfl rfl (fun hc => ?_); (first | (with_reducible refine Xb.caseB hc (fun h => ?_) (fun h => ?_))) <;> clear hc))
  all_goals (refine ret_one (by first | exact .inr rfl | exact .inl rfl) Tryz.results56 rfl (H' := H) (by (repeat (first | exact List.Sublist.refl _ | apply List.Sublist.cons)); done) ?_; simp only [and_true, true_and])
  all_goals first | (exfalso; contradiction) | rfl
def sizeL (l : Lo) : Int := (l.g2 - l.g1 + 1) * (l.s2 - l.s1 + 1)
def cntM (T : Tm) (l : Lo) (m : Int) : Int := if T.dl ≤ m ∧ m ≤ T.dh then ((cls T l).length : Int) else 0
def knoV (T : Tm) (l : Lo) (m : Int) : Int := knw (decide (cntM T l m > 0)) (decide (cntM T l m < sizeL l))
theorem known1_spec (T : Tm) (p : Pt) (l : Lo) (m : Int) (bm bl capm capl : Nat) (owm owl : Option Kd) (H : List Row) (hm : ⟨bm, 0, [.int .i64 m], owm, capm⟩ ∈ H) (hl : ⟨bl, 0, cLo l, owl, capl⟩ ∈ H) (hin : inb l) (h1 : l.g1 ≤ l.g2) (h2 : l.s1 ≤ l.s2) :
    Fc Tryz.prog 54 ([.agg (cTm T p).toArray] ++ [.pointer (some ⟨bm, 0, none⟩), .pointer (some ⟨bl, 0, none⟩)]) H (fun v H' => v = .int .u8 (knoV T l m) ∧ H' = H) := by
  show Fc Tryz.prog 54 [.agg (cTm T p).toArray, .pointer (some ⟨bm, 0, none⟩), .pointer (some ⟨bl, 0, none⟩)] H _
  have hc := cls_len T hin
  have hi := hin
  unfold inb at hi
  have hq := fun H => size_spec l H (by omega) h1 h2
  unfold knoV cntM
  refine Fc.mk (callable Tryz.call54) Tryz.func54 rfl Tryz.ntmps54 rfl ?_; dsimp only [fr]
  repeat' (first | (refine XO.op rfl ?_; (first | ((first | refine Xo.ng rfl ?_); (first | (refine Xg.ev (EvF.loadV rfl rfl (LoadV.ownAgg (vs := cSp ⟨T.dl, T.dh⟩) (te rfl) rfl (List.Mem.head _) rfl rfl)) rfl rfl ?_) | (refine Xg.ev (EvF.loadV rfl rfl (LoadV.own (te rfl) rfl (List.Mem.tail _ hm) rfl)) rfl rfl ?_) | (refine Xg.ev (EvF.loadV rfl rfl (LoadV.whole (te rfl) rfl (List.Mem.tail _ (List.Mem.tail _ hl)) rfl)) rfl rfl ?_) | (refine Xg.st (StF.buildOne rfl elI rfl rfl rfl (by decide) (by decide)) rfl rfl ?_; rintro _ _ ⟨bs, rfl, rfl⟩) | (refine Xg.call (EnF.st rfl (Args.cons rfl (Args.cons rfl Args.nil))) rfl rfl (within1_spec ⟨T.dl, T.dh⟩ m _ _ _ _ _ (List.Mem.head _)) ?_; rintro _ H9 ⟨rfl, hH9⟩; subst H9) | (refine Xg.call (EnF.st rfl (Args.cons rfl (Args.cons rfl Args.nil))) rfl rfl (count_spec T p l _ hin (by omega)) ?_; rintro _ H9 ⟨rfl, hH9⟩; subst H9) | (refine Xg.call (EnF.st rfl (Args.cons rfl Args.nil)) rfl rfl (hq _) ?_; rintro _ H9 ⟨rfl, hH9⟩; subst H9) | (refine Xg.call (EnF.st rfl (Args.cons rfl (Args.cons rfl Args.nil))) rfl rfl (lknown_spec _ _ _) ?_; rintro _ H9 ⟨rfl, hH9⟩; subst H9) | (refine Xg.ev (EvF.move rfl rfl) rfl rfl ?_) | (refine Xg.ev (EvF.assign rfl rfl) rfl rfl ?_) | (refine Xg.ev (EvF.cmp rfl rfl rfl rfl) rfl rfl ?_) | (refine Xg.ev (EvF.fieldAddr rfl rfl (te rfl) rfl (te rfl) (by decide)) rfl rfl ?_) | (refine Xg.ev (EvF.loadV rfl rfl (LoadV.whole (te rfl) rfl (List.Mem.tail _ (List.Mem.head _)) rfl)) rfl rfl ?_) | (refine Xg.st (StF.boxAgg rfl rfl) rfl rfl ?_; rintro _ _ ⟨bx, rfl, rfl⟩))))) | (refine XO.done rfl ?_; refine hK _ _ ?_; clear hK K) | refine X.seq rfl ?_ | refine X.region rfl (fun K hK => ?_) | refine X.skip rfl ?_ | refine X.ret rfl ?_ | (refine X.ite rfl rfl (fun hc => ?_); (first | (with_reducible refine Xb.case hc (fun h => ?_) (fun h => ?_))) <;> clear hc))
  all_goals (refine ret_one (by first | exact .inr rfl | exact .inl rfl) Tryz.results54 rfl (H' := H) (by (repeat (first | exact List.Sublist.refl _ | apply List.Sublist.cons)); done) ?_; simp only [and_true, true_and])
  · rw [if_pos (by assumption)]; rfl
  · rw [if_neg (by assumption)]; rfl
def vals (T : Tm) (l : Lo) : List Int := (cls T l).map (fun c => val T c.g c.s)
def rng (T : Tm) (l : Lo) : Sp := ⟨minL (vals T l), maxL (vals T l)⟩
theorem cls_in {T : Tm} {l : Lo} (h : inb l) {c : Cl} (hc : c ∈ cls T l) : (1 ≤ c.g ∧ c.g ≤ 9) ∧ (1 ≤ c.s ∧ c.s ≤ 9) := by
  unfold inb at h
  unfold cls clsI rowC at hc
  obtain ⟨g, hg, hc⟩ := List.mem_flatMap.1 hc
  obtain ⟨s, hs, rfl⟩ := List.mem_map.1 (List.mem_filter.1 hc).1
  unfold ir at hg hs
  obtain ⟨i, hi, rfl⟩ := List.mem_map.1 hg
  obtain ⟨j, hj, rfl⟩ := List.mem_map.1 hs
  rw [List.mem_range] at hi hj
  dsimp only
  omega
theorem OutC.pos {k : List Cl} {v : Value} {Z : List Row} (h : OutC k v Z) (h0 : 0 < k.length) : ∃ b q, v = .slice (some ⟨b, 0, none⟩) k.length q ∧ Z = [⟨b, 0, k.flatMap cCl, some 27, q * 2⟩] := by
  rcases h with ⟨e0, _, _⟩ | h
  · rw [e0] at h0; exact absurd h0 (Nat.lt_irrefl _)
  · exact h
def tsRn : List TOp := [⟨some 5, [], [], []⟩, ⟨some 6, [], [], []⟩, ⟨some 7, [0, 1], [0, 1], []⟩, ⟨some 8, [0, 1, 2], [2], [2]⟩, ⟨some 9, [], [], []⟩, ⟨some 10, [4], [4], []⟩, ⟨some 11, [0, 1, 2, 3, 4, 5], [3, 5], [3]⟩, ⟨some 4, [0, 1, 2, 3, 4, 5, 6], [6], []⟩]
def valRn (b1 b2 b3 : Nat) (T : Tm) (p : Pt) (l : Lo) (k : Nat) (env : Env) : Value :=
  match k with
  | 0 => .agg (cTm T p).toArray
  | 1 => .agg (cLo l).toArray
  | 2 => .func (.func 106) #[] #[.pointer (some ⟨(env 2).1, 0, none⟩), .pointer (some ⟨(env 2).2, 0, none⟩)]
  | 3 => .slice (some ⟨(env 3).1, 0, none⟩) (cls T l).length (env 3).2
  | 4 => .agg (cTm T p).toArray
  | 5 => .func (.func 48) #[.agg (cTm T p).toArray] #[]
  | 6 => .slice (some ⟨(env 6).1, 0, none⟩) (cls T l).length (env 6).2
  | 7 => .slice (some ⟨(env 6).1, 0, none⟩) (cls T l).length (env 6).2
  | _ => undef
def rowsRn (b1 b2 b3 : Nat) (T : Tm) (p : Pt) (l : Lo) (k : Nat) (env : Env) : List Row :=
  match k with
  | 2 => [⟨(env 2).1, 0, cLo l, some 92, 4⟩, ⟨(env 2).2, 0, cTm T p, some 99, 11⟩]
  | 3 => [⟨(env 3).1, 0, (cls T l).flatMap cCl, some 27, (env 3).2 * 2⟩, ⟨(env 2).1, 0, cLo l, some 92, 4⟩, ⟨(env 2).2, 0, cTm T p, some 99, 11⟩]
  | 6 => [rI (vals T l) (env 6).1 (env 6).2, ⟨(env 3).1, 0, (cls T l).flatMap cCl, some 27, (env 3).2 * 2⟩, ⟨(env 2).1, 0, cLo l, some 92, 4⟩, ⟨(env 2).2, 0, cTm T p, some 99, 11⟩]
  | _ => []
theorem locRn (b1 b2 b3 : Nat) (T : Tm) (p : Pt) (l : Lo) : ∀ k env i q9, i ≠ k → (tAt tsRn k).sup.contains i = false → valRn b1 b2 b3 T p l k (upd env i q9) = valRn b1 b2 b3 T p l k env ∧ rowsRn b1 b2 b3 T p l k (upd env i q9) = rowsRn b1 b2 b3 T p l k env := by
  intro k env i q hk hs
  have hu : ∀ j, j ≠ i → upd env i q j = env j := fun j hj => by unfold upd; rw [if_neg hj]
  match k, hk, hs with
  | 0, _, _ => exact ⟨rfl, rfl⟩
  | 1, _, _ => exact ⟨rfl, rfl⟩
  | 2, hk, hs => exact ⟨by simp only [valRn, hu 2 (fun e => hk e.symm)], by simp only [rowsRn, hu 2 (fun e => hk e.symm)]⟩
  | 3, hk, hs => exact ⟨by simp only [valRn, hu 2 (by rintro rfl; cases hs), hu 3 (fun e => hk e.symm)], by simp only [rowsRn, hu 2 (by rintro rfl; cases hs), hu 3 (fun e => hk e.symm)]⟩
  | 4, _, _ => exact ⟨rfl, rfl⟩
  | 5, _, _ => exact ⟨rfl, rfl⟩
  | 6, hk, hs => exact ⟨by simp only [valRn, hu 2 (by rintro rfl; cases hs), hu 3 (by rintro rfl; cases hs), hu 6 (fun e => hk e.symm)], by simp only [rowsRn, hu 2 (by rintro rfl; cases hs), hu 3 (by rintro rfl; cases hs), hu 6 (fun e => hk e.symm)]⟩
  | 7, hk, hs => exact ⟨by simp only [valRn, hu 6 (by rintro rfl; cases hs)], by simp only [rowsRn, hu 6 (by rintro rfl; cases hs)]⟩
  | _ + 8, _, _ => exact ⟨rfl, rfl⟩
set_option maxHeartbeats 8000000 in
theorem range1_spec (T : Tm) (p : Pt) (l : Lo) (bl cap : Nat) (ow : Option Kd) (H : List Row) (hl : ⟨bl, 0, cLo l, ow, cap⟩ ∈ H) (hT : TmOk H T p) (hok : tmOk T) (h : inb l) (h0 : 0 < (cls T l).length) :
    Fc Tryz.prog 68 ([.agg (cTm T p).toArray] ++ [.pointer (some ⟨bl, 0, none⟩)]) H (fun v H' => v = .agg (cSp (rng T l)).toArray ∧ H' = H) := by
  show Fc Tryz.prog 68 [.agg (cTm T p).toArray, .pointer (some ⟨bl, 0, none⟩)] H _
  have hc := cls_len T h
  have hi := h
  unfold inb at hi
  have hp := hok.num.1
  have hvl : (vals T l).length = (cls T l).length := by unfold vals; rw [List.length_map]
  refine Fc.mk (callable Tryz.call68) Tryz.func68 rfl Tryz.ntmps68 rfl ?_; dsimp only [fr]
  refine X.seq rfl ?_; refine X.region rfl (fun K hK => ?_); repeat' (first | (refine XO.op rfl ?_; (first | ((first | refine Xo.ng rfl ?_); (first | (refine Xg.st (StF.boxAgg rfl rfl) rfl rfl ?_; rintro _ _ ⟨bx, rfl, rfl⟩) | (refine Xg.st (StF.alloc rfl Tryz.zeroValue30 rfl) rfl rfl ?_; rintro _ _ ⟨bx, rfl, rfl⟩))))) | (refine XO.done rfl ?_; refine hK _ _ ?_; clear hK K))
  rename_i b2; rename Nat => b3
  refine X.seq rfl ?_
  refine X.regionOb tsRn [1, 2, 3] [(1, .pointer (some ⟨bl, 0, none⟩)), (2, .pointer (some ⟨b2, 0, none⟩)), (3, .pointer (some ⟨b3, 0, none⟩))] (valRn bl b2 b3 T p l) (rowsRn bl b2 b3 T p l) (fun _ => (0, 0)) (⟨b3, 0, cSp ⟨0, 0⟩, some 30, 2⟩ :: ⟨b2, 0, cTm T p, some 99, 11⟩ :: H) rfl mixed (by (repeat (first | exact Sub.nil _ | refine Sub.cons rfl ?_)); done) rfl (by kernel_rfl) (locRn bl b2 b3 T p l) (List.Sublist.refl _) ?_ ?_
  · have hs : ∀ (S Z : List Row), (∀ r ∈ ⟨b3, 0, cSp ⟨0, 0⟩, some 30, 2⟩ :: ⟨b2, 0, cTm T p, some 99, 11⟩ :: H, r ∈ S) → TmOk (Z ++ S) T p := fun S Z hS => hT.sub (fun r hr => List.mem_append_right _ (hS r (List.mem_append_right [_, _] hr)))
    repeat' (first | exact AllF.done rfl | (refine AllF.step rfl ?_ ?_; · (first | fail | ((first | refine Ob.ng rfl ?_); (first | exact ObK.pure (fun env R hR => by exact ⟨_, EvF.assign rfl rfl, rfl⟩) rfl (fun _ => rfl) | exact ObK.pure (fun env R hR => by exact ⟨_, EvF.loadV rfl rfl (LoadV.whole (te rfl) rfl (hR _ (List.Mem.tail _ (List.Mem.head _))) rfl), rfl⟩) rfl (fun _ => rfl) | (exact ObK.pure (fun env S hS => ⟨_, EvF.loadV rfl rfl (LoadV.whole (te rfl) rfl (hS _ (List.mem_append_right [_, _] hl)) rfl), rfl⟩) rfl (fun _ => rfl)) | (exact ObK.pure (fun env S hS => ⟨_, EvF.makeFunc (fl := [_]) rfl (Args.cons rfl Args.nil) Args.nil, rfl⟩) rfl (fun _ => rfl)) | (exact fun env S hS => (OpF.call (EnF.st rfl (Args.cons rfl (Args.cons rfl Args.nil))) (classes_spec T p l _)).mono (fun v H' ⟨x, y, hv, hH⟩ => ⟨(x, y), fun _ => hv, by rw [hH]; exact List.Perm.refl _⟩)) | (exact fun env S hS => (OpF.call (EnF.st rfl (Args.cons rfl Args.nil)) (collect_spec 106 [.pointer (some ⟨(env 2).1, 0, none⟩), .pointer (some ⟨(env 2).2, 0, none⟩)] (⟨(env 2).1, 0, cLo l, some 92, 4⟩ :: ⟨(env 2).2, 0, cTm T p, some 99, 11⟩ :: S) (cls T l) (classes1_it T p l _ _ _ _ _ _ _ (List.Mem.head _) (List.Mem.tail _ (List.Mem.head _)) (by omega)) (by omega))).mono (fun v H' ⟨Z, hO, hH⟩ => by obtain ⟨b, q, hv, hZ⟩ := hO.pos h0; exact ⟨(b, q), fun _ => hv, by rw [hH, hZ]; exact List.Perm.refl _⟩)) | (exact fun env S hS => (OpF.call (EnF.st rfl (Args.cons rfl (Args.cons rfl Args.nil))) (numbersCl_spec 48 [.agg (cTm T p).toArray] [] (fun c => val T c.g c.s) (cls T l) (some ⟨(env 3).1, 0, none⟩) (env 3).2 (⟨(env 3).1, 0, (cls T l).flatMap cCl, some 27, (env 3).2 * 2⟩ :: ⟨(env 2).1, 0, cLo l, some 92, 4⟩ :: ⟨(env 2).2, 0, cTm T p, some 99, 11⟩ :: S) (SlE.ofRow (List.Mem.head _) (fun _ _ => rfl)) (by omega) h0 (fun e he Z => value_spec T p e _ (hT.sub (fun r hr => List.mem_append_right _ (List.mem_append_right [_, _, _] (hS r (List.mem_append_right [_, _] hr))))) hok.gr hok.st (by omega) (cls_in h he).1 (cls_in h he).2))).mono (fun v H' ⟨b, q, hv, hH⟩ => ⟨(b, q), fun _ => hv, by rw [hH]; exact List.Perm.refl _⟩)))))))
  · intro env t ha hv
    refine ⟨_, ha.cons (hv 7 4 (Nat.le_of_ble_eq_true rfl) rfl), ?_⟩
    clear hv ha
    show X _ _ _ ((4, .slice (some ⟨(env 6).1, 0, none⟩) (cls T l).length (env 6).2) :: _) (rI (vals T l) (env 6).1 (env 6).2 :: ⟨(env 3).1, 0, (cls T l).flatMap cCl, some 27, (env 3).2 * 2⟩ :: ⟨(env 2).1, 0, cLo l, some 92, 4⟩ :: ⟨(env 2).2, 0, cTm T p, some 99, 11⟩ :: ⟨b3, 0, cSp ⟨0, 0⟩, some 30, 2⟩ :: ⟨b2, 0, cTm T p, some 99, 11⟩ :: H) _
    rw [← hvl]
    have hv1 : ∀ Z : List Row, SlE (rI (vals T l) (env 6).1 (env 6).2 :: Z) (some ⟨(env 6).1, 0, none⟩) cI 1 (vals T l) := fun Z => SlE.ofRow (List.Mem.head _) (fun _ _ => rfl)
    repeat' (first | (refine XO.op rfl ?_; (first | ((first | refine Xo.ng rfl ?_); (first | (refine Xg.call (EnF.st rfl (Args.cons rfl Args.nil)) rfl rfl (minI_spec (vals T l) _ _ _ (hv1 _) (by omega) (by omega)) ?_; rintro _ H9 ⟨rfl, hH9⟩; subst H9) | (refine Xg.call (EnF.st rfl (Args.cons rfl Args.nil)) rfl rfl (maxI_spec (vals T l) _ _ _ (hv1 _) (by omega) (by omega)) ?_; rintro _ H9 ⟨rfl, hH9⟩; subst H9) | (refine Xg.ev (EvF.build (cs := cSp (rng T l)) rfl (ArgsP.cons rfl (ArgsP.cons rfl ArgsP.nil)) (te rfl) (Places.cons (te rfl) (Places.cons (te rfl) Places.nil)) Tryz.zeroValue30 rfl) rfl rfl ?_) | (refine Xg.ev (EvF.move rfl rfl) rfl rfl ?_) | (refine Xg.st0 (StF.storeAll (i := 4) rfl rfl rfl (te rfl) rfl rfl rfl rfl) rfl ?_; rintro _ _ ⟨rfl, rfl⟩; dsimp only [List.set]))))) | (refine XO.done rfl ?_; refine hK _ _ ?_; clear hK K) | refine X.seq rfl ?_ | refine X.region rfl (fun K hK => ?_) | refine X.ret rfl ?_)
    exact ret_one (v := .agg (cSp (rng T l)).toArray) (by first | exact .inr rfl | exact .inl rfl) Tryz.results68 ⟨_, rfl, LoadV.whole (te rfl) rfl (List.Mem.tail _ (List.Mem.tail _ (List.Mem.tail _ (List.Mem.tail _ (List.Mem.head _))))) rfl⟩ (H' := H) (by (repeat (first | exact List.Sublist.refl _ | apply List.Sublist.cons)); done) ⟨rfl, rfl⟩
theorem ltoldS_spec (T : Tm) (p : Pt) (e : Int) (f : Nat) (cap : List Value) (r : Sp) (H : List Row)
    (ht : e = 0 → ∀ Z : List Row, Fc Tryz.prog f ([.agg (cTm T p).toArray] ++ cap) (Z ++ H) (fun v H' => v = .agg (cSp r).toArray ∧ H' = Z ++ H)) :
    Fc Tryz.prog 104 [.agg (cTm T p).toArray, .int .i64 e, .func (.func f) #[] cap.toArray] H (fun v H' => v = .tuple #[.agg (cSp (if e = 0 then r else ⟨0, 0⟩)).toArray, .int .i64 e] ∧ H' = H) := by
  by_cases h0 : e = 0
  · subst h0
    rw [if_pos rfl]
    have ht2 : ∀ a b : Row, Fc Tryz.prog f ([.agg (cTm T p).toArray] ++ cap) (a :: b :: H) (fun v H' => v = .agg (cSp r).toArray ∧ H' = a :: b :: H) := fun a b => ht rfl [a, b]
    refine Fc.mk (callable Tryz.call104) Tryz.func104 rfl Tryz.ntmps104 rfl ?_; dsimp only [fr]
    repeat' (first | (refine XO.op rfl ?_; (first | ((first | refine Xo.ng rfl ?_); (first | (refine Xg.call (EnF.dyn0 rfl rfl (by (repeat (first | exact Args.nil | refine Args.cons rfl ?_)); done)) rfl rfl (ht2 _ _) ?_; rintro _ H9 ⟨rfl, hH9⟩; subst H9) | (refine Xg.ev (EvF.move rfl rfl) rfl rfl ?_) | (refine Xg.ev (EvF.assign rfl rfl) rfl rfl ?_) | (refine Xg.ev (EvF.cmp rfl rfl rfl rfl) rfl rfl ?_) | (refine Xg.ev (EvF.loadV rfl rfl (LoadV.whole (te rfl) rfl (List.Mem.head _) rfl)) rfl rfl ?_) | (refine Xg.ev (EvF.loadV rfl rfl (LoadV.whole (te rfl) rfl (List.Mem.tail _ (List.Mem.head _)) rfl)) rfl rfl ?_) | (refine Xg.st (StF.boxAgg rfl rfl) rfl rfl ?_; rintro _ _ ⟨bx, rfl, rfl⟩) | (refine Xg.st (StF.alloc rfl Tryz.zeroValue30 rfl) rfl rfl ?_; rintro _ _ ⟨bx, rfl, rfl⟩) | (refine Xg.st0 (StF.storeAll (i := 0) rfl rfl rfl (te rfl) rfl rfl rfl rfl) rfl ?_; rintro _ _ ⟨rfl, rfl⟩; dsimp only [List.set]) | (refine Xg.st0 (StF.storeAll (i := 1) rfl rfl rfl (te rfl) rfl rfl rfl rfl) rfl ?_; rintro _ _ ⟨rfl, rfl⟩; dsimp only [List.set]))))) | (refine XO.done rfl ?_; refine hK _ _ ?_; clear hK K) | refine X.seq rfl ?_ | refine X.region rfl (fun K hK => ?_) | refine X.skip rfl ?_ | refine X.ret rfl ?_ | (refine X.ite rfl rfl (fun hc => ?_); (first | (with_reducible refine Xb.caseN hc (fun h => ?_) (fun h => ?_))) <;> clear hc))
    all_goals try (exfalso; contradiction)
    exact ret_two (v := .agg (cSp r).toArray) (by first | exact .inr rfl | exact .inl rfl) Tryz.results104 ⟨_, rfl, LoadV.whole (te rfl) rfl (List.Mem.head _) rfl⟩ rfl (H' := H) (by (repeat (first | exact List.Sublist.refl _ | apply List.Sublist.cons)); done) ⟨rfl, rfl⟩
  · rw [if_neg h0]
    refine Fc.mk (callable Tryz.call104) Tryz.func104 rfl Tryz.ntmps104 rfl ?_; dsimp only [fr]
    repeat' (first | (refine XO.op rfl ?_; (first | ((first | refine Xo.ng rfl ?_); (first | (refine Xg.ev (EvF.cmp (b := true) rfl rfl rfl (congrArg some (by simp [h0]))) rfl rfl ?_) | (refine Xg.ev (EvF.move rfl rfl) rfl rfl ?_) | (refine Xg.ev (EvF.assign rfl rfl) rfl rfl ?_) | (refine Xg.ev (EvF.loadV rfl rfl (LoadV.whole (te rfl) rfl (List.Mem.head _) rfl)) rfl rfl ?_) | (refine Xg.st (StF.boxAgg rfl rfl) rfl rfl ?_; rintro _ _ ⟨bx, rfl, rfl⟩) | (refine Xg.st (StF.alloc rfl Tryz.zeroValue30 rfl) rfl rfl ?_; rintro _ _ ⟨bx, rfl, rfl⟩) | (refine Xg.st0 (StF.storeAll (i := 1) rfl rfl rfl (te rfl) rfl rfl rfl rfl) rfl ?_; rintro _ _ ⟨rfl, rfl⟩; dsimp only [List.set]))))) | (refine XO.done rfl ?_; refine hK _ _ ?_; clear hK K) | refine X.seq rfl ?_ | refine X.region rfl (fun K hK => ?_) | refine X.ret rfl ?_ | (refine X.ite rfl rfl (fun hc => ?_); (first | (with_reducible refine Xb.t hc ?_)) <;> clear hc))
    all_goals try (exfalso; contradiction)
    exact ret_two (v := .agg (cSp ⟨0, 0⟩).toArray) (by first | exact .inr rfl | exact .inl rfl) Tryz.results104 ⟨_, rfl, LoadV.whole (te rfl) rfl (List.Mem.tail _ (List.Mem.head _)) rfl⟩ rfl (H' := H) (by (repeat (first | exact List.Sublist.refl _ | apply List.Sublist.cons)); done) ⟨rfl, rfl⟩
set_option maxHeartbeats 4000000 in
theorem toldS_spec (T : Tm) (p : Pt) (A : Ab) (q : Pa) (f : Nat) (cap : List Value) (r : Sp) (H : List Row) (hT : TmOk H T p) (hA : AbOk H A q) (hd : HD A) (hi : HI A)
    (ht : openE T A = 0 → ∀ Z : List Row, Fc Tryz.prog f ([.agg (cTm T p).toArray] ++ cap) (Z ++ H) (fun v H' => v = .agg (cSp r).toArray ∧ H' = Z ++ H)) :
    Fc Tryz.prog 67 [.agg (cTm T p).toArray, .agg (cAb A q).toArray, .func (.func f) #[] cap.toArray] H (fun v H' => v = .tuple #[.agg (cSp (if openE T A = 0 then r else ⟨0, 0⟩)).toArray, .int .i64 (openE T A)] ∧ H' = H) := by
  have hT4 : ∀ Z : List Row, TmOk (Z ++ H) T p := fun Z => hT.sub (fun _ h => List.mem_append_right _ h)
  have hA4 : ∀ Z : List Row, AbOk (Z ++ H) A q := fun Z => hA.sub (fun _ h => List.mem_append_right _ h)
  obtain ⟨TX, pX, hTX, hop⟩ := open_fn T p A hd hi
  have hl : ∀ Z : List Row, Fc Tryz.prog 104 [.agg (cTm TX pX).toArray, .int .i64 (openE T A), .func (.func f) #[] cap.toArray] (Z ++ H) (fun v H' => v = .tuple #[.agg (cSp (if openE T A = 0 then r else ⟨0, 0⟩)).toArray, .int .i64 (openE T A)] ∧ H' = Z ++ H) := fun Z => ltoldS_spec TX pX _ f cap r _ (fun h0 Z' => by obtain ⟨rfl, rfl⟩ := hTX h0; rw [← List.append_assoc]; exact ht h0 _)
  obtain ⟨er, her⟩ : ∃ e, openE T A = e := ⟨_, rfl⟩
  obtain ⟨rr, hrr⟩ : ∃ x, (if openE T A = 0 then r else (⟨0, 0⟩ : Sp)) = x := ⟨_, rfl⟩
  rw [hrr, her] at hl
  rw [hrr, her]
  rw [her] at hop
  have hl4 : ∀ a b c d : Row, Fc Tryz.prog 104 [.agg (cTm TX pX).toArray, .int .i64 er, .func (.func f) #[] cap.toArray] (a :: b :: c :: d :: H) (fun v H' => v = .tuple #[.agg (cSp rr).toArray, .int .i64 er] ∧ H' = a :: b :: c :: d :: H) := fun a b c d => hl [a, b, c, d]
  refine Fc.mk (callable Tryz.call67) Tryz.func67 rfl Tryz.ntmps67 rfl ?_; dsimp only [fr]
  repeat' (first | (refine XO.op rfl ?_; (first | ((first | refine Xo.ng rfl ?_); (first | (refine Xg.call (EnF.st rfl (Args.cons rfl (Args.cons rfl Args.nil))) rfl rfl (hop q _ (hT4 [_, _, _]) (hA4 [_, _, _])) ?_; rintro _ H9 ⟨rfl, hH9⟩; subst H9) | (refine Xg.call (EnF.st rfl (Args.cons rfl (Args.cons rfl (Args.cons rfl Args.nil)))) rfl rfl (hl4 _ _ _ _) ?_; rintro _ H9 ⟨rfl, hH9⟩; subst H9) | (refine Xg.ev (EvF.move rfl rfl) rfl rfl ?_) | (refine Xg.ev (EvF.assign rfl rfl) rfl rfl ?_) | (refine Xg.ev (EvF.loadV rfl rfl (LoadV.whole (te rfl) rfl (List.Mem.head _) rfl)) rfl rfl ?_) | (refine Xg.ev (EvF.loadV rfl rfl (LoadV.whole (te rfl) rfl (List.Mem.tail _ (List.Mem.head _)) rfl)) rfl rfl ?_) | (refine Xg.ev (EvF.loadV rfl rfl (LoadV.whole (te rfl) rfl (List.Mem.tail _ (List.Mem.tail _ (List.Mem.head _))) rfl)) rfl rfl ?_) | (refine Xg.ev (EvF.extract rfl rfl rfl) rfl rfl ?_) | (refine Xg.st (StF.boxAgg rfl rfl) rfl rfl ?_; rintro _ _ ⟨bx, rfl, rfl⟩) | (refine Xg.st (StF.alloc rfl Tryz.zeroValue30 rfl) rfl rfl ?_; rintro _ _ ⟨bx, rfl, rfl⟩) | (refine Xg.st (StF.alloc rfl Tryz.zeroValue32 rfl) rfl rfl ?_; rintro _ _ ⟨bx, rfl, rfl⟩) | (refine Xg.st0 (StF.storeAll (i := 0) rfl rfl rfl (te rfl) rfl rfl rfl rfl) rfl ?_; rintro _ _ ⟨rfl, rfl⟩; dsimp only [List.set]) | (refine Xg.st0 (StF.storeAll (i := 1) rfl rfl rfl (te rfl) rfl rfl rfl rfl) rfl ?_; rintro _ _ ⟨rfl, rfl⟩; dsimp only [List.set]))))) | (refine XO.done rfl ?_; refine hK _ _ ?_; clear hK K) | refine X.seq rfl ?_ | refine X.region rfl (fun K hK => ?_) | refine X.ret rfl ?_)
  exact ret_two (v := .agg (cSp rr).toArray) (by first | exact .inr rfl | exact .inl rfl) Tryz.results67 ⟨_, rfl, LoadV.whole (te rfl) rfl (List.Mem.tail _ (List.Mem.head _)) rfl⟩ rfl (H' := H) (by (repeat (first | exact List.Sublist.refl _ | apply List.Sublist.cons)); done) ⟨rfl, rfl⟩
def lotOf (g s : Sp) : Lo := ⟨g.lo, g.hi, s.lo, s.hi⟩
def abK (l : Lo) (m : Int) : Ab := ⟨[], [l], [m], []⟩
def abR (l : Lo) : Ab := ⟨[], [l], [], [l]⟩
theorem inb_of {l : Lo} (h1 : partOk l.g1 l.g2) (h2 : partOk l.s1 l.s2) : inb l := ⟨h1.2.1, h1.2.2, h2.2.1, h2.2.2⟩
theorem HIR {l : Lo} : HI (abR l) := by
  intro hG hS x hx
  simp only [abR, List.mem_cons, List.not_mem_nil, or_false] at hx
  subst hx
  exact inb_of (hG _ (by simp [abR])) (hS _ (by simp [abR]))
noncomputable def knoR (T : Tm) (l : Lo) (m : Int) : Int := if openE T (abK l m) = 0 then knoV T l m else 0
noncomputable def rngR (T : Tm) (l : Lo) : Sp := if openE T (abR l) = 0 then rng T l else ⟨0, 0⟩
set_option maxHeartbeats 4000000 in
theorem kknown_spec (T : Tm) (p : Pt) (g s : Sp) (m : Int) (H : List Row) (hT : TmOk H T p) :
    Fc Tryz.prog 18 [.agg (cTm T p).toArray, .agg (cSp g).toArray, .agg (cSp s).toArray, .int .i64 m] H (fun v H' => v = .tuple #[.int .u8 (knoR T (lotOf g s) m), .int .i64 (openE T (abK (lotOf g s) m))] ∧ H' = H) := by
  have hT3 : ∀ Z : List Row, TmOk (Z ++ H) T p := fun Z => hT.sub (fun _ h => List.mem_append_right _ h)
  refine Fc.mk (callable Tryz.call18) Tryz.func18 rfl Tryz.ntmps18 rfl ?_; dsimp only [fr]
  repeat' (first | (refine XO.op rfl ?_; (first | ((first | refine Xo.ng rfl ?_); (first | (refine Xg.ev (EvF.build (cs := cLo (lotOf g s)) rfl (ArgsP.cons rfl (ArgsP.cons rfl ArgsP.nil)) (te rfl) (Places.cons (te rfl) (Places.cons (te rfl) Places.nil)) Tryz.zeroValue92 rfl) rfl rfl ?_) | (refine Xg.st (StF.buildOne rfl elLo rfl rfl rfl (by decide) (by decide)) rfl rfl ?_; rintro _ _ ⟨bs, rfl, rfl⟩) | (refine Xg.st (StF.buildOne rfl elI rfl rfl rfl (by decide) (by decide)) rfl rfl ?_; rintro _ _ ⟨bt, rfl, rfl⟩) | (refine Xg.ev (EvF.build (cs := cAb (abK (lotOf g s) m) ⟨none, 0, some ⟨bs, 0, none⟩, 1, some ⟨bt, 0, none⟩, 1, none, 0⟩) rfl (ArgsP.cons rfl (ArgsP.cons rfl ArgsP.nil)) (te rfl) (Places.cons (te rfl) (Places.cons (te rfl) (Places.cons (te rfl) (Places.cons (te rfl) Places.nil)))) Tryz.zeroValue97 rfl) rfl rfl ?_) | (refine Xg.ev (EvF.makeFunc rfl Args.nil (Args.cons rfl (Args.cons rfl Args.nil))) rfl rfl ?_) | (refine Xg.call (EnF.st rfl (Args.cons rfl (Args.cons rfl (Args.cons rfl Args.nil)))) rfl rfl (toldU_spec T p (abK (lotOf g s) m) ⟨none, 0, some ⟨bs, 0, none⟩, 1, some ⟨bt, 0, none⟩, 1, none, 0⟩ _ [_, _] (knoV T (lotOf g s) m) _ (hT3 [_, _, _, _, _, _, _]) ⟨sleNil, SlE.ofRow (List.Mem.tail _ (List.Mem.head _)) (fun _ _ => rfl), SlE.ofRow (List.Mem.head _) (fun _ _ => rfl), sleNil, (fun d hd => absurd hd List.not_mem_nil), Nat.zero_le _, Nat.le_of_ble_eq_true rfl, Nat.le_of_ble_eq_true rfl, Nat.zero_le _⟩ HD0 HI0 (fun hE Z => known1_spec T p (lotOf g s) m _ _ _ _ _ _ _ (List.mem_append_right _ (List.Mem.tail _ (List.Mem.tail _ (List.Mem.tail _ (List.Mem.head _))))) (List.mem_append_right _ (List.Mem.tail _ (List.Mem.tail _ (List.Mem.head _)))) (inb_of ((openE_zero hE).2.2.1 _ (List.mem_cons_self ..)) ((openE_zero hE).2.2.2.1 _ (List.mem_cons_self ..))) ((openE_zero hE).2.2.1 (lotOf g s) (List.mem_cons_self ..)).1 ((openE_zero hE).2.2.2.1 (lotOf g s) (List.mem_cons_self ..)).1)) ?_; rintro _ H9 ⟨rfl, hH9⟩; subst H9) | (refine Xg.ev (EvF.assign rfl rfl) rfl rfl ?_) | (refine Xg.ev (EvF.loadV rfl rfl (LoadV.own (te rfl) rfl (List.Mem.tail _ (List.Mem.tail _ (List.Mem.head _))) rfl)) rfl rfl ?_) | (refine Xg.ev (EvF.loadV rfl rfl (LoadV.whole (te rfl) rfl (List.Mem.head _) rfl)) rfl rfl ?_) | (refine Xg.ev (EvF.loadV rfl rfl (LoadV.whole (te rfl) rfl (List.Mem.tail _ (List.Mem.head _)) rfl)) rfl rfl ?_) | (refine Xg.ev (EvF.loadV rfl rfl (LoadV.whole (te rfl) rfl (List.Mem.tail _ (List.Mem.tail _ (List.Mem.head _))) rfl)) rfl rfl ?_) | (refine Xg.ev (EvF.loadV rfl rfl (LoadV.whole (te rfl) rfl (List.Mem.tail _ (List.Mem.tail _ (List.Mem.tail _ (List.Mem.tail _ (List.Mem.head _))))) rfl)) rfl rfl ?_) | (refine Xg.ev (EvF.extract rfl rfl rfl) rfl rfl ?_) | (refine Xg.st (StF.boxAgg rfl rfl) rfl rfl ?_; rintro _ _ ⟨bx, rfl, rfl⟩) | (refine Xg.st (StF.boxOne rfl rfl rfl) rfl rfl ?_; rintro _ _ ⟨bx, rfl, rfl⟩) | (refine Xg.st (StF.alloc rfl Tryz.zeroValue92 rfl) rfl rfl ?_; rintro _ _ ⟨bx, rfl, rfl⟩) | (refine Xg.st0 (StF.storeAll (i := 0) rfl rfl rfl (te rfl) rfl rfl rfl rfl) rfl ?_; rintro _ _ ⟨rfl, rfl⟩; dsimp only [List.set]))))) | (refine XO.done rfl ?_; refine hK _ _ ?_; clear hK K) | refine X.seq rfl ?_ | refine X.region rfl (fun K hK => ?_) | refine X.ret rfl ?_)
  exact ret_two (by first | exact .inr rfl | exact .inl rfl) Tryz.results18 rfl rfl (H' := H) (by (repeat (first | exact List.Sublist.refl _ | apply List.Sublist.cons)); done) ⟨rfl, rfl⟩
set_option maxHeartbeats 4000000 in
theorem krange_spec (T : Tm) (p : Pt) (g s : Sp) (H : List Row) (hT : TmOk H T p) :
    Fc Tryz.prog 25 [.agg (cTm T p).toArray, .agg (cSp g).toArray, .agg (cSp s).toArray] H (fun v H' => v = .tuple #[.agg (cSp (rngR T (lotOf g s))).toArray, .int .i64 (openE T (abR (lotOf g s)))] ∧ H' = H) := by
  have hT3 : ∀ Z : List Row, TmOk (Z ++ H) T p := fun Z => hT.sub (fun _ h => List.mem_append_right _ h)
  have hT7 : ∀ Y Z : List Row, TmOk (Y ++ (Z ++ H)) T p := fun Y Z => hT.sub (fun _ h => List.mem_append_right _ (List.mem_append_right _ h))
  have hpos : openE T (abR (lotOf g s)) = 0 → 0 < (cls T (lotOf g s)).length := fun hE => by
    have := (openE_zero hE).2.2.2.2.2 (lotOf g s) (List.mem_cons_self ..)
    exact Nat.pos_of_ne_zero (fun e => this (by first | exact e | exact List.length_eq_zero_iff.1 e))
  refine Fc.mk (callable Tryz.call25) Tryz.func25 rfl Tryz.ntmps25 rfl ?_; dsimp only [fr]
  repeat' (first | (refine XO.op rfl ?_; (first | ((first | refine Xo.ng rfl ?_); (first | (refine Xg.ev (EvF.build (cs := cLo (lotOf g s)) rfl (ArgsP.cons rfl (ArgsP.cons rfl ArgsP.nil)) (te rfl) (Places.cons (te rfl) (Places.cons (te rfl) Places.nil)) Tryz.zeroValue92 rfl) rfl rfl ?_) | (refine Xg.st (StF.buildOne rfl elLo rfl rfl rfl (by decide) (by decide)) rfl rfl ?_; rintro _ _ ⟨bs, rfl, rfl⟩) | (refine Xg.ev (EvF.assign rfl rfl) rfl rfl ?_) | (refine Xg.ev (EvF.loadV rfl rfl (LoadV.whole (te rfl) rfl (List.Mem.head _) rfl)) rfl rfl ?_) | (refine Xg.ev (EvF.loadV rfl rfl (LoadV.whole (te rfl) rfl (List.Mem.tail _ (List.Mem.head _)) rfl)) rfl rfl ?_) | (refine Xg.ev (EvF.loadV rfl rfl (LoadV.whole (te rfl) rfl (List.Mem.tail _ (List.Mem.tail _ (List.Mem.head _))) rfl)) rfl rfl ?_) | (refine Xg.ev (EvF.loadV rfl rfl (LoadV.whole (te rfl) rfl (List.Mem.tail _ (List.Mem.tail _ (List.Mem.tail _ (List.Mem.tail _ (List.Mem.head _))))) rfl)) rfl rfl ?_) | (refine Xg.st (StF.boxAgg rfl rfl) rfl rfl ?_; rintro _ _ ⟨bx, rfl, rfl⟩) | (refine Xg.st (StF.alloc rfl Tryz.zeroValue30 rfl) rfl rfl ?_; rintro _ _ ⟨bx, rfl, rfl⟩) | (refine Xg.st (StF.alloc rfl Tryz.zeroValue92 rfl) rfl rfl ?_; rintro _ _ ⟨bx, rfl, rfl⟩) | (refine Xg.st0 (StF.storeAll (i := 0) rfl rfl rfl (te rfl) rfl rfl rfl rfl) rfl ?_; rintro _ _ ⟨rfl, rfl⟩; dsimp only [List.set]))))) | (refine XO.done rfl ?_; refine hK _ _ ?_; clear hK K) | refine X.seq rfl ?_ | refine X.region rfl (fun K hK => ?_))
  rename_i b3 b4 b5 b6 b14
  repeat' (first | (refine XO.op rfl ?_; (first | ((first | refine Xo.ng rfl ?_); (first | (refine Xg.ev (EvF.build (cs := cAb (abR (lotOf g s)) ⟨none, 0, some ⟨b14, 0, none⟩, 1, none, 0, some ⟨bs, 0, none⟩, 1⟩) rfl (ArgsP.cons rfl (ArgsP.cons rfl ArgsP.nil)) (te rfl) (Places.cons (te rfl) (Places.cons (te rfl) (Places.cons (te rfl) (Places.cons (te rfl) Places.nil)))) Tryz.zeroValue97 rfl) rfl rfl ?_) | (refine Xg.ev (EvF.makeFunc rfl Args.nil (Args.cons rfl Args.nil)) rfl rfl ?_) | (refine Xg.call (EnF.st rfl (Args.cons rfl (Args.cons rfl (Args.cons rfl Args.nil)))) rfl rfl (toldS_spec T p (abR (lotOf g s)) ⟨none, 0, some ⟨b14, 0, none⟩, 1, none, 0, some ⟨bs, 0, none⟩, 1⟩ _ [_] (rng T (lotOf g s)) _ (hT3 [_, _, _, _, _, _, _]) ⟨sleNil, SlE.ofRow (List.Mem.tail _ (List.Mem.head _)) (fun _ _ => rfl), sleNil, SlE.ofRow (List.Mem.head _) (fun _ _ => rfl), (fun d hd => absurd hd List.not_mem_nil), Nat.zero_le _, Nat.le_of_ble_eq_true rfl, Nat.zero_le _, Nat.le_of_ble_eq_true rfl⟩ HD0 HIR (fun hE Z => range1_spec T p (lotOf g s) _ _ _ _ (List.mem_append_right _ (List.Mem.tail _ (List.Mem.tail _ (List.Mem.head _)))) (hT7 _ [_, _, _, _, _, _, _]) (openE_zero hE).1 (inb_of ((openE_zero hE).2.2.1 _ (List.mem_cons_self ..)) ((openE_zero hE).2.2.2.1 _ (List.mem_cons_self ..))) (hpos hE))) ?_; rintro _ H9 ⟨rfl, hH9⟩; subst H9) | (refine Xg.ev (EvF.assign rfl rfl) rfl rfl ?_) | (refine Xg.ev (EvF.extract rfl rfl rfl) rfl rfl ?_) | (refine Xg.st0 (StF.storeAll (i := 3) rfl rfl rfl (te rfl) rfl rfl rfl rfl) rfl ?_; rintro _ _ ⟨rfl, rfl⟩; dsimp only [List.set]))))) | (refine XO.done rfl ?_; refine hK _ _ ?_; clear hK K) | refine X.ret rfl ?_)
  exact ret_two (v := .agg (cSp (rngR T (lotOf g s))).toArray) (by first | exact .inr rfl | exact .inl rfl) Tryz.results25 ⟨_, rfl, LoadV.whole (te rfl) rfl (List.Mem.tail _ (List.Mem.tail _ (List.Mem.tail _ (List.Mem.head _)))) rfl⟩ rfl (H' := H) (by (repeat (first | exact List.Sublist.refl _ | apply List.Sublist.cons)); done) ⟨rfl, rfl⟩
end Go.Proofs.YtcjlegjchllgjaaGreat
end
section
set_option linter.unusedVariables false
set_option linter.unusedSimpArgs false
namespace Go.Proofs.YtcjlegjchllgjaaGreat
open Go Go.Fw
set_option maxRecDepth 10000
def rowA (g : Int) (l : List Int) : List Cl := l.map (fun s => (⟨g, s⟩ : Cl))
def allI (l : Lo) (gs : List Int) : List Cl := gs.flatMap (fun g => rowA g (ir l.s1 l.s2))
/-- all classes of a lot -/
def allC (l : Lo) : List Cl := allI l (ir l.g1 l.g2)
theorem filter_flatMap' {α β : Type} (f : α → List β) (q : β → Bool) : ∀ l : List α, (l.flatMap f).filter q = l.flatMap (fun x => (f x).filter q)
  | [] => rfl
  | x :: l => by rw [List.flatMap_cons, List.filter_append, filter_flatMap' f q l, List.flatMap_cons]
theorem cls_all (T : Tm) (l : Lo) : cls T l = (allC l).filter (may T) := by
  unfold cls clsI allC allI
  rw [filter_flatMap']; rfl
theorem flatMap_len {α β : Type} (f : α → List β) (n : Nat) (h : ∀ x, (f x).length = n) : ∀ l : List α, (l.flatMap f).length = l.length * n
  | [] => by simp
  | x :: l => by rw [List.flatMap_cons, List.length_append, h, flatMap_len f n h l, List.length_cons, Nat.succ_mul]; omega
theorem allC_len (l : Lo) : (allC l).length = (l.g2 - l.g1 + 1).toNat * (l.s2 - l.s1 + 1).toNat := by
  unfold allC allI
  rw [flatMap_len _ (l.s2 - l.s1 + 1).toNat (fun x => by unfold rowA; rw [List.length_map, ir_len]), ir_len]
theorem allC_size {l : Lo} (h1 : l.g1 ≤ l.g2) (h2 : l.s1 ≤ l.s2) : ((allC l).length : Int) = sizeL l ∧ 0 < (allC l).length := by
  rw [allC_len]
  unfold sizeL
  constructor
  · rw [Int.natCast_mul, Int.toNat_of_nonneg (by omega), Int.toNat_of_nonneg (by omega)]
  · exact Nat.mul_pos (by omega) (by omega)
def qM (T : Tm) (m : Int) (c : Cl) : Bool := may T c && dueB T m
theorem knoV_all {T : Tm} {l : Lo} {m : Int} (h1 : l.g1 ≤ l.g2) (h2 : l.s1 ≤ l.s2) : knoV T l m = if (allC l).all (qM T m) = true then 2 else if (allC l).any (qM T m) = true then 1 else 0 := by
  obtain ⟨hs, h0⟩ := allC_size h1 h2
  unfold knoV cntM
  rw [← hs, cls_all]
  obtain ⟨L, hL⟩ : ∃ L, allC l = L := ⟨_, rfl⟩
  rw [hL] at h0 ⊢
  by_cases hd : T.dl ≤ m ∧ m ≤ T.dh
  · have hb : dueB T m = true := decide_eq_true hd
    have hq : qM T m = may T := by funext c; unfold qM; rw [hb, Bool.and_true]
    rw [if_pos hd, hq]
    have hle := List.length_filter_le (may T) L
    by_cases ha : L.all (may T) = true
    · rw [if_pos ha]
      have : (L.filter (may T)).length = L.length := by
        rw [List.filter_eq_self.2 (List.all_eq_true.1 ha)]
      rw [this, decide_eq_false (by omega : ¬ ((L.length : Int) < L.length))]
      rfl
    · rw [if_neg ha]
      have hlt : (L.filter (may T)).length < L.length := by
        rcases Nat.lt_or_ge (L.filter (may T)).length L.length with h | h
        · exact h
        · exact absurd (List.all_eq_true.2 (List.length_filter_eq_length_iff.1 (Nat.le_antisymm hle h))) ha
      rw [decide_eq_true (by omega : ((L.filter (may T)).length : Int) < L.length)]
      by_cases hn : L.any (may T) = true
      · rw [if_pos hn]
        obtain ⟨c, hc, hcm⟩ := List.any_eq_true.1 hn
        have := List.length_pos_of_mem (List.mem_filter.2 ⟨hc, hcm⟩)
        rw [decide_eq_true (by omega : ((L.filter (may T)).length : Int) > 0)]
        rfl
      · rw [if_neg hn]
        have : L.filter (may T) = [] := List.filter_eq_nil_iff.2 (fun c hc hm => hn (List.any_eq_true.2 ⟨c, hc, hm⟩))
        rw [this]
        rfl
  · have hb : dueB T m = false := decide_eq_false hd
    have hq : qM T m = fun _ => false := by funext c; unfold qM; rw [hb, Bool.and_false]
    rw [if_neg hd, hq, decide_eq_true (by omega : (0 : Int) < L.length)]
    rw [if_neg (by cases L <;> simp_all), if_neg (by simp)]
    rfl
end Go.Proofs.YtcjlegjchllgjaaGreat
end
section
set_option linter.unusedVariables false
set_option linter.unusedSimpArgs false
namespace Go.Proofs.YtcjlegjchllgjaaGreat
open Go Go.Fw
set_option maxRecDepth 10000
def fnd : List Cl → Bool
  | [] => false
  | _ :: _ => true
theorem fnd_snoc (l : List Cl) (c : Cl) : fnd (l ++ [c]) = true := by cases l <;> rfl
theorem fnd_false {l : List Cl} (h : fnd l = false) : l = [] := by cases l with | nil => rfl | cons => cases h
end Go.Proofs.YtcjlegjchllgjaaGreat
end
