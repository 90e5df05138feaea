/- TermsMonths: for all terms and every list of days the law returns true (the month that is the cheapest, its class, what it costs, and the error, are those of the reference, own and input stay), and each argument reads afterwards as before. No condition. -/
import Derived.Test.YtcjlegjchllgjaaW03
section
set_option linter.unusedVariables false
set_option linter.unusedSimpArgs false
namespace Go.Proofs.Ytcjlegjchllgjaa
open Go Go.Fw
set_option maxRecDepth 10000
def lstN (T : Tm) (d : Dy) : Int := coF T d (chp T d)
/-- the month, the class and what it costs, of the first days -/
def mst (T : Tm) (l : List Dy) : Nat → Int × Cl × Int
  | 0 => (0, ⟨0, 0⟩, 0)
  | k + 1 => match l[k]? with
    | some d => if k = 0 ∨ lstN T d < (mst T l k).2.2 then (T.dl + k, chp T d, lstN T d) else mst T l k
    | none => mst T l k
theorem mst_step {T : Tm} {l : List Dy} {k : Nat} {d : Dy} (h : l[k]? = some d) : mst T l (k + 1) = if k = 0 ∨ lstN T d < (mst T l k).2.2 then (T.dl + k, chp T d, lstN T d) else mst T l k := by
  show (match l[k]? with | some d => _ | none => _) = _
  rw [h]
def allD (l : List Dy) : Prop := ∀ d ∈ l, dayOk d
noncomputable instance (l : List Dy) : Decidable (allD l) := Classical.propDecidable _
noncomputable def monE (T : Tm) (l : List Dy) : Int := if tmOk T then (if (l.length : Int) = T.dh - T.dl + 1 then (if allD l then 0 else 43) else 2) else 40
noncomputable def monR (T : Tm) (l : List Dy) : Int × Cl × Int := if monE T l = 0 then mst T l l.length else (0, ⟨0, 0⟩, 0)
def abM (l : List Dy) : Ab := ⟨l, [], [], []⟩
structure DsOk (H : List Row) (l : List Dy) (a : Option Addr) : Prop where
  sl : SlE H a cDy 3 l
  each : ∀ d ∈ l, DyOk H d
theorem DsOk.sub {H H' : List Row} {l : List Dy} {a : Option Addr} (h : DsOk H l a) (hs : ∀ r ∈ H, r ∈ H') : DsOk H' l a := ⟨h.sl.sub hs, fun d hd => (h.each d hd).sub hs⟩
theorem tripT {T : Tm} {l : List Dy} {e : Int} (h : monE T l = e) (h0 : e ≠ 0) : monR T l = (0, ⟨0, 0⟩, 0) := by unfold monR; rw [h, if_neg h0]
def MonRes (T : Tm) (l : List Dy) (v : Value) : Prop := v = .tuple #[.int .i64 (monR T l).1, .agg (cCl (monR T l).2.1).toArray, .int .i64 (monR T l).2.2, .int .i64 (monE T l)]
def tsMa : List TOp := [⟨some 49, [], [], []⟩, ⟨some 50, [], [], []⟩, ⟨some 51, [], [], []⟩, ⟨some 52, [], [], []⟩, ⟨some 53, [2, 3], [2, 3], []⟩, ⟨some 54, [2, 3, 4], [4], []⟩, ⟨some 55, [1, 2, 3, 4, 5], [1, 5], []⟩, ⟨some 56, [1, 2, 3, 4, 5, 6], [6], []⟩, ⟨some 57, [0, 1, 2, 3, 4, 5, 6, 7], [0, 7], []⟩, ⟨some 48, [0, 1, 2, 3, 4, 5, 6, 7, 8], [8], []⟩, ⟨some 58, [0, 1, 2, 3, 4, 5, 6, 7, 8, 9], [9], []⟩, ⟨some 59, [0, 1, 2, 3, 4, 5, 6, 7, 8, 9], [9], []⟩, ⟨some 11, [], [], []⟩, ⟨none, [0, 1, 2, 3, 4, 5, 6, 7, 8, 9, 10, 12], [12, 10], [12]⟩, ⟨some 12, [0, 1, 2, 3, 4, 5, 6, 7, 8, 9, 10, 11, 12, 13], [11], []⟩]
def valMa (b2 b5 b8 lb lo n cc kk : Nat) (mo nk m : Int) (T : Tm) (p : Pt) (d : Dy) (x : Cl) (k : Nat) (env : Env) : Value :=
  match k with
  | 0 => .agg (cTm T p).toArray
  | 1 => .agg (cTm T p).toArray
  | 2 => .slice (some ⟨lb, lo, none⟩) n cc
  | 3 => .int .i64 (kk : Nat)
  | 4 => .pointer (some ⟨lb, lo + kk * 3, none⟩)
  | 5 => .agg (cDy d).toArray
  | 6 => .agg (cMk T p d).toArray
  | 7 => fMk T p d
  | 8 => .tuple #[.agg (cCl x).toArray, .int .i64 m]
  | 9 => .tuple #[.agg (cCl x).toArray, .int .i64 m]
  | 10 => .agg (cCl x).toArray
  | 11 => .int .i64 m
  | 12 => .pointer (some ⟨(env 12).1, 0, none⟩)
  | 13 => undef
  | 14 => .int .i64 m
  | _ => undef
def rowsMa (b2 b5 b8 lb lo n cc kk : Nat) (mo nk m : Int) (T : Tm) (p : Pt) (d : Dy) (x : Cl) (k : Nat) (env : Env) : List Row :=
  match k with
  | 12 => [⟨(env 12).1, 0, cCl ⟨0, 0⟩, some 23, 2⟩]
  | 13 => [⟨(env 12).1, 0, cCl x, some 23, 2⟩]
  | _ => []
theorem locMa (b2 b5 b8 lb lo n cc kk : Nat) (mo nk m : Int) (T : Tm) (p : Pt) (d : Dy) (x : Cl) : ∀ k env i q9, i ≠ k → (tAt tsMa k).sup.contains i = false → valMa b2 b5 b8 lb lo n cc kk mo nk m T p d x k (upd env i q9) = valMa b2 b5 b8 lb lo n cc kk mo nk m T p d x k env ∧ rowsMa b2 b5 b8 lb lo n cc kk mo nk m T p d x k (upd env i q9) = rowsMa b2 b5 b8 lb lo n cc kk mo nk m T p d x k env := by
  intro k env i q hk hs
  have hu : ∀ j, j ≠ i → upd env i q j = env j := fun j hj => by unfold upd; rw [if_neg hj]
  match k, hk, hs with
  | 0, _, _ => exact ⟨rfl, rfl⟩
  | 1, _, _ => exact ⟨rfl, rfl⟩
  | 2, _, _ => exact ⟨rfl, rfl⟩
  | 3, _, _ => exact ⟨rfl, rfl⟩
  | 4, _, _ => exact ⟨rfl, rfl⟩
  | 5, _, _ => exact ⟨rfl, rfl⟩
  | 6, _, _ => exact ⟨rfl, rfl⟩
  | 7, _, _ => exact ⟨rfl, rfl⟩
  | 8, _, _ => exact ⟨rfl, rfl⟩
  | 9, _, _ => exact ⟨rfl, rfl⟩
  | 10, _, _ => exact ⟨rfl, rfl⟩
  | 11, _, _ => exact ⟨rfl, rfl⟩
  | 12, hk, hs => exact ⟨by simp only [valMa, hu 12 (fun e => hk e.symm)], by simp only [rowsMa, hu 12 (fun e => hk e.symm)]⟩
  | 13, hk, hs => exact ⟨by simp only [valMa, hu 12 (by rintro rfl; cases hs)], by simp only [rowsMa, hu 12 (by rintro rfl; cases hs)]⟩
  | 14, _, _ => exact ⟨rfl, rfl⟩
  | _ + 15, _, _ => exact ⟨rfl, rfl⟩
def tsMb : List TOp := [⟨some 67, [], [], []⟩, ⟨some 68, [0], [0], []⟩, ⟨some 69, [0, 1], [1], []⟩, ⟨some 70, [0, 1, 2], [2], []⟩, ⟨some 71, [], [], []⟩, ⟨some 72, [0, 1, 2, 3, 4], [3, 4], []⟩, ⟨some 73, [], [], []⟩, ⟨some 74, [], [], []⟩, ⟨some 4, [0, 1, 2, 3, 4, 5], [5], []⟩, ⟨none, [0, 1, 2, 3, 4, 5, 6, 8], [6], [11]⟩, ⟨some 6, [0, 1, 2, 3, 4, 5, 6, 7, 8, 9], [7], []⟩, ⟨none, [], [], []⟩]
def valMb (b2 b5 b8 b11 lb lo n cc kk : Nat) (m : Int) (T : Tm) (y x : Cl) (k : Nat) (env : Env) : Value :=
  match k with
  | 0 => .pointer (some ⟨b8, 0, none⟩)
  | 1 => .pointer (some ⟨b8, 7, none⟩)
  | 2 => .pointer (some ⟨b8, 7, none⟩)
  | 3 => .int .i64 T.dl
  | 4 => .int .i64 (kk : Nat)
  | 5 => .int .i64 (T.dl + kk)
  | 6 => .agg (cCl x).toArray
  | 7 => .int .i64 m
  | 8 => .int .i64 (T.dl + kk)
  | 9 => undef
  | 10 => .int .i64 m
  | _ => undef
def rowsMb (b2 b5 b8 b11 lb lo n cc kk : Nat) (m : Int) (T : Tm) (y x : Cl) (k : Nat) (env : Env) : List Row :=
  match k with
  | 9 => [⟨b5, 0, cCl x, some 23, 2⟩]
  | 11 => [⟨b5, 0, cCl y, some 23, 2⟩]
  | _ => []
theorem locMb (b2 b5 b8 b11 lb lo n cc kk : Nat) (m : Int) (T : Tm) (y x : Cl) : ∀ k env i q9, i ≠ k → (tAt tsMb k).sup.contains i = false → valMb b2 b5 b8 b11 lb lo n cc kk m T y x k (upd env i q9) = valMb b2 b5 b8 b11 lb lo n cc kk m T y x k env ∧ rowsMb b2 b5 b8 b11 lb lo n cc kk m T y x k (upd env i q9) = rowsMb b2 b5 b8 b11 lb lo n cc kk m T y x k env := by
  intro k env i q hk hs
  have hu : ∀ j, j ≠ i → upd env i q j = env j := fun j hj => by unfold upd; rw [if_neg hj]
  match k, hk, hs with
  | 0, _, _ => exact ⟨rfl, rfl⟩
  | 1, _, _ => exact ⟨rfl, rfl⟩
  | 2, _, _ => exact ⟨rfl, rfl⟩
  | 3, _, _ => exact ⟨rfl, rfl⟩
  | 4, _, _ => exact ⟨rfl, rfl⟩
  | 5, _, _ => exact ⟨rfl, rfl⟩
  | 6, _, _ => exact ⟨rfl, rfl⟩
  | 7, _, _ => exact ⟨rfl, rfl⟩
  | 8, _, _ => exact ⟨rfl, rfl⟩
  | 9, _, _ => exact ⟨rfl, rfl⟩
  | 10, _, _ => exact ⟨rfl, rfl⟩
  | 11, _, _ => exact ⟨rfl, rfl⟩
  | _ + 12, _, _ => exact ⟨rfl, rfl⟩
def tsMc : List TOp := [⟨some 76, [], [], []⟩, ⟨some 77, [], [], []⟩, ⟨some 78, [], [], []⟩, ⟨some 4, [0], [0], []⟩, ⟨none, [0, 1, 3], [1], [7]⟩, ⟨some 6, [0, 1, 2, 3, 4], [2], []⟩, ⟨some 7, [0, 1, 2, 3, 4, 5], [], []⟩, ⟨none, [], [], []⟩]
def valMc (b5 : Nat) (mo nk : Int) (y : Cl) (k : Nat) (env : Env) : Value :=
  match k with
  | 0 => .int .i64 mo
  | 1 => .agg (cCl y).toArray
  | 2 => .int .i64 nk
  | 3 => .int .i64 mo
  | 4 => undef
  | 5 => .int .i64 nk
  | 6 => .int .i64 0
  | _ => undef
def rowsMc (b5 : Nat) (mo nk : Int) (y : Cl) (k : Nat) (env : Env) : List Row :=
  match k with
  | 4 => [⟨b5, 0, cCl y, some 23, 2⟩]
  | 7 => [⟨b5, 0, cCl y, some 23, 2⟩]
  | _ => []
theorem locMc (b5 : Nat) (mo nk : Int) (y : Cl) : ∀ k env i q9, i ≠ k → (tAt tsMc k).sup.contains i = false → valMc b5 mo nk y k (upd env i q9) = valMc b5 mo nk y k env ∧ rowsMc b5 mo nk y k (upd env i q9) = rowsMc b5 mo nk y k env := by
  intro k env i q hk hs
  have hu : ∀ j, j ≠ i → upd env i q j = env j := fun j hj => by unfold upd; rw [if_neg hj]
  match k, hk, hs with
  | 0, _, _ => exact ⟨rfl, rfl⟩
  | 1, _, _ => exact ⟨rfl, rfl⟩
  | 2, _, _ => exact ⟨rfl, rfl⟩
  | 3, _, _ => exact ⟨rfl, rfl⟩
  | 4, _, _ => exact ⟨rfl, rfl⟩
  | 5, _, _ => exact ⟨rfl, rfl⟩
  | 6, _, _ => exact ⟨rfl, rfl⟩
  | 7, _, _ => exact ⟨rfl, rfl⟩
  | _ + 8, _, _ => exact ⟨rfl, rfl⟩
def rdMc (k : Nat) : List Nat := match k with
  | 1 => [7]
  | _ => []
set_option maxHeartbeats 16000000 in
theorem kMonth_spec (T : Tm) (p : Pt) (l : List Dy) (a : Option Addr) (cc : Nat) (H : List Row) (hT : TmOk H T p) (hl : DsOk H l a) (hb : l.length ≤ 1000) :
    Fc Try.prog 36 [.agg (cTm T p).toArray, .slice a l.length cc] H (fun v H' => MonRes T l v ∧ H' = H) := by
  have hT1 : ∀ Z : List Row, TmOk (Z ++ H) T p := fun Z => hT.sub (fun _ h => List.mem_append_right _ h)
  have hl1 : ∀ Z : List Row, DsOk (Z ++ H) l a := fun Z => hl.sub (fun _ h => List.mem_append_right _ h)
  unfold MonRes
  by_cases hok : tmOk T
  · have hnum := hok.num
    have had : ∀ (Z : List Row), Fc Try.prog 97 [.agg (cTm T p).toArray, .agg (cAb (abM l) ⟨a, cc, none, 0, none, 0, none, 0⟩).toArray] (Z ++ H) (fun v H' => v = .bool (decide (allD l)) ∧ H' = Z ++ H) := fun Z =>
      areDays_spec T p (abM l) ⟨a, cc, none, 0, none, 0, none, 0⟩ (Z ++ H) ⟨(hl1 Z).sl, sleNil, sleNil, sleNil, (hl1 Z).each, (by show l.length ≤ _; omega), Nat.zero_le _, Nat.zero_le _, Nat.zero_le _⟩ (HDall _)
    by_cases hlen : (l.length : Int) = T.dh - T.dl + 1
    · by_cases hd : allD l
      · have hE : monE T l = 0 := by unfold monE; rw [if_pos hok, if_pos hlen, if_pos hd]
        have hR : monR T l = mst T l l.length := by unfold monR; rw [if_pos hE]
        rw [hE, hR]
        simp only [decide_eq_true hd] at had
        have had3 : ∀ r1 r2 r3 : Row, Fc Try.prog 97 [.agg (cTm T p).toArray, .agg (cAb (abM l) ⟨a, cc, none, 0, none, 0, none, 0⟩).toArray] (r1 :: r2 :: r3 :: H) (fun v H' => v = .bool true ∧ H' = r1 :: r2 :: r3 :: H) := fun r1 r2 r3 => had [r1, r2, r3]
        refine Fc.mk (callable Try.call36) Try.func36 rfl Try.ntmps36 rfl ?_; dsimp only [fr]
        repeat' (first | (refine XO.op rfl ?_; (first | ((first | refine Xo.ng rfl ?_); (first | (refine Xg.ev (EvF.build (cs := cAb abO ⟨none, 0, none, 0, none, 0, none, 0⟩) rfl ArgsP.nil (te rfl) (Places.cons (te rfl) (Places.cons (te rfl) (Places.cons (te rfl) (Places.cons (te rfl) Places.nil)))) Try.zeroValue109 rfl) rfl rfl ?_) | (refine Xg.call (EnF.st rfl (Args.cons rfl (Args.cons rfl Args.nil))) rfl rfl (openOk T p _ (hT1 [_, _]) hok) ?_; rintro _ H9 ⟨rfl, hH9⟩; subst H9) | (refine Xg.ev (EvF.build (cs := cAb (abM l) ⟨a, cc, none, 0, none, 0, none, 0⟩) rfl (ArgsP.cons rfl ArgsP.nil) (te rfl) (Places.cons (te rfl) (Places.cons (te rfl) (Places.cons (te rfl) (Places.cons (te rfl) Places.nil)))) Try.zeroValue109 rfl) rfl rfl ?_) | (refine Xg.call (EnF.st rfl (Args.cons rfl (Args.cons rfl Args.nil))) rfl rfl (had3 _ _ _) ?_; rintro _ H9 ⟨rfl, hH9⟩; subst H9) | (refine Xg.ev (EvF.move rfl rfl) rfl rfl ?_) | (refine Xg.ev (EvF.assign rfl rfl) rfl rfl ?_) | (refine Xg.ev (EvF.cmp rfl rfl rfl rfl) rfl rfl ?_) | (refine Xg.ev (EvF.add64 rfl rfl rfl (by omega) (by omega)) rfl rfl ?_) | (refine Xg.ev (EvF.sub64 rfl rfl rfl (by omega) (by omega)) rfl rfl ?_) | (refine Xg.ev (EvF.not rfl rfl) rfl rfl ?_) | (refine Xg.ev (EvF.fieldAddr rfl rfl (te rfl) rfl (te rfl) (by decide)) rfl rfl ?_) | (refine Xg.ev (EvF.lenSlice rfl rfl (te rfl)) rfl rfl ?_) | (refine Xg.ev (EvF.loadV rfl rfl (LoadV.own (te rfl) rfl (List.Mem.head _) rfl)) rfl rfl ?_) | (refine Xg.ev (EvF.loadV rfl rfl (LoadV.whole (te rfl) rfl (List.Mem.tail _ (List.Mem.head _)) rfl)) rfl rfl ?_) | (refine Xg.ev (EvF.loadV rfl rfl (LoadV.whole (te rfl) rfl (List.Mem.tail _ (List.Mem.tail _ (List.Mem.head _))) rfl)) rfl rfl ?_) | (refine Xg.ev (EvF.extract rfl rfl rfl) rfl rfl ?_) | (refine Xg.st (StF.boxAgg rfl rfl) rfl rfl ?_; rintro _ _ ⟨bx, rfl, rfl⟩) | (refine Xg.st (StF.alloc rfl Try.zeroValue26 rfl) rfl rfl ?_; rintro _ _ ⟨bx, rfl, rfl⟩) | (refine Xg.st (StF.alloc rfl Try.zeroValue28 rfl) rfl rfl ?_; rintro _ _ ⟨bx, rfl, rfl⟩) | (refine Xg.st0 (StF.storeAll (i := 0) rfl rfl rfl (te rfl) rfl rfl rfl rfl) rfl ?_; rintro _ _ ⟨rfl, rfl⟩; dsimp only [List.set]))))) | (refine XO.done rfl ?_; refine hK _ _ ?_; clear hK K) | refine X.seq rfl ?_ | refine X.region rfl (fun K hK => ?_) | refine X.block rfl ?_ | refine X.skip rfl ?_ | (refine X.ite rfl rfl (fun hc => ?_); (first | (with_reducible refine Xb.caseN hc (fun h => ?_) (fun h => ?_)) | (with_reducible refine Xb.caseB hc (fun h => ?_) (fun h => ?_))) <;> clear hc))
        all_goals try (exfalso; first | contradiction | omega)
        rename_i b2 b5 h00 h01
        clear h00 h01 h
        obtain ⟨b8, hb8⟩ : ∃ b, b = bx := ⟨_, rfl⟩
        rw [← hb8]
        clear hb8
        refine X.weakR (H' := ⟨b8, 0, cTm T p, some 111, 11⟩ :: ⟨b5, 0, cCl ⟨0, 0⟩, some 23, 2⟩ :: ⟨b2, 0, cTm T p, some 28, 11⟩ :: H) (by (repeat (first | exact List.Sublist.refl _ | apply List.Sublist.cons_cons | apply List.Sublist.cons)); done) ?_
        refine X.permH (H' := ⟨b5, 0, cCl ⟨0, 0⟩, some 23, 2⟩ :: ⟨b8, 0, cTm T p, some 111, 11⟩ :: ⟨b2, 0, cTm T p, some 28, 11⟩ :: H) (List.Perm.swap _ _ _) ?_
        refine X.lp rfl (fun w F' H' => ∃ k : Nat, w = l.length - k ∧ k ≤ l.length ∧ H' = ⟨b5, 0, cCl (mst T l k).2.1, some 23, 2⟩ :: ⟨b8, 0, cTm T p, some 111, 11⟩ :: ⟨b2, 0, cTm T p, some 28, 11⟩ :: H ∧ F' = [(1, .slice a l.length cc), (2, .pointer (some ⟨b2, 0, none⟩)), (4, .int .i64 (mst T l k).1), (5, .pointer (some ⟨b5, 0, none⟩)), (6, .int .i64 (mst T l k).2.2), (8, .pointer (some ⟨b8, 0, none⟩)), (44, .int .i64 l.length), (45, .int .i64 k)])
          l.length [(1, .slice a l.length cc), (2, .pointer (some ⟨b2, 0, none⟩)), (4, .int .i64 (mst T l 0).1), (5, .pointer (some ⟨b5, 0, none⟩)), (6, .int .i64 (mst T l 0).2.2), (8, .pointer (some ⟨b8, 0, none⟩)), (44, .int .i64 l.length), (45, .int .i64 (0 : Nat))] _ (by rw [hlen]; exact (by (repeat (first | exact Sub.nil _ | refine Sub.cons rfl ?_)); done)) (List.Sublist.refl _) ⟨0, rfl, by omega, rfl, rfl⟩ ?_
        rintro _ _ _ ⟨k, rfl, hk, rfl, rfl⟩
        repeat' (first | (refine XO.op rfl ?_; (first | ((first | refine Xo.ng rfl ?_); (first | (refine Xg.ev (EvF.move rfl rfl) rfl rfl ?_) | (refine Xg.ev (EvF.assign rfl rfl) rfl rfl ?_) | (refine Xg.ev (EvF.cmp rfl rfl rfl rfl) rfl rfl ?_))))) | (refine XO.done rfl ?_; refine hK _ _ ?_; clear hK K) | refine X.seq rfl ?_ | refine X.region rfl (fun K hK => ?_) | refine X.block rfl ?_ | (refine X.brk rfl ?_; repeat (first | refine blockX_hit rfl ?_ | refine blockX_miss (by decide) ?_)) | refine X.skip rfl ?_ | (refine X.ite rfl rfl (fun hc => ?_); (first | (with_reducible refine Xb.case hc (fun h => ?_) (fun h => ?_))) <;> clear hc))
        · obtain ⟨lb, lo, d, rfl, he⟩ := hl.sl.elem (i := k) (by omega)
          have hdd := hd d (List.mem_of_getElem? he)
          have hDd := hl.each d (List.mem_of_getElem? he)
          have hst := mst_step (T := T) he
          obtain ⟨⟨mo, y, nk⟩, hm⟩ : ∃ m, mst T l k = m := ⟨_, rfl⟩
          rw [hm] at hst ⊢
          dsimp only at hst ⊢
          refine X.regionOb tsMa [1, 2, 4, 5, 6, 8, 10, 44, 45] [(1, .slice (some ⟨lb, lo, none⟩) l.length cc), (2, .pointer (some ⟨b2, 0, none⟩)), (4, .int .i64 mo), (5, .pointer (some ⟨b5, 0, none⟩)), (6, .int .i64 nk), (8, .pointer (some ⟨b8, 0, none⟩)), (10, .int .i64 (k : Nat)), (44, .int .i64 (l.length : Nat)), (45, .int .i64 (k : Nat))] (valMa b2 b5 b8 lb lo l.length cc k mo nk (lstN T d) T p d (chp T d)) (rowsMa b2 b5 b8 lb lo l.length cc k mo nk (lstN T d) T p d (chp T d)) (fun _ => (0, 0)) (⟨b5, 0, cCl y, some 23, 2⟩ :: ⟨b8, 0, cTm T p, some 111, 11⟩ :: ⟨b2, 0, cTm T p, some 28, 11⟩ :: H) rfl mixed (by (repeat (first | exact Sub.nil _ | refine Sub.cons rfl ?_)); done) rfl (by kernel_rfl) (locMa b2 b5 b8 lb lo l.length cc k mo nk (lstN T d) T p d (chp T d)) (List.Sublist.refl _) ?_ ?_
          · have hs : ∀ (Y : List Row), (∀ r ∈ ⟨b5, 0, cCl y, some 23, 2⟩ :: ⟨b8, 0, cTm T p, some 111, 11⟩ :: ⟨b2, 0, cTm T p, some 28, 11⟩ :: H, r ∈ Y) → TmOk Y T p := fun S hS => hT.sub (fun r hr => hS r (List.mem_append_right [_, _, _] hr))
            have hs2 : ∀ (Y : List Row), (∀ r ∈ ⟨b5, 0, cCl y, some 23, 2⟩ :: ⟨b8, 0, cTm T p, some 111, 11⟩ :: ⟨b2, 0, cTm T p, some 28, 11⟩ :: H, r ∈ Y) → DyOk Y d := fun S hS => hDd.sub (fun r hr => hS r (List.mem_append_right [_, _, _] hr))
            repeat' (first | exact AllF.done rfl | (refine AllF.step rfl ?_ ?_; · (first | fail | ((first | refine Ob.ng rfl ?_); (first | exact ObK.pure (fun env R hR => by exact ⟨_, EvF.move rfl rfl, rfl⟩) rfl (fun _ => rfl) | exact ObK.pure (fun env R hR => by exact ⟨_, EvF.assign rfl rfl, rfl⟩) rfl (fun _ => rfl) | exact ObK.pure (fun env R hR => by exact ⟨_, EvF.loadV rfl rfl (LoadV.whole (te rfl) rfl (hR _ (List.Mem.tail _ (List.Mem.head _))) rfl), rfl⟩) rfl (fun _ => rfl) | ((refine fun env S hS => (StF.ofEv (v := .pointer (some ⟨lb, lo + k * 3, none⟩)) ?_).op.mono (fun v H' ⟨hv, hH⟩ => ⟨(0, 0), fun _ => hv, by rw [hH]; exact List.Perm.refl _⟩); exact EvF.indexSlice (i := (k : Int)) (off := lo) (b := lb) (T := 76) (e := 65) (len := l.length) (ti := ⟨.st [(0, 3), (1, 24), (2, 24)], 3, 56⟩) rfl rfl rfl (te rfl) (te rfl) (by omega) (by omega))) | (exact ObK.pure (fun env S hS => ⟨.agg (cDy d).toArray, EvF.loadV rfl rfl (LoadV.elA0 (n := k) hl.sl he (te rfl) rfl (fun _ h => hS _ (List.mem_append_right [_, _, _] h)) rfl), rfl⟩) rfl (fun _ => rfl)) | (exact ObK.pure (fun env S hS => ⟨_, EvF.build (cs := cMk T p d) rfl (ArgsP.cons rfl (ArgsP.cons rfl ArgsP.nil)) (te rfl) (Places.cons (te rfl) (Places.cons (te rfl) Places.nil)) Try.zeroValue153 rfl, rfl⟩) rfl (fun _ => rfl)) | (exact ObK.pure (fun env S hS => ⟨_, EvF.makeFunc (fl := [_]) rfl (Args.cons rfl Args.nil) Args.nil, rfl⟩) rfl (fun _ => rfl)) | (exact ObK.pure (fun env S hS => ⟨_, EvF.extract rfl rfl rfl, rfl⟩) rfl (fun _ => rfl)) | (exact fun env S hS => OpF.callV (Z := []) (EnF.st rfl (Args.cons rfl (Args.cons rfl Args.nil))) (kcheap_spec T p d _ (hs S hS) hok (hs2 S hS) hdd) rfl rfl) | (exact fun env S hS => (StF.alloc rfl Try.zeroValue23 rfl).op.mono (fun v H' ⟨b, hv, hH⟩ => ⟨(b, 0), fun _ => hv, by rw [hH]; exact List.Perm.refl _⟩)) | (exact fun env S hS => (StF.storeAll (i := 0) (vs := cCl (chp T d)) (cs := cCl ⟨0, 0⟩) rfl rfl rfl (te rfl) rfl rfl rfl rfl).op.mono (fun v H' ⟨hv, hH⟩ => ⟨(0, 0), fun h => absurd rfl h, by rw [hH]; exact List.Perm.refl _⟩)))))))
          intro env t ha hv
          refine ⟨_, (ha.cons (hv 12 11 (Nat.le_of_ble_eq_true rfl) rfl)).cons (hv 14 12 (Nat.le_of_ble_eq_true rfl) rfl), ?_⟩
          clear hv ha
          show X _ _ _ ((12, .int .i64 (lstN T d)) :: (11, .pointer (some ⟨(env 12).1, 0, none⟩)) :: _) (⟨(env 12).1, 0, cCl (chp T d), some 23, 2⟩ :: ⟨b5, 0, cCl y, some 23, 2⟩ :: ⟨b8, 0, cTm T p, some 111, 11⟩ :: ⟨b2, 0, cTm T p, some 28, 11⟩ :: H) _
          obtain ⟨b11, hb11⟩ : ∃ b, b = (env 12).1 := ⟨_, rfl⟩
          rw [← hb11]
          clear hb11 env t
          refine X.permH (H' := ⟨b5, 0, cCl y, some 23, 2⟩ :: ⟨b11, 0, cCl (chp T d), some 23, 2⟩ :: ⟨b8, 0, cTm T p, some 111, 11⟩ :: ⟨b2, 0, cTm T p, some 28, 11⟩ :: H) (List.Perm.swap _ _ _) ?_
          by_cases hc : k = 0
          · rw [if_pos (.inl hc)] at hst
            repeat' (first | (refine XO.op rfl ?_; (first | ((first | refine Xo.ng rfl ?_); (first | (refine Xg.ev (EvF.cmp (b := true) rfl rfl rfl (congrArg some (decide_eq_true (by omega)))) rfl rfl ?_) | (refine Xg.ev (EvF.move rfl rfl) rfl rfl ?_) | (refine Xg.ev (EvF.pickT rfl rfl rfl) rfl rfl ?_))) | (refine Xo.g rfl rfl ?_; (first | (with_reducible refine Xw.tf rfl rfl ?_))))) | (refine XO.done rfl ?_; refine hK _ _ ?_; clear hK K) | refine X.seq rfl ?_ | refine X.region rfl (fun K hK => ?_) | (refine X.ite rfl rfl (fun hc => ?_); (first | (with_reducible refine Xb.t hc ?_)) <;> clear hc))
            all_goals try (exfalso; omega)
            refine X.regionOb tsMb [1, 2, 5, 8, 10, 11, 12, 44, 45] [(1, .slice (some ⟨lb, lo, none⟩) l.length cc), (2, .pointer (some ⟨b2, 0, none⟩)), (5, .pointer (some ⟨b5, 0, none⟩)), (8, .pointer (some ⟨b8, 0, none⟩)), (10, .int .i64 (k : Nat)), (11, .pointer (some ⟨b11, 0, none⟩)), (12, .int .i64 (lstN T d)), (44, .int .i64 (l.length : Nat)), (45, .int .i64 (k : Nat))] (valMb b2 b5 b8 b11 lb lo l.length cc k (lstN T d) T y (chp T d)) (rowsMb b2 b5 b8 b11 lb lo l.length cc k (lstN T d) T y (chp T d)) (fun _ => (0, 0)) (⟨b11, 0, cCl (chp T d), some 23, 2⟩ :: ⟨b8, 0, cTm T p, some 111, 11⟩ :: ⟨b2, 0, cTm T p, some 28, 11⟩ :: H) rfl mixed (by (repeat (first | exact Sub.nil _ | refine Sub.cons rfl ?_)); done) rfl (by kernel_rfl) (locMb b2 b5 b8 b11 lb lo l.length cc k (lstN T d) T y (chp T d)) (List.Sublist.refl _) ?_ ?_
            · repeat' (first | exact AllF.done rfl | (refine AllF.step rfl ?_ ?_; · (first | fail | ((first | refine Ob.ng rfl ?_); (first | exact ObK.pure (fun env R hR => by exact ⟨_, EvF.move rfl rfl, rfl⟩) rfl (fun _ => rfl) | exact ObK.pure (fun env R hR => by exact ⟨_, EvF.assign rfl rfl, rfl⟩) rfl (fun _ => rfl) | exact ObK.pure (fun env R hR => by exact ⟨_, EvF.fieldAddr rfl rfl (te rfl) rfl (te rfl) (by decide), rfl⟩) rfl (fun _ => rfl) | exact ObK.pure (fun env R hR => by exact ⟨_, EvF.loadV rfl rfl (LoadV.own (te rfl) rfl (hR _ (List.Mem.tail _ (List.Mem.head _))) rfl), rfl⟩) rfl (fun _ => rfl) | exact ObK.pure (fun env R hR => by exact ⟨_, EvF.loadV rfl rfl (LoadV.whole (te rfl) rfl (hR _ (List.Mem.head _)) rfl), rfl⟩) rfl (fun _ => rfl) | (exact ObK.pure (fun env S hS => ⟨_, EvF.add64 rfl rfl rfl (by omega) (by omega), rfl⟩) rfl (fun _ => rfl)) | (exact fun env S hS => (StF.storeAll (i := 0) (vs := cCl (chp T d)) (cs := cCl y) rfl rfl rfl (te rfl) rfl rfl rfl rfl).op.mono (fun v H' ⟨hv, hH⟩ => ⟨(0, 0), fun h => absurd rfl h, by rw [hH]; exact List.Perm.refl _⟩)))))))
            intro env t ha hv
            refine ⟨_, (ha.cons (hv 8 4 (Nat.le_of_ble_eq_true rfl) rfl)).cons (hv 10 6 (Nat.le_of_ble_eq_true rfl) rfl), ?_⟩
            clear hv ha
            show X _ _ _ ((6, .int .i64 (lstN T d)) :: (4, .int .i64 (T.dl + k)) :: _) (⟨b5, 0, cCl (chp T d), some 23, 2⟩ :: ⟨b11, 0, cCl (chp T d), some 23, 2⟩ :: ⟨b8, 0, cTm T p, some 111, 11⟩ :: ⟨b2, 0, cTm T p, some 28, 11⟩ :: H) _
            repeat' (first | (refine XO.op rfl ?_; (first | ((first | refine Xo.ng rfl ?_); (first | (refine Xg.ev (EvF.move rfl rfl) rfl rfl ?_) | (refine Xg.ev (EvF.add64 rfl rfl rfl (by omega) (by omega)) rfl rfl ?_))))) | (refine XO.done rfl ?_; refine hK _ _ ?_; clear hK K) | refine X.region rfl (fun K hK => ?_))
            refine ⟨_, [(1, .slice (some ⟨lb, lo, none⟩) l.length cc), (2, .pointer (some ⟨b2, 0, none⟩)), (4, .int .i64 (T.dl + k)), (5, .pointer (some ⟨b5, 0, none⟩)), (6, .int .i64 (lstN T d)), (8, .pointer (some ⟨b8, 0, none⟩)), (44, .int .i64 l.length), (45, .int .i64 (k + 1 : Nat))], ⟨b5, 0, cCl (chp T d), some 23, 2⟩ :: ⟨b8, 0, cTm T p, some 111, 11⟩ :: ⟨b2, 0, cTm T p, some 28, 11⟩ :: H, (by (repeat (first | exact Sub.nil _ | refine Sub.cons rfl ?_)); done), (by (repeat (first | exact List.Sublist.refl _ | apply List.Sublist.cons_cons | apply List.Sublist.cons)); done), ⟨k + 1, rfl, by omega, by rw [hst], by rw [hst]⟩, by omega⟩
          · by_cases hc2 : lstN T d < nk
            · rw [if_pos (.inr hc2)] at hst
              repeat' (first | (refine XO.op rfl ?_; (first | ((first | refine Xo.ng rfl ?_ | (refine Xo.g rfl rfl ?_; with_reducible refine Xw.ff ?_)); (first | (refine Xg.ev (EvF.cmp (b := true) rfl rfl rfl (congrArg some (decide_eq_true (by omega)))) rfl rfl ?_) | (refine Xg.ev (EvF.cmp (b := false) rfl rfl rfl (congrArg some (decide_eq_false (by omega)))) rfl rfl ?_) | (refine Xg.ev (EvF.move rfl rfl) rfl rfl ?_) | (refine Xg.ev (EvF.pickF rfl rfl rfl) rfl rfl ?_))))) | (refine XO.done rfl ?_; refine hK _ _ ?_; clear hK K) | refine X.seq rfl ?_ | refine X.region rfl (fun K hK => ?_) | (refine X.ite rfl rfl (fun hc => ?_); (first | (with_reducible refine Xb.t hc ?_)) <;> clear hc))
              all_goals try (exfalso; omega)
              refine X.regionOb tsMb [1, 2, 5, 8, 10, 11, 12, 44, 45] [(1, .slice (some ⟨lb, lo, none⟩) l.length cc), (2, .pointer (some ⟨b2, 0, none⟩)), (5, .pointer (some ⟨b5, 0, none⟩)), (8, .pointer (some ⟨b8, 0, none⟩)), (10, .int .i64 (k : Nat)), (11, .pointer (some ⟨b11, 0, none⟩)), (12, .int .i64 (lstN T d)), (44, .int .i64 (l.length : Nat)), (45, .int .i64 (k : Nat))] (valMb b2 b5 b8 b11 lb lo l.length cc k (lstN T d) T y (chp T d)) (rowsMb b2 b5 b8 b11 lb lo l.length cc k (lstN T d) T y (chp T d)) (fun _ => (0, 0)) (⟨b11, 0, cCl (chp T d), some 23, 2⟩ :: ⟨b8, 0, cTm T p, some 111, 11⟩ :: ⟨b2, 0, cTm T p, some 28, 11⟩ :: H) rfl mixed (by (repeat (first | exact Sub.nil _ | refine Sub.cons rfl ?_)); done) rfl (by kernel_rfl) (locMb b2 b5 b8 b11 lb lo l.length cc k (lstN T d) T y (chp T d)) (List.Sublist.refl _) ?_ ?_
              · repeat' (first | exact AllF.done rfl | (refine AllF.step rfl ?_ ?_; · (first | fail | ((first | refine Ob.ng rfl ?_); (first | exact ObK.pure (fun env R hR => by exact ⟨_, EvF.move rfl rfl, rfl⟩) rfl (fun _ => rfl) | exact ObK.pure (fun env R hR => by exact ⟨_, EvF.assign rfl rfl, rfl⟩) rfl (fun _ => rfl) | exact ObK.pure (fun env R hR => by exact ⟨_, EvF.fieldAddr rfl rfl (te rfl) rfl (te rfl) (by decide), rfl⟩) rfl (fun _ => rfl) | exact ObK.pure (fun env R hR => by exact ⟨_, EvF.loadV rfl rfl (LoadV.own (te rfl) rfl (hR _ (List.Mem.tail _ (List.Mem.head _))) rfl), rfl⟩) rfl (fun _ => rfl) | exact ObK.pure (fun env R hR => by exact ⟨_, EvF.loadV rfl rfl (LoadV.whole (te rfl) rfl (hR _ (List.Mem.head _)) rfl), rfl⟩) rfl (fun _ => rfl) | (exact ObK.pure (fun env S hS => ⟨_, EvF.add64 rfl rfl rfl (by omega) (by omega), rfl⟩) rfl (fun _ => rfl)) | (exact fun env S hS => (StF.storeAll (i := 0) (vs := cCl (chp T d)) (cs := cCl y) rfl rfl rfl (te rfl) rfl rfl rfl rfl).op.mono (fun v H' ⟨hv, hH⟩ => ⟨(0, 0), fun h => absurd rfl h, by rw [hH]; exact List.Perm.refl _⟩)))))))
              intro env t ha hv
              refine ⟨_, (ha.cons (hv 8 4 (Nat.le_of_ble_eq_true rfl) rfl)).cons (hv 10 6 (Nat.le_of_ble_eq_true rfl) rfl), ?_⟩
              clear hv ha
              show X _ _ _ ((6, .int .i64 (lstN T d)) :: (4, .int .i64 (T.dl + k)) :: _) (⟨b5, 0, cCl (chp T d), some 23, 2⟩ :: ⟨b11, 0, cCl (chp T d), some 23, 2⟩ :: ⟨b8, 0, cTm T p, some 111, 11⟩ :: ⟨b2, 0, cTm T p, some 28, 11⟩ :: H) _
              repeat' (first | (refine XO.op rfl ?_; (first | ((first | refine Xo.ng rfl ?_); (first | (refine Xg.ev (EvF.move rfl rfl) rfl rfl ?_) | (refine Xg.ev (EvF.add64 rfl rfl rfl (by omega) (by omega)) rfl rfl ?_))))) | (refine XO.done rfl ?_; refine hK _ _ ?_; clear hK K) | refine X.region rfl (fun K hK => ?_))
              refine ⟨_, [(1, .slice (some ⟨lb, lo, none⟩) l.length cc), (2, .pointer (some ⟨b2, 0, none⟩)), (4, .int .i64 (T.dl + k)), (5, .pointer (some ⟨b5, 0, none⟩)), (6, .int .i64 (lstN T d)), (8, .pointer (some ⟨b8, 0, none⟩)), (44, .int .i64 l.length), (45, .int .i64 (k + 1 : Nat))], ⟨b5, 0, cCl (chp T d), some 23, 2⟩ :: ⟨b8, 0, cTm T p, some 111, 11⟩ :: ⟨b2, 0, cTm T p, some 28, 11⟩ :: H, (by (repeat (first | exact Sub.nil _ | refine Sub.cons rfl ?_)); done), (by (repeat (first | exact List.Sublist.refl _ | apply List.Sublist.cons_cons | apply List.Sublist.cons)); done), ⟨k + 1, rfl, by omega, by rw [hst], by rw [hst]⟩, by omega⟩
            · rw [if_neg (fun q => q.elim hc hc2)] at hst
              repeat' (first | (refine XO.op rfl ?_; (first | ((first | refine Xo.ng rfl ?_ | (refine Xo.g rfl rfl ?_; with_reducible refine Xw.ff ?_)); (first | (refine Xg.ev (EvF.cmp (b := false) rfl rfl rfl (congrArg some (decide_eq_false (by omega)))) rfl rfl ?_) | (refine Xg.ev (EvF.move rfl rfl) rfl rfl ?_) | (refine Xg.ev (EvF.pickF rfl rfl rfl) rfl rfl ?_) | (refine Xg.ev (EvF.add64 rfl rfl rfl (by omega) (by omega)) rfl rfl ?_))))) | (refine XO.done rfl ?_; refine hK _ _ ?_; clear hK K) | refine X.seq rfl ?_ | refine X.region rfl (fun K hK => ?_) | refine X.skip rfl ?_ | (refine X.ite rfl rfl (fun hc => ?_); (first | (with_reducible refine Xb.f hc ?_)) <;> clear hc))
              all_goals try (exfalso; omega)
              refine ⟨_, [(1, .slice (some ⟨lb, lo, none⟩) l.length cc), (2, .pointer (some ⟨b2, 0, none⟩)), (4, .int .i64 mo), (5, .pointer (some ⟨b5, 0, none⟩)), (6, .int .i64 nk), (8, .pointer (some ⟨b8, 0, none⟩)), (44, .int .i64 l.length), (45, .int .i64 (k + 1 : Nat))], ⟨b5, 0, cCl y, some 23, 2⟩ :: ⟨b8, 0, cTm T p, some 111, 11⟩ :: ⟨b2, 0, cTm T p, some 28, 11⟩ :: H, (by (repeat (first | exact Sub.nil _ | refine Sub.cons rfl ?_)); done), (by (repeat (first | exact List.Sublist.refl _ | apply List.Sublist.cons_cons | apply List.Sublist.cons)); done), ⟨k + 1, rfl, by omega, by rw [hst], by rw [hst]⟩, by omega⟩
        · obtain rfl : k = l.length := by omega
          obtain ⟨⟨mo, y, nk⟩, hm⟩ : ∃ m, mst T l l.length = m := ⟨_, rfl⟩
          rw [hm]
          dsimp only
          repeat' (first | fail)
          have hsm : ∀ i d, [3, 5].contains i = true → (tAt tsMc i).dst = some d → ∀ (env : Env) (v : Value), lk [(4, .int .i64 mo), (5, .pointer (some ⟨b5, 0, none⟩)), (6, .int .i64 nk)] d = some v → valMc b5 mo nk y i env = v := by
            intro i d hi hd env v hv
            have hh : i = 3 ∨ i = 5 := by simpa using hi
            rcases hh with rfl | rfl <;> (cases hd; cases hv; rfl)
          refine X.regionSm [3, 5] tsMc rdMc [4, 5, 6] [(4, .int .i64 mo), (5, .pointer (some ⟨b5, 0, none⟩)), (6, .int .i64 nk)] (valMc b5 mo nk y) (rowsMc b5 mo nk y) (fun _ => (0, 0)) (⟨b8, 0, cTm T p, some 111, 11⟩ :: ⟨b2, 0, cTm T p, some 28, 11⟩ :: H) rfl mixed (by (repeat (first | exact Sub.nil _ | refine Sub.cons rfl ?_)); done) rfl (by kernel_rfl) (by kernel_rfl) (locMc b5 mo nk y) hsm (List.Sublist.refl _) ?_ ?_
          · repeat' (first | exact AllF.done rfl | (refine AllF.step rfl ?_ ?_; · (first | exact (Ob.ng rfl (ObK.pure (fun env R hR => by exact ⟨_, EvF.move rfl rfl, rfl⟩) rfl (fun _ => rfl))).toR | exact (Ob.ng rfl (ObK.pure (fun env R hR => by exact ⟨_, EvF.assign rfl rfl, rfl⟩) rfl (fun _ => rfl))).toR | (refine ObR.ng rfl ?_; (first | (exact fun env S hS hrd => (StF.ofEv (EvF.loadV rfl rfl (LoadV.whole (te rfl) rfl (hrd 7 (List.Mem.head _) _ (List.Mem.head _)) rfl))).op.mono (fun v H' ⟨hv, hH⟩ => ⟨(0, 0), fun _ => hv, by rw [hH]; exact List.Perm.refl _⟩)) | (exact fun env S hS hrd => (StF.storeAll (i := 0) (vs := cCl y) (cs := cCl y) rfl rfl rfl (te rfl) rfl rfl rfl rfl).op.mono (fun v H' ⟨hv, hH⟩ => ⟨(0, 0), fun h => absurd rfl h, by rw [hH]; exact List.Perm.refl _⟩)))))))
          intro env t ha hv
          refine ⟨_, ((ha.cons (hv 3 4 (Nat.le_of_ble_eq_true rfl) rfl)).cons (hv 5 6 (Nat.le_of_ble_eq_true rfl) rfl)).cons (hv 6 7 (Nat.le_of_ble_eq_true rfl) rfl), ?_⟩
          clear hv ha
          show X _ _ _ ((7, .int .i64 0) :: (6, .int .i64 nk) :: (4, .int .i64 mo) :: _) (⟨b5, 0, cCl y, some 23, 2⟩ :: ⟨b8, 0, cTm T p, some 111, 11⟩ :: ⟨b2, 0, cTm T p, some 28, 11⟩ :: H) _
          repeat' (first | refine X.ret rfl ?_)
          exact ret_four (v' := .agg (cCl y).toArray) (by first | exact .inr rfl | exact .inl rfl) Try.results36 rfl ⟨_, rfl, LoadV.whole (te rfl) rfl (List.Mem.head _) rfl⟩ rfl rfl (H' := H) (by (repeat (first | exact List.Sublist.refl _ | apply List.Sublist.cons)); done) ⟨rfl, rfl⟩
      · have hE : monE T l = 43 := by unfold monE; rw [if_pos hok, if_pos hlen, if_neg hd]
        rw [hE, tripT hE (by decide)]
        simp only [decide_eq_false hd] at had
        have had3 : ∀ r1 r2 r3 : Row, Fc Try.prog 97 [.agg (cTm T p).toArray, .agg (cAb (abM l) ⟨a, cc, none, 0, none, 0, none, 0⟩).toArray] (r1 :: r2 :: r3 :: H) (fun v H' => v = .bool false ∧ H' = r1 :: r2 :: r3 :: H) := fun r1 r2 r3 => had [r1, r2, r3]
        refine Fc.mk (callable Try.call36) Try.func36 rfl Try.ntmps36 rfl ?_; dsimp only [fr]
        repeat' (first | (refine XO.op rfl ?_; (first | ((first | refine Xo.ng rfl ?_); (first | (refine Xg.ev (EvF.build (cs := cAb abO ⟨none, 0, none, 0, none, 0, none, 0⟩) rfl ArgsP.nil (te rfl) (Places.cons (te rfl) (Places.cons (te rfl) (Places.cons (te rfl) (Places.cons (te rfl) Places.nil)))) Try.zeroValue109 rfl) rfl rfl ?_) | (refine Xg.call (EnF.st rfl (Args.cons rfl (Args.cons rfl Args.nil))) rfl rfl (openOk T p _ (hT1 [_, _]) hok) ?_; rintro _ H9 ⟨rfl, hH9⟩; subst H9) | (refine Xg.ev (EvF.build (cs := cAb (abM l) ⟨a, cc, none, 0, none, 0, none, 0⟩) rfl (ArgsP.cons rfl ArgsP.nil) (te rfl) (Places.cons (te rfl) (Places.cons (te rfl) (Places.cons (te rfl) (Places.cons (te rfl) Places.nil)))) Try.zeroValue109 rfl) rfl rfl ?_) | (refine Xg.call (EnF.st rfl (Args.cons rfl (Args.cons rfl Args.nil))) rfl rfl (had3 _ _ _) ?_; rintro _ H9 ⟨rfl, hH9⟩; subst H9) | (refine Xg.ev (EvF.build (cs := cCl ⟨0, 0⟩) rfl ArgsP.nil (te rfl) (Places.cons (te rfl) (Places.cons (te rfl) Places.nil)) Try.zeroValue23 rfl) rfl rfl ?_) | (refine Xg.ev (EvF.move rfl rfl) rfl rfl ?_) | (refine Xg.ev (EvF.assign rfl rfl) rfl rfl ?_) | (refine Xg.ev (EvF.cmp rfl rfl rfl rfl) rfl rfl ?_) | (refine Xg.ev (EvF.add64 rfl rfl rfl (by omega) (by omega)) rfl rfl ?_) | (refine Xg.ev (EvF.sub64 rfl rfl rfl (by omega) (by omega)) rfl rfl ?_) | (refine Xg.ev (EvF.not rfl rfl) rfl rfl ?_) | (refine Xg.ev (EvF.fieldAddr rfl rfl (te rfl) rfl (te rfl) (by decide)) rfl rfl ?_) | (refine Xg.ev (EvF.lenSlice rfl rfl (te rfl)) rfl rfl ?_) | (refine Xg.ev (EvF.loadV rfl rfl (LoadV.own (te rfl) rfl (List.Mem.head _) rfl)) rfl rfl ?_) | (refine Xg.ev (EvF.loadV rfl rfl (LoadV.whole (te rfl) rfl (List.Mem.tail _ (List.Mem.head _)) rfl)) rfl rfl ?_) | (refine Xg.ev (EvF.loadV rfl rfl (LoadV.whole (te rfl) rfl (List.Mem.tail _ (List.Mem.tail _ (List.Mem.head _))) rfl)) rfl rfl ?_) | (refine Xg.ev (EvF.extract rfl rfl rfl) rfl rfl ?_) | (refine Xg.st (StF.boxAgg rfl rfl) rfl rfl ?_; rintro _ _ ⟨bx, rfl, rfl⟩) | (refine Xg.st (StF.alloc rfl Try.zeroValue26 rfl) rfl rfl ?_; rintro _ _ ⟨bx, rfl, rfl⟩) | (refine Xg.st (StF.alloc rfl Try.zeroValue28 rfl) rfl rfl ?_; rintro _ _ ⟨bx, rfl, rfl⟩) | (refine Xg.st0 (StF.storeAll (i := 0) rfl rfl rfl (te rfl) rfl rfl rfl rfl) rfl ?_; rintro _ _ ⟨rfl, rfl⟩; dsimp only [List.set]) | (refine Xg.st0 (StF.storeAll (i := 1) rfl rfl rfl (te rfl) rfl rfl rfl rfl) rfl ?_; rintro _ _ ⟨rfl, rfl⟩; dsimp only [List.set]))))) | (refine XO.done rfl ?_; refine hK _ _ ?_; clear hK K) | refine X.seq rfl ?_ | refine X.region rfl (fun K hK => ?_) | refine X.block rfl ?_ | refine X.skip rfl ?_ | refine X.ret rfl ?_ | (refine X.ite rfl rfl (fun hc => ?_); (first | (with_reducible refine Xb.caseN hc (fun h => ?_) (fun h => ?_)) | (with_reducible refine Xb.caseB hc (fun h => ?_) (fun h => ?_))) <;> clear hc))
        all_goals try (exfalso; first | contradiction | omega)
        exact ret_four (v' := .agg (cCl ⟨0, 0⟩).toArray) (by first | exact .inr rfl | exact .inl rfl) Try.results36 rfl ⟨_, rfl, LoadV.whole (te rfl) rfl (List.Mem.tail _ (List.Mem.head _)) rfl⟩ rfl rfl (H' := H) (by (repeat (first | exact List.Sublist.refl _ | apply List.Sublist.cons)); done) ⟨rfl, rfl⟩
    · have hE : monE T l = 2 := by unfold monE; rw [if_pos hok, if_neg hlen]
      rw [hE, tripT hE (by decide)]
      refine Fc.mk (callable Try.call36) Try.func36 rfl Try.ntmps36 rfl ?_; dsimp only [fr]
      repeat' (first | (refine XO.op rfl ?_; (first | ((first | refine Xo.ng rfl ?_); (first | (refine Xg.ev (EvF.build (cs := cAb abO ⟨none, 0, none, 0, none, 0, none, 0⟩) rfl ArgsP.nil (te rfl) (Places.cons (te rfl) (Places.cons (te rfl) (Places.cons (te rfl) (Places.cons (te rfl) Places.nil)))) Try.zeroValue109 rfl) rfl rfl ?_) | (refine Xg.call (EnF.st rfl (Args.cons rfl (Args.cons rfl Args.nil))) rfl rfl (openOk T p _ (hT1 [_, _]) hok) ?_; rintro _ H9 ⟨rfl, hH9⟩; subst H9) | (refine Xg.ev (EvF.build (cs := cCl ⟨0, 0⟩) rfl ArgsP.nil (te rfl) (Places.cons (te rfl) (Places.cons (te rfl) Places.nil)) Try.zeroValue23 rfl) rfl rfl ?_) | (refine Xg.ev (EvF.move rfl rfl) rfl rfl ?_) | (refine Xg.ev (EvF.assign rfl rfl) rfl rfl ?_) | (refine Xg.ev (EvF.cmp rfl rfl rfl rfl) rfl rfl ?_) | (refine Xg.ev (EvF.add64 rfl rfl rfl (by omega) (by omega)) rfl rfl ?_) | (refine Xg.ev (EvF.sub64 rfl rfl rfl (by omega) (by omega)) rfl rfl ?_) | (refine Xg.ev (EvF.fieldAddr rfl rfl (te rfl) rfl (te rfl) (by decide)) rfl rfl ?_) | (refine Xg.ev (EvF.lenSlice rfl rfl (te rfl)) rfl rfl ?_) | (refine Xg.ev (EvF.loadV rfl rfl (LoadV.own (te rfl) rfl (List.Mem.head _) rfl)) rfl rfl ?_) | (refine Xg.ev (EvF.loadV rfl rfl (LoadV.whole (te rfl) rfl (List.Mem.tail _ (List.Mem.head _)) rfl)) rfl rfl ?_) | (refine Xg.ev (EvF.loadV rfl rfl (LoadV.whole (te rfl) rfl (List.Mem.tail _ (List.Mem.tail _ (List.Mem.head _))) rfl)) rfl rfl ?_) | (refine Xg.ev (EvF.extract rfl rfl rfl) rfl rfl ?_) | (refine Xg.st (StF.boxAgg rfl rfl) rfl rfl ?_; rintro _ _ ⟨bx, rfl, rfl⟩) | (refine Xg.st (StF.alloc rfl Try.zeroValue26 rfl) rfl rfl ?_; rintro _ _ ⟨bx, rfl, rfl⟩) | (refine Xg.st (StF.alloc rfl Try.zeroValue28 rfl) rfl rfl ?_; rintro _ _ ⟨bx, rfl, rfl⟩) | (refine Xg.st0 (StF.storeAll (i := 0) rfl rfl rfl (te rfl) rfl rfl rfl rfl) rfl ?_; rintro _ _ ⟨rfl, rfl⟩; dsimp only [List.set]) | (refine Xg.st0 (StF.storeAll (i := 1) rfl rfl rfl (te rfl) rfl rfl rfl rfl) rfl ?_; rintro _ _ ⟨rfl, rfl⟩; dsimp only [List.set]))))) | (refine XO.done rfl ?_; refine hK _ _ ?_; clear hK K) | refine X.seq rfl ?_ | refine X.region rfl (fun K hK => ?_) | refine X.skip rfl ?_ | refine X.ret rfl ?_ | (refine X.ite rfl rfl (fun hc => ?_); (first | (with_reducible refine Xb.caseN hc (fun h => ?_) (fun h => ?_))) <;> clear hc))
      all_goals try (exfalso; first | contradiction | omega)
      exact ret_four (v' := .agg (cCl ⟨0, 0⟩).toArray) (by first | exact .inr rfl | exact .inl rfl) Try.results36 rfl ⟨_, rfl, LoadV.whole (te rfl) rfl (List.Mem.tail _ (List.Mem.head _)) rfl⟩ rfl rfl (H' := H) (by (repeat (first | exact List.Sublist.refl _ | apply List.Sublist.cons)); done) ⟨rfl, rfl⟩
  · have hE : monE T l = 40 := by unfold monE; rw [if_neg hok]
    rw [hE, tripT hE (by decide)]
    refine Fc.mk (callable Try.call36) Try.func36 rfl Try.ntmps36 rfl ?_; dsimp only [fr]
    repeat' (first | (refine XO.op rfl ?_; (first | ((first | refine Xo.ng rfl ?_); (first | (refine Xg.ev (EvF.build (cs := cAb abO ⟨none, 0, none, 0, none, 0, none, 0⟩) rfl ArgsP.nil (te rfl) (Places.cons (te rfl) (Places.cons (te rfl) (Places.cons (te rfl) (Places.cons (te rfl) Places.nil)))) Try.zeroValue109 rfl) rfl rfl ?_) | (refine Xg.call (EnF.st rfl (Args.cons rfl (Args.cons rfl Args.nil))) rfl rfl (openNo T p _ (hT1 [_, _]) hok) ?_; rintro _ H9 ⟨rfl, hH9⟩; subst H9) | (refine Xg.ev (EvF.build (cs := cCl ⟨0, 0⟩) rfl ArgsP.nil (te rfl) (Places.cons (te rfl) (Places.cons (te rfl) Places.nil)) Try.zeroValue23 rfl) rfl rfl ?_) | (refine Xg.ev (EvF.move rfl rfl) rfl rfl ?_) | (refine Xg.ev (EvF.assign rfl rfl) rfl rfl ?_) | (refine Xg.ev (EvF.cmp rfl rfl rfl rfl) rfl rfl ?_) | (refine Xg.ev (EvF.add64 rfl rfl rfl (by omega) (by omega)) rfl rfl ?_) | (refine Xg.ev (EvF.sub64 rfl rfl rfl (by omega) (by omega)) rfl rfl ?_) | (refine Xg.ev (EvF.fieldAddr rfl rfl (te rfl) rfl (te rfl) (by decide)) rfl rfl ?_) | (refine Xg.ev (EvF.lenSlice rfl rfl (te rfl)) rfl rfl ?_) | (refine Xg.ev (EvF.loadV rfl rfl (LoadV.own (te rfl) rfl (List.Mem.head _) rfl)) rfl rfl ?_) | (refine Xg.ev (EvF.loadV rfl rfl (LoadV.whole (te rfl) rfl (List.Mem.tail _ (List.Mem.head _)) rfl)) rfl rfl ?_) | (refine Xg.ev (EvF.loadV rfl rfl (LoadV.whole (te rfl) rfl (List.Mem.tail _ (List.Mem.tail _ (List.Mem.head _))) rfl)) rfl rfl ?_) | (refine Xg.ev (EvF.extract rfl rfl rfl) rfl rfl ?_) | (refine Xg.st (StF.boxAgg rfl rfl) rfl rfl ?_; rintro _ _ ⟨bx, rfl, rfl⟩) | (refine Xg.st (StF.alloc rfl Try.zeroValue26 rfl) rfl rfl ?_; rintro _ _ ⟨bx, rfl, rfl⟩) | (refine Xg.st (StF.alloc rfl Try.zeroValue28 rfl) rfl rfl ?_; rintro _ _ ⟨bx, rfl, rfl⟩) | (refine Xg.st0 (StF.storeAll (i := 0) rfl rfl rfl (te rfl) rfl rfl rfl rfl) rfl ?_; rintro _ _ ⟨rfl, rfl⟩; dsimp only [List.set]) | (refine Xg.st0 (StF.storeAll (i := 1) rfl rfl rfl (te rfl) rfl rfl rfl rfl) rfl ?_; rintro _ _ ⟨rfl, rfl⟩; dsimp only [List.set]))))) | (refine XO.done rfl ?_; refine hK _ _ ?_; clear hK K) | refine X.seq rfl ?_ | refine X.region rfl (fun K hK => ?_) | refine X.skip rfl ?_ | refine X.ret rfl ?_ | (refine X.ite rfl rfl (fun hc => ?_); (first | (with_reducible refine Xb.caseN hc (fun h => ?_) (fun h => ?_))) <;> clear hc))
    all_goals try (exfalso; first | contradiction | omega)
    exact ret_four (v' := .agg (cCl ⟨0, 0⟩).toArray) (by first | exact .inr rfl | exact .inl rfl) Try.results36 rfl ⟨_, rfl, LoadV.whole (te rfl) rfl (List.Mem.tail _ (List.Mem.head _)) rfl⟩ rfl rfl (H' := H) (by (repeat (first | exact List.Sublist.refl _ | apply List.Sublist.cons)); done) ⟨rfl, rfl⟩
end Go.Proofs.Ytcjlegjchllgjaa
end
section
set_option linter.unusedVariables false
set_option linter.unusedSimpArgs false
namespace Go.Proofs.Ytcjlegjchllgjaa
open Go Go.Fw
set_option maxRecDepth 10000
def tsRb4 : List TOp := [⟨some 64, [], [], []⟩, ⟨some 65, [0], [0], []⟩, ⟨some 66, [0, 1], [1], []⟩, ⟨some 67, [], [], []⟩, ⟨some 68, [0, 1, 2, 3], [2, 3], []⟩, ⟨some 69, [], [], []⟩, ⟨some 70, [], [], []⟩, ⟨some 10, [0, 1, 2, 3, 4], [4], []⟩, ⟨none, [0, 1, 2, 3, 4, 5, 7], [5], [10]⟩, ⟨some 11, [0, 1, 2, 3, 4, 5, 6, 7, 8], [6], []⟩, ⟨none, [], [], []⟩]
def valRb4 (b2 b5 b12 b15 lb lo n cc kk : Nat) (m : Int) (T : Tm) (y x : Cl) (k : Nat) (env : Env) : Value :=
  match k with
  | 0 => .pointer (some ⟨b2, 7, none⟩)
  | 1 => .pointer (some ⟨b2, 7, none⟩)
  | 2 => .int .i64 T.dl
  | 3 => .int .i64 (kk : Nat)
  | 4 => .int .i64 (T.dl + kk)
  | 5 => .agg (cCl x).toArray
  | 6 => .int .i64 m
  | 7 => .int .i64 (T.dl + kk)
  | 8 => undef
  | 9 => .int .i64 m
  | _ => undef
def rowsRb4 (b2 b5 b12 b15 lb lo n cc kk : Nat) (m : Int) (T : Tm) (y x : Cl) (k : Nat) (env : Env) : List Row :=
  match k with
  | 8 => [⟨b12, 0, cCl x, some 23, 2⟩]
  | 10 => [⟨b12, 0, cCl y, some 23, 2⟩]
  | _ => []
theorem locRb4 (b2 b5 b12 b15 lb lo n cc kk : Nat) (m : Int) (T : Tm) (y x : Cl) : ∀ k env i q9, i ≠ k → (tAt tsRb4 k).sup.contains i = false → valRb4 b2 b5 b12 b15 lb lo n cc kk m T y x k (upd env i q9) = valRb4 b2 b5 b12 b15 lb lo n cc kk m T y x k env ∧ rowsRb4 b2 b5 b12 b15 lb lo n cc kk m T y x k (upd env i q9) = rowsRb4 b2 b5 b12 b15 lb lo n cc kk m T y x k env := by
  intro k env i q hk hs
  have hu : ∀ j, j ≠ i → upd env i q j = env j := fun j hj => by unfold upd; rw [if_neg hj]
  match k, hk, hs with
  | 0, _, _ => exact ⟨rfl, rfl⟩
  | 1, _, _ => exact ⟨rfl, rfl⟩
  | 2, _, _ => exact ⟨rfl, rfl⟩
  | 3, _, _ => exact ⟨rfl, rfl⟩
  | 4, _, _ => exact ⟨rfl, rfl⟩
  | 5, _, _ => exact ⟨rfl, rfl⟩
  | 6, _, _ => exact ⟨rfl, rfl⟩
  | 7, _, _ => exact ⟨rfl, rfl⟩
  | 8, _, _ => exact ⟨rfl, rfl⟩
  | 9, _, _ => exact ⟨rfl, rfl⟩
  | 10, _, _ => exact ⟨rfl, rfl⟩
  | _ + 11, _, _ => exact ⟨rfl, rfl⟩
def tsRc4 : List TOp := [⟨some 72, [], [], []⟩, ⟨some 73, [], [], []⟩, ⟨some 74, [], [], []⟩, ⟨some 4, [0], [0], []⟩, ⟨none, [0, 1, 3], [1], [7]⟩, ⟨some 6, [0, 1, 2, 3, 4], [2], []⟩, ⟨some 7, [0, 1, 2, 3, 4, 5], [], []⟩, ⟨none, [], [], []⟩]
def valRc4 (b5 b12 : Nat) (mo nk : Int) (y : Cl) (k : Nat) (env : Env) : Value :=
  match k with
  | 0 => .int .i64 mo
  | 1 => .agg (cCl y).toArray
  | 2 => .int .i64 nk
  | 3 => .int .i64 mo
  | 4 => undef
  | 5 => .int .i64 nk
  | 6 => .int .i64 0
  | _ => undef
def rowsRc4 (b5 b12 : Nat) (mo nk : Int) (y : Cl) (k : Nat) (env : Env) : List Row :=
  match k with
  | 4 => [⟨b5, 0, cCl y, some 23, 2⟩]
  | 7 => [⟨b5, 0, cCl ⟨0, 0⟩, some 23, 2⟩]
  | _ => []
theorem locRc4 (b5 b12 : Nat) (mo nk : Int) (y : Cl) : ∀ k env i q9, i ≠ k → (tAt tsRc4 k).sup.contains i = false → valRc4 b5 b12 mo nk y k (upd env i q9) = valRc4 b5 b12 mo nk y k env ∧ rowsRc4 b5 b12 mo nk y k (upd env i q9) = rowsRc4 b5 b12 mo nk y k env := by
  intro k env i q hk hs
  have hu : ∀ j, j ≠ i → upd env i q j = env j := fun j hj => by unfold upd; rw [if_neg hj]
  match k, hk, hs with
  | 0, _, _ => exact ⟨rfl, rfl⟩
  | 1, _, _ => exact ⟨rfl, rfl⟩
  | 2, _, _ => exact ⟨rfl, rfl⟩
  | 3, _, _ => exact ⟨rfl, rfl⟩
  | 4, _, _ => exact ⟨rfl, rfl⟩
  | 5, _, _ => exact ⟨rfl, rfl⟩
  | 6, _, _ => exact ⟨rfl, rfl⟩
  | 7, _, _ => exact ⟨rfl, rfl⟩
  | _ + 8, _, _ => exact ⟨rfl, rfl⟩
set_option maxHeartbeats 16000000 in
theorem rMonth_spec (T : Tm) (p : Pt) (l : List Dy) (a : Option Addr) (cc : Nat) (H : List Row) (hT : TmOk H T p) (hl : DsOk H l a) (hb : l.length ≤ 1000) :
    Fc Try.prog 37 [.agg (cTm T p).toArray, .slice a l.length cc] H (fun v H' => MonRes T l v ∧ H' = H) := by
  have hT1 : ∀ Z : List Row, TmOk (Z ++ H) T p := fun Z => hT.sub (fun _ h => List.mem_append_right _ h)
  have hl1 : ∀ Z : List Row, DsOk (Z ++ H) l a := fun Z => hl.sub (fun _ h => List.mem_append_right _ h)
  unfold MonRes
  by_cases hok : tmOk T
  · have hnum := hok.num
    by_cases hlen : (l.length : Int) = T.dh - T.dl + 1
    · refine Fc.mk (callable Try.call37) Try.func37 rfl Try.ntmps37 rfl ?_; dsimp only [fr]
      repeat' (first | (refine XO.op rfl ?_; (first | ((first | refine Xo.ng rfl ?_); (first | (refine Xg.call (EnF.st rfl (Args.cons rfl Args.nil)) rfl rfl (rtermsT T p hok _ (hT1 [_, _])) ?_; rintro _ H9 ⟨rfl, hH9⟩; subst H9) | (refine Xg.ev (EvF.move rfl rfl) rfl rfl ?_) | (refine Xg.ev (EvF.assign rfl rfl) rfl rfl ?_) | (refine Xg.ev (EvF.cmp rfl rfl rfl rfl) rfl rfl ?_) | (refine Xg.ev (EvF.add64 rfl rfl rfl (by omega) (by omega)) rfl rfl ?_) | (refine Xg.ev (EvF.sub64 rfl rfl rfl (by omega) (by omega)) rfl rfl ?_) | (refine Xg.ev (EvF.not rfl rfl) rfl rfl ?_) | (refine Xg.ev (EvF.fieldAddr rfl rfl (te rfl) rfl (te rfl) (by decide)) rfl rfl ?_) | (refine Xg.ev (EvF.lenSlice rfl rfl (te rfl)) rfl rfl ?_) | (refine Xg.ev (EvF.loadV rfl rfl (LoadV.own (te rfl) rfl (List.Mem.tail _ (List.Mem.head _)) rfl)) rfl rfl ?_) | (refine Xg.ev (EvF.loadV rfl rfl (LoadV.whole (te rfl) rfl (List.Mem.tail _ (List.Mem.head _)) rfl)) rfl rfl ?_) | (refine Xg.st (StF.boxAgg rfl rfl) rfl rfl ?_; rintro _ _ ⟨bx, rfl, rfl⟩) | (refine Xg.st (StF.alloc rfl Try.zeroValue26 rfl) rfl rfl ?_; rintro _ _ ⟨bx, rfl, rfl⟩))))) | (refine XO.done rfl ?_; refine hK _ _ ?_; clear hK K) | refine X.seq rfl ?_ | refine X.region rfl (fun K hK => ?_) | refine X.block rfl ?_ | refine X.skip rfl ?_ | (refine X.ite rfl rfl (fun hc => ?_); (first | (with_reducible refine Xb.caseN hc (fun h => ?_) (fun h => ?_)) | (with_reducible refine Xb.caseB hc (fun h => ?_) (fun h => ?_))) <;> clear hc))
      all_goals try (exfalso; first | contradiction | omega)
      rename_i b2 h00
      clear h00 h
      obtain ⟨b5, hb5⟩ : ∃ b, b = bx := ⟨_, rfl⟩
      rw [← hb5]
      clear hb5
      refine X.weakR (H' := ⟨b5, 0, cCl ⟨0, 0⟩, some 23, 2⟩ :: ⟨b2, 0, cTm T p, some 28, 11⟩ :: H) (by (repeat (first | exact List.Sublist.refl _ | apply List.Sublist.cons_cons | apply List.Sublist.cons)); done) ?_
      refine X.lp rfl (fun w F' H' => ∃ k : Nat, w = l.length - k ∧ k ≤ l.length ∧ (∀ i d, i < k → l[i]? = some d → dayOk d) ∧ H' = ⟨b5, 0, cCl ⟨0, 0⟩, some 23, 2⟩ :: ⟨b2, 0, cTm T p, some 28, 11⟩ :: H ∧ F' = [(1, .slice a l.length cc), (2, .pointer (some ⟨b2, 0, none⟩)), (5, .pointer (some ⟨b5, 0, none⟩)), (33, .slice a l.length cc), (34, .int .i64 l.length), (35, .int .i64 k)])
        l.length [(1, .slice a l.length cc), (2, .pointer (some ⟨b2, 0, none⟩)), (5, .pointer (some ⟨b5, 0, none⟩)), (33, .slice a l.length cc), (34, .int .i64 l.length), (35, .int .i64 (0 : Nat))] _ (by (repeat (first | exact Sub.nil _ | refine Sub.cons rfl ?_)); done) (List.Sublist.refl _) ⟨0, rfl, by omega, (fun i d hi => absurd hi (by omega)), rfl, rfl⟩ ?_
      rintro _ _ _ ⟨k, rfl, hk, hn, rfl, rfl⟩
      repeat' (first | (refine XO.op rfl ?_; (first | ((first | refine Xo.ng rfl ?_); (first | (refine Xg.ev (EvF.move rfl rfl) rfl rfl ?_) | (refine Xg.ev (EvF.assign rfl rfl) rfl rfl ?_) | (refine Xg.ev (EvF.cmp rfl rfl rfl rfl) rfl rfl ?_) | (refine Xg.ev (EvF.lenSlice rfl rfl (te rfl)) rfl rfl ?_) | (refine Xg.st (StF.alloc rfl Try.zeroValue26 rfl) rfl rfl ?_; rintro _ _ ⟨bx, rfl, rfl⟩))))) | (refine XO.done rfl ?_; refine hK _ _ ?_; clear hK K) | refine X.seq rfl ?_ | refine X.region rfl (fun K hK => ?_) | refine X.block rfl ?_ | (refine X.brk rfl ?_; repeat (first | refine blockX_hit rfl ?_ | refine blockX_miss (by decide) ?_)) | refine X.skip rfl ?_ | (refine X.ite rfl rfl (fun hc => ?_); (first | (with_reducible refine Xb.case hc (fun h => ?_) (fun h => ?_))) <;> clear hc))
      · obtain ⟨lb, lo, d, rfl, he⟩ := hl.sl.elem (i := k) (by omega)
        have hDd := hl.each d (List.mem_of_getElem? he)
        have hD2 : ∀ Z : List Row, DyOk (Z ++ H) d := fun Z => hDd.sub (fun _ h => List.mem_append_right _ h)
        repeat' (first | (refine XO.op rfl ?_; (first | ((first | refine Xo.ng rfl ?_); (first | (refine Xg.ev (EvF.loadV rfl rfl (LoadV.elA0 (hl1 [_, _]).sl he (te rfl) rfl (fun _ hm => hm) rfl)) rfl rfl ?_) | (refine Xg.call (EnF.st rfl (Args.cons rfl Args.nil)) rfl rfl (rday_spec d _ (hD2 [_, _, _])) ?_; rintro _ H9 ⟨rfl, hH9⟩; subst H9) | (refine Xg.ev (EvF.build (cs := cCl ⟨0, 0⟩) rfl ArgsP.nil (te rfl) (Places.cons (te rfl) (Places.cons (te rfl) Places.nil)) Try.zeroValue23 rfl) rfl rfl ?_) | (refine Xg.ev (EvF.move rfl rfl) rfl rfl ?_) | (refine Xg.ev (EvF.assign rfl rfl) rfl rfl ?_) | (refine Xg.ev (EvF.add64 rfl rfl rfl (by omega) (by omega)) rfl rfl ?_) | (refine Xg.ev (EvF.not rfl rfl) rfl rfl ?_) | (refine Xg.ev (EvF.indexSlice rfl rfl rfl (te rfl) (te rfl) (by omega) (by omega)) rfl rfl ?_) | (refine Xg.ev (EvF.loadV rfl rfl (LoadV.whole (te rfl) rfl (List.Mem.head _) rfl)) rfl rfl ?_) | (refine Xg.st (StF.alloc rfl Try.zeroValue65 rfl) rfl rfl ?_; rintro _ _ ⟨bx, rfl, rfl⟩) | (refine Xg.st0 (StF.storeAll (i := 0) rfl rfl rfl (te rfl) rfl rfl rfl rfl) rfl ?_; rintro _ _ ⟨rfl, rfl⟩; dsimp only [List.set]) | (refine Xg.st0 (StF.storeAll (i := 1) rfl rfl rfl (te rfl) rfl rfl rfl rfl) rfl ?_; rintro _ _ ⟨rfl, rfl⟩; dsimp only [List.set]))))) | (refine XO.done rfl ?_; refine hK _ _ ?_; clear hK K) | refine X.seq rfl ?_ | refine X.region rfl (fun K hK => ?_) | refine X.skip rfl ?_ | refine X.ret rfl ?_ | (refine X.ite rfl rfl (fun hc => ?_); (first | (with_reducible refine Xb.caseN hc (fun h => ?_) (fun h => ?_))) <;> clear hc))
        · have hE : monE T l = 43 := by unfold monE; rw [if_pos hok, if_pos hlen, if_neg (fun q => (by assumption : ¬ dayOk d) (q d (List.mem_of_getElem? he)))]
          rw [hE, tripT hE (by decide)]
          exact ret_four (v' := .agg (cCl ⟨0, 0⟩).toArray) (by first | exact .inr rfl | exact .inl rfl) Try.results37 rfl ⟨_, rfl, LoadV.whole (te rfl) rfl (List.Mem.tail _ (List.Mem.head _)) rfl⟩ rfl rfl (H' := H) (by (repeat (first | exact List.Sublist.refl _ | apply List.Sublist.cons)); done) ⟨rfl, rfl⟩
        · refine ⟨_, [(1, .slice (some ⟨lb, lo, none⟩) l.length cc), (2, .pointer (some ⟨b2, 0, none⟩)), (5, .pointer (some ⟨b5, 0, none⟩)), (33, .slice (some ⟨lb, lo, none⟩) l.length cc), (34, .int .i64 l.length), (35, .int .i64 (k + 1 : Nat))], _, (by (repeat (first | exact Sub.nil _ | refine Sub.cons rfl ?_)); done), (by (repeat (first | exact List.Sublist.refl _ | apply List.Sublist.cons_cons | apply List.Sublist.cons)); done), ⟨k + 1, rfl, by omega, (fun i d' hi hd' => ?_), rfl, rfl⟩, by omega⟩
          rcases Nat.lt_or_ge i k with h1 | h1
          · exact hn i d' h1 hd'
          · obtain rfl : i = k := by omega
            rw [he] at hd'; cases hd'; assumption
      have hd : allD l := fun d hd => by
        obtain ⟨i, hi, rfl⟩ := List.mem_iff_getElem.1 hd
        exact hn i _ (by omega) (List.getElem?_eq_getElem hi)
      clear hn
      have hE : monE T l = 0 := by unfold monE; rw [if_pos hok, if_pos hlen, if_pos hd]
      have hR : monR T l = mst T l l.length := by unfold monR; rw [if_pos hE]
      rw [hE, hR]
      repeat' (first | fail)
      obtain ⟨b12, hb12⟩ : ∃ b, b = bx := ⟨_, rfl⟩
      rw [← hb12]
      clear hb12
      refine X.weakR (H' := ⟨b12, 0, cCl ⟨0, 0⟩, some 23, 2⟩ :: ⟨b5, 0, cCl ⟨0, 0⟩, some 23, 2⟩ :: ⟨b2, 0, cTm T p, some 28, 11⟩ :: H) (by (repeat (first | exact List.Sublist.refl _ | apply List.Sublist.cons_cons | apply List.Sublist.cons)); done) ?_
      refine X.lp rfl (fun w F' H' => ∃ k : Nat, w = l.length - k ∧ k ≤ l.length ∧ H' = ⟨b12, 0, cCl (mst T l k).2.1, some 23, 2⟩ :: ⟨b5, 0, cCl ⟨0, 0⟩, some 23, 2⟩ :: ⟨b2, 0, cTm T p, some 28, 11⟩ :: H ∧ F' = [(1, .slice a l.length cc), (2, .pointer (some ⟨b2, 0, none⟩)), (5, .pointer (some ⟨b5, 0, none⟩)), (10, .int .i64 (mst T l k).1), (11, .int .i64 (mst T l k).2.2), (12, .pointer (some ⟨b12, 0, none⟩)), (44, .slice a l.length cc), (45, .int .i64 l.length), (46, .int .i64 k)])
        l.length [(1, .slice a l.length cc), (2, .pointer (some ⟨b2, 0, none⟩)), (5, .pointer (some ⟨b5, 0, none⟩)), (10, .int .i64 (mst T l 0).1), (11, .int .i64 (mst T l 0).2.2), (12, .pointer (some ⟨b12, 0, none⟩)), (44, .slice a l.length cc), (45, .int .i64 l.length), (46, .int .i64 (0 : Nat))] _ (by (repeat (first | exact Sub.nil _ | refine Sub.cons rfl ?_)); done) (List.Sublist.refl _) ⟨0, rfl, by omega, rfl, rfl⟩ ?_
      clear hk h
      rintro _ _ _ ⟨k, rfl, hk, rfl, rfl⟩
      repeat' (first | (refine XO.op rfl ?_; (first | ((first | refine Xo.ng rfl ?_); (first | (refine Xg.ev (EvF.move rfl rfl) rfl rfl ?_) | (refine Xg.ev (EvF.cmp rfl rfl rfl rfl) rfl rfl ?_))))) | (refine XO.done rfl ?_; refine hK _ _ ?_; clear hK K) | refine X.seq rfl ?_ | refine X.region rfl (fun K hK => ?_) | refine X.block rfl ?_ | (refine X.brk rfl ?_; repeat (first | refine blockX_hit rfl ?_ | refine blockX_miss (by decide) ?_)) | refine X.skip rfl ?_ | (refine X.ite rfl rfl (fun hc => ?_); (first | (with_reducible refine Xb.case hc (fun h => ?_) (fun h => ?_))) <;> clear hc))
      · obtain ⟨lb, lo, d, rfl, he⟩ := hl.sl.elem (i := k) (by omega)
        have hdd := hd d (List.mem_of_getElem? he)
        have hDd := hl.each d (List.mem_of_getElem? he)
        have hD2 : ∀ Z : List Row, DyOk (Z ++ H) d := fun Z => hDd.sub (fun _ h => List.mem_append_right _ h)
        have hst := mst_step (T := T) he
        have hrc := fun H h h' => rcheap_spec T p d H h hok h' hdd
        rw [show coF T d (chp T d) = lstN T d from rfl] at hrc
        obtain ⟨⟨mo, y, nk⟩, hm⟩ : ∃ m, mst T l k = m := ⟨_, rfl⟩
        rw [hm] at hst ⊢
        dsimp only at hst ⊢
        by_cases hc : k = 0
        · rw [if_pos (.inl hc)] at hst
          repeat' (first | (refine XO.op rfl ?_; (first | ((first | refine Xo.ng rfl ?_); (first | (refine Xg.ev (EvF.loadV rfl rfl (LoadV.elA0 (hl1 [_, _, _]).sl he (te rfl) rfl (fun _ hm => hm) rfl)) rfl rfl ?_) | (refine Xg.call (EnF.st rfl (Args.cons rfl (Args.cons rfl Args.nil))) rfl rfl (hrc _ (hT1 [_, _, _, _]) (hD2 [_, _, _, _])) ?_; rintro _ H9 ⟨rfl, hH9⟩; subst H9) | (refine Xg.ev (EvF.cmp (b := true) rfl rfl rfl (congrArg some (decide_eq_true (by omega)))) rfl rfl ?_) | (refine Xg.ev (EvF.move rfl rfl) rfl rfl ?_) | (refine Xg.ev (EvF.assign rfl rfl) rfl rfl ?_) | (refine Xg.ev (EvF.pickT rfl rfl rfl) rfl rfl ?_) | (refine Xg.ev (EvF.indexSlice rfl rfl rfl (te rfl) (te rfl) (by omega) (by omega)) rfl rfl ?_) | (refine Xg.ev (EvF.loadV rfl rfl (LoadV.whole (te rfl) rfl (List.Mem.head _) rfl)) rfl rfl ?_) | (refine Xg.ev (EvF.loadV rfl rfl (LoadV.whole (te rfl) rfl (List.Mem.tail _ (List.Mem.tail _ (List.Mem.tail _ (List.Mem.head _)))) rfl)) rfl rfl ?_) | (refine Xg.ev (EvF.extract rfl rfl rfl) rfl rfl ?_) | (refine Xg.st (StF.alloc rfl Try.zeroValue26 rfl) rfl rfl ?_; rintro _ _ ⟨bx, rfl, rfl⟩) | (refine Xg.st (StF.alloc rfl Try.zeroValue65 rfl) rfl rfl ?_; rintro _ _ ⟨bx, rfl, rfl⟩) | (refine Xg.st0 (StF.storeAll (i := 0) rfl rfl rfl (te rfl) rfl rfl rfl rfl) rfl ?_; rintro _ _ ⟨rfl, rfl⟩; dsimp only [List.set]))) | (refine Xo.g rfl rfl ?_; (first | (with_reducible refine Xw.tf rfl rfl ?_))))) | (refine XO.done rfl ?_; refine hK _ _ ?_; clear hK K) | refine X.seq rfl ?_ | refine X.region rfl (fun K hK => ?_) | (refine X.ite rfl rfl (fun hc => ?_); (first | (with_reducible refine Xb.t hc ?_)) <;> clear hc))
          obtain ⟨b15, hb15⟩ : ∃ b, b = bx := ⟨_, rfl⟩
          rw [← hb15]
          clear hb15
          refine X.weakR (H' := ⟨b15, 0, cCl (chp T d), some 23, 2⟩ :: ⟨b12, 0, cCl y, some 23, 2⟩ :: ⟨b5, 0, cCl ⟨0, 0⟩, some 23, 2⟩ :: ⟨b2, 0, cTm T p, some 28, 11⟩ :: H) (by (repeat (first | exact List.Sublist.refl _ | apply List.Sublist.cons_cons | apply List.Sublist.cons)); done) ?_
          refine X.permH (H' := ⟨b12, 0, cCl y, some 23, 2⟩ :: ⟨b15, 0, cCl (chp T d), some 23, 2⟩ :: ⟨b5, 0, cCl ⟨0, 0⟩, some 23, 2⟩ :: ⟨b2, 0, cTm T p, some 28, 11⟩ :: H) (List.Perm.swap _ _ _) ?_
          refine X.regionOb tsRb4 [1, 2, 5, 12, 13, 15, 16, 44, 45, 46] [(1, .slice (some ⟨lb, lo, none⟩) l.length cc), (2, .pointer (some ⟨b2, 0, none⟩)), (5, .pointer (some ⟨b5, 0, none⟩)), (12, .pointer (some ⟨b12, 0, none⟩)), (13, .int .i64 (k : Nat)), (15, .pointer (some ⟨b15, 0, none⟩)), (16, .int .i64 (lstN T d)), (44, .slice (some ⟨lb, lo, none⟩) l.length cc), (45, .int .i64 (l.length : Nat)), (46, .int .i64 (k : Nat))] (valRb4 b2 b5 b12 b15 lb lo l.length cc k (lstN T d) T y (chp T d)) (rowsRb4 b2 b5 b12 b15 lb lo l.length cc k (lstN T d) T y (chp T d)) (fun _ => (0, 0)) (⟨b15, 0, cCl (chp T d), some 23, 2⟩ :: ⟨b5, 0, cCl ⟨0, 0⟩, some 23, 2⟩ :: ⟨b2, 0, cTm T p, some 28, 11⟩ :: H) rfl mixed (by (repeat (first | exact Sub.nil _ | refine Sub.cons rfl ?_)); done) rfl (by kernel_rfl) (locRb4 b2 b5 b12 b15 lb lo l.length cc k (lstN T d) T y (chp T d)) (List.Sublist.refl _) ?_ ?_
          · repeat' (first | exact AllF.done rfl | (refine AllF.step rfl ?_ ?_; · (first | fail | ((first | refine Ob.ng rfl ?_); (first | exact ObK.pure (fun env R hR => by exact ⟨_, EvF.move rfl rfl, rfl⟩) rfl (fun _ => rfl) | exact ObK.pure (fun env R hR => by exact ⟨_, EvF.assign rfl rfl, rfl⟩) rfl (fun _ => rfl) | exact ObK.pure (fun env R hR => by exact ⟨_, EvF.fieldAddr rfl rfl (te rfl) rfl (te rfl) (by decide), rfl⟩) rfl (fun _ => rfl) | exact ObK.pure (fun env R hR => by exact ⟨_, EvF.loadV rfl rfl (LoadV.own (te rfl) rfl (hR _ (List.Mem.tail _ (List.Mem.tail _ (List.Mem.head _)))) rfl), rfl⟩) rfl (fun _ => rfl) | exact ObK.pure (fun env R hR => by exact ⟨_, EvF.loadV rfl rfl (LoadV.whole (te rfl) rfl (hR _ (List.Mem.head _)) rfl), rfl⟩) rfl (fun _ => rfl) | (exact ObK.pure (fun env S hS => ⟨_, EvF.add64 rfl rfl rfl (by omega) (by omega), rfl⟩) rfl (fun _ => rfl)) | (exact fun env S hS => (StF.storeAll (i := 0) (vs := cCl (chp T d)) (cs := cCl y) rfl rfl rfl (te rfl) rfl rfl rfl rfl).op.mono (fun v H' ⟨hv, hH⟩ => ⟨(0, 0), fun h => absurd rfl h, by rw [hH]; exact List.Perm.refl _⟩)))))))
          intro env t ha hv
          refine ⟨_, (ha.cons (hv 7 10 (Nat.le_of_ble_eq_true rfl) rfl)).cons (hv 9 11 (Nat.le_of_ble_eq_true rfl) rfl), ?_⟩
          clear hv ha
          show X _ _ _ ((11, .int .i64 (lstN T d)) :: (10, .int .i64 (T.dl + k)) :: _) (⟨b12, 0, cCl (chp T d), some 23, 2⟩ :: ⟨b15, 0, cCl (chp T d), some 23, 2⟩ :: ⟨b5, 0, cCl ⟨0, 0⟩, some 23, 2⟩ :: ⟨b2, 0, cTm T p, some 28, 11⟩ :: H) _
          repeat' (first | (refine XO.op rfl ?_; (first | ((first | refine Xo.ng rfl ?_); (first | (refine Xg.ev (EvF.move rfl rfl) rfl rfl ?_) | (refine Xg.ev (EvF.add64 rfl rfl rfl (by omega) (by omega)) rfl rfl ?_))))) | (refine XO.done rfl ?_; refine hK _ _ ?_; clear hK K) | refine X.region rfl (fun K hK => ?_))
          refine ⟨_, [(1, .slice (some ⟨lb, lo, none⟩) l.length cc), (2, .pointer (some ⟨b2, 0, none⟩)), (5, .pointer (some ⟨b5, 0, none⟩)), (10, .int .i64 (T.dl + k)), (11, .int .i64 (lstN T d)), (12, .pointer (some ⟨b12, 0, none⟩)), (44, .slice (some ⟨lb, lo, none⟩) l.length cc), (45, .int .i64 l.length), (46, .int .i64 (k + 1 : Nat))], ⟨b12, 0, cCl (chp T d), some 23, 2⟩ :: ⟨b5, 0, cCl ⟨0, 0⟩, some 23, 2⟩ :: ⟨b2, 0, cTm T p, some 28, 11⟩ :: H, (by (repeat (first | exact Sub.nil _ | refine Sub.cons rfl ?_)); done), (by (repeat (first | exact List.Sublist.refl _ | apply List.Sublist.cons_cons | apply List.Sublist.cons)); done), ⟨k + 1, rfl, by omega, by rw [hst], by rw [hst]⟩, by omega⟩
        · by_cases hc2 : lstN T d < nk
          · rw [if_pos (.inr hc2)] at hst
            repeat' (first | (refine XO.op rfl ?_; (first | ((first | refine Xo.ng rfl ?_ | (refine Xo.g rfl rfl ?_; with_reducible refine Xw.ff ?_)); (first | (refine Xg.ev (EvF.loadV rfl rfl (LoadV.elA0 (hl1 [_, _, _]).sl he (te rfl) rfl (fun _ hm => hm) rfl)) rfl rfl ?_) | (refine Xg.call (EnF.st rfl (Args.cons rfl (Args.cons rfl Args.nil))) rfl rfl (hrc _ (hT1 [_, _, _, _]) (hD2 [_, _, _, _])) ?_; rintro _ H9 ⟨rfl, hH9⟩; subst H9) | (refine Xg.ev (EvF.cmp (b := true) rfl rfl rfl (congrArg some (decide_eq_true (by omega)))) rfl rfl ?_) | (refine Xg.ev (EvF.cmp (b := false) rfl rfl rfl (congrArg some (decide_eq_false (by omega)))) rfl rfl ?_) | (refine Xg.ev (EvF.move rfl rfl) rfl rfl ?_) | (refine Xg.ev (EvF.assign rfl rfl) rfl rfl ?_) | (refine Xg.ev (EvF.pickF rfl rfl rfl) rfl rfl ?_) | (refine Xg.ev (EvF.indexSlice rfl rfl rfl (te rfl) (te rfl) (by omega) (by omega)) rfl rfl ?_) | (refine Xg.ev (EvF.loadV rfl rfl (LoadV.whole (te rfl) rfl (List.Mem.head _) rfl)) rfl rfl ?_) | (refine Xg.ev (EvF.loadV rfl rfl (LoadV.whole (te rfl) rfl (List.Mem.tail _ (List.Mem.tail _ (List.Mem.tail _ (List.Mem.head _)))) rfl)) rfl rfl ?_) | (refine Xg.ev (EvF.extract rfl rfl rfl) rfl rfl ?_) | (refine Xg.st (StF.alloc rfl Try.zeroValue26 rfl) rfl rfl ?_; rintro _ _ ⟨bx, rfl, rfl⟩) | (refine Xg.st (StF.alloc rfl Try.zeroValue65 rfl) rfl rfl ?_; rintro _ _ ⟨bx, rfl, rfl⟩) | (refine Xg.st0 (StF.storeAll (i := 0) rfl rfl rfl (te rfl) rfl rfl rfl rfl) rfl ?_; rintro _ _ ⟨rfl, rfl⟩; dsimp only [List.set]))))) | (refine XO.done rfl ?_; refine hK _ _ ?_; clear hK K) | refine X.seq rfl ?_ | refine X.region rfl (fun K hK => ?_) | (refine X.ite rfl rfl (fun hc => ?_); (first | (with_reducible refine Xb.t hc ?_)) <;> clear hc))
            obtain ⟨b15, hb15⟩ : ∃ b, b = bx := ⟨_, rfl⟩
            rw [← hb15]
            clear hb15
            refine X.weakR (H' := ⟨b15, 0, cCl (chp T d), some 23, 2⟩ :: ⟨b12, 0, cCl y, some 23, 2⟩ :: ⟨b5, 0, cCl ⟨0, 0⟩, some 23, 2⟩ :: ⟨b2, 0, cTm T p, some 28, 11⟩ :: H) (by (repeat (first | exact List.Sublist.refl _ | apply List.Sublist.cons_cons | apply List.Sublist.cons)); done) ?_
            refine X.permH (H' := ⟨b12, 0, cCl y, some 23, 2⟩ :: ⟨b15, 0, cCl (chp T d), some 23, 2⟩ :: ⟨b5, 0, cCl ⟨0, 0⟩, some 23, 2⟩ :: ⟨b2, 0, cTm T p, some 28, 11⟩ :: H) (List.Perm.swap _ _ _) ?_
            refine X.regionOb tsRb4 [1, 2, 5, 12, 13, 15, 16, 44, 45, 46] [(1, .slice (some ⟨lb, lo, none⟩) l.length cc), (2, .pointer (some ⟨b2, 0, none⟩)), (5, .pointer (some ⟨b5, 0, none⟩)), (12, .pointer (some ⟨b12, 0, none⟩)), (13, .int .i64 (k : Nat)), (15, .pointer (some ⟨b15, 0, none⟩)), (16, .int .i64 (lstN T d)), (44, .slice (some ⟨lb, lo, none⟩) l.length cc), (45, .int .i64 (l.length : Nat)), (46, .int .i64 (k : Nat))] (valRb4 b2 b5 b12 b15 lb lo l.length cc k (lstN T d) T y (chp T d)) (rowsRb4 b2 b5 b12 b15 lb lo l.length cc k (lstN T d) T y (chp T d)) (fun _ => (0, 0)) (⟨b15, 0, cCl (chp T d), some 23, 2⟩ :: ⟨b5, 0, cCl ⟨0, 0⟩, some 23, 2⟩ :: ⟨b2, 0, cTm T p, some 28, 11⟩ :: H) rfl mixed (by (repeat (first | exact Sub.nil _ | refine Sub.cons rfl ?_)); done) rfl (by kernel_rfl) (locRb4 b2 b5 b12 b15 lb lo l.length cc k (lstN T d) T y (chp T d)) (List.Sublist.refl _) ?_ ?_
            · repeat' (first | exact AllF.done rfl | (refine AllF.step rfl ?_ ?_; · (first | fail | ((first | refine Ob.ng rfl ?_); (first | exact ObK.pure (fun env R hR => by exact ⟨_, EvF.move rfl rfl, rfl⟩) rfl (fun _ => rfl) | exact ObK.pure (fun env R hR => by exact ⟨_, EvF.assign rfl rfl, rfl⟩) rfl (fun _ => rfl) | exact ObK.pure (fun env R hR => by exact ⟨_, EvF.fieldAddr rfl rfl (te rfl) rfl (te rfl) (by decide), rfl⟩) rfl (fun _ => rfl) | exact ObK.pure (fun env R hR => by exact ⟨_, EvF.loadV rfl rfl (LoadV.own (te rfl) rfl (hR _ (List.Mem.tail _ (List.Mem.tail _ (List.Mem.head _)))) rfl), rfl⟩) rfl (fun _ => rfl) | exact ObK.pure (fun env R hR => by exact ⟨_, EvF.loadV rfl rfl (LoadV.whole (te rfl) rfl (hR _ (List.Mem.head _)) rfl), rfl⟩) rfl (fun _ => rfl) | (exact ObK.pure (fun env S hS => ⟨_, EvF.add64 rfl rfl rfl (by omega) (by omega), rfl⟩) rfl (fun _ => rfl)) | (exact fun env S hS => (StF.storeAll (i := 0) (vs := cCl (chp T d)) (cs := cCl y) rfl rfl rfl (te rfl) rfl rfl rfl rfl).op.mono (fun v H' ⟨hv, hH⟩ => ⟨(0, 0), fun h => absurd rfl h, by rw [hH]; exact List.Perm.refl _⟩)))))))
            intro env t ha hv
            refine ⟨_, (ha.cons (hv 7 10 (Nat.le_of_ble_eq_true rfl) rfl)).cons (hv 9 11 (Nat.le_of_ble_eq_true rfl) rfl), ?_⟩
            clear hv ha
            show X _ _ _ ((11, .int .i64 (lstN T d)) :: (10, .int .i64 (T.dl + k)) :: _) (⟨b12, 0, cCl (chp T d), some 23, 2⟩ :: ⟨b15, 0, cCl (chp T d), some 23, 2⟩ :: ⟨b5, 0, cCl ⟨0, 0⟩, some 23, 2⟩ :: ⟨b2, 0, cTm T p, some 28, 11⟩ :: H) _
            repeat' (first | (refine XO.op rfl ?_; (first | ((first | refine Xo.ng rfl ?_); (first | (refine Xg.ev (EvF.move rfl rfl) rfl rfl ?_) | (refine Xg.ev (EvF.add64 rfl rfl rfl (by omega) (by omega)) rfl rfl ?_))))) | (refine XO.done rfl ?_; refine hK _ _ ?_; clear hK K) | refine X.region rfl (fun K hK => ?_))
            refine ⟨_, [(1, .slice (some ⟨lb, lo, none⟩) l.length cc), (2, .pointer (some ⟨b2, 0, none⟩)), (5, .pointer (some ⟨b5, 0, none⟩)), (10, .int .i64 (T.dl + k)), (11, .int .i64 (lstN T d)), (12, .pointer (some ⟨b12, 0, none⟩)), (44, .slice (some ⟨lb, lo, none⟩) l.length cc), (45, .int .i64 l.length), (46, .int .i64 (k + 1 : Nat))], ⟨b12, 0, cCl (chp T d), some 23, 2⟩ :: ⟨b5, 0, cCl ⟨0, 0⟩, some 23, 2⟩ :: ⟨b2, 0, cTm T p, some 28, 11⟩ :: H, (by (repeat (first | exact Sub.nil _ | refine Sub.cons rfl ?_)); done), (by (repeat (first | exact List.Sublist.refl _ | apply List.Sublist.cons_cons | apply List.Sublist.cons)); done), ⟨k + 1, rfl, by omega, by rw [hst], by rw [hst]⟩, by omega⟩
          · rw [if_neg (fun q => q.elim hc hc2)] at hst
            repeat' (first | (refine XO.op rfl ?_; (first | ((first | refine Xo.ng rfl ?_ | (refine Xo.g rfl rfl ?_; with_reducible refine Xw.ff ?_)); (first | (refine Xg.ev (EvF.loadV rfl rfl (LoadV.elA0 (hl1 [_, _, _]).sl he (te rfl) rfl (fun _ hm => hm) rfl)) rfl rfl ?_) | (refine Xg.call (EnF.st rfl (Args.cons rfl (Args.cons rfl Args.nil))) rfl rfl (hrc _ (hT1 [_, _, _, _]) (hD2 [_, _, _, _])) ?_; rintro _ H9 ⟨rfl, hH9⟩; subst H9) | (refine Xg.ev (EvF.cmp (b := false) rfl rfl rfl (congrArg some (decide_eq_false (by omega)))) rfl rfl ?_) | (refine Xg.ev (EvF.move rfl rfl) rfl rfl ?_) | (refine Xg.ev (EvF.assign rfl rfl) rfl rfl ?_) | (refine Xg.ev (EvF.pickF rfl rfl rfl) rfl rfl ?_) | (refine Xg.ev (EvF.add64 rfl rfl rfl (by omega) (by omega)) rfl rfl ?_) | (refine Xg.ev (EvF.indexSlice rfl rfl rfl (te rfl) (te rfl) (by omega) (by omega)) rfl rfl ?_) | (refine Xg.ev (EvF.loadV rfl rfl (LoadV.whole (te rfl) rfl (List.Mem.head _) rfl)) rfl rfl ?_) | (refine Xg.ev (EvF.loadV rfl rfl (LoadV.whole (te rfl) rfl (List.Mem.tail _ (List.Mem.tail _ (List.Mem.tail _ (List.Mem.head _)))) rfl)) rfl rfl ?_) | (refine Xg.ev (EvF.extract rfl rfl rfl) rfl rfl ?_) | (refine Xg.st (StF.alloc rfl Try.zeroValue26 rfl) rfl rfl ?_; rintro _ _ ⟨bx, rfl, rfl⟩) | (refine Xg.st (StF.alloc rfl Try.zeroValue65 rfl) rfl rfl ?_; rintro _ _ ⟨bx, rfl, rfl⟩) | (refine Xg.st0 (StF.storeAll (i := 0) rfl rfl rfl (te rfl) rfl rfl rfl rfl) rfl ?_; rintro _ _ ⟨rfl, rfl⟩; dsimp only [List.set]))))) | (refine XO.done rfl ?_; refine hK _ _ ?_; clear hK K) | refine X.seq rfl ?_ | refine X.region rfl (fun K hK => ?_) | refine X.skip rfl ?_ | (refine X.ite rfl rfl (fun hc => ?_); (first | (with_reducible refine Xb.f hc ?_)) <;> clear hc))
            refine ⟨_, [(1, .slice (some ⟨lb, lo, none⟩) l.length cc), (2, .pointer (some ⟨b2, 0, none⟩)), (5, .pointer (some ⟨b5, 0, none⟩)), (10, .int .i64 mo), (11, .int .i64 nk), (12, .pointer (some ⟨b12, 0, none⟩)), (44, .slice (some ⟨lb, lo, none⟩) l.length cc), (45, .int .i64 l.length), (46, .int .i64 (k + 1 : Nat))], ⟨b12, 0, cCl y, some 23, 2⟩ :: ⟨b5, 0, cCl ⟨0, 0⟩, some 23, 2⟩ :: ⟨b2, 0, cTm T p, some 28, 11⟩ :: H, (by (repeat (first | exact Sub.nil _ | refine Sub.cons rfl ?_)); done), (by (repeat (first | exact List.Sublist.refl _ | apply List.Sublist.cons_cons | apply List.Sublist.cons)); done), ⟨k + 1, rfl, by omega, by rw [hst], by rw [hst]⟩, by omega⟩
      · obtain rfl : k = l.length := by omega
        obtain ⟨⟨mo, y, nk⟩, hm⟩ : ∃ m, mst T l l.length = m := ⟨_, rfl⟩
        rw [hm]
        dsimp only
        repeat' (first | fail)
        refine X.permH (H' := ⟨b5, 0, cCl ⟨0, 0⟩, some 23, 2⟩ :: ⟨b12, 0, cCl y, some 23, 2⟩ :: ⟨b2, 0, cTm T p, some 28, 11⟩ :: H) (List.Perm.swap _ _ _) ?_
        refine X.regionOb tsRc4 [5, 10, 11, 12] [(5, .pointer (some ⟨b5, 0, none⟩)), (10, .int .i64 mo), (11, .int .i64 nk), (12, .pointer (some ⟨b12, 0, none⟩))] (valRc4 b5 b12 mo nk y) (rowsRc4 b5 b12 mo nk y) (fun _ => (0, 0)) (⟨b12, 0, cCl y, some 23, 2⟩ :: ⟨b2, 0, cTm T p, some 28, 11⟩ :: H) rfl mixed (by (repeat (first | exact Sub.nil _ | refine Sub.cons rfl ?_)); done) rfl (by kernel_rfl) (locRc4 b5 b12 mo nk y) (List.Sublist.refl _) ?_ ?_
        · repeat' (first | exact AllF.done rfl | (refine AllF.step rfl ?_ ?_; · (first | fail | ((first | refine Ob.ng rfl ?_); (first | exact ObK.pure (fun env R hR => by exact ⟨_, EvF.move rfl rfl, rfl⟩) rfl (fun _ => rfl) | exact ObK.pure (fun env R hR => by exact ⟨_, EvF.assign rfl rfl, rfl⟩) rfl (fun _ => rfl) | exact ObK.pure (fun env R hR => by exact ⟨_, EvF.loadV rfl rfl (LoadV.whole (te rfl) rfl (hR _ (List.Mem.head _)) rfl), rfl⟩) rfl (fun _ => rfl) | (exact fun env S hS => (StF.storeAll (i := 0) (vs := cCl y) (cs := cCl ⟨0, 0⟩) rfl rfl rfl (te rfl) rfl rfl rfl rfl).op.mono (fun v H' ⟨hv, hH⟩ => ⟨(0, 0), fun h => absurd rfl h, by rw [hH]; exact List.Perm.refl _⟩)))))))
        intro env t ha hv
        refine ⟨_, ((ha.cons (hv 3 4 (Nat.le_of_ble_eq_true rfl) rfl)).cons (hv 5 6 (Nat.le_of_ble_eq_true rfl) rfl)).cons (hv 6 7 (Nat.le_of_ble_eq_true rfl) rfl), ?_⟩
        clear hv ha
        show X _ _ _ ((7, .int .i64 0) :: (6, .int .i64 nk) :: (4, .int .i64 mo) :: _) (⟨b5, 0, cCl y, some 23, 2⟩ :: ⟨b12, 0, cCl y, some 23, 2⟩ :: ⟨b2, 0, cTm T p, some 28, 11⟩ :: H) _
        repeat' (first | refine X.ret rfl ?_)
        exact ret_four (v' := .agg (cCl y).toArray) (by first | exact .inr rfl | exact .inl rfl) Try.results37 rfl ⟨_, rfl, LoadV.whole (te rfl) rfl (List.Mem.head _) rfl⟩ rfl rfl (H' := H) (by (repeat (first | exact List.Sublist.refl _ | apply List.Sublist.cons)); done) ⟨rfl, rfl⟩
    · have hE : monE T l = 2 := by unfold monE; rw [if_pos hok, if_neg hlen]
      rw [hE, tripT hE (by decide)]
      refine Fc.mk (callable Try.call37) Try.func37 rfl Try.ntmps37 rfl ?_; dsimp only [fr]
      repeat' (first | (refine XO.op rfl ?_; (first | ((first | refine Xo.ng rfl ?_); (first | (refine Xg.call (EnF.st rfl (Args.cons rfl Args.nil)) rfl rfl (rtermsT T p hok _ (hT1 [_, _])) ?_; rintro _ H9 ⟨rfl, hH9⟩; subst H9) | (refine Xg.ev (EvF.build (cs := cCl ⟨0, 0⟩) rfl ArgsP.nil (te rfl) (Places.cons (te rfl) (Places.cons (te rfl) Places.nil)) Try.zeroValue23 rfl) rfl rfl ?_) | (refine Xg.ev (EvF.move rfl rfl) rfl rfl ?_) | (refine Xg.ev (EvF.assign rfl rfl) rfl rfl ?_) | (refine Xg.ev (EvF.cmp rfl rfl rfl rfl) rfl rfl ?_) | (refine Xg.ev (EvF.add64 rfl rfl rfl (by omega) (by omega)) rfl rfl ?_) | (refine Xg.ev (EvF.sub64 rfl rfl rfl (by omega) (by omega)) rfl rfl ?_) | (refine Xg.ev (EvF.not rfl rfl) rfl rfl ?_) | (refine Xg.ev (EvF.fieldAddr rfl rfl (te rfl) rfl (te rfl) (by decide)) rfl rfl ?_) | (refine Xg.ev (EvF.lenSlice rfl rfl (te rfl)) rfl rfl ?_) | (refine Xg.ev (EvF.loadV rfl rfl (LoadV.own (te rfl) rfl (List.Mem.tail _ (List.Mem.head _)) rfl)) rfl rfl ?_) | (refine Xg.ev (EvF.loadV rfl rfl (LoadV.whole (te rfl) rfl (List.Mem.tail _ (List.Mem.head _)) rfl)) rfl rfl ?_) | (refine Xg.st (StF.boxAgg rfl rfl) rfl rfl ?_; rintro _ _ ⟨bx, rfl, rfl⟩) | (refine Xg.st (StF.alloc rfl Try.zeroValue26 rfl) rfl rfl ?_; rintro _ _ ⟨bx, rfl, rfl⟩) | (refine Xg.st0 (StF.storeAll (i := 0) rfl rfl rfl (te rfl) rfl rfl rfl rfl) rfl ?_; rintro _ _ ⟨rfl, rfl⟩; dsimp only [List.set]))))) | (refine XO.done rfl ?_; refine hK _ _ ?_; clear hK K) | refine X.seq rfl ?_ | refine X.region rfl (fun K hK => ?_) | refine X.block rfl ?_ | refine X.skip rfl ?_ | refine X.ret rfl ?_ | (refine X.ite rfl rfl (fun hc => ?_); (first | (with_reducible refine Xb.caseN hc (fun h => ?_) (fun h => ?_)) | (with_reducible refine Xb.caseB hc (fun h => ?_) (fun h => ?_))) <;> clear hc))
      all_goals try (exfalso; first | contradiction | omega)
      exact ret_four (v' := .agg (cCl ⟨0, 0⟩).toArray) (by first | exact .inr rfl | exact .inl rfl) Try.results37 rfl ⟨_, rfl, LoadV.whole (te rfl) rfl (List.Mem.head _) rfl⟩ rfl rfl (H' := H) (by (repeat (first | exact List.Sublist.refl _ | apply List.Sublist.cons)); done) ⟨rfl, rfl⟩
  · have hE : monE T l = 40 := by unfold monE; rw [if_neg hok]
    rw [hE, tripT hE (by decide)]
    refine Fc.mk (callable Try.call37) Try.func37 rfl Try.ntmps37 rfl ?_; dsimp only [fr]
    repeat' (first | (refine XO.op rfl ?_; (first | ((first | refine Xo.ng rfl ?_); (first | (refine Xg.call (EnF.st rfl (Args.cons rfl Args.nil)) rfl rfl (rtermsF T p hok _ (hT1 [_, _])) ?_; rintro _ H9 ⟨rfl, hH9⟩; subst H9) | (refine Xg.ev (EvF.build (cs := cCl ⟨0, 0⟩) rfl ArgsP.nil (te rfl) (Places.cons (te rfl) (Places.cons (te rfl) Places.nil)) Try.zeroValue23 rfl) rfl rfl ?_) | (refine Xg.ev (EvF.move rfl rfl) rfl rfl ?_) | (refine Xg.ev (EvF.assign rfl rfl) rfl rfl ?_) | (refine Xg.ev (EvF.not rfl rfl) rfl rfl ?_) | (refine Xg.ev (EvF.fieldAddr rfl rfl (te rfl) rfl (te rfl) (by decide)) rfl rfl ?_) | (refine Xg.ev (EvF.lenSlice rfl rfl (te rfl)) rfl rfl ?_) | (refine Xg.ev (EvF.loadV rfl rfl (LoadV.own (te rfl) rfl (List.Mem.tail _ (List.Mem.head _)) rfl)) rfl rfl ?_) | (refine Xg.ev (EvF.loadV rfl rfl (LoadV.whole (te rfl) rfl (List.Mem.tail _ (List.Mem.head _)) rfl)) rfl rfl ?_) | (refine Xg.st (StF.boxAgg rfl rfl) rfl rfl ?_; rintro _ _ ⟨bx, rfl, rfl⟩) | (refine Xg.st (StF.alloc rfl Try.zeroValue26 rfl) rfl rfl ?_; rintro _ _ ⟨bx, rfl, rfl⟩) | (refine Xg.st0 (StF.storeAll (i := 0) rfl rfl rfl (te rfl) rfl rfl rfl rfl) rfl ?_; rintro _ _ ⟨rfl, rfl⟩; dsimp only [List.set]))))) | (refine XO.done rfl ?_; refine hK _ _ ?_; clear hK K) | refine X.seq rfl ?_ | refine X.region rfl (fun K hK => ?_) | refine X.skip rfl ?_ | refine X.ret rfl ?_ | (refine X.ite rfl rfl (fun hc => ?_); (first | (with_reducible refine Xb.caseB hc (fun h => ?_) (fun h => ?_))) <;> clear hc))
    all_goals try (exfalso; first | contradiction | omega)
    exact ret_four (v' := .agg (cCl ⟨0, 0⟩).toArray) (by first | exact .inr rfl | exact .inl rfl) Try.results37 rfl ⟨_, rfl, LoadV.whole (te rfl) rfl (List.Mem.head _) rfl⟩ rfl rfl (H' := H) (by (repeat (first | exact List.Sublist.refl _ | apply List.Sublist.cons)); done) ⟨rfl, rfl⟩
end Go.Proofs.Ytcjlegjchllgjaa
end
section
set_option linter.unusedVariables false
set_option linter.unusedSimpArgs false
namespace Go.Proofs.Ytcjlegjchllgjaa
open Go Go.Fw
set_option maxRecDepth 10000
/-- a day, wherever its tables lie -/
def cont (d : Dy) : Dy := { d with a1 := none, c1 := 0, a2 := none, c2 := 0 }
theorem lenDy (l : List Dy) : (l.flatMap cDy).length = l.length * 3 := flat_len (fun _ _ => rfl)
theorem mst_cont (T : Tm) (l : List Dy) : ∀ k, mst T (l.map cont) k = mst T l k
  | 0 => rfl
  | k + 1 => by
    show (match (l.map cont)[k]? with | some d => _ | none => _) = (match l[k]? with | some d => _ | none => _)
    rw [mst_cont T l k, List.getElem?_map]
    cases l[k]? <;> rfl
theorem allD_cont (l : List Dy) : allD (l.map cont) ↔ allD l :=
  ⟨fun h d hd => h (cont d) (List.mem_map.2 ⟨d, hd, rfl⟩), fun h d hd => by obtain ⟨e, he, rfl⟩ := List.mem_map.1 hd; exact h e he⟩
theorem monE_cont (T : Tm) (l : List Dy) : monE T (l.map cont) = monE T l := by
  unfold monE
  rw [List.length_map]
  by_cases h : allD l
  · rw [if_pos ((allD_cont l).2 h), if_pos h]
  · rw [if_neg (fun q => h ((allD_cont l).1 q)), if_neg h]
theorem monR_cont (T : Tm) (l : List Dy) : monR T (l.map cont) = monR T l := by
  unfold monR
  rw [monE_cont, List.length_map, mst_cont]
theorem sameDc_spec (d' d : Dy) (h : cont d' = cont d) (H : List Row) (hO : DyOk H d') (hD : DyOk H d) : Fc Try.prog 35 [.agg (cDy d').toArray, .agg (cDy d).toArray] H (fun v H' => v = .bool true ∧ H' = H) := by
  obtain ⟨pr, G, S, a1, c1, a2, c2⟩ := d'
  obtain ⟨pr', G', S', a1', c1', a2', c2'⟩ := d
  unfold cont at h
  simp only [Dy.mk.injEq] at h
  obtain ⟨rfl, rfl, rfl, _⟩ := h
  have g1 := hO.gr
  have g2 := hO.st
  have g3 := hD.gr
  have g4 := hD.st
  have l1 := hO.l1
  have l2 := hO.l2
  dsimp only at g1 g2 g3 g4 l1 l2
  have s1 : ∀ Z : List Row, SlE (Z ++ H) a1 cI 1 G := fun Z => g1.sub (fun _ h => List.mem_append_right _ h)
  have s2 : ∀ Z : List Row, SlE (Z ++ H) a2 cI 1 S := fun Z => g2.sub (fun _ h => List.mem_append_right _ h)
  have s3 : ∀ Z : List Row, SlE (Z ++ H) a1' cI 1 G := fun Z => g3.sub (fun _ h => List.mem_append_right _ h)
  have s4 : ∀ Z : List Row, SlE (Z ++ H) a2' cI 1 S := fun Z => g4.sub (fun _ h => List.mem_append_right _ h)
  show Fc Try.prog 35 [.agg ([.int .i64 pr, .slice a1 G.length c1, .slice a2 S.length c2] : List Value).toArray, .agg ([.int .i64 pr, .slice a1' G.length c1', .slice a2' S.length c2'] : List Value).toArray] H _
  refine Fc.mk (callable Try.call35) Try.func35 rfl Try.ntmps35 rfl ?_; dsimp only [fr]
  repeat' (first | (refine XO.op rfl ?_; (first | ((first | refine Xo.ng rfl ?_ | (refine Xo.g rfl rfl ?_; with_reducible refine Xw.tt ?_)); (first | (refine Xg.ev (EvF.eqSelf rfl rfl rfl) rfl rfl ?_) | (refine Xg.call (EnF.st rfl (Args.cons rfl (Args.cons rfl Args.nil))) rfl rfl (sameI_self G a1 a1' c1 c1' _ (s1 [_, _]) (s3 [_, _]) l1) ?_; rintro _ H9 ⟨rfl, hH9⟩; subst H9) | (refine Xg.call (EnF.st rfl (Args.cons rfl (Args.cons rfl Args.nil))) rfl rfl (sameI_self S a2 a2' c2 c2' _ (s2 [_, _]) (s4 [_, _]) l2) ?_; rintro _ H9 ⟨rfl, hH9⟩; subst H9) | (refine Xg.ev (EvF.move rfl rfl) rfl rfl ?_) | (refine Xg.ev (EvF.assign rfl rfl) rfl rfl ?_) | (refine Xg.ev (EvF.pickT rfl rfl rfl) rfl rfl ?_) | (refine Xg.ev (EvF.fieldAddr rfl rfl (te rfl) rfl (te rfl) (by decide)) rfl rfl ?_) | (refine Xg.ev (EvF.loadV rfl rfl (LoadV.own (te rfl) rfl (List.Mem.head _) rfl)) rfl rfl ?_) | (refine Xg.ev (EvF.loadV rfl rfl (LoadV.own (te rfl) rfl (List.Mem.tail _ (List.Mem.head _)) rfl)) rfl rfl ?_) | (refine Xg.st (StF.boxAgg rfl rfl) rfl rfl ?_; rintro _ _ ⟨bx, rfl, rfl⟩))))) | (refine XO.done rfl ?_; refine hK _ _ ?_; clear hK K) | refine X.seq rfl ?_ | refine X.region rfl (fun K hK => ?_) | refine X.ret rfl ?_)
  refine ret_one (by first | exact .inr rfl | exact .inl rfl) Try.results35 rfl (H' := H) (by (repeat (first | exact List.Sublist.refl _ | apply List.Sublist.cons)); done) ?_; simp only [and_true, true_and]
/-- a list of days of one's own, or none -/
def OutD (k : List Dy) (v : Value) (Z : List Row) : Prop := (k = [] ∧ v = .slice none 0 0 ∧ Z = []) ∨ ∃ b q, v = .slice (some ⟨b, 0, none⟩) k.length q ∧ Z = [⟨b, 0, k.flatMap cDy, some 65, q * 3⟩]
theorem OutD.sl {k : List Dy} {v : Value} {Z H : List Row} (h : OutD k v Z) (hs : ∀ r ∈ Z, r ∈ H) : ∃ a c, v = .slice a k.length c ∧ SlE H a cDy 3 k := by
  rcases h with ⟨rfl, rfl, rfl⟩ | ⟨b, q, rfl, rfl⟩
  · exact ⟨_, _, rfl, sleNil⟩
  · exact ⟨_, _, rfl, SlE.ofRow (hs _ (List.Mem.head _)) (fun _ _ => rfl)⟩
def smD (d : Dy) : Prop := ¬ (d.G.length > 30 ∨ d.S.length > 30)
structure MyDs (l m : List Dy) (k : Nat) (HX0 HX : List Row) : Prop where
  same : m.map cont = (l.take k).map cont
  ok : ∀ d ∈ m, DyOk HX d
  base : HX0.Sublist HX
  sm : ∀ i d, i < k → l[i]? = some d → smD d
theorem MyDs.len {l m : List Dy} {k : Nat} {HX0 HX : List Row} (h : MyDs l m k HX0 HX) (hk : k ≤ l.length) : m.length = k := by
  have := congrArg List.length h.same
  rw [List.length_map, List.length_map, List.length_take] at this; omega
theorem MyDs.snoc {l m : List Dy} {k : Nat} {HX0 HX : List Row} {d : Dy} {t1 k1 t2 k2 : Nat} (h : MyDs l m k HX0 HX) (hd : l[k]? = some d) (hs : smD d) : MyDs l (m ++ [dyP d t1 k1 t2 k2]) (k + 1) HX0 (rI d.G t1 k1 :: rI d.S t2 k2 :: HX) := by
  unfold smD at hs
  refine ⟨by rw [take_snoc hd, List.map_append, List.map_append, h.same]; rfl, fun e he => ?_, (h.base.trans (List.sublist_cons_self _ _)).trans (List.sublist_cons_self _ _), fun i e hi he => ?_⟩
  · rcases List.mem_append.1 he with he | he
    · exact (h.ok e he).sub (fun r hr => List.Mem.tail _ (List.Mem.tail _ hr))
    · rw [List.mem_singleton.1 he]
      exact ⟨SlE.ofRow (List.Mem.head _) (fun _ _ => rfl), SlE.ofRow (List.Mem.tail _ (List.Mem.head _)) (fun _ _ => rfl), (by show d.G.length ≤ _; omega), (by show d.S.length ≤ _; omega)⟩
  · rcases Nat.lt_or_ge i k with h1 | h1
    · exact h.sm i e h1 he
    · obtain rfl : i = k := by omega
      rw [hd] at he; cases he; exact hs
set_option maxHeartbeats 16000000 in
theorem termsMonths_spec (T : Tm) (p : Pt) (l : List Dy) (a : Option Addr) (cc : Nat) (H : List Row) (hg : SlE H p.a1 cI 1 T.G) (hs : SlE H p.a2 cI 1 T.S) (hl : SlE H a cDy 3 l) (hd : ∀ d ∈ l, SlE H d.a1 cI 1 d.G ∧ SlE H d.a2 cI 1 d.S) :
    Fc Try.prog 7 [.agg (cTm T p).toArray, .slice a l.length cc] H (fun v _ => v = .bool true) := by
  by_cases hgr : (T.G.length > 30 ∨ T.S.length > 30)
  · have hG := greatT T p hgr
    refine Fc.mk (callable Try.call7) Try.func7 rfl Try.ntmps7 rfl ?_; dsimp only [fr]
    repeat' (first | (refine XO.op rfl ?_; (first | ((first | refine Xo.ng rfl ?_); (first | (refine Xg.call (EnF.st rfl (Args.cons rfl Args.nil)) rfl rfl (hG _) ?_; rintro _ H9 ⟨rfl, hH9⟩; subst H9) | (refine Xg.ev (EvF.move rfl rfl) rfl rfl ?_) | (refine Xg.ev (EvF.assign rfl rfl) rfl rfl ?_) | (refine Xg.ev (EvF.pickT rfl rfl rfl) rfl rfl ?_) | (refine Xg.ev (EvF.loadV rfl rfl (LoadV.whole (te rfl) rfl (List.Mem.head _) rfl)) rfl rfl ?_) | (refine Xg.st (StF.boxAgg rfl rfl) rfl rfl ?_; rintro _ _ ⟨bx, rfl, rfl⟩))) | (refine Xo.g rfl rfl ?_; (first | (with_reducible refine Xw.tf rfl rfl ?_))))) | (refine XO.done rfl ?_; refine hK _ _ ?_; clear hK K) | refine X.seq rfl ?_ | refine X.region rfl (fun K hK => ?_) | refine X.ret rfl ?_ | (refine X.ite rfl rfl (fun hc => ?_); (first | (with_reducible refine Xb.t hc ?_)) <;> clear hc))
    all_goals try (exfalso; contradiction)
    exact ret_one (by first | exact .inr rfl | exact .inl rfl) Try.results7 rfl (H' := _) (List.Sublist.refl _) rfl
  have hG := greatF T p hgr
  have hT : TmOk H T p := ⟨hg, hs, by omega, by omega⟩
  refine Fc.mk (callable Try.call7) Try.func7 rfl Try.ntmps7 rfl ?_; dsimp only [fr]
  repeat' (first | (refine XO.op rfl ?_; (first | ((first | refine Xo.ng rfl ?_ | (refine Xo.g rfl rfl ?_; with_reducible refine Xw.ff ?_)); (first | (refine Xg.call (EnF.st rfl (Args.cons rfl Args.nil)) rfl rfl (hG _) ?_; rintro _ H9 ⟨rfl, hH9⟩; subst H9) | (refine Xg.call (EnF.st rfl (by (repeat (first | exact Args.nil | refine Args.cons rfl ?_)); done)) rfl rfl (twin_spec T p _ (hT.sub (fun _ hm => List.Mem.tail _ hm))) ?_; rintro _ _ ⟨t1, k1, t2, k2, rfl, rfl⟩) | (refine Xg.ev (EvF.move rfl rfl) rfl rfl ?_) | (refine Xg.ev (EvF.assign rfl rfl) rfl rfl ?_) | (refine Xg.ev (EvF.pickF rfl rfl rfl) rfl rfl ?_) | (refine Xg.ev (EvF.cmp rfl rfl rfl rfl) rfl rfl ?_) | (refine Xg.ev (EvF.lenSlice rfl rfl (te rfl)) rfl rfl ?_) | (refine Xg.ev (EvF.loadV rfl rfl (LoadV.whole (te rfl) rfl (List.Mem.head _) rfl)) rfl rfl ?_) | (refine Xg.st (StF.boxAgg rfl rfl) rfl rfl ?_; rintro _ _ ⟨bx, rfl, rfl⟩) | (refine Xg.st (StF.alloc rfl Try.zeroValue28 rfl) rfl rfl ?_; rintro _ _ ⟨bx, rfl, rfl⟩) | (refine Xg.st0 (StF.storeAll (i := 0) rfl rfl rfl (te rfl) rfl rfl rfl rfl) rfl ?_; rintro _ _ ⟨rfl, rfl⟩; dsimp only [List.set]))))) | (refine XO.done rfl ?_; refine hK _ _ ?_; clear hK K) | refine X.seq rfl ?_ | refine X.region rfl (fun K hK => ?_) | refine X.block rfl ?_ | refine X.skip rfl ?_ | refine X.ret rfl ?_ | (refine X.ite rfl rfl (fun hc => ?_); (first | (with_reducible refine Xb.case hc (fun h => ?_) (fun h => ?_))) <;> clear hc))
  all_goals try (exfalso; contradiction)
  · exact ret_one (by first | exact .inr rfl | exact .inl rfl) Try.results7 rfl (H' := _) (List.Sublist.refl _) rfl
  have hl70 : l.length ≤ 70 := by omega
  rename_i b2
  obtain ⟨b5, hb5⟩ : ∃ b, b = bx := ⟨_, rfl⟩
  rw [← hb5]
  clear hb5
  obtain ⟨HX0, hHX0⟩ : ∃ HH : List Row, HH = (⟨b5, 0, cTm T (plT t1 k1 t2 k2), some 28, 11⟩ :: rI T.G t1 k1 :: rI T.S t2 k2 :: ⟨b2, 0, cTm T p, some 28, 11⟩ :: H) := ⟨_, rfl⟩
  have m5 : ⟨b5, 0, cTm T (plT t1 k1 t2 k2), some 28, 11⟩ ∈ HX0 := by rw [hHX0]; exact (List.Mem.head _)
  have m2 : ⟨b2, 0, cTm T p, some 28, 11⟩ ∈ HX0 := by rw [hHX0]; exact (List.Mem.tail _ (List.Mem.tail _ (List.Mem.tail _ (List.Mem.head _))))
  have hO : TmOk HX0 T (plT t1 k1 t2 k2) := ownT T t1 k1 t2 k2 _ (by omega) (by omega) (by rw [hHX0]; exact (List.Mem.tail _ (List.Mem.head _))) (by rw [hHX0]; exact (List.Mem.tail _ (List.Mem.tail _ (List.Mem.head _))))
  have hI : TmOk HX0 T p := hT.sub (fun r hr => by rw [hHX0]; exact List.mem_append_right [_, _, _, _] hr)
  have hl0 : SlE HX0 a cDy 3 l := hl.sub (fun r hr => by rw [hHX0]; exact List.mem_append_right [_, _, _, _] hr)
  have hd0 : ∀ d ∈ l, SlE HX0 d.a1 cI 1 d.G ∧ SlE HX0 d.a2 cI 1 d.S := fun d h => ⟨(hd d h).1.sub (fun r hr => by rw [hHX0]; exact List.mem_append_right [_, _, _, _] hr), (hd d h).2.sub (fun r hr => by rw [hHX0]; exact List.mem_append_right [_, _, _, _] hr)⟩
  show X _ _ _ _ (⟨b5, 0, cTm T (plT t1 k1 t2 k2), some 28, 11⟩ :: rI T.G t1 k1 :: rI T.S t2 k2 :: ⟨b2, 0, cTm T p, some 28, 11⟩ :: H) _
  rw [← hHX0]
  clear hHX0 hT hg hs hl hd hG
  refine X.lp rfl (fun w F' H' => ∃ (k : Nat) (m : List Dy) (out : Value) (Z HX : List Row), w = l.length - k ∧ k ≤ l.length ∧ MyDs l m k HX0 HX ∧ OutD m out Z ∧ H' = Z ++ HX ∧ F' = [(1, .slice a l.length cc), (2, .pointer (some ⟨b2, 0, none⟩)), (5, .pointer (some ⟨b5, 0, none⟩)), (6, out), (28, .slice a l.length cc), (29, .int .i64 l.length), (30, .int .i64 k)])
    l.length [(1, .slice a l.length cc), (2, .pointer (some ⟨b2, 0, none⟩)), (5, .pointer (some ⟨b5, 0, none⟩)), (6, .slice none 0 0), (28, .slice a l.length cc), (29, .int .i64 l.length), (30, .int .i64 (0 : Nat))] _ (by (repeat (first | exact Sub.nil _ | refine Sub.cons rfl ?_)); done) (List.Sublist.refl _) ⟨0, [], .slice none 0 0, [], HX0, rfl, by omega, ⟨rfl, fun d hd => absurd hd List.not_mem_nil, List.Sublist.refl _, fun i d hi => absurd hi (by omega)⟩, .inl ⟨rfl, rfl, rfl⟩, rfl, rfl⟩ ?_
  rintro _ _ _ ⟨k, m, out, Z, HX, rfl, hk, hM, hOut, rfl, rfl⟩
  have hmk := hM.len hk
  have hlX : ∀ Z : List Row, SlE (Z ++ HX) a cDy 3 l := fun Z => hl0.sub (fun r hr => List.mem_append_right _ (hM.base.subset hr))
  repeat' (first | (refine XO.op rfl ?_; (first | ((first | refine Xo.ng rfl ?_); (first | (refine Xg.ev (EvF.cmp rfl rfl rfl rfl) rfl rfl ?_))))) | (refine XO.done rfl ?_; refine hK _ _ ?_; clear hK K) | refine X.seq rfl ?_ | refine X.region rfl (fun K hK => ?_) | refine X.block rfl ?_ | (refine X.brk rfl ?_; repeat (first | refine blockX_hit rfl ?_ | refine blockX_miss (by decide) ?_)) | refine X.skip rfl ?_ | (refine X.ite rfl rfl (fun hc => ?_); (first | (with_reducible refine Xb.case hc (fun h => ?_) (fun h => ?_))) <;> clear hc))
  · obtain ⟨lb, lo, d, rfl, he⟩ := hl0.elem (i := k) (by omega)
    have hdd := hd0 d (List.mem_of_getElem? he)
    by_cases hdg : (d.G.length > 30 ∨ d.S.length > 30)
    · have hgd := greatDT d hdg
      rcases hOut with ⟨rfl, rfl, rfl⟩ | ⟨bo, qo, rfl, rfl⟩
      · dsimp only [List.cons_append, List.nil_append]
        repeat' (first | (refine XO.op rfl ?_; (first | ((first | refine Xo.ng rfl ?_); (first | (refine Xg.ev (EvF.loadV rfl rfl (LoadV.elA0 (hlX []) he (te rfl) rfl (fun _ hm => hm) rfl)) rfl rfl ?_) | (refine Xg.call (EnF.st rfl (Args.cons rfl Args.nil)) rfl rfl (hgd _) ?_; rintro _ H9 ⟨rfl, hH9⟩; subst H9) | (refine Xg.ev (EvF.assign rfl rfl) rfl rfl ?_) | (refine Xg.ev (EvF.indexSlice rfl rfl rfl (te rfl) (te rfl) (by omega) (by omega)) rfl rfl ?_) | (refine Xg.ev (EvF.loadV rfl rfl (LoadV.whole (te rfl) rfl (List.Mem.head _) rfl)) rfl rfl ?_) | (refine Xg.st (StF.alloc rfl Try.zeroValue65 rfl) rfl rfl ?_; rintro _ _ ⟨bx, rfl, rfl⟩) | (refine Xg.st0 (StF.storeAll (i := 0) rfl rfl rfl (te rfl) rfl rfl rfl rfl) rfl ?_; rintro _ _ ⟨rfl, rfl⟩; dsimp only [List.set]))))) | (refine XO.done rfl ?_; refine hK _ _ ?_; clear hK K) | refine X.seq rfl ?_ | refine X.region rfl (fun K hK => ?_) | refine X.ret rfl ?_ | (refine X.ite rfl rfl (fun hc => ?_); (first | (with_reducible refine Xb.t hc ?_)) <;> clear hc))
        all_goals try (exfalso; contradiction)
        exact ret_one (by first | exact .inr rfl | exact .inl rfl) Try.results7 rfl (H' := _) (List.Sublist.refl _) rfl
      · dsimp only [List.cons_append, List.nil_append]
        repeat' (first | (refine XO.op rfl ?_; (first | ((first | refine Xo.ng rfl ?_); (first | (refine Xg.ev (EvF.loadV rfl rfl (LoadV.elA0 (hlX [_]) he (te rfl) rfl (fun _ hm => hm) rfl)) rfl rfl ?_) | (refine Xg.call (EnF.st rfl (Args.cons rfl Args.nil)) rfl rfl (hgd _) ?_; rintro _ H9 ⟨rfl, hH9⟩; subst H9) | (refine Xg.ev (EvF.assign rfl rfl) rfl rfl ?_) | (refine Xg.ev (EvF.indexSlice rfl rfl rfl (te rfl) (te rfl) (by omega) (by omega)) rfl rfl ?_) | (refine Xg.ev (EvF.loadV rfl rfl (LoadV.whole (te rfl) rfl (List.Mem.head _) rfl)) rfl rfl ?_) | (refine Xg.st (StF.alloc rfl Try.zeroValue65 rfl) rfl rfl ?_; rintro _ _ ⟨bx, rfl, rfl⟩) | (refine Xg.st0 (StF.storeAll (i := 0) rfl rfl rfl (te rfl) rfl rfl rfl rfl) rfl ?_; rintro _ _ ⟨rfl, rfl⟩; dsimp only [List.set]))))) | (refine XO.done rfl ?_; refine hK _ _ ?_; clear hK K) | refine X.seq rfl ?_ | refine X.region rfl (fun K hK => ?_) | refine X.ret rfl ?_ | (refine X.ite rfl rfl (fun hc => ?_); (first | (with_reducible refine Xb.t hc ?_)) <;> clear hc))
        all_goals try (exfalso; contradiction)
        exact ret_one (by first | exact .inr rfl | exact .inl rfl) Try.results7 rfl (H' := _) (List.Sublist.refl _) rfl
    · have hgd := greatDF d hdg
      have hDX : ∀ Z : List Row, DyOk (Z ++ HX) d := fun Z => ⟨hdd.1.sub (fun r hr => List.mem_append_right _ (hM.base.subset hr)), hdd.2.sub (fun r hr => List.mem_append_right _ (hM.base.subset hr)), by omega, by omega⟩
      have hsn := fun t1 k1 t2 k2 => hM.snoc (t1 := t1) (k1 := k1) (t2 := t2) (k2 := k2) he hdg
      rcases hOut with ⟨rfl, rfl, rfl⟩ | ⟨bo, qo, rfl, rfl⟩
      · dsimp only [List.cons_append, List.nil_append]
        repeat' (first | (refine XO.op rfl ?_; (first | ((first | refine Xo.ng rfl ?_); (first | (refine Xg.ev (EvF.loadV rfl rfl (LoadV.elA0 (hlX []) he (te rfl) rfl (fun _ hm => hm) rfl)) rfl rfl ?_) | (refine Xg.call (EnF.st rfl (Args.cons rfl Args.nil)) rfl rfl (hgd _) ?_; rintro _ H9 ⟨rfl, hH9⟩; subst H9) | (refine Xg.call (EnF.st rfl (by (repeat (first | exact Args.nil | refine Args.cons rfl ?_)); done)) rfl rfl (twinD_spec d _ (hDX [_])) ?_; rintro _ _ ⟨u1, j1, u2, j2, rfl, rfl⟩) | (refine Xg.st (StF.buildOne rfl elDy rfl rfl rfl (by decide) (by decide)) rfl rfl ?_; rintro _ _ ⟨bs, rfl, rfl⟩) | (refine Xg.st (StF.appendNew rfl elDy rfl rfl (by decide) rfl (Rd.own (List.Mem.head _)) (by decide)) rfl rfl ?_; rintro _ _ ⟨bn, kn, rfl, rfl⟩) | (refine Xg.ev (EvF.move rfl rfl) rfl rfl ?_) | (refine Xg.ev (EvF.assign rfl rfl) rfl rfl ?_) | (refine Xg.ev (EvF.add64 rfl rfl rfl (by omega) (by omega)) rfl rfl ?_) | (refine Xg.ev (EvF.indexSlice rfl rfl rfl (te rfl) (te rfl) (by omega) (by omega)) rfl rfl ?_) | (refine Xg.ev (EvF.loadV rfl rfl (LoadV.whole (te rfl) rfl (List.Mem.head _) rfl)) rfl rfl ?_) | (refine Xg.st (StF.alloc rfl Try.zeroValue65 rfl) rfl rfl ?_; rintro _ _ ⟨bx, rfl, rfl⟩) | (refine Xg.st0 (StF.storeAll (i := 0) rfl rfl rfl (te rfl) rfl rfl rfl rfl) rfl ?_; rintro _ _ ⟨rfl, rfl⟩; dsimp only [List.set]))))) | (refine XO.done rfl ?_; refine hK _ _ ?_; clear hK K) | refine X.seq rfl ?_ | refine X.region rfl (fun K hK => ?_) | refine X.skip rfl ?_ | (refine X.ite rfl rfl (fun hc => ?_); (first | (with_reducible refine Xb.f hc ?_)) <;> clear hc))
        all_goals try (exfalso; contradiction)
        refine ⟨_, [(1, .slice (some ⟨lb, lo, none⟩) l.length cc), (2, .pointer (some ⟨b2, 0, none⟩)), (5, .pointer (some ⟨b5, 0, none⟩)), (6, .slice (some ⟨bn, 0, none⟩) 1 kn), (28, .slice (some ⟨lb, lo, none⟩) l.length cc), (29, .int .i64 l.length), (30, .int .i64 (k + 1 : Nat))], ⟨bn, 0, cDy (dyP d u1 j1 u2 j2), some 65, kn * 3⟩ :: rI d.G u1 j1 :: rI d.S u2 j2 :: HX, (by (repeat (first | exact Sub.nil _ | refine Sub.cons rfl ?_)); done), (by (repeat (first | exact List.Sublist.refl _ | apply List.Sublist.cons_cons | apply List.Sublist.cons)); done), ⟨k + 1, _, _, [⟨bn, 0, cDy (dyP d u1 j1 u2 j2), some 65, kn * 3⟩], _, rfl, by omega, hsn u1 j1 u2 j2, .inr ⟨bn, kn, rfl, rfl⟩, rfl, rfl⟩, by omega⟩
      · have hlen := lenDy m
        dsimp only [List.cons_append, List.nil_append]
        repeat' (first | (refine XO.op rfl ?_; (first | ((first | refine Xo.ng rfl ?_); (first | (refine Xg.ev (EvF.loadV rfl rfl (LoadV.elA0 (hlX [_]) he (te rfl) rfl (fun _ hm => hm) rfl)) rfl rfl ?_) | (refine Xg.call (EnF.st rfl (Args.cons rfl Args.nil)) rfl rfl (hgd _) ?_; rintro _ H9 ⟨rfl, hH9⟩; subst H9) | (refine Xg.call (EnF.st rfl (by (repeat (first | exact Args.nil | refine Args.cons rfl ?_)); done)) rfl rfl (twinD_spec d _ (hDX [_, _])) ?_; rintro _ _ ⟨u1, j1, u2, j2, rfl, rfl⟩) | (refine Xg.st (StF.buildOne rfl elDy rfl rfl rfl (by decide) (by decide)) rfl rfl ?_; rintro _ _ ⟨bs, rfl, rfl⟩) | (refine Xg.st (StF.appendOwn (i := 4) rfl elDy rfl rfl rfl hlen rfl (Rd.own (List.Mem.head _)) rfl (by omega)) rfl rfl ?_; rintro _ _ ⟨bn, kn, rfl, rfl⟩; dsimp only [List.eraseIdx]) | (refine Xg.ev (EvF.move rfl rfl) rfl rfl ?_) | (refine Xg.ev (EvF.assign rfl rfl) rfl rfl ?_) | (refine Xg.ev (EvF.add64 rfl rfl rfl (by omega) (by omega)) rfl rfl ?_) | (refine Xg.ev (EvF.indexSlice rfl rfl rfl (te rfl) (te rfl) (by omega) (by omega)) rfl rfl ?_) | (refine Xg.ev (EvF.loadV rfl rfl (LoadV.whole (te rfl) rfl (List.Mem.head _) rfl)) rfl rfl ?_) | (refine Xg.st (StF.alloc rfl Try.zeroValue65 rfl) rfl rfl ?_; rintro _ _ ⟨bx, rfl, rfl⟩) | (refine Xg.st0 (StF.storeAll (i := 0) rfl rfl rfl (te rfl) rfl rfl rfl rfl) rfl ?_; rintro _ _ ⟨rfl, rfl⟩; dsimp only [List.set]))))) | (refine XO.done rfl ?_; refine hK _ _ ?_; clear hK K) | refine X.seq rfl ?_ | refine X.region rfl (fun K hK => ?_) | refine X.skip rfl ?_ | (refine X.ite rfl rfl (fun hc => ?_); (first | (with_reducible refine Xb.f hc ?_)) <;> clear hc))
        all_goals try (exfalso; contradiction)
        refine ⟨_, [(1, .slice (some ⟨lb, lo, none⟩) l.length cc), (2, .pointer (some ⟨b2, 0, none⟩)), (5, .pointer (some ⟨b5, 0, none⟩)), (6, .slice (some ⟨bn, 0, none⟩) (m.length + 1) kn), (28, .slice (some ⟨lb, lo, none⟩) l.length cc), (29, .int .i64 l.length), (30, .int .i64 (k + 1 : Nat))], ⟨bn, 0, m.flatMap cDy ++ cDy (dyP d u1 j1 u2 j2), some 65, kn * 3⟩ :: rI d.G u1 j1 :: rI d.S u2 j2 :: HX, (by (repeat (first | exact Sub.nil _ | refine Sub.cons rfl ?_)); done), (by (repeat (first | exact List.Sublist.refl _ | apply List.Sublist.cons_cons | apply List.Sublist.cons)); done), ⟨k + 1, _, _, [⟨bn, 0, m.flatMap cDy ++ cDy (dyP d u1 j1 u2 j2), some 65, kn * 3⟩], _, rfl, by omega, hsn u1 j1 u2 j2, .inr ⟨bn, kn, by rw [List.length_append]; rfl, by rw [List.flatMap_append]; rfl⟩, rfl, rfl⟩, by omega⟩
  obtain rfl : k = l.length := by omega
  have hsame : m.map cont = l.map cont := by rw [hM.same, List.take_length]
  have hsmall : ∀ d ∈ l, smD d := fun d hd => by
    obtain ⟨i, hi, rfl⟩ := List.mem_iff_getElem.1 hd
    exact hM.sm i _ hi (List.getElem?_eq_getElem hi)
  obtain ⟨om, cm, rfl, hsl⟩ := hOut.sl (H := Z ++ HX) (fun r h => List.mem_append_left _ h)
  rw [hmk]
  obtain ⟨HY, hHY⟩ : ∃ HY, HY = Z ++ HX := ⟨_, rfl⟩
  have hsub : ∀ r ∈ HX0, r ∈ HY := fun r hr => by rw [hHY]; exact List.mem_append_right _ (hM.base.subset hr)
  have hsub' : ∀ r ∈ HX, r ∈ HY := fun r hr => by rw [hHY]; exact List.mem_append_right _ hr
  rw [← hHY] at hsl ⊢
  have n5 : ∀ W : List Row, ⟨b5, 0, cTm T (plT t1 k1 t2 k2), some 28, 11⟩ ∈ W ++ HY := fun W => List.mem_append_right _ (hsub _ m5)
  have n2 : ∀ W : List Row, ⟨b2, 0, cTm T p, some 28, 11⟩ ∈ W ++ HY := fun W => List.mem_append_right _ (hsub _ m2)
  have hO' : ∀ W : List Row, TmOk (W ++ HY) T (plT t1 k1 t2 k2) := fun W => hO.sub (fun r hr => List.mem_append_right _ (hsub r hr))
  have hI' : ∀ W : List Row, TmOk (W ++ HY) T p := fun W => hI.sub (fun r hr => List.mem_append_right _ (hsub r hr))
  have hL' : ∀ W : List Row, DsOk (W ++ HY) l a := fun W => ⟨hl0.sub (fun r hr => List.mem_append_right _ (hsub r hr)), fun d hd => by
    have hq := hsmall d hd
    unfold smD at hq
    exact ⟨(hd0 d hd).1.sub (fun r hr => List.mem_append_right _ (hsub r hr)), (hd0 d hd).2.sub (fun r hr => List.mem_append_right _ (hsub r hr)), by omega, by omega⟩⟩
  have hM' : ∀ W : List Row, DsOk (W ++ HY) m om := fun W => ⟨hsl.sub (fun r hr => List.mem_append_right _ hr), fun d hd => (hM.ok d hd).sub (fun r hr => List.mem_append_right _ (hsub' r hr))⟩
  obtain ⟨⟨x, y, z⟩, hR⟩ : ∃ r, monR T l = r := ⟨_, rfl⟩
  obtain ⟨e, hE⟩ : ∃ e, monE T l = e := ⟨_, rfl⟩
  have hRm : monR T m = (x, y, z) := by rw [← monR_cont, hsame, monR_cont, hR]
  have hEm : monE T m = e := by rw [← monE_cont, hsame, monE_cont, hE]
  have kk : ∀ (H : List Row), TmOk H T (plT t1 k1 t2 k2) → DsOk H m om → Fc Try.prog 36 [.agg (cTm T (plT t1 k1 t2 k2)).toArray, .slice om l.length cm] H (fun v H' => v = .tuple #[.int .i64 x, .agg (cCl y).toArray, .int .i64 z, .int .i64 e] ∧ H' = H) := fun H h h' => by
    have := kMonth_spec T (plT t1 k1 t2 k2) m om cm H h h' (by omega)
    unfold MonRes at this
    rw [hRm, hEm, hmk] at this
    exact this
  have rr : ∀ (H : List Row), TmOk H T p → DsOk H l a → Fc Try.prog 37 [.agg (cTm T p).toArray, .slice a l.length cc] H (fun v H' => v = .tuple #[.int .i64 x, .agg (cCl y).toArray, .int .i64 z, .int .i64 e] ∧ H' = H) := fun H h h' => by
    have := rMonth_spec T p l a cc H h h' (by omega)
    unfold MonRes at this
    rw [hR, hE] at this
    exact this
  clear hHY hM hOut hlX hl0 hd0 hsub hsub' m5 m2 hO hI hR hE hRm hEm hsl hsmall hgr hk h
  repeat' (first | (refine XO.op rfl ?_; (first | ((first | refine Xo.ng rfl ?_); (first | (refine Xg.ev (EvF.loadV rfl rfl (LoadV.whole (te rfl) rfl (n5 []) rfl)) rfl rfl ?_) | (refine Xg.call (EnF.st rfl (Args.cons rfl (Args.cons rfl Args.nil))) rfl rfl (kk _ (hO' []) (hM' [])) ?_; rintro _ H9 ⟨rfl, hH9⟩; subst H9) | (refine Xg.ev (EvF.move rfl rfl) rfl rfl ?_) | (refine Xg.ev (EvF.assign rfl rfl) rfl rfl ?_) | (refine Xg.ev (EvF.extract rfl rfl rfl) rfl rfl ?_) | (refine Xg.st (StF.alloc rfl Try.zeroValue26 rfl) rfl rfl ?_; rintro _ _ ⟨bx, rfl, rfl⟩) | (refine Xg.st0 (StF.storeAll (i := 0) rfl rfl rfl (te rfl) rfl rfl rfl rfl) rfl ?_; rintro _ _ ⟨rfl, rfl⟩; dsimp only [List.set]))))) | (refine XO.done rfl ?_; refine hK _ _ ?_; clear hK K) | refine X.seq rfl ?_ | refine X.region rfl (fun K hK => ?_))
  repeat' (first | (refine XO.op rfl ?_; (first | ((first | refine Xo.ng rfl ?_); (first | (refine Xg.ev (EvF.loadV rfl rfl (LoadV.whole (te rfl) rfl (n2 [_]) rfl)) rfl rfl ?_) | (refine Xg.call (EnF.st rfl (Args.cons rfl (Args.cons rfl Args.nil))) rfl rfl (rr _ (hI' [_]) (hL' [_])) ?_; rintro _ H9 ⟨rfl, hH9⟩; subst H9) | (refine Xg.ev (EvF.move rfl rfl) rfl rfl ?_) | (refine Xg.ev (EvF.assign rfl rfl) rfl rfl ?_) | (refine Xg.ev (EvF.lenSlice rfl rfl (te rfl)) rfl rfl ?_) | (refine Xg.ev (EvF.extract rfl rfl rfl) rfl rfl ?_) | (refine Xg.st (StF.alloc rfl Try.zeroValue26 rfl) rfl rfl ?_; rintro _ _ ⟨bx, rfl, rfl⟩) | (refine Xg.st0 (StF.storeAll (i := 0) rfl rfl rfl (te rfl) rfl rfl rfl rfl) rfl ?_; rintro _ _ ⟨rfl, rfl⟩; dsimp only [List.set]))))) | (refine XO.done rfl ?_; refine hK _ _ ?_; clear hK K) | refine X.seq rfl ?_ | refine X.region rfl (fun K hK => ?_) | refine X.block rfl ?_)
  repeat' (first | fail)
  rename_i b10
  obtain ⟨b14, hb14⟩ : ∃ b, b = bx := ⟨_, rfl⟩
  rw [← hb14]
  clear hb14
  refine X.lp rfl (fun w F' H' => ∃ k : Nat, w = l.length - k ∧ k ≤ l.length ∧ H' = ⟨b14, 0, cCl y, some 23, 2⟩ :: ⟨b10, 0, cCl y, some 23, 2⟩ :: HY ∧ F' = [(1, .slice a l.length cc), (2, .pointer (some ⟨b2, 0, none⟩)), (5, .pointer (some ⟨b5, 0, none⟩)), (6, .slice om l.length cm), (9, .int .i64 x), (10, .pointer (some ⟨b10, 0, none⟩)), (11, .int .i64 z), (12, .int .i64 e), (13, .int .i64 x), (14, .pointer (some ⟨b14, 0, none⟩)), (15, .int .i64 z), (16, .int .i64 e), (58, .slice om l.length cm), (59, .int .i64 l.length), (60, .int .i64 k)])
    l.length [(1, .slice a l.length cc), (2, .pointer (some ⟨b2, 0, none⟩)), (5, .pointer (some ⟨b5, 0, none⟩)), (6, .slice om l.length cm), (9, .int .i64 x), (10, .pointer (some ⟨b10, 0, none⟩)), (11, .int .i64 z), (12, .int .i64 e), (13, .int .i64 x), (14, .pointer (some ⟨b14, 0, none⟩)), (15, .int .i64 z), (16, .int .i64 e), (58, .slice om l.length cm), (59, .int .i64 l.length), (60, .int .i64 (0 : Nat))] _ (by (repeat (first | exact Sub.nil _ | refine Sub.cons rfl ?_)); done) (List.Sublist.refl _) ⟨0, rfl, by omega, rfl, rfl⟩ ?_
  rintro _ _ _ ⟨k, rfl, hk, rfl, rfl⟩
  repeat' (first | (refine XO.op rfl ?_; (first | ((first | refine Xo.ng rfl ?_ | (refine Xo.g rfl rfl ?_; with_reducible refine Xw.tt ?_)); (first | (refine Xg.ev (EvF.move rfl rfl) rfl rfl ?_) | (refine Xg.ev (EvF.cmp rfl rfl rfl rfl) rfl rfl ?_) | (refine Xg.ev (EvF.loadV rfl rfl (LoadV.whole (te rfl) rfl (List.Mem.head _) rfl)) rfl rfl ?_) | (refine Xg.ev (EvF.loadV rfl rfl (LoadV.whole (te rfl) rfl (List.Mem.tail _ (List.Mem.head _)) rfl)) rfl rfl ?_))) | (refine Xo.g rfl rfl ?_; (first | (with_reducible refine Xw.case (fun h => ?_) (fun h => ?_) <;> simp only [h, decide_true, decide_false, Bool.not_true, Bool.not_false, and_self, and_true, true_and, and_false, false_and]))))) | (refine XO.done rfl ?_; refine hK _ _ ?_; clear hK K) | refine X.seq rfl ?_ | refine X.region rfl (fun K hK => ?_) | refine X.block rfl ?_ | (refine X.brk rfl ?_; repeat (first | refine blockX_hit rfl ?_ | refine blockX_miss (by decide) ?_)) | refine X.skip rfl ?_ | (refine X.ite rfl rfl (fun hc => ?_); (first | (with_reducible refine Xb.case hc (fun h => ?_) (fun h => ?_))) <;> clear hc))
  · obtain ⟨d, he⟩ : ∃ d, l[k]? = some d := ⟨_, List.getElem?_eq_getElem (by omega)⟩
    obtain ⟨d', he'⟩ : ∃ d, m[k]? = some d := ⟨_, List.getElem?_eq_getElem (by omega)⟩
    have hc : cont d' = cont d := by
      have := congrArg (·[k]?) hsame
      simp only [List.getElem?_map, he, he', Option.map_some, Option.some.injEq] at this
      exact this
    obtain ⟨lb, lo, d0, rfl, he0⟩ := (hL' []).sl.elem (i := k) (by omega)
    obtain ⟨mb, mo, d1, rfl, he1⟩ := (hM' []).sl.elem (i := k) (by omega)
    obtain rfl : d0 = d := by rw [he] at he0; cases he0; rfl
    obtain rfl : d1 = d' := by rw [he'] at he1; cases he1; rfl
    have hD1 := fun W => (hM' W).each d1 (List.mem_of_getElem? he')
    have hD0 := fun W => (hL' W).each d0 (List.mem_of_getElem? he)
    repeat' (first | (refine XO.op rfl ?_; (first | ((first | refine Xo.ng rfl ?_); (first | (refine Xg.ev (EvF.loadV rfl rfl (LoadV.elA0 (hM' [_, _]).sl he' (te rfl) rfl (fun _ hm => hm) rfl)) rfl rfl ?_) | (refine Xg.ev (EvF.move rfl rfl) rfl rfl ?_) | (refine Xg.ev (EvF.assign rfl rfl) rfl rfl ?_) | (refine Xg.ev (EvF.add64 rfl rfl rfl (by omega) (by omega)) rfl rfl ?_) | (refine Xg.ev (EvF.indexSlice rfl rfl rfl (te rfl) (te rfl) (by omega) (by omega)) rfl rfl ?_) | (refine Xg.st (StF.alloc rfl Try.zeroValue65 rfl) rfl rfl ?_; rintro _ _ ⟨bx, rfl, rfl⟩) | (refine Xg.st0 (StF.storeAll (i := 0) rfl rfl rfl (te rfl) rfl rfl rfl rfl) rfl ?_; rintro _ _ ⟨rfl, rfl⟩; dsimp only [List.set]))))) | (refine XO.done rfl ?_; refine hK _ _ ?_; clear hK K) | (refine XQ.op rfl ?_; (first | ((first | refine Yo.ng rfl ?_); (first | (refine Yg.ev (EvF.loadV rfl rfl (LoadV.elA0 (hL' [_, _, _]).sl he (te rfl) rfl (fun _ hm => hm) rfl)) rfl rfl ?_) | (refine Yg.call (EnF.st rfl (Args.cons rfl (Args.cons rfl Args.nil))) rfl rfl (sameDc_spec d1 d0 hc _ (hD1 [_, _, _]) (hD0 [_, _, _])) ?_) | (refine Yg.ev (EvF.move rfl rfl) rfl rfl ?_) | (refine Yg.ev (EvF.not rfl rfl) rfl rfl ?_) | (refine Yg.ev (EvF.indexSlice rfl rfl rfl (te rfl) (te rfl) (by omega) (by omega)) rfl rfl ?_) | (refine Yg.ev (EvF.loadV rfl rfl (LoadV.whole (te rfl) rfl (List.Mem.head _) rfl)) rfl rfl ?_))))) | (refine XQ.done rfl ?_; refine hK _ ?_; clear hK K) | refine X.seq rfl ?_ | refine X.region rfl (fun K hK => ?_) | refine X.regionD rfl mixed (by kernel_rfl) (fun K hK => ?_) | refine X.skip rfl ?_ | refine X.ret rfl ?_ | (refine X.ite rfl rfl (fun hc => ?_); (first | (with_reducible refine Xb.caseB hc (fun h => ?_) (fun h => ?_))) <;> clear hc))
    all_goals try (exfalso; contradiction)
    refine ⟨_, [(1, .slice (some ⟨lb, lo, none⟩) l.length cc), (2, .pointer (some ⟨b2, 0, none⟩)), (5, .pointer (some ⟨b5, 0, none⟩)), (6, .slice (some ⟨mb, mo, none⟩) l.length cm), (9, .int .i64 x), (10, .pointer (some ⟨b10, 0, none⟩)), (11, .int .i64 z), (12, .int .i64 e), (13, .int .i64 x), (14, .pointer (some ⟨b14, 0, none⟩)), (15, .int .i64 z), (16, .int .i64 e), (58, .slice (some ⟨mb, mo, none⟩) l.length cm), (59, .int .i64 l.length), (60, .int .i64 (k + 1 : Nat))], _, (by (repeat (first | exact Sub.nil _ | refine Sub.cons rfl ?_)); done), (by (repeat (first | exact List.Sublist.refl _ | apply List.Sublist.cons_cons | apply List.Sublist.cons)); done), ⟨k + 1, rfl, by omega, rfl, rfl⟩, by omega⟩
  all_goals try (exfalso; exact absurd rfl (by assumption : ¬ x = x))
  repeat' (first | (refine XO.op rfl ?_; (first | ((first | refine Xo.ng rfl ?_ | (refine Xo.g rfl rfl ?_; with_reducible refine Xw.tt ?_)); (first | (refine Xg.ev (EvF.loadV rfl rfl (LoadV.whole (te rfl) rfl (n5 [_, _]) rfl)) rfl rfl ?_) | (refine Xg.ev (EvF.loadV rfl rfl (LoadV.whole (te rfl) rfl (n2 [_, _]) rfl)) rfl rfl ?_) | (refine Xg.ev (EvF.eqSelf rfl rfl rfl) rfl rfl ?_) | (refine Xg.ev (EvF.eqSt rfl rfl rfl (by kernel_rfl) (fun w => eqCl 9998 y y w) rfl) rfl rfl ?_) | (refine Xg.call (EnF.st rfl (Args.cons rfl (Args.cons rfl Args.nil))) rfl rfl (sameT_self T _ p _ (hO' [_, _]) (hI' [_, _])) ?_; rintro _ H9 ⟨rfl, hH9⟩; subst H9) | (refine Xg.ev (EvF.move rfl rfl) rfl rfl ?_) | (refine Xg.ev (EvF.assign rfl rfl) rfl rfl ?_) | (refine Xg.ev (EvF.pickT rfl rfl rfl) rfl rfl ?_))) | (refine Xo.g rfl rfl ?_; (first | (with_reducible refine Xw.case (fun h => ?_) (fun h => ?_) <;> simp only [h, decide_true, decide_false, Bool.not_true, Bool.not_false, and_self, and_true, true_and, and_false, false_and]))))) | (refine XO.done rfl ?_; refine hK _ _ ?_; clear hK K) | refine X.ret rfl ?_)
  repeat' (first | fail)
  all_goals try (exfalso; exact absurd rfl (by assumption : ¬ y = y))
  exact ret_one (by first | exact .inr rfl | exact .inl rfl) Try.results7 rfl (H' := _) (List.Sublist.refl _) rfl
end Go.Proofs.Ytcjlegjchllgjaa
end
section
set_option linter.unusedVariables false
namespace Go.Proofs.Ytcjlegjchllgjaa
open Go Go.Fw Go.ChangeShapes Go.WideShapes Go.ChangeAt Go.RowKit
set_option linter.unusedVariables false
set_option maxRecDepth 100000
def Dz : Dy := ⟨0, [], [], none, 0, none, 0⟩
structure InDy (w : World) (d : Dy) : Prop where
  gr : InSl w d.a1 cI 1 d.G
  st : InSl w d.a2 cI 1 d.S
def rowsDy (d : Dy) : List Row := rowsOf d.a1 cI d.G ++ rowsOf d.a2 cI d.S
theorem InDy.ok {w : World} {d : Dy} {N : Nat} (h : InDy w d) : ∀ r ∈ rowsDy d, r.own = none ∧ r.ok N w := by
  intro r hr
  rcases List.mem_append.1 hr with hr | hr
  · exact h.gr.ok r hr
  · exact h.st.ok r hr
theorem InDy.g {w : World} {d : Dy} (h : InDy w d) {H : List Row} (hs : ∀ r ∈ rowsDy d, r ∈ H) : SlE H d.a1 cI 1 d.G := h.gr.sl (fun r hr => hs r (List.mem_append_left _ hr))
theorem InDy.s {w : World} {d : Dy} (h : InDy w d) {H : List Row} (hs : ∀ r ∈ rowsDy d, r ∈ H) : SlE H d.a2 cI 1 d.S := h.st.sl (fun r hr => hs r (List.mem_append_right _ hr))
section
variable {H : Type} {enc : TypeId × Value → H} {w : World} {base : Nat} {spare : Nat → Bool} {held : Bool} {fuel : Nat} {cs : List Value} {x : DataW H × List MemPlace}
theorem open_dy (h : DataW.trod enc Try.prog w base spare held fuel 65 cs = some x) : ∃ d : Dy, cs = cDy d ∧ InDy w d := by
  obtain ⟨hl, hf⟩ := trod_st (te rfl) h
  obtain ⟨n0, y0, h0⟩ := hf 0 0 3 _ rfl (te rfl)
  obtain ⟨n1, y1, h1⟩ := hf 1 1 24 _ rfl (te rfl)
  obtain ⟨n2, y2, h2⟩ := hf 2 2 24 _ rfl (te rfl)
  match cs, hl with
  | [a, b, c], _ =>
    obtain ⟨q0, e0, w0⟩ := open_i h0
    simp [cI] at e0
    obtain ⟨l4, a4, c4, e4, i4, _, k4⟩ := open_sl (te rfl) (te rfl) rfl (by decide) (fun _ _ _ => open_i) (fun _ => rfl) h1
    obtain ⟨l5, a5, c5, e5, i5, _, k5⟩ := open_sl (te rfl) (te rfl) rfl (by decide) (fun _ _ _ => open_i) (fun _ => rfl) h2
    subst e0 e4 e5
    exact ⟨⟨q0, l4, l5, a4, c4, a5, c5⟩, rfl, i4, i5⟩
end
section
variable {H : Type} {enc : TypeId × Value → H} {w : World} {base : Nat} {spare : Nat → Bool} {held : Bool} {v : Value} {d : DataW H} {p : List MemPlace} {r : Reach} {b0 : Nat}
end
end Go.Proofs.Ytcjlegjchllgjaa
end
section
set_option linter.unusedVariables false
namespace Go.Proofs.Ytcjlegjchllgjaa
open Go Go.Fw Go.ChangeShapes Go.WideShapes Go.ChangeAt Go.RowKit
set_option linter.unusedVariables false
set_option maxRecDepth 100000
instance : Inhabited Dy := ⟨Dz⟩
structure InDs (w : World) (a : Option Addr) (l : List Dy) : Prop where
  arr : InSl w a cDy 3 l
  each : ∀ d ∈ l, InDy w d
def rowsDs (a : Option Addr) (l : List Dy) : List Row := rowsOf a cDy l ++ l.flatMap rowsDy
theorem InDs.ok {w : World} {a : Option Addr} {l : List Dy} {N : Nat} (h : InDs w a l) : ∀ r ∈ rowsDs a l, r.own = none ∧ r.ok N w := by
  intro r hr
  rcases List.mem_append.1 hr with hr | hr
  · exact h.arr.ok r hr
  · obtain ⟨d, hd, hr⟩ := List.mem_flatMap.1 hr
    exact (h.each d hd).ok r hr
theorem InDs.g {w : World} {a : Option Addr} {l : List Dy} (h : InDs w a l) {H : List Row} (hs : ∀ r ∈ rowsDs a l, r ∈ H) : SlE H a cDy 3 l := h.arr.sl (fun r hr => hs r (List.mem_append_left _ hr))
theorem InDs.e {w : World} {a : Option Addr} {l : List Dy} (h : InDs w a l) {H : List Row} (hs : ∀ r ∈ rowsDs a l, r ∈ H) : ∀ d ∈ l, SlE H d.a1 cI 1 d.G ∧ SlE H d.a2 cI 1 d.S := fun d hd =>
  have hs' : ∀ r ∈ rowsDy d, r ∈ H := fun r hr => hs r (List.mem_append_right _ (List.mem_flatMap.2 ⟨d, hd, hr⟩))
  ⟨(h.each d hd).g hs', (h.each d hd).s hs'⟩
section
variable {H : Type} {enc : TypeId × Value → H} {w : World} {base : Nat} {spare : Nat → Bool} {held : Bool} {v : Value} {d : DataW H} {p : List MemPlace} {r : Reach} {b0 : Nat}
theorem open_days (hv : Value.okWide Try.prog w r b0 76 v) (h : DataW.Trod enc Try.prog w base spare held 76 v d p) : ∃ (l : List Dy) (a : Option Addr) (c : Nat), v = .slice a l.length c ∧ InDs w a l := by
  obtain ⟨a, len, cap, rfl⟩ := okWide_slice Try.underlying76 hv
  obtain ⟨fuel, hf⟩ := h
  obtain ⟨l, a, c, e, hi, he, _⟩ := open_sl (ok := InDy w) (te rfl) (te rfl) rfl (by decide) (fun _ _ _ => open_dy) (fun _ => rfl) hf
  exact ⟨l, a, c, e, hi, he⟩
end
theorem termsMonths_run (T : Tm) (pT : Pt) (l : List Dy) (al : Option Addr) (cl : Nat) (w : World) (hT : InTm w T pT) (hl : InDs w al l) :
    Calls Try.prog 7 #[.agg (cTm T pT).toArray, .slice al l.length cl] w fun e w' => e = .returned (.bool true) ∧ Below w.heap.size w w' :=
  Fc.calls (H := rowsTm T pT ++ (rowsDs al l)) (termsMonths_spec T pT l al cl _ (hT.g (fun _ h => (List.mem_append_left _ h))) (hT.s (fun _ h => (List.mem_append_left _ h))) (hl.g (fun _ h => (List.mem_append_right _ h))) (hl.e (fun _ h => (List.mem_append_right _ h)))) (fun r hr => by
    rcases List.mem_append.1 hr with hr | hr
    · exact hT.ok r hr
    exact hl.ok r hr
  )
theorem lifted (os : Os) (started : os.Started) (H : Type) (enc : TypeId × Value → H) :
    ReturnsInHanded {} Try.checked os 7 .any (Rows.termsMonthsSpec.pre6 enc Try.prog Try.f7 Rows.termsMonthsRow.domain false) (Rows.termsMonthsSpec.post enc Try.prog Try.f7 false true false false) := by
  refine returnsInHanded_of_change (C := Try.checked) ownK started (by kernel_rfl) Try.func7
    (ChangeSpec.witness6 (enc := enc) (C := Try.checked) false ⟨#[], #[.agg (cTm Tz pz).toArray, .slice none 0 0], []⟩ 8 (by kernel_rfl) (by kernel_rfl) (by kernel_rfl) (by kernel_rfl)) ?_
  intro W base args ds gs before hval0 hW hcnd _
  have hval : ∀ (j : Nat) t v, Try.f7.params[j]? = some t → args[j]? = some v → Value.okWide Try.prog W .any base t v := hval0
  have hW' := hW
  obtain ⟨p, q, hA0, hV, rfl, hfz, hnd⟩ := hW
  have hA : DataW.TrodAll enc Try.prog W 0 (fun _ => true) true Try.f7.params.toList args.toList ds p := hA0
  rw [Try.params7] at hA hval
  obtain ⟨v0, vs0, d0, ds0, p0, q0, hargs, rfl, rfl, h0, r0⟩ := trodAll_cons hA
  obtain ⟨v1, vs1, d1, ds1, p1, q1, rfl, rfl, rfl, h1, r1⟩ := trodAll_cons r0
  obtain ⟨rfl, rfl, rfl⟩ := trodAll_nil r1
  obtain rfl : args = #[v0, v1] := by cases args; simp_all
  obtain ⟨rfl, rfl⟩ := trodVars_none hV
  have lt : ∀ {t v d ps}, DataW.Trod enc Try.prog W 0 (fun _ => true) true t v d ps → ∀ x ∈ ps, x.block < W.heap.size := fun h => by obtain ⟨m, hm⟩ := h; exact DataW.trod_lt m _ _ _ hm
  obtain ⟨T, pT, rfl, hT⟩ := open_terms (hval 0 _ v0 rfl rfl) h0
  obtain ⟨l, al, cl, rfl, hl⟩ := open_days (hval 1 _ v1 rfl rfl) h1
  clear hA0 hval0
  refine (termsMonths_run T pT l al cl W hT hl).mono fun e W' ⟨he, bel⟩ => ?_
  subst he
  exact ⟨_, rfl, _, _, _, [], _, [], hW', trodAll_mk1 (shut_bool Try.underlying4 _), (trodAll_cons_mk (Below.trod laidO (by kernel_rfl) (of_decide_eq_true (by kernel_rfl)) h0 bel (lt h0)) (trodAll_cons_mk (Below.trod laidO (by kernel_rfl) (of_decide_eq_true (by kernel_rfl)) h1 bel (lt h1)) trodAll_mk0)), rfl, bel.frame _, fun h => by cases h⟩
theorem over : Rows.termsMonthsRow.holds Try.pinned (OpenSpec.ofChange Rows.termsMonthsSpec) :=
  OpenClaim.holds_of_wide 7 Try.f7 rfl rfl rfl rfl rfl rfl rfl ⟨rfl, rfl, rfl, rfl, rfl⟩ rfl rfl rfl rfl rfl (by kernel_rfl) Try.func7 (by kernel_rfl)
    (of_decide_eq_true (by kernel_rfl)) (by unfold Func.isWrapper; first | (rw [if_pos (by decide +kernel)]; kernel_rfl) | (rw [if_neg (by decide +kernel)]; exact ⟨rfl, rfl⟩))
    (fun os started H enc _ => lifted os started H enc)
theorem termsMonths_proved : Rows.TermsMonthsSaid := over
#print axioms termsMonths_proved
end Go.Proofs.Ytcjlegjchllgjaa
end
