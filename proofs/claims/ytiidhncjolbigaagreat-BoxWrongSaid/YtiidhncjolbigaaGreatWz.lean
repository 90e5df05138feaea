/- BoxWrong: for every room and bits the law returns true (without the matches that are told to be false there is a truth, without fewer, or others before them, there is none; the examples are as told), and each argument reads afterwards as before. No condition. -/
import Derived.Test.YtiidhncjolbigaaGreatW06
import Derived.OpenShut
import Derived.ProofKit
import Derived.Test.YtiidhncjolbigaaGreatRows
import Derived.WalkKit
import Derived.ChangeOld
import Derived.ShutString
section
set_option linter.unusedVariables false
set_option linter.unusedSimpArgs false
namespace Go.Proofs.YtiidhncjolbigaaGreat
open Go Go.Fw
set_option maxRecDepth 10000
theorem rng_bd {R : Rm} (hr : okRm R) (hm : matsThere R R.mats) (hT : hasT R R.mats) {a b : Pk} (ha : a ∈ plcs R) (hb : b ∈ plcs R) : -60 ≤ (rng R R.mats a b).lo ∧ (rng R R.mats a b).lo ≤ (rng R R.mats a b).hi ∧ (rng R R.mats a b).hi ≤ 60 := by
 have h := ex_mem hr hm hT ha hb
 obtain ⟨z1, t1, e1⟩ := h.lo
 obtain ⟨z2, t2, e2⟩ := h.hi
 have h1 := h.all z1 t1
 have a1 := t1.in60 hr ha
 have a2 := t1.in60 hr hb
 have b1 := t2.in60 hr ha
 have b2 := t2.in60 hr hb
 omega
def tsAq : List TOp := [⟨some 63, [], [], []⟩, ⟨some 64, [], [], []⟩, ⟨some 65, [], [], []⟩, ⟨some 66, [2], [2], []⟩, ⟨some 67, [], [], []⟩, ⟨some 68, [4], [4], []⟩, ⟨some 69, [2, 3, 4, 5], [3, 5], []⟩, ⟨some 4, [0], [0], []⟩, ⟨some 5, [0, 1, 7], [1], []⟩, ⟨some 6, [0, 1, 2, 3, 4, 5, 6, 7, 8], [6], []⟩]
def valAq (b14 : Nat) (x y : Int) (s : Sp) (v1 v8 v9 v10 v32 v33 v34 v42 v43 v44 : Value) (k : Nat) (env : Env) : Value :=
 match k with
 | 0 => .int .i64 x
 | 1 => .int .i64 y
 | 2 => .pointer (some ⟨b14, 1, none⟩)
 | 3 => .int .i64 s.hi
 | 4 => .pointer (some ⟨b14, 0, none⟩)
 | 5 => .int .i64 s.lo
 | 6 => .int .i64 (s.hi - s.lo)
 | 7 => .int .i64 x
 | 8 => .int .i64 y
 | 9 => .int .i64 (s.hi - s.lo)
 | _ => undef
def rowsAq (b14 : Nat) (x y : Int) (s : Sp) (v1 v8 v9 v10 v32 v33 v34 v42 v43 v44 : Value) (k : Nat) (env : Env) : List Row :=
 match k with
 | _ => []
theorem locAq (b14 : Nat) (x y : Int) (s : Sp) (v1 v8 v9 v10 v32 v33 v34 v42 v43 v44 : Value) : ∀ k env i q9, i ≠ k → (tAt tsAq k).sup.contains i = false → valAq b14 x y s v1 v8 v9 v10 v32 v33 v34 v42 v43 v44 k (upd env i q9) = valAq b14 x y s v1 v8 v9 v10 v32 v33 v34 v42 v43 v44 k env ∧ rowsAq b14 x y s v1 v8 v9 v10 v32 v33 v34 v42 v43 v44 k (upd env i q9) = rowsAq b14 x y s v1 v8 v9 v10 v32 v33 v34 v42 v43 v44 k env := by
 intro k env i q hk hs
 have hu : ∀ j, j ≠ i → upd env i q j = env j := fun j hj => by unfold upd; rw [if_neg hj]
 match k, hk, hs with
 | 0, _, _ => exact ⟨rfl, rfl⟩
 | 1, _, _ => exact ⟨rfl, rfl⟩
 | 2, _, _ => exact ⟨rfl, rfl⟩
 | 3, _, _ => exact ⟨rfl, rfl⟩
 | 4, _, _ => exact ⟨rfl, rfl⟩
 | 5, _, _ => exact ⟨rfl, rfl⟩
 | 6, _, _ => exact ⟨rfl, rfl⟩
 | 7, _, _ => exact ⟨rfl, rfl⟩
 | 8, _, _ => exact ⟨rfl, rfl⟩
 | 9, _, _ => exact ⟨rfl, rfl⟩
 | _ + 10, _, _ => exact ⟨rfl, rfl⟩
set_option maxHeartbeats 16000000 in
theorem kAsk_spec (R : Rm) (p : Pl) (m : Int) (H : List Row) (hR : RmOk H R p) (h2 : R.boxes.length ≤ 1000000) : Fc Tryz.prog 23 [.agg (cRm R p).toArray, .int .i64 m] H (fun v H' => v = .tuple #[.int .i64 (askF R m).1.1, .int .i64 (askF R m).1.2.1, .int .i64 (askF R m).1.2.2, .int .i64 (askF R m).2] ∧ H' = H) := by
 obtain ⟨e, he⟩ : ∃ e, openE R [] [m] = e := ⟨_, rfl⟩
 have hbt : ∀ (H' : List Row) (b1 : Nat), ⟨b1, 0, [.int .i64 m], some 3, 1 * 1⟩ ∈ H' → BtOk H' ⟨[], none, 0, [m], some ⟨b1, 0, none⟩, 1⟩ := fun H' b1 q1 => ⟨sleNil, SlE.ofRow (l := [m]) q1 (fun _ _ => rfl), Nat.le_of_ble_eq_true rfl, Nat.le_of_ble_eq_true rfl⟩
 by_cases h0 : e = 0
 ·subst h0
  obtain ⟨hok, _, hin, hT⟩ := openE_ok he
  have hr := hok.ok
  have hmm : m ≤ R.months - 1 := (hin m (List.mem_singleton.2 rfl)).1.2
  have htl := thI_len hr m
  have hth := fun H' b k hC hk => thereI_spec R p b k m H' hr hmm hC hk
  have hLp : ∀ x ∈ thI R m, (⟨x, m⟩ : Pk) ∈ plcs R := fun y hy => by
   obtain ⟨b, hb, rfl⟩ := (mem_thI hmm).1 hy
   exact plcs_mem hb
  have hF : askF R m = if (thI R m).length < 2 then ((0, 0, 0), 6) else (askO (wid2 R m) (thI R m) (0, 0, -1), 0) := by unfold askF; rw [if_pos he]
  rw [hF]
  clear hF
  obtain ⟨L, hL⟩ : ∃ L, L = thI R m := ⟨_, rfl⟩
  rw [← hL] at hth hLp htl ⊢
  by_cases hl2 : L.length < 2
  ·rw [if_pos hl2]
   refine Fc.mk (callable Tryz.call23) Tryz.func23 rfl Tryz.ntmps23 rfl ?_; dsimp only [fr]
   repeat' (first | (refine uP rfl ?_; (first | ((first | refine uN rfl ?_); (first | (refine uE (uQ (b := true) rfl rfl rfl (congrArg some (decide_eq_true (by omega)))) rfl rfl ?_) | (refine uE (uQ (b := false) rfl rfl rfl (congrArg some (nd_f (by omega)))) rfl rfl ?_) | (refine Xg.st (StF.buildOne (v0 := .int .i64 m) rfl el55 rfl rfl rfl (by decide) (by decide)) rfl rfl ?_; rintro _ _ ⟨b1, rfl, rfl⟩) | (refine uE (EvF.build (cs := cBt ⟨[], none, 0, [m], some ⟨b1, 0, none⟩, 1⟩) rfl (ArgsP.cons rfl ArgsP.nil) (te rfl) (Places.cons (te rfl) (Places.cons (te rfl) Places.nil)) Tryz.zeroValue83 rfl) rfl rfl ?_) | (refine uC (uT rfl (by (repeat (first | exact Args.nil | refine Args.cons rfl ?_)); done)) rfl rfl (openY (hR.sub (fun _ h => by repeat (first | exact h | apply qT))) (hbt _ b1 (qH _)) h2 he) ?_; rintro _ _ ⟨b, k, hbk, rfl, rfl⟩) | (refine Xg.st (StF.alloc rfl Tryz.zeroValue79 rfl) rfl rfl ?_; rintro _ _ ⟨b8, rfl, rfl⟩) | (refine Xg.st0 (StF.storeAll (i := 0) (vs := cCt R p (some ⟨b, 0, none⟩) k) rfl rfl rfl (te rfl) rfl rfl rfl rfl) rfl ?_; rintro _ _ ⟨rfl, rfl⟩; dsimp only [List.set]) | (refine uE (uL rfl rfl (uW (T := 79) (cs := cCt R p (some ⟨b, 0, none⟩) k) (te rfl) rfl (by repeat (first | exact qH _ | apply qT)) rfl)) rfl rfl ?_) | (refine uC (uT rfl (by (repeat (first | exact Args.nil | refine Args.cons rfl ?_)); done)) rfl rfl (hth _ b k ⟨hR.sub (fun _ h => by repeat (first | exact h | apply qT)), SlE.ofRow (qT _ (qH _)) (fun _ _ => rfl)⟩ hbk) ?_; rintro _ _ (⟨ht, rfl, rfl⟩ | ⟨bt, kt, rfl, rfl⟩)) | (refine uE (uM rfl rfl) rfl rfl ?_) | (refine uE (uA rfl rfl) rfl rfl ?_) | (refine uE (EvF.lenSlice rfl rfl (te rfl)) rfl rfl ?_) | (refine uE (uL rfl rfl (uW (te rfl) rfl (qH _) rfl)) rfl rfl ?_) | (refine uE (uX rfl rfl rfl) rfl rfl ?_) | (refine Xg.st (StF.boxAgg rfl rfl) rfl rfl ?_; rintro _ _ ⟨bx, rfl, rfl⟩))))) | (refine uD rfl ?_; refine hK _ _ ?_; clear hK K) | refine uS rfl ?_ | refine uR rfl (fun K hK => ?_) | refine X.skip rfl ?_ | refine X.ret rfl ?_ | (refine X.ite rfl rfl (fun hc => ?_); (first | (with_reducible refine Xb.t hc ?_) | (with_reducible refine Xb.f hc ?_)) <;> clear hc))
   all_goals try (exfalso; contradiction)
   all_goals exact ret_four (by simp) Tryz.results23 rfl rfl rfl rfl (H' := H) (by (repeat (first | exact qR _ | apply qC)); done) ⟨rfl, rfl⟩
  ·rw [if_neg hl2]
   refine Fc.mk (callable Tryz.call23) Tryz.func23 rfl Tryz.ntmps23 rfl ?_; dsimp only [fr]
   repeat' (first | (exfalso; have := congrArg List.length ht; simp only [List.length_nil] at this; omega) | (refine uP rfl ?_; (first | ((first | refine uN rfl ?_); (first | (refine uE (uQ (b := false) rfl rfl rfl (congrArg some (decide_eq_false (by omega)))) rfl rfl ?_) | (refine uE (uQ (b := false) rfl rfl rfl (congrArg some (nd_f (by omega)))) rfl rfl ?_) | (refine Xg.st (StF.buildOne (v0 := .int .i64 m) rfl el55 rfl rfl rfl (by decide) (by decide)) rfl rfl ?_; rintro _ _ ⟨b1, rfl, rfl⟩) | (refine uE (EvF.build (cs := cBt ⟨[], none, 0, [m], some ⟨b1, 0, none⟩, 1⟩) rfl (ArgsP.cons rfl ArgsP.nil) (te rfl) (Places.cons (te rfl) (Places.cons (te rfl) Places.nil)) Tryz.zeroValue83 rfl) rfl rfl ?_) | (refine uC (uT rfl (by (repeat (first | exact Args.nil | refine Args.cons rfl ?_)); done)) rfl rfl (openY (hR.sub (fun _ h => by repeat (first | exact h | apply qT))) (hbt _ b1 (qH _)) h2 he) ?_; rintro _ _ ⟨b, k, hbk, rfl, rfl⟩) | (refine Xg.st (StF.alloc rfl Tryz.zeroValue79 rfl) rfl rfl ?_; rintro _ _ ⟨b8, rfl, rfl⟩) | (refine Xg.st0 (StF.storeAll (i := 0) (vs := cCt R p (some ⟨b, 0, none⟩) k) rfl rfl rfl (te rfl) rfl rfl rfl rfl) rfl ?_; rintro _ _ ⟨rfl, rfl⟩; dsimp only [List.set]) | (refine uE (uL rfl rfl (uW (T := 79) (cs := cCt R p (some ⟨b, 0, none⟩) k) (te rfl) rfl (by repeat (first | exact qH _ | apply qT)) rfl)) rfl rfl ?_) | (refine uC (uT rfl (by (repeat (first | exact Args.nil | refine Args.cons rfl ?_)); done)) rfl rfl (hth _ b k ⟨hR.sub (fun _ h => by repeat (first | exact h | apply qT)), SlE.ofRow (qT _ (qH _)) (fun _ _ => rfl)⟩ hbk) ?_; rintro _ _ (⟨ht, rfl, rfl⟩ | ⟨bt, kt, rfl, rfl⟩)) | (refine uE (uM rfl rfl) rfl rfl ?_) | (refine uE (uA rfl rfl) rfl rfl ?_) | (refine uE (EvF.lenSlice rfl rfl (te rfl)) rfl rfl ?_) | (refine uE (uL rfl rfl (uW (te rfl) rfl (qH _) rfl)) rfl rfl ?_) | (refine uE (uX rfl rfl rfl) rfl rfl ?_) | (refine Xg.st (StF.boxAgg rfl rfl) rfl rfl ?_; rintro _ _ ⟨bx, rfl, rfl⟩))))) | (refine uD rfl ?_; refine hK _ _ ?_; clear hK K) | refine uS rfl ?_ | refine uR rfl (fun K hK => ?_) | refine X.block rfl ?_ | refine X.skip rfl ?_ | (refine X.ite rfl rfl (fun hc => ?_); (first | (with_reducible refine Xb.f hc ?_)) <;> clear hc))
   all_goals try (exfalso; contradiction)
   refine X.capLe (q := 0) rfl (fun hcap => ?_)
   rw [lenI] at hcap
   have hcap : L.length ≤ kt := by omega
   obtain ⟨Fin, hFin⟩ : ∃ Fin, Fin = askO (wid2 R m) L (0, 0, -1) := ⟨_, rfl⟩
   rw [← hFin]
   have hC : ∀ S, (∀ r ∈ H, r ∈ S) → (⟨b, 0, (plcs R).flatMap cPk, some 86, k * 2⟩ : Row) ∈ S → CtOk S R p (some ⟨b, 0, none⟩) := fun S h1 h3 => ⟨hR.sub h1, SlE.ofRow h3 (fun _ _ => rfl)⟩
   have hsl : ∀ S, (⟨bt, 0, L.flatMap cI, some 3, kt * 1⟩ : Row) ∈ S → SlE S (some ⟨bt, 0, none⟩) cI 1 L := fun S h => SlE.ofRow h (fun _ _ => rfl)
   refine X.lp rfl (fun q F' H' => ∃ (i : Nat) (a0 b0 w0 : Int), q = L.length - i ∧ i ≤ L.length ∧ askO (wid2 R m) (L.drop i) (a0, b0, w0) = Fin ∧ -1 ≤ w0 ∧ w0 ≤ 120 ∧ H' = ⟨bt, 0, L.flatMap cI, some 3, kt * 1⟩ :: ⟨b8, 0, cCt R p (some ⟨b, 0, none⟩) k, some 79, 6⟩ :: ⟨b, 0, (plcs R).flatMap cPk, some 86, k * 2⟩ :: H ∧ F' = [(1, .int .i64 m), (4, .int .i64 a0), (5, .int .i64 b0), (6, .int .i64 w0), (8, .pointer (some ⟨b8, 0, none⟩)), (9, .slice (some ⟨bt, 0, none⟩) L.length kt), (32, .slice (some ⟨bt, 0, none⟩) L.length kt), (33, .int .i64 L.length), (34, .int .i64 i)])
    L.length [(1, .int .i64 m), (4, .int .i64 0), (5, .int .i64 0), (6, .int .i64 (-1)), (8, .pointer (some ⟨b8, 0, none⟩)), (9, .slice (some ⟨bt, 0, none⟩) L.length kt), (32, .slice (some ⟨bt, 0, none⟩) L.length kt), (33, .int .i64 L.length), (34, .int .i64 (0 : Nat))] (⟨bt, 0, L.flatMap cI, some 3, kt * 1⟩ :: ⟨b8, 0, cCt R p (some ⟨b, 0, none⟩) k, some 79, 6⟩ :: ⟨b, 0, (plcs R).flatMap cPk, some 86, k * 2⟩ :: H) (by repeat (first | exact uU _ | refine uV rfl ?_)) (by repeat (first | exact qR _ | apply qK | apply qC)) ⟨0, 0, 0, -1, by omega, by omega, hFin.symm, by omega, by omega, rfl, rfl⟩ ?_
   rintro _ _ _ ⟨i, a0, b0, w0, rfl, hi, hI, hw1, hw2, rfl, rfl⟩
   by_cases hlt : i < L.length
   ·obtain ⟨x, hx⟩ : ∃ x, L[i]? = some x := ⟨_, List.getElem?_eq_getElem hlt⟩
    have hxp := hLp x (List.mem_of_getElem? hx)
    obtain ⟨T, hTd⟩ : ∃ T, T = L.drop (i + 1) := ⟨_, rfl⟩
    have hTl : T.length = L.length - (i + 1) := by rw [hTd, List.length_drop]
    obtain ⟨a9, ha9⟩ : ∃ a9, a9 = sfrom (some ⟨bt, 0, none⟩) kt (i + 1) 1 := ⟨_, rfl⟩
    have hS1 : ∀ S, (⟨bt, 0, L.flatMap cI, some 3, kt * 1⟩ : Row) ∈ S → SlE S a9 cI 1 T := fun S h => by rw [ha9, hTd]; exact sleFrom (hsl S h) hcap (i + 1)
    have hTm : ∀ y ∈ T, y ∈ L := fun y hy => by rw [hTd] at hy; exact List.mem_of_mem_drop hy
    rw [drop_cons hx, ← hTd] at hI
    change askO (wid2 R m) T (askI (wid2 R m) x T (a0, b0, w0)) = Fin at hI
    repeat' (first | (refine uP rfl ?_; (first | ((first | refine uN rfl ?_); (first | (refine uE (uQ (b := true) rfl rfl rfl (congrArg some (decide_eq_true (by omega)))) rfl rfl ?_) | (refine uE (uL rfl rfl (LoadV.el0 (hsl _ (by repeat (first | exact qH _ | apply qT))) hx (te rfl) rfl (fun _ hm => hm) rfl)) rfl rfl ?_) | (refine uE (EvF.sliceFrom (lo := i + 1) rfl rfl (te rfl) (te rfl) rfl (by omega) hcap) rfl rfl ?_) | (refine uE (uM rfl rfl) rfl rfl ?_) | (refine uE (uA rfl rfl) rfl rfl ?_) | (refine uE (EvF.add64 rfl rfl rfl (by omega) (by omega)) rfl rfl ?_) | (refine uE (EvF.lenSlice rfl rfl (te rfl)) rfl rfl ?_) | (refine uE (EvF.indexSlice rfl rfl rfl (te rfl) (te rfl) (by omega) (by omega)) rfl rfl ?_))))) | (refine uD rfl ?_; refine hK _ _ ?_; clear hK K) | refine uS rfl ?_ | refine uR rfl (fun K hK => ?_) | refine X.block rfl ?_ | refine X.skip rfl ?_ | (refine X.ite rfl rfl (fun hc => ?_); (first | (with_reducible refine Xb.t hc ?_)) <;> clear hc))
    all_goals try (exfalso; contradiction)
    rw [← ha9, ← hTl]
    refine X.lp rfl (fun q F' H' => ∃ (j : Nat) (a0 b0 w0 : Int), q = T.length - j ∧ j ≤ T.length ∧ askO (wid2 R m) T (askI (wid2 R m) x (T.drop j) (a0, b0, w0)) = Fin ∧ -1 ≤ w0 ∧ w0 ≤ 120 ∧ H' = ⟨bt, 0, L.flatMap cI, some 3, kt * 1⟩ :: ⟨b8, 0, cCt R p (some ⟨b, 0, none⟩) k, some 79, 6⟩ :: ⟨b, 0, (plcs R).flatMap cPk, some 86, k * 2⟩ :: H ∧ F' = [(1, .int .i64 m), (4, .int .i64 a0), (5, .int .i64 b0), (6, .int .i64 w0), (8, .pointer (some ⟨b8, 0, none⟩)), (9, .slice (some ⟨bt, 0, none⟩) L.length kt), (10, .int .i64 i), (11, .int .i64 x), (32, .slice (some ⟨bt, 0, none⟩) L.length kt), (33, .int .i64 L.length), (34, .int .i64 i), (42, .slice a9 T.length (kt - (i + 1))), (43, .int .i64 T.length), (44, .int .i64 j)])
     T.length [(1, .int .i64 m), (4, .int .i64 a0), (5, .int .i64 b0), (6, .int .i64 w0), (8, .pointer (some ⟨b8, 0, none⟩)), (9, .slice (some ⟨bt, 0, none⟩) L.length kt), (10, .int .i64 i), (11, .int .i64 x), (32, .slice (some ⟨bt, 0, none⟩) L.length kt), (33, .int .i64 L.length), (34, .int .i64 i), (42, .slice a9 T.length (kt - (i + 1))), (43, .int .i64 T.length), (44, .int .i64 (0 : Nat))] (⟨bt, 0, L.flatMap cI, some 3, kt * 1⟩ :: ⟨b8, 0, cCt R p (some ⟨b, 0, none⟩) k, some 79, 6⟩ :: ⟨b, 0, (plcs R).flatMap cPk, some 86, k * 2⟩ :: H) (by repeat (first | exact uU _ | refine uV rfl ?_)) (by repeat (first | exact qR _ | apply qK | apply qC)) ⟨0, a0, b0, w0, by omega, by omega, hI, hw1, hw2, rfl, rfl⟩ ?_
    clear hI hw1 hw2 a0 b0 w0
    rintro _ _ _ ⟨j, a0, b0, w0, rfl, hj, hI, hw1, hw2, rfl, rfl⟩
    by_cases hlj : j < T.length
    ·obtain ⟨b9, o9, y, hq9, hy⟩ := (hS1 (⟨bt, 0, L.flatMap cI, some 3, kt * 1⟩ :: ⟨b8, 0, cCt R p (some ⟨b, 0, none⟩) k, some 79, 6⟩ :: ⟨b, 0, (plcs R).flatMap cPk, some 86, k * 2⟩ :: H) (qH _)).elem (i := j) hlj
     subst hq9
     have hyp := hLp y (hTm y (List.mem_of_getElem? hy))
     have hdf := fun S hS => differ_spec R p (some ⟨b, 0, none⟩) k ⟨x, m⟩ ⟨y, m⟩ S hr hok.mats hS hok.lens.ages hok.lens.mats hbk hxp hyp hT
     have hbd := rng_bd hr hok.mats hT hxp hyp
     have hwd : wid2 R m x y = (rng R R.mats ⟨x, m⟩ ⟨y, m⟩).hi - (rng R R.mats ⟨x, m⟩ ⟨y, m⟩).lo := rfl
     obtain ⟨s, hs⟩ : ∃ s, s = rng R R.mats ⟨x, m⟩ ⟨y, m⟩ := ⟨_, rfl⟩
     rw [← hs] at hdf hbd hwd
     have hstep : askI (wid2 R m) x (y :: T.drop (j + 1)) (a0, b0, w0) = askI (wid2 R m) x (T.drop (j + 1)) (if w0 < wid2 R m x y then (x, y, wid2 R m x y) else (a0, b0, w0)) := rfl
     rw [drop_cons hy, hstep, hwd] at hI
     by_cases hgt : w0 < s.hi - s.lo
     ·rw [if_pos hgt] at hI
      repeat' (first | (refine uP rfl ?_; (first | ((first | refine uN rfl ?_); (first | (refine uE (uQ (b := true) rfl rfl rfl (congrArg some (decide_eq_true (by omega)))) rfl rfl ?_) | (refine uE (uL rfl rfl (LoadV.el0 (hS1 _ (by repeat (first | exact qH _ | apply qT))) hy (te rfl) rfl (fun _ hm => hm) rfl)) rfl rfl ?_) | (refine uE (uL rfl rfl (uW (T := 79) (cs := cCt R p (some ⟨b, 0, none⟩) k) (te rfl) rfl (by repeat (first | exact qH _ | apply qT)) rfl)) rfl rfl ?_) | (refine uE (EvF.build (cs := cPk ⟨x, m⟩) rfl (ArgsP.cons rfl (ArgsP.cons rfl ArgsP.nil)) (te rfl) (Places.cons (te rfl) (Places.cons (te rfl) Places.nil)) Tryz.zeroValue86 rfl) rfl rfl ?_) | (refine uE (EvF.build (cs := cPk ⟨y, m⟩) rfl (ArgsP.cons rfl (ArgsP.cons rfl ArgsP.nil)) (te rfl) (Places.cons (te rfl) (Places.cons (te rfl) Places.nil)) Tryz.zeroValue86 rfl) rfl rfl ?_) | (refine uC (uT rfl (Args.cons rfl (Args.cons rfl (Args.cons rfl Args.nil)))) rfl rfl (hdf _ (hC _ (fun _ h => by repeat (first | exact h | apply qT)) (by repeat (first | exact qH _ | apply qT)))) ?_; rintro _ H9 ⟨rfl, hH9⟩; subst H9) | (refine uE (uM rfl rfl) rfl rfl ?_) | (refine uE (uA rfl rfl) rfl rfl ?_) | (refine uE (EvF.sub64 rfl rfl rfl (by omega) (by omega)) rfl rfl ?_) | (refine uE (uF rfl rfl (te rfl) rfl (te rfl) (by decide)) rfl rfl ?_) | (refine uE (EvF.indexSlice rfl rfl rfl (te rfl) (te rfl) (by omega) (by omega)) rfl rfl ?_) | (refine uE (uL rfl rfl (uO (te rfl) rfl (qH _) rfl)) rfl rfl ?_) | (refine Xg.st (StF.alloc rfl Tryz.zeroValue24 rfl) rfl rfl ?_; rintro _ _ ⟨bx, rfl, rfl⟩) | (refine Xg.st0 (StF.storeAll (i := 0) rfl rfl rfl (te rfl) rfl rfl rfl rfl) rfl ?_; rintro _ _ ⟨rfl, rfl⟩; dsimp only [List.set]))))) | (refine uD rfl ?_; refine hK _ _ ?_; clear hK K) | refine uS rfl ?_ | refine uR rfl (fun K hK => ?_) | refine X.block rfl ?_ | refine X.skip rfl ?_ | (refine X.ite rfl rfl (fun hc => ?_); (first | (with_reducible refine Xb.t hc ?_)) <;> clear hc))
      all_goals try (exfalso; contradiction)
      generalize bx = b14
      refine X.regionOb tsAq [1, 8, 9, 10, 11, 13, 14, 32, 33, 34, 42, 43, 44] [(1, (.int .i64 m)), (8, (.pointer (some ⟨b8, 0, none⟩))), (9, (.slice (some ⟨bt, 0, none⟩) L.length kt)), (10, (.int .i64 i)), (11, .int .i64 x), (13, .int .i64 y), (14, .pointer (some ⟨b14, 0, none⟩)), (32, (.slice (some ⟨bt, 0, none⟩) L.length kt)), (33, (.int .i64 L.length)), (34, (.int .i64 i)), (42, (.slice (some ⟨b9, o9, none⟩) T.length (kt - (i + 1)))), (43, (.int .i64 T.length)), (44, (.int .i64 j))] (valAq b14 x y s (.int .i64 m) (.pointer (some ⟨b8, 0, none⟩)) (.slice (some ⟨bt, 0, none⟩) L.length kt) (.int .i64 i) (.slice (some ⟨bt, 0, none⟩) L.length kt) (.int .i64 L.length) (.int .i64 i) (.slice (some ⟨b9, o9, none⟩) T.length (kt - (i + 1))) (.int .i64 T.length) (.int .i64 j)) (rowsAq b14 x y s (.int .i64 m) (.pointer (some ⟨b8, 0, none⟩)) (.slice (some ⟨bt, 0, none⟩) L.length kt) (.int .i64 i) (.slice (some ⟨bt, 0, none⟩) L.length kt) (.int .i64 L.length) (.int .i64 i) (.slice (some ⟨b9, o9, none⟩) T.length (kt - (i + 1))) (.int .i64 T.length) (.int .i64 j)) (fun _ => (0, 0)) (⟨b14, 0, cSp s, some 24, 2⟩ :: ⟨bt, 0, L.flatMap cI, some 3, kt * 1⟩ :: ⟨b8, 0, cCt R p (some ⟨b, 0, none⟩) k, some 79, 6⟩ :: ⟨b, 0, (plcs R).flatMap cPk, some 86, k * 2⟩ :: H) rfl mixed (by repeat (first | exact uU _ | refine uV rfl ?_)) rfl (by kernel_rfl) (locAq b14 x y s (.int .i64 m) (.pointer (some ⟨b8, 0, none⟩)) (.slice (some ⟨bt, 0, none⟩) L.length kt) (.int .i64 i) (.slice (some ⟨bt, 0, none⟩) L.length kt) (.int .i64 L.length) (.int .i64 i) (.slice (some ⟨b9, o9, none⟩) T.length (kt - (i + 1))) (.int .i64 T.length) (.int .i64 j)) (qR _) ?_ ?_
      ·repeat' (first | exact AllF.done rfl | (refine AllF.step rfl ?_ ?_; ·(first | fail | ((first | refine Ob.ng rfl ?_); (first | exact ObK.pure (fun env R hR => by exact ⟨_, uM rfl rfl, rfl⟩) rfl (fun _ => rfl) | exact ObK.pure (fun env R hR => by exact ⟨_, uA rfl rfl, rfl⟩) rfl (fun _ => rfl) | exact ObK.pure (fun env R hR => by exact ⟨_, uF rfl rfl (te rfl) rfl (te rfl) (by decide), rfl⟩) rfl (fun _ => rfl) | exact ObK.pure (fun env R hR => by exact ⟨_, uL rfl rfl (uO (te rfl) rfl (hR _ (qH _)) rfl), rfl⟩) rfl (fun _ => rfl) | (exact ObK.pure (fun env S hS => ⟨_, EvF.sub64 rfl rfl rfl (by omega) (by omega), rfl⟩) rfl (fun _ => rfl)))))))
      intro env t ha2 hv; refine ⟨_, ((ha2.cons (hv 7 4 (Nat.le_of_ble_eq_true rfl) rfl)).cons (hv 8 5 (Nat.le_of_ble_eq_true rfl) rfl)).cons (hv 9 6 (Nat.le_of_ble_eq_true rfl) rfl), ?_⟩; clear hv ha2
      repeat' (first | (refine uP rfl ?_; (first | ((first | refine uN rfl ?_); (first | (refine uE (uM rfl rfl) rfl rfl ?_) | (refine uE (EvF.add64 rfl rfl rfl (by omega) (by omega)) rfl rfl ?_))))) | (refine uD rfl ?_; refine hK _ _ ?_; clear hK K) | refine uR rfl (fun K hK => ?_))
      exact ⟨_, _, ⟨bt, 0, L.flatMap cI, some 3, kt * 1⟩ :: ⟨b8, 0, cCt R p (some ⟨b, 0, none⟩) k, some 79, 6⟩ :: ⟨b, 0, (plcs R).flatMap cPk, some 86, k * 2⟩ :: H, (by repeat (first | exact uU _ | refine uV rfl ?_)), (by repeat (first | exact qR _ | apply qK | apply qC)), ⟨j + 1, x, y, s.hi - s.lo, rfl, by omega, hI, by omega, by omega, rfl, rfl⟩, by omega⟩
     ·rw [if_neg hgt] at hI
      repeat' (first | (refine uP rfl ?_; (first | ((first | refine uN rfl ?_); (first | (refine uE (uQ (b := true) rfl rfl rfl (congrArg some (decide_eq_true (by omega)))) rfl rfl ?_) | (refine uE (uQ (b := false) rfl rfl rfl (congrArg some (decide_eq_false (by omega)))) rfl rfl ?_) | (refine uE (uL rfl rfl (LoadV.el0 (hS1 _ (by repeat (first | exact qH _ | apply qT))) hy (te rfl) rfl (fun _ hm => hm) rfl)) rfl rfl ?_) | (refine uE (uL rfl rfl (uW (T := 79) (cs := cCt R p (some ⟨b, 0, none⟩) k) (te rfl) rfl (by repeat (first | exact qH _ | apply qT)) rfl)) rfl rfl ?_) | (refine uE (EvF.build (cs := cPk ⟨x, m⟩) rfl (ArgsP.cons rfl (ArgsP.cons rfl ArgsP.nil)) (te rfl) (Places.cons (te rfl) (Places.cons (te rfl) Places.nil)) Tryz.zeroValue86 rfl) rfl rfl ?_) | (refine uE (EvF.build (cs := cPk ⟨y, m⟩) rfl (ArgsP.cons rfl (ArgsP.cons rfl ArgsP.nil)) (te rfl) (Places.cons (te rfl) (Places.cons (te rfl) Places.nil)) Tryz.zeroValue86 rfl) rfl rfl ?_) | (refine uC (uT rfl (Args.cons rfl (Args.cons rfl (Args.cons rfl Args.nil)))) rfl rfl (hdf _ (hC _ (fun _ h => by repeat (first | exact h | apply qT)) (by repeat (first | exact qH _ | apply qT)))) ?_; rintro _ H9 ⟨rfl, hH9⟩; subst H9) | (refine uE (uM rfl rfl) rfl rfl ?_) | (refine uE (uA rfl rfl) rfl rfl ?_) | (refine uE (EvF.add64 rfl rfl rfl (by omega) (by omega)) rfl rfl ?_) | (refine uE (EvF.sub64 rfl rfl rfl (by omega) (by omega)) rfl rfl ?_) | (refine uE (uF rfl rfl (te rfl) rfl (te rfl) (by decide)) rfl rfl ?_) | (refine uE (EvF.indexSlice rfl rfl rfl (te rfl) (te rfl) (by omega) (by omega)) rfl rfl ?_) | (refine uE (uL rfl rfl (uO (te rfl) rfl (qH _) rfl)) rfl rfl ?_) | (refine Xg.st (StF.alloc rfl Tryz.zeroValue24 rfl) rfl rfl ?_; rintro _ _ ⟨bx, rfl, rfl⟩) | (refine Xg.st0 (StF.storeAll (i := 0) rfl rfl rfl (te rfl) rfl rfl rfl rfl) rfl ?_; rintro _ _ ⟨rfl, rfl⟩; dsimp only [List.set]))))) | (refine uD rfl ?_; refine hK _ _ ?_; clear hK K) | refine uS rfl ?_ | refine uR rfl (fun K hK => ?_) | refine X.block rfl ?_ | refine X.skip rfl ?_ | (refine X.ite rfl rfl (fun hc => ?_); (first | (with_reducible refine Xb.t hc ?_) | (with_reducible refine Xb.f hc ?_)) <;> clear hc))
      all_goals try (exfalso; contradiction)
      exact ⟨_, _, ⟨bt, 0, L.flatMap cI, some 3, kt * 1⟩ :: ⟨b8, 0, cCt R p (some ⟨b, 0, none⟩) k, some 79, 6⟩ :: ⟨b, 0, (plcs R).flatMap cPk, some 86, k * 2⟩ :: H, (by repeat (first | exact uU _ | refine uV rfl ?_)), (by repeat (first | exact qR _ | apply qK | apply qC)), ⟨j + 1, a0, b0, w0, rfl, by omega, hI, by omega, by omega, rfl, rfl⟩, by omega⟩
    ·obtain rfl : j = T.length := by omega
     rw [List.drop_length] at hI
     have hI : askO (wid2 R m) T (a0, b0, w0) = Fin := hI
     rw [hTd] at hI
     repeat' (first | (refine uP rfl ?_; (first | ((first | refine uN rfl ?_); (first | (refine uE (uQ (b := false) rfl rfl rfl (congrArg some (decide_eq_false (by omega)))) rfl rfl ?_) | (refine uE (uM rfl rfl) rfl rfl ?_) | (refine uE (EvF.add64 rfl rfl rfl (by omega) (by omega)) rfl rfl ?_))))) | (refine uD rfl ?_; refine hK _ _ ?_; clear hK K) | refine uS rfl ?_ | refine uR rfl (fun K hK => ?_) | (refine X.brk rfl ?_; repeat (first | refine blockX_hit rfl ?_ | refine blockX_miss (by decide) ?_)) | (refine X.ite rfl rfl (fun hc => ?_); (first | (with_reducible refine Xb.f hc ?_)) <;> clear hc))
     all_goals try (exfalso; contradiction)
     exact ⟨_, _, ⟨bt, 0, L.flatMap cI, some 3, kt * 1⟩ :: ⟨b8, 0, cCt R p (some ⟨b, 0, none⟩) k, some 79, 6⟩ :: ⟨b, 0, (plcs R).flatMap cPk, some 86, k * 2⟩ :: H, (by repeat (first | exact uU _ | refine uV rfl ?_)), (by repeat (first | exact qR _ | apply qK | apply qC)), ⟨i + 1, a0, b0, w0, rfl, by omega, hI, by omega, by omega, rfl, rfl⟩, by omega⟩
   ·obtain rfl : i = L.length := by omega
    rw [List.drop_length] at hI
    have hI : (a0, b0, w0) = Fin := hI
    repeat' (first | (refine uP rfl ?_; (first | ((first | refine uN rfl ?_); (first | (refine uE (uQ (b := false) rfl rfl rfl (congrArg some (decide_eq_false (by omega)))) rfl rfl ?_) | (refine uE (uM rfl rfl) rfl rfl ?_) | (refine uE (uA rfl rfl) rfl rfl ?_))))) | (refine uD rfl ?_; refine hK _ _ ?_; clear hK K) | refine uS rfl ?_ | refine uR rfl (fun K hK => ?_) | (refine X.brk rfl ?_; repeat (first | refine blockX_hit rfl ?_ | refine blockX_miss (by decide) ?_)) | refine X.ret rfl ?_ | (refine X.ite rfl rfl (fun hc => ?_); (first | (with_reducible refine Xb.f hc ?_)) <;> clear hc))
    all_goals try (exfalso; contradiction)
    exact ret_four (by simp) Tryz.results23 rfl rfl rfl rfl (H' := H) (by (repeat (first | exact qR _ | apply qC)); done) ⟨by rw [← hI], rfl⟩
 ·have hF : askF R m = ((0, 0, 0), e) := by unfold askF; rw [if_neg (by rw [he]; exact h0), he]
  rw [hF]
  refine Fc.mk (callable Tryz.call23) Tryz.func23 rfl Tryz.ntmps23 rfl ?_; dsimp only [fr]
  repeat' (first | (refine uP rfl ?_; (first | ((first | refine uN rfl ?_); (first | (refine uE (uQ (b := true) rfl rfl rfl (congrArg some (nd_t (by omega)))) rfl rfl ?_) | (refine Xg.st (StF.buildOne (v0 := .int .i64 m) rfl el55 rfl rfl rfl (by decide) (by decide)) rfl rfl ?_; rintro _ _ ⟨b1, rfl, rfl⟩) | (refine uE (EvF.build (cs := cBt ⟨[], none, 0, [m], some ⟨b1, 0, none⟩, 1⟩) rfl (ArgsP.cons rfl ArgsP.nil) (te rfl) (Places.cons (te rfl) (Places.cons (te rfl) Places.nil)) Tryz.zeroValue83 rfl) rfl rfl ?_) | (refine uC (uT rfl (Args.cons rfl (Args.cons rfl Args.nil))) rfl rfl (openN (hR.sub (fun _ h => by repeat (first | exact h | apply qT))) (hbt _ b1 (qH _)) h2 he h0) ?_; rintro _ H9 ⟨rfl, hH9⟩; subst H9) | (refine Xg.st (StF.alloc rfl Tryz.zeroValue79 rfl) rfl rfl ?_; rintro _ _ ⟨b8, rfl, rfl⟩) | (refine Xg.st0 (StF.storeAll (i := 0) (vs := zCt) rfl rfl rfl (te rfl) rfl rfl rfl rfl) rfl ?_; rintro _ _ ⟨rfl, rfl⟩; dsimp only [List.set]) | (refine uE (uM rfl rfl) rfl rfl ?_) | (refine uE (uA rfl rfl) rfl rfl ?_) | (refine uE (uL rfl rfl (uW (te rfl) rfl (qH _) rfl)) rfl rfl ?_) | (refine uE (uX rfl rfl rfl) rfl rfl ?_) | (refine Xg.st (StF.boxAgg rfl rfl) rfl rfl ?_; rintro _ _ ⟨bx, rfl, rfl⟩))))) | (refine uD rfl ?_; refine hK _ _ ?_; clear hK K) | refine uS rfl ?_ | refine uR rfl (fun K hK => ?_) | refine X.ret rfl ?_ | (refine X.ite rfl rfl (fun hc => ?_); (first | (with_reducible refine Xb.t hc ?_)) <;> clear hc))
  all_goals try (exfalso; contradiction)
  exact ret_four (by simp) Tryz.results23 rfl rfl rfl rfl (H' := H) (by (repeat (first | exact qR _ | apply qC)); done) ⟨rfl, rfl⟩
end Go.Proofs.YtiidhncjolbigaaGreat
end
section
set_option linter.unusedVariables false
set_option linter.unusedSimpArgs false
namespace Go.Proofs.YtiidhncjolbigaaGreat
open Go Go.Fw
set_option maxRecDepth 10000
theorem eqE (e : Sp) (w : World) : (Op.equalIn 10000 24 (.agg (cSp e).toArray) (.agg (cSp e).toArray)).run Tryz.prog w = .ok true w := by
 rw [eqSp 9998, decide_eq_true rfl]
theorem aYel (po : Pl) (S : List Row) (h : RmOk S RE po) : Fc Tryz.prog 9 [.agg (cRm RE po).toArray, .int .i64 1, .int .i64 3] S (fun v H' => v = .tuple #[.agg (cSp ⟨4, 12⟩).toArray, .int .i64 0] ∧ H' = S) := by
 have := kYellow_spec RE po 1 3 S h (Nat.le_of_ble_eq_true rfl)
 rw [vYel] at this
 exact this
theorem aDif (po : Pl) (S : List Row) (h : RmOk S RE po) : Fc Tryz.prog 11 [.agg (cRm RE po).toArray, .int .i64 1, .int .i64 2, .int .i64 3] S (fun v H' => v = .tuple #[.agg (cSp ⟨-2, 10⟩).toArray, .int .i64 0] ∧ H' = S) := by
 have := kDiffer_spec RE po 1 2 3 S h (Nat.le_of_ble_eq_true rfl)
 rw [vDif] at this
 exact this
theorem aKno (po : Pl) (S : List Row) (h : RmOk S RE po) : Fc Tryz.prog 12 [.agg (cRm RE po).toArray, .int .i64 1, .int .i64 3, .int .i64 12] S (fun v H' => v = .tuple #[.int .u8 1, .int .i64 0] ∧ H' = S) := by
 have := kKnown_spec RE po 1 3 12 S h (Nat.le_of_ble_eq_true rfl)
 rw [vKno] at this
 exact this
theorem aOrd (po : Pl) (S : List Row) (h : RmOk S RE po) : Fc Tryz.prog 14 [.agg (cRm RE po).toArray, .int .i64 2, .int .i64 1, .int .i64 2] S (fun v H' => v = .tuple #[.int .u8 0, .int .i64 0] ∧ H' = S) := by
 have := kOrder_spec RE po 2 1 2 S h (Nat.le_of_ble_eq_true rfl)
 rw [vOrd] at this
 exact this
theorem aPer (po : Pl) (S : List Row) (h : RmOk S RE po) : Fc Tryz.prog 20 [.agg (cRm RE po).toArray, .int .i64 1, .int .i64 8] S (fun v H' => v = .tuple #[.int .i64 2, .int .i64 0] ∧ H' = S) := by
 have := kPerhaps_spec RE po 1 8 S h (Nat.le_of_ble_eq_true rfl)
 rw [vPer] at this
 exact this
theorem aSur (po : Pl) (S : List Row) (h : RmOk S RE po) : Fc Tryz.prog 21 [.agg (cRm RE po).toArray, .int .i64 1, .int .i64 4] S (fun v H' => v = .tuple #[.int .i64 2, .int .i64 0] ∧ H' = S) := by
 have := kSurely_spec RE po 1 4 S h (Nat.le_of_ble_eq_true rfl)
 rw [vSur] at this
 exact this
theorem aDue (po : Pl) (S : List Row) (h : RmOk S RE po) : Fc Tryz.prog 22 [.agg (cRm RE po).toArray, .int .i64 7] S (fun v H' => ∃ a c Z, v = .tuple #[.int .i64 2, .slice a 1 c, .int .i64 0] ∧ SlE (Z ++ S) a cI 1 [1] ∧ H' = Z ++ S) := by
 have := kDue_spec RE po 7 S h (Nat.le_of_ble_eq_true rfl)
 rw [vDue] at this
 exact this
theorem aFre (po : Pl) (S : List Row) (h : RmOk S RE po) : Fc Tryz.prog 15 [.agg (cRm RE po).toArray, .int .i64 2] S (fun v H' => ∃ a c Z, v = .tuple #[.slice a 1 c, .int .i64 0] ∧ SlE (Z ++ S) a cI 1 [2] ∧ H' = Z ++ S) := by
 have := kFresh_spec RE po 2 S h (Nat.le_of_ble_eq_true rfl)
 rw [vFre] at this
 exact this
theorem aAsk (po : Pl) (S : List Row) (h : RmOk S RE po) : Fc Tryz.prog 23 [.agg (cRm RE po).toArray, .int .i64 3] S (fun v H' => v = .tuple #[.int .i64 1, .int .i64 2, .int .i64 12, .int .i64 0] ∧ H' = S) := by
 have := kAsk_spec RE po 3 S h (Nat.le_of_ble_eq_true rfl)
 rw [vAsk] at this
 exact this
theorem aWhy (po : Pl) (S : List Row) (h : RmOk S RE po) : Fc Tryz.prog 16 [.agg (cRm RE po).toArray, .int .i64 1, .int .i64 2] S (fun v H' => ∃ a c Z, v = .tuple #[.slice a 1 c, .int .i64 0] ∧ SlE (Z ++ S) a cI 1 [1] ∧ H' = Z ++ S) := by
 have := kWhy_spec RE po 1 2 S h (Nat.le_of_ble_eq_true rfl)
 rw [vWhy] at this
 exact this
theorem aRst (po : Pl) (S : List Row) (h : RmOk S RE po) : Fc Tryz.prog 35 [.agg (cRm RE po).toArray, .int .i64 1, .int .i64 2] S (fun v H' => ∃ a c Z, v = .tuple #[.slice a 1 c, .int .i64 0] ∧ SlE (Z ++ S) a cI 1 [1] ∧ H' = Z ++ S) := by
 have := kRests_spec RE po 1 2 S h (Nat.le_of_ble_eq_true rfl)
 rw [vRst] at this
 exact this
theorem aCan (po : Pl) (S : List Row) (h : RmOk S RO po) : Fc Tryz.prog 31 [.agg (cRm RO po).toArray] S (fun v H' => v = .tuple #[.bool false, .int .i64 0] ∧ H' = S) := by
 have := kCan_spec RO po S h
 rw [vCan] at this
 exact this
theorem aWrg (po : Pl) (S : List Row) (h : RmOk S RO po) : Fc Tryz.prog 41 [.agg (cRm RO po).toArray] S (fun v H' => ∃ a c Z, v = .tuple #[.slice a 1 c, .int .i64 0] ∧ SlE (Z ++ S) a cI 1 [1] ∧ H' = Z ++ S) := by
 have := kWrong_spec RO po S h (Nat.le_of_ble_eq_true rfl)
 rw [vWrg] at this
 exact this
def tsKal : List TOp := [⟨some 54, [], [], []⟩, ⟨some 55, [0], [0], []⟩, ⟨some 56, [0, 1], [1], []⟩, ⟨some 57, [0, 1, 2], [], []⟩, ⟨some 58, [0, 1, 2], [], []⟩, ⟨some 59, [0, 1, 2, 3, 4], [3, 4], []⟩, ⟨some 60, [0, 1, 2, 3, 4, 5], [2, 5], []⟩, ⟨some 61, [0, 1, 2, 3, 4, 5, 6], [6], []⟩, ⟨some 62, [0, 1, 2, 3, 4, 5, 6, 7], [], []⟩, ⟨some 63, [0, 1, 2, 3, 4, 5, 6, 7, 8], [8], []⟩, ⟨some 64, [0, 1, 2, 3, 4, 5, 6, 7, 8, 9], [7, 9], []⟩, ⟨some 65, [0, 1, 2, 3, 4, 5, 6, 7, 8, 9, 10], [10], []⟩, ⟨some 66, [0, 1, 2, 3, 4, 5, 6, 7, 8, 9, 10, 11], [], []⟩, ⟨some 67, [0, 1, 2, 3, 4, 5, 6, 7, 8, 9, 10, 11], [], []⟩, ⟨some 68, [0, 1, 2, 3, 4, 5, 6, 7, 8, 9, 10, 11, 12, 13], [12, 13], []⟩, ⟨some 69, [0, 1, 2, 3, 4, 5, 6, 7, 8, 9, 10, 11, 12, 13, 14], [11, 14], []⟩, ⟨some 70, [0, 1, 2, 3, 4, 5, 6, 7, 8, 9, 10, 11, 12, 13, 14, 15], [15], []⟩, ⟨some 71, [0, 1, 2, 3, 4, 5, 6, 7, 8, 9, 10, 11, 12, 13, 14, 15, 16], [], []⟩, ⟨some 72, [0, 1, 2, 3, 4, 5, 6, 7, 8, 9, 10, 11, 12, 13, 14, 15, 16, 17], [17], []⟩, ⟨some 73, [0, 1, 2, 3, 4, 5, 6, 7, 8, 9, 10, 11, 12, 13, 14, 15, 16, 17, 18], [16, 18], []⟩, ⟨some 74, [0, 1, 2, 3, 4, 5, 6, 7, 8, 9, 10, 11, 12, 13, 14, 15, 16, 17, 18, 19], [19], []⟩, ⟨some 75, [0, 1, 2, 3, 4, 5, 6, 7, 8, 9, 10, 11, 12, 13, 14, 15, 16, 17, 18, 19, 20], [], []⟩, ⟨some 76, [0, 1, 2, 3, 4, 5, 6, 7, 8, 9, 10, 11, 12, 13, 14, 15, 16, 17, 18, 19, 20, 21], [21], []⟩, ⟨some 77, [0, 1, 2, 3, 4, 5, 6, 7, 8, 9, 10, 11, 12, 13, 14, 15, 16, 17, 18, 19, 20, 21, 22], [20, 22], []⟩, ⟨some 78, [0, 1, 2, 3, 4, 5, 6, 7, 8, 9, 10, 11, 12, 13, 14, 15, 16, 17, 18, 19, 20, 21, 22, 23], [23], []⟩, ⟨some 79, [0, 1, 2, 3, 4, 5, 6, 7, 8, 9, 10, 11, 12, 13, 14, 15, 16, 17, 18, 19, 20, 21, 22, 23, 24], [], []⟩, ⟨some 80, [0, 1, 2, 3, 4, 5, 6, 7, 8, 9, 10, 11, 12, 13, 14, 15, 16, 17, 18, 19, 20, 21, 22, 23, 24, 25], [25], []⟩, ⟨some 81, [0, 1, 2, 3, 4, 5, 6, 7, 8, 9, 10, 11, 12, 13, 14, 15, 16, 17, 18, 19, 20, 21, 22, 23, 24, 25, 26], [24, 26], []⟩, ⟨some 82, [0, 1, 2, 3, 4, 5, 6, 7, 8, 9, 10, 11, 12, 13, 14, 15, 16, 17, 18, 19, 20, 21, 22, 23, 24, 25, 26, 27], [27], []⟩, ⟨some 83, [0, 1, 2, 3, 4, 5, 6, 7, 8, 9, 10, 11, 12, 13, 14, 15, 16, 17, 18, 19, 20, 21, 22, 23, 24, 25, 26, 27, 28], [], []⟩, ⟨some 84, [0, 1, 2, 3, 4, 5, 6, 7, 8, 9, 10, 11, 12, 13, 14, 15, 16, 17, 18, 19, 20, 21, 22, 23, 24, 25, 26, 27, 28, 29], [29], []⟩, ⟨some 85, [0, 1, 2, 3, 4, 5, 6, 7, 8, 9, 10, 11, 12, 13, 14, 15, 16, 17, 18, 19, 20, 21, 22, 23, 24, 25, 26, 27, 28, 29, 30], [28, 30], []⟩, ⟨some 86, [0, 1, 2, 3, 4, 5, 6, 7, 8, 9, 10, 11, 12, 13, 14, 15, 16, 17, 18, 19, 20, 21, 22, 23, 24, 25, 26, 27, 28, 29, 30, 31], [31], []⟩, ⟨some 87, [0, 1, 2, 3, 4, 5, 6, 7, 8, 9, 10, 11, 12, 13, 14, 15, 16, 17, 18, 19, 20, 21, 22, 23, 24, 25, 26, 27, 28, 29, 30, 31, 32], [], []⟩, ⟨some 88, [0, 1, 2, 3, 4, 5, 6, 7, 8, 9, 10, 11, 12, 13, 14, 15, 16, 17, 18, 19, 20, 21, 22, 23, 24, 25, 26, 27, 28, 29, 30, 31, 32, 33], [33], []⟩, ⟨some 89, [0, 1, 2, 3, 4, 5, 6, 7, 8, 9, 10, 11, 12, 13, 14, 15, 16, 17, 18, 19, 20, 21, 22, 23, 24, 25, 26, 27, 28, 29, 30, 31, 32, 33, 34], [32, 34], []⟩, ⟨some 90, [0, 1, 2, 3, 4, 5, 6, 7, 8, 9, 10, 11, 12, 13, 14, 15, 16, 17, 18, 19, 20, 21, 22, 23, 24, 25, 26, 27, 28, 29, 30, 31, 32, 33, 34, 35], [35], []⟩, ⟨some 91, [0, 1, 2, 3, 4, 5, 6, 7, 8, 9, 10, 11, 12, 13, 14, 15, 16, 17, 18, 19, 20, 21, 22, 23, 24, 25, 26, 27, 28, 29, 30, 31, 32, 33, 34, 35, 36], [], []⟩, ⟨some 92, [0, 1, 2, 3, 4, 5, 6, 7, 8, 9, 10, 11, 12, 13, 14, 15, 16, 17, 18, 19, 20, 21, 22, 23, 24, 25, 26, 27, 28, 29, 30, 31, 32, 33, 34, 35, 36, 37], [37], []⟩, ⟨some 93, [0, 1, 2, 3, 4, 5, 6, 7, 8, 9, 10, 11, 12, 13, 14, 15, 16, 17, 18, 19, 20, 21, 22, 23, 24, 25, 26, 27, 28, 29, 30, 31, 32, 33, 34, 35, 36, 37, 38], [36, 38], []⟩, ⟨some 94, [0, 1, 2, 3, 4, 5, 6, 7, 8, 9, 10, 11, 12, 13, 14, 15, 16, 17, 18, 19, 20, 21, 22, 23, 24, 25, 26, 27, 28, 29, 30, 31, 32, 33, 34, 35, 36, 37, 38, 39], [39], []⟩, ⟨some 95, [0, 1, 2, 3, 4, 5, 6, 7, 8, 9, 10, 11, 12, 13, 14, 15, 16, 17, 18, 19, 20, 21, 22, 23, 24, 25, 26, 27, 28, 29, 30, 31, 32, 33, 34, 35, 36, 37, 38, 39, 40], [], []⟩, ⟨some 96, [0, 1, 2, 3, 4, 5, 6, 7, 8, 9, 10, 11, 12, 13, 14, 15, 16, 17, 18, 19, 20, 21, 22, 23, 24, 25, 26, 27, 28, 29, 30, 31, 32, 33, 34, 35, 36, 37, 38, 39, 40, 41], [41], []⟩, ⟨some 97, [0, 1, 2, 3, 4, 5, 6, 7, 8, 9, 10, 11, 12, 13, 14, 15, 16, 17, 18, 19, 20, 21, 22, 23, 24, 25, 26, 27, 28, 29, 30, 31, 32, 33, 34, 35, 36, 37, 38, 39, 40, 41, 42], [40, 42], []⟩, ⟨some 98, [0, 1, 2, 3, 4, 5, 6, 7, 8, 9, 10, 11, 12, 13, 14, 15, 16, 17, 18, 19, 20, 21, 22, 23, 24, 25, 26, 27, 28, 29, 30, 31, 32, 33, 34, 35, 36, 37, 38, 39, 40, 41, 42, 43], [43], []⟩, ⟨some 99, [0, 1, 2, 3, 4, 5, 6, 7, 8, 9, 10, 11, 12, 13, 14, 15, 16, 17, 18, 19, 20, 21, 22, 23, 24, 25, 26, 27, 28, 29, 30, 31, 32, 33, 34, 35, 36, 37, 38, 39, 40, 41, 42, 43, 44], [], []⟩, ⟨some 100, [0, 1, 2, 3, 4, 5, 6, 7, 8, 9, 10, 11, 12, 13, 14, 15, 16, 17, 18, 19, 20, 21, 22, 23, 24, 25, 26, 27, 28, 29, 30, 31, 32, 33, 34, 35, 36, 37, 38, 39, 40, 41, 42, 43, 44, 45], [45], []⟩, ⟨some 101, [0, 1, 2, 3, 4, 5, 6, 7, 8, 9, 10, 11, 12, 13, 14, 15, 16, 17, 18, 19, 20, 21, 22, 23, 24, 25, 26, 27, 28, 29, 30, 31, 32, 33, 34, 35, 36, 37, 38, 39, 40, 41, 42, 43, 44, 45, 46], [44, 46], []⟩]
def valKal (b1 b3 : Nat) (k : Nat) (env : Env) : Value :=
 match k with
 | 0 => .int .i64 0
 | 1 => .bool false
 | 2 => .bool false
 | 3 => gt (false) (.agg (cSp ⟨4, 12⟩).toArray)
 | 4 => gt (false) (.agg (cSp ⟨4, 12⟩).toArray)
 | 5 => gt (false) (.bool false)
 | 6 => .bool false
 | 7 => .bool false
 | 8 => gt (false) (.int .i64 0)
 | 9 => gt (false) (.bool false)
 | 10 => .bool false
 | 11 => .bool false
 | 12 => gt (false) (.agg (cSp ⟨-2, 10⟩).toArray)
 | 13 => gt (false) (.agg (cSp ⟨-2, 10⟩).toArray)
 | 14 => gt (false) (.bool false)
 | 15 => .bool false
 | 16 => .bool false
 | 17 => gt (false) (.int .i64 0)
 | 18 => gt (false) (.bool false)
 | 19 => .bool false
 | 20 => .bool false
 | 21 => gt (false) (.int .u8 1)
 | 22 => gt (false) (.bool false)
 | 23 => .bool false
 | 24 => .bool false
 | 25 => gt (false) (.int .i64 0)
 | 26 => gt (false) (.bool false)
 | 27 => .bool false
 | 28 => .bool false
 | 29 => gt (false) (.int .u8 0)
 | 30 => gt (false) (.bool false)
 | 31 => .bool false
 | 32 => .bool false
 | 33 => gt (false) (.int .i64 0)
 | 34 => gt (false) (.bool false)
 | 35 => .bool false
 | 36 => .bool false
 | 37 => gt (false) (.int .i64 2)
 | 38 => gt (false) (.bool false)
 | 39 => .bool false
 | 40 => .bool false
 | 41 => gt (false) (.int .i64 0)
 | 42 => gt (false) (.bool false)
 | 43 => .bool false
 | 44 => .bool false
 | 45 => gt (false) (.int .i64 2)
 | 46 => gt (false) (.bool false)
 | 47 => .bool false
 | _ => undef
def rowsKal (b1 b3 : Nat) (k : Nat) (env : Env) : List Row :=
 match k with
 | _ => []
theorem locKal (b1 b3 : Nat) : ∀ k env i q9, i ≠ k → (tAt tsKal k).sup.contains i = false → valKal b1 b3 k (upd env i q9) = valKal b1 b3 k env ∧ rowsKal b1 b3 k (upd env i q9) = rowsKal b1 b3 k env := by
 intro k env i q hk hs
 have hu : ∀ j, j ≠ i → upd env i q j = env j := fun j hj => by unfold upd; rw [if_neg hj]
 match k, hk, hs with
 | 0, _, _ => exact ⟨rfl, rfl⟩
 | 1, _, _ => exact ⟨rfl, rfl⟩
 | 2, _, _ => exact ⟨rfl, rfl⟩
 | 3, _, _ => exact ⟨rfl, rfl⟩
 | 4, _, _ => exact ⟨rfl, rfl⟩
 | 5, _, _ => exact ⟨rfl, rfl⟩
 | 6, _, _ => exact ⟨rfl, rfl⟩
 | 7, _, _ => exact ⟨rfl, rfl⟩
 | 8, _, _ => exact ⟨rfl, rfl⟩
 | 9, _, _ => exact ⟨rfl, rfl⟩
 | 10, _, _ => exact ⟨rfl, rfl⟩
 | 11, _, _ => exact ⟨rfl, rfl⟩
 | 12, _, _ => exact ⟨rfl, rfl⟩
 | 13, _, _ => exact ⟨rfl, rfl⟩
 | 14, _, _ => exact ⟨rfl, rfl⟩
 | 15, _, _ => exact ⟨rfl, rfl⟩
 | 16, _, _ => exact ⟨rfl, rfl⟩
 | 17, _, _ => exact ⟨rfl, rfl⟩
 | 18, _, _ => exact ⟨rfl, rfl⟩
 | 19, _, _ => exact ⟨rfl, rfl⟩
 | 20, _, _ => exact ⟨rfl, rfl⟩
 | 21, _, _ => exact ⟨rfl, rfl⟩
 | 22, _, _ => exact ⟨rfl, rfl⟩
 | 23, _, _ => exact ⟨rfl, rfl⟩
 | 24, _, _ => exact ⟨rfl, rfl⟩
 | 25, _, _ => exact ⟨rfl, rfl⟩
 | 26, _, _ => exact ⟨rfl, rfl⟩
 | 27, _, _ => exact ⟨rfl, rfl⟩
 | 28, _, _ => exact ⟨rfl, rfl⟩
 | 29, _, _ => exact ⟨rfl, rfl⟩
 | 30, _, _ => exact ⟨rfl, rfl⟩
 | 31, _, _ => exact ⟨rfl, rfl⟩
 | 32, _, _ => exact ⟨rfl, rfl⟩
 | 33, _, _ => exact ⟨rfl, rfl⟩
 | 34, _, _ => exact ⟨rfl, rfl⟩
 | 35, _, _ => exact ⟨rfl, rfl⟩
 | 36, _, _ => exact ⟨rfl, rfl⟩
 | 37, _, _ => exact ⟨rfl, rfl⟩
 | 38, _, _ => exact ⟨rfl, rfl⟩
 | 39, _, _ => exact ⟨rfl, rfl⟩
 | 40, _, _ => exact ⟨rfl, rfl⟩
 | 41, _, _ => exact ⟨rfl, rfl⟩
 | 42, _, _ => exact ⟨rfl, rfl⟩
 | 43, _, _ => exact ⟨rfl, rfl⟩
 | 44, _, _ => exact ⟨rfl, rfl⟩
 | 45, _, _ => exact ⟨rfl, rfl⟩
 | 46, _, _ => exact ⟨rfl, rfl⟩
 | 47, _, _ => exact ⟨rfl, rfl⟩
 | _ + 48, _, _ => exact ⟨rfl, rfl⟩
set_option maxHeartbeats 8000000 in
theorem alive_spec (H : List Row) : Fc Tryz.prog 8 [] H (fun v H' => v = .bool true ∧ H' = H) := by
 refine Fc.mk (callable Tryz.call8) Tryz.func8 rfl Tryz.ntmps8 rfl ?_; dsimp only [fr]
 repeat' (first | (refine uP rfl ?_; (first | ((first | refine uN rfl ?_); (first | (refine uC (uT rfl (by (repeat (first | exact Args.nil | refine Args.cons rfl ?_)); done)) rfl rfl (roomRE _) ?_; rintro _ _ ⟨po, Z, rfl, hpo, rfl⟩) | (refine uE (uX rfl rfl rfl) rfl rfl ?_) | (refine uC (uT rfl (Args.cons rfl (Args.cons rfl (Args.cons rfl Args.nil)))) rfl rfl (aYel po _ (hpo _)) ?_; rintro _ H9 ⟨rfl, hH9⟩; subst H9) | (refine uC (uT rfl (by (repeat (first | exact Args.nil | refine Args.cons rfl ?_)); done)) rfl rfl (aDif po _ (hpo _)) ?_; rintro _ H9 ⟨rfl, hH9⟩; subst H9) | (refine uC (uT rfl (by (repeat (first | exact Args.nil | refine Args.cons rfl ?_)); done)) rfl rfl (aKno po _ (hpo _)) ?_; rintro _ H9 ⟨rfl, hH9⟩; subst H9) | (refine uC (uT rfl (by (repeat (first | exact Args.nil | refine Args.cons rfl ?_)); done)) rfl rfl (aOrd po _ (hpo _)) ?_; rintro _ H9 ⟨rfl, hH9⟩; subst H9) | (refine uC (uT rfl (Args.cons rfl (Args.cons rfl (Args.cons rfl Args.nil)))) rfl rfl (aPer po _ (hpo _)) ?_; rintro _ H9 ⟨rfl, hH9⟩; subst H9) | (refine uC (uT rfl (Args.cons rfl (Args.cons rfl (Args.cons rfl Args.nil)))) rfl rfl (aSur po _ (hpo _)) ?_; rintro _ H9 ⟨rfl, hH9⟩; subst H9) | (refine Xg.st (StF.alloc rfl Tryz.zeroValue24 rfl) rfl rfl ?_; rintro _ _ ⟨bx, rfl, rfl⟩) | (refine Xg.st0 (StF.storeAll (i := 0) (vs := cSp ⟨4, 12⟩) rfl rfl rfl (te rfl) rfl rfl rfl rfl) rfl ?_; rintro _ _ ⟨rfl, rfl⟩; dsimp only [List.set]) | (refine Xg.st0 (StF.storeAll (i := 0) (vs := cSp ⟨-2, 10⟩) rfl rfl rfl (te rfl) rfl rfl rfl rfl) rfl ?_; rintro _ _ ⟨rfl, rfl⟩; dsimp only [List.set]) | (refine uE (uM rfl rfl) rfl rfl ?_) | (refine uE (uA rfl rfl) rfl rfl ?_))))) | (refine uD rfl ?_; refine hK _ _ ?_; clear hK K) | refine uS rfl ?_ | refine uR rfl (fun K hK => ?_))
 generalize bx = b3
 rename_i b1 p1 Z1 h1 p2 Z2 h2 p3 Z3 h3 p4 Z4 h4
 refine X.weak (F' := [(1, .pointer (some ⟨b1, 0, none⟩)), (2, .int .i64 0), (3, .pointer (some ⟨b3, 0, none⟩)), (4, .int .i64 0), (5, .int .u8 1), (6, .int .i64 0), (7, .int .u8 0), (8, .int .i64 0), (9, .int .i64 2), (10, .int .i64 0), (11, .int .i64 2), (12, .int .i64 0)]) (H' := ⟨b3, 0, cSp ⟨-2, 10⟩, some 24, 2⟩ :: ⟨b1, 0, cSp ⟨4, 12⟩, some 24, 2⟩ :: H) (by repeat (first | exact uU _ | refine uV rfl ?_)) (by repeat (first | exact qR _ | apply qK | apply qC | refine List.Sublist.trans ?_ (List.sublist_append_right _ _))) ?_
 clear hpo h1 h2 h3 h4
 refine X.regionOb tsKal [1, 2, 3, 4, 5, 6, 7, 8, 9, 10, 11, 12] [(1, .pointer (some ⟨b1, 0, none⟩)), (2, .int .i64 0), (3, .pointer (some ⟨b3, 0, none⟩)), (4, .int .i64 0), (5, .int .u8 1), (6, .int .i64 0), (7, .int .u8 0), (8, .int .i64 0), (9, .int .i64 2), (10, .int .i64 0), (11, .int .i64 2), (12, .int .i64 0)] (valKal b1 b3) (rowsKal b1 b3) (fun _ => (0, 0)) (⟨b3, 0, cSp ⟨-2, 10⟩, some 24, 2⟩ :: ⟨b1, 0, cSp ⟨4, 12⟩, some 24, 2⟩ :: H) rfl mixed (by repeat (first | exact uU _ | refine uV rfl ?_)) rfl (by kernel_rfl) (locKal b1 b3) (qR _) ?_ ?_
 ·repeat' (first | exact AllF.done rfl | (refine AllF.step rfl ?_ ?_; ·(first | fail | ((first | refine Ob.ng rfl ?_ | refine Ob.g rfl rfl (fun _ => rfl) ?_); (first | exact ObK.pure (fun env R hR => by exact ⟨_, uM rfl rfl, rfl⟩) rfl (fun _ => rfl) | exact ObK.pure (fun env R hR => by exact ⟨_, EvF.pickF rfl rfl rfl, rfl⟩) rfl (fun _ => rfl) | exact ObK.pure (fun env R hR => by exact ⟨_, uQ rfl rfl rfl rfl, rfl⟩) rfl (fun _ => rfl) | exact ObK.pure (fun env R hR => by exact ⟨_, uL rfl rfl (uW (te rfl) rfl (hR _ (qH _)) rfl), rfl⟩) rfl (fun _ => rfl) | exact ObK.pure (fun env R hR => by exact ⟨_, uL rfl rfl (uW (te rfl) rfl (hR _ (qT _ (qH _))) rfl), rfl⟩) rfl (fun _ => rfl) | (exact fun env S hS => OpF.callV (Z := []) (uT rfl (Args.cons rfl (Args.cons rfl Args.nil))) (lawSpan 4 12 S) rfl rfl) | (exact fun env S hS => OpF.callV (Z := []) (uT rfl (Args.cons rfl (Args.cons rfl Args.nil))) (lawSpan (-2) 10 S) rfl rfl) | (exact ObK.pure (fun env S hS => ⟨.bool false, EvF.eqSt (r := true) rfl rfl rfl (by kernel_rfl) (fun w => eqE ⟨4, 12⟩ w) rfl, rfl⟩) rfl (fun _ => rfl)) | (exact ObK.pure (fun env S hS => ⟨.bool false, EvF.eqSt (r := true) rfl rfl rfl (by kernel_rfl) (fun w => eqE ⟨-2, 10⟩ w) rfl, rfl⟩) rfl (fun _ => rfl)))))))
 intro env t ha2 hv; refine ⟨_, ha2.cons (hv 47 101 (Nat.le_of_ble_eq_true rfl) rfl), ?_⟩; clear hv ha2
 refine X.weak (F' := [(101, .bool false)]) (H' := H) (by repeat (first | exact uU _ | refine uV rfl ?_)) (by repeat (first | exact qR _ | apply qK | apply qC | refine List.Sublist.trans ?_ (List.sublist_append_right _ _))) ?_
 clear env
 clear b1 b3 p1 p2 p3 p4 Z1 Z2 Z3 Z4
 repeat' (first | (refine uP rfl ?_; (first | ((first | refine uN rfl ?_ | (refine Xo.g rfl rfl ?_; with_reducible refine Xw.tt ?_)); (first | (refine uE (uQ (b := true) rfl rfl rfl (congrArg some (decide_eq_true (by omega)))) rfl rfl ?_) | (refine uC (uT rfl Args.nil) rfl rfl (oddRO _) ?_; rintro _ _ ⟨po, Z, rfl, hpo, rfl⟩) | (refine uC (uT rfl (by (repeat (first | exact Args.nil | refine Args.cons rfl ?_)); done)) rfl rfl (roomRE _) ?_; rintro _ _ ⟨po, Z, rfl, hpo, rfl⟩) | (refine uE (uX rfl rfl rfl) rfl rfl ?_) | (refine uC (uT rfl (by (repeat (first | exact Args.nil | refine Args.cons rfl ?_)); done)) rfl rfl (aDue po _ (hpo _)) ?_; rintro _ _ ⟨a1, c1, Z1, rfl, s1, rfl⟩) | (refine uC (uT rfl (by (repeat (first | exact Args.nil | refine Args.cons rfl ?_)); done)) rfl rfl (aFre po _ (hpo _)) ?_; rintro _ _ ⟨a2, c2, Z2, rfl, s2, rfl⟩) | (refine uC (uT rfl (by (repeat (first | exact Args.nil | refine Args.cons rfl ?_)); done)) rfl rfl (aAsk po _ (hpo _)) ?_; rintro _ H9 ⟨rfl, hH9⟩; subst H9) | (refine uC (uT rfl (by (repeat (first | exact Args.nil | refine Args.cons rfl ?_)); done)) rfl rfl (aWhy po _ (hpo _)) ?_; rintro _ _ ⟨a3, c3, Z3, rfl, s3, rfl⟩) | (refine uC (uT rfl (by (repeat (first | exact Args.nil | refine Args.cons rfl ?_)); done)) rfl rfl (aRst po _ (hpo _)) ?_; rintro _ _ ⟨a4, c4, Z4, rfl, s4, rfl⟩) | (refine uC (uT rfl (by (repeat (first | exact Args.nil | refine Args.cons rfl ?_)); done)) rfl rfl (aCan po _ (hpo _)) ?_; rintro _ H9 ⟨rfl, hH9⟩; subst H9) | (refine uC (uT rfl (by (repeat (first | exact Args.nil | refine Args.cons rfl ?_)); done)) rfl rfl (aWrg po _ (hpo _)) ?_; rintro _ _ ⟨a5, c5, Z5, rfl, s5, rfl⟩) | (refine Xg.st (StF.buildOne (cs := [.int .i64 1]) rfl el55 rfl rfl rfl (by decide) (by decide)) rfl rfl ?_; rintro _ _ ⟨bq, rfl, rfl⟩) | (refine Xg.st (StF.buildOne (cs := [.int .i64 2]) rfl el55 rfl rfl rfl (by decide) (by decide)) rfl rfl ?_; rintro _ _ ⟨bq, rfl, rfl⟩) | (refine uC (uT rfl (Args.cons rfl (Args.cons rfl (Args.cons rfl Args.nil)))) rfl rfl (ints_spec [1] a1 c1 bq [1] _ (s1.sub (fun _ h => by repeat (first | exact h | apply List.mem_append_right | apply qT))) (SlE.ofRow (l := [1]) (qH _) (fun _ _ => rfl)) rfl (by decide)) ?_; rintro _ H9 ⟨rfl, hH9⟩; subst H9) | (refine uC (uT rfl (Args.cons rfl (Args.cons rfl (Args.cons rfl Args.nil)))) rfl rfl (ints_spec [2] a2 c2 bq [2] _ (s2.sub (fun _ h => by repeat (first | exact h | apply List.mem_append_right | apply qT))) (SlE.ofRow (l := [2]) (qH _) (fun _ _ => rfl)) rfl (by decide)) ?_; rintro _ H9 ⟨rfl, hH9⟩; subst H9) | (refine uC (uT rfl (Args.cons rfl (Args.cons rfl (Args.cons rfl Args.nil)))) rfl rfl (ints_spec [1] a3 c3 bq [1] _ (s3.sub (fun _ h => by repeat (first | exact h | apply List.mem_append_right | apply qT))) (SlE.ofRow (l := [1]) (qH _) (fun _ _ => rfl)) rfl (by decide)) ?_; rintro _ H9 ⟨rfl, hH9⟩; subst H9) | (refine uC (uT rfl (Args.cons rfl (Args.cons rfl (Args.cons rfl Args.nil)))) rfl rfl (ints_spec [1] a4 c4 bq [1] _ (s4.sub (fun _ h => by repeat (first | exact h | apply List.mem_append_right | apply qT))) (SlE.ofRow (l := [1]) (qH _) (fun _ _ => rfl)) rfl (by decide)) ?_; rintro _ H9 ⟨rfl, hH9⟩; subst H9) | (refine uC (uT rfl (Args.cons rfl (Args.cons rfl (Args.cons rfl Args.nil)))) rfl rfl (ints_spec [1] a5 c5 bq [1] _ (s5.sub (fun _ h => by repeat (first | exact h | apply List.mem_append_right | apply qT))) (SlE.ofRow (l := [1]) (qH _) (fun _ _ => rfl)) rfl (by decide)) ?_; rintro _ H9 ⟨rfl, hH9⟩; subst H9) | (refine uE (uM rfl rfl) rfl rfl ?_) | (refine uE (uA rfl rfl) rfl rfl ?_) | (refine uE (EvF.pickT rfl rfl rfl) rfl rfl ?_) | (refine uE (EvF.pickF rfl rfl rfl) rfl rfl ?_) | (refine uE (EvF.not rfl rfl) rfl rfl ?_))) | (refine Xo.g rfl rfl ?_; (first | (with_reducible refine Xw.ft rfl rfl ?_) | (with_reducible refine Xw.caseB (fun h => ?_) (fun h => ?_) <;> simp only [h, decide_true, decide_false, Bool.not_true, Bool.not_false, and_self, and_true, true_and, and_false, false_and]))))) | (refine uD rfl ?_; refine hK _ _ ?_; clear hK K) | refine uS rfl ?_ | refine uR rfl (fun K hK => ?_) | refine X.skip rfl ?_ | refine X.ret rfl ?_ | (refine X.ite rfl rfl (fun hc => ?_); (first | (with_reducible refine Xb.f hc ?_)) <;> clear hc))
 all_goals try (exfalso; contradiction)
 exact ret_one (by simp) Tryz.results8 rfl (H' := H) (by repeat (first | exact qR _ | apply qK | apply qC | refine List.Sublist.trans ?_ (List.sublist_append_right _ _))) ⟨rfl, rfl⟩
end Go.Proofs.YtiidhncjolbigaaGreat
end
section
set_option linter.unusedVariables false
set_option linter.unusedSimpArgs false
namespace Go.Proofs.YtiidhncjolbigaaGreat
open Go Go.Fw
set_option maxRecDepth 10000
def Hold (p : Prop) : Prop := p
theorem Hold.out {p : Prop} (h : Hold p) : p := h
end Go.Proofs.YtiidhncjolbigaaGreat
end
section
set_option linter.unusedVariables false
set_option linter.unusedSimpArgs false
namespace Go.Proofs.YtiidhncjolbigaaGreat
open Go Go.Fw
set_option maxRecDepth 10000
def lexB : List Int → List Int → Bool
 | x :: s, y :: t => if x = y then lexB s t else decide (x < y)
 | _, _ => false
def befF (a b : List Int) : Bool := if a.length = b.length then lexB a b else decide (a.length < b.length)
theorem sub_cons {α : Type} {x : α} {s t : List α} (h : s.Sublist (x :: t)) : (∃ s', s = x :: s' ∧ s'.Sublist t) ∨ s.Sublist t := by
 cases h with
 | cons _ h => exact .inr h
 | cons_cons _ h => exact .inl ⟨_, rfl, h⟩
theorem lonG_first (ok : List Int → Bool) : ∀ (t : List Int) (m : Nat) (acc : List Int), t.Pairwise (·< ·) → (∀ r, lonG ok t m acc = some r → ∃ r', r = acc ++ r' ∧ r'.Sublist t ∧ r'.length = m ∧ ok r = true ∧ ∀ s, s.Sublist t → s.length = m → ok (acc ++ s) = true → lexB s r' = false) ∧ (lonG ok t m acc = none → ∀ s, s.Sublist t → s.length = m → ok (acc ++ s) = false)
 | [], 0, acc, _ => by
  simp only [lonG]
  constructor
  ·intro r h
   split at h
   ·cases h
    exact ⟨[], (List.append_nil _).symm, List.Sublist.slnil, rfl, by assumption, fun s h1 h2 _ => by rw [List.length_eq_zero_iff.1 h2]; rfl⟩
   ·cases h
  ·intro h s h1 h2
   split at h
   ·cases h
   ·rename_i q
    rw [List.length_eq_zero_iff.1 h2, List.append_nil]
    exact Bool.eq_false_iff.2 q
 | [], m + 1, acc, _ => ⟨fun r h => by simp [lonG] at h, fun _ s h1 h2 => by have := h1.length_le; simp at this; rw [this] at h2; simp at h2⟩
 | x :: t, 0, acc, _ => by
  simp only [lonG]
  constructor
  ·intro r h
   split at h
   ·cases h
    exact ⟨[], (List.append_nil _).symm, List.nil_sublist _, rfl, by assumption, fun s h1 h2 _ => by rw [List.length_eq_zero_iff.1 h2]; rfl⟩
   ·cases h
  ·intro h s h1 h2
   split at h
   ·cases h
   ·rename_i q
    rw [List.length_eq_zero_iff.1 h2, List.append_nil]
    exact Bool.eq_false_iff.2 q
 | x :: t, m + 1, acc, hp => by
  have hp2 := List.pairwise_cons.1 hp
  have i1 := lonG_first ok t m (acc ++ [x]) hp2.2
  have i2 := lonG_first ok t (m + 1) acc hp2.2
  simp only [lonG]
  cases hc : lonG ok t m (acc ++ [x]) with
  | some r1 =>
   obtain ⟨r', h1, h2, h3, h4, h5⟩ := i1.1 r1 hc
   refine ⟨fun r h => ?_, fun h => by cases h⟩
   cases h
   refine ⟨x :: r', by rw [h1, List.append_assoc]; rfl, h2.cons_cons x, by simp [h3], h4, fun s hs hl hok => ?_⟩
   rcases sub_cons hs with ⟨s', rfl, hs'⟩ | hs
   ·have := h5 s' hs' (by simpa using hl) (by rw [List.append_assoc]; exact hok)
    show (if x = x then lexB s' r' else _) = false
    rw [if_pos rfl]; exact this
   ·cases s with
    | nil => rfl
    | cons y s =>
     have hy := hp2.1 y (hs.subset List.mem_cons_self)
     show (if y = x then _ else decide (y < x)) = false
     rw [if_neg (by omega), decide_eq_false (by omega)]
  | none =>
   have n1 := i1.2 hc
   dsimp only
   refine ⟨fun r h => ?_, fun h s hs hl => ?_⟩
   ·obtain ⟨r', h1, h2, h3, h4, h5⟩ := i2.1 r h
    refine ⟨r', h1, h2.cons x, h3, h4, fun s hs hl hok => ?_⟩
    rcases sub_cons hs with ⟨s', rfl, hs'⟩ | hs
    ·have := n1 s' hs' (by simpa using hl)
     rw [List.append_assoc] at this
     rw [show acc ++ x :: s' = acc ++ ([x] ++ s') from rfl, this] at hok
     cases hok
    ·exact h5 s hs hl hok
   ·rcases sub_cons hs with ⟨s', rfl, hs'⟩ | hs
    ·have := n1 s' hs' (by simpa using hl)
     rw [List.append_assoc] at this
     exact this
    ·exact i2.2 h s hs hl
theorem fewG_first (ok : List Int → Bool) (l : List Int) (hp : l.Pairwise (·< ·)) : ∀ (k n : Nat), (∀ r, fewG ok l k n = some r → r.Sublist l ∧ n ≤ r.length ∧ r.length < n + k ∧ ok r = true ∧ ∀ s, s.Sublist l → n ≤ s.length → ok s = true → befF s r = false) ∧ (fewG ok l k n = none → ∀ s, s.Sublist l → n ≤ s.length → s.length < n + k → ok s = false)
 | 0, n => ⟨fun r h => by simp [fewG] at h, fun _ s _ h1 h2 => by omega⟩
 | k + 1, n => by
  have i1 := lonG_first ok l n [] hp
  have i2 := fewG_first ok l hp k (n + 1)
  simp only [fewG]
  cases hc : lonG ok l n [] with
  | some r1 =>
   obtain ⟨r', h1, h2, h3, h4, h5⟩ := i1.1 r1 hc
   rw [List.nil_append] at h1
   subst h1
   refine ⟨fun r h => ?_, fun h => by cases h⟩
   cases h
   refine ⟨h2, by omega, by omega, h4, fun s hs hl hok => ?_⟩
   unfold befF
   by_cases e : s.length = r1.length
   ·rw [if_pos e]; exact h5 s hs (by omega) hok
   ·rw [if_neg e, decide_eq_false (by omega)]
  | none =>
   have n1 := i1.2 hc
   dsimp only
   refine ⟨fun r h => ?_, fun h s hs h1 h2 => ?_⟩
   ·obtain ⟨g1, g2, g3, g4, g5⟩ := i2.1 r h
    refine ⟨g1, by omega, by omega, g4, fun s hs hl hok => ?_⟩
    by_cases e : s.length = n
    ·have q := n1 s hs e
     rw [List.nil_append, hok] at q; cases q
    ·exact g5 s hs (by omega) hok
   ·by_cases e : s.length = n
    ·exact n1 s hs e
    ·exact i2.2 h s hs (by omega) (by omega)
theorem okMats_num (R : Rm) : ∀ (l : List Mt) (p : Int), okMats R p l → (∀ x ∈ l, p < x.number) ∧ (l.map (·.number)).Pairwise (·< ·)
 | [], _, _ => ⟨fun x h => absurd h List.not_mem_nil, List.Pairwise.nil⟩
 | x :: l, p, h => by
  obtain ⟨h1, h2⟩ := okMats_num R l x.number h.2.2.2
  have h0 := h.1
  refine ⟨fun y hy => ?_, ?_⟩
  ·rcases List.mem_cons.1 hy with rfl | hy
   ·omega
   ·have := h1 y hy; omega
  ·rw [List.map_cons]
   exact List.Pairwise.cons (fun b hb => by obtain ⟨y, hy, rfl⟩ := List.mem_map.1 hb; exact h1 y hy) h2
/-- what is told of the fewest matches that must be false -/
theorem wrg_facts {R : Rm} (hok : roomOk R) : (∃ r, wrgF R = (r, 0) ∧ r.Sublist (R.mats.map (·.number)) ∧ r.length ≤ 3 ∧ okW R r = true ∧ ∀ s, s.Sublist (R.mats.map (·.number)) → okW R s = true → befF s r = false) ∨ (wrgF R = ([], 4) ∧ ∀ s, s.Sublist (R.mats.map (·.number)) → s.length ≤ 3 → okW R s = false) := by
 have h := fewG_first (okW R) (R.mats.map (·.number)) (okMats_num R R.mats 0 hok.2.2.2).2 4 0
 unfold wrgF
 rw [if_pos hok]
 cases hc : fewG (okW R) (R.mats.map (·.number)) 4 0 with
 | some r =>
  obtain ⟨h1, h2, h3, h4, h5⟩ := h.1 r hc
  exact .inl ⟨r, rfl, h1, by omega, h4, fun s hs hk => h5 s hs (Nat.zero_le _) hk⟩
 | none => exact .inr ⟨rfl, fun s hs hl => h.2 hc s hs (Nat.zero_le _) (by omega)⟩
end Go.Proofs.YtiidhncjolbigaaGreat
end
section
set_option linter.unusedVariables false
namespace Go.Fw
open Go Go.RowKit
section
variable {P : Program} {H : List Row} {F : FS} {n : Nat} {o : Oper}
/-- what is shifted to the right, and what numbers have in common bit by bit -/
def shrW (k : IntKind) (p q : Int) : Int := p.fdiv (2 ^ (min q.toNat k.bits))
def andW (k : IntKind) (p q : Int) : Int := k.wrap ((BitVec.ofInt k.bits p &&& BitVec.ofInt k.bits q).toNat : Nat)
theorem EvF.shrQ {T T' : TypeId} {x y : Operand} {k k' : IntKind} {p q : Int} (h : o.op = .binOp .shr T x y T') (hx : evF F x = some (.int k p)) (hy : evF F y = some (.int k' q)) (h0 : 0 ≤ q) : EvF P n H F o (.int k (shrW k p q)) := by
 unfold EvF EvOp
 intro t ha B w0 w hS
 have h1 : ¬ q < 0 := by omega
 simp [execOp, h, ha.ev hx, ha.ev hy, eqGuard, binOp, Op.shift, h1, shrW]
theorem EvF.andQ {T T' : TypeId} {x y : Operand} {k : IntKind} {p q : Int} (h : o.op = .binOp .and T x y T') (hx : evF F x = some (.int k p)) (hy : evF F y = some (.int k q)) : EvF P n H F o (.int k (andW k p q)) := by
 unfold EvF EvOp
 intro t ha B w0 w hS
 simp [execOp, h, ha.ev hx, ha.ev hy, eqGuard, binOp, Op.intBits, andW]
end
end Go.Fw
end
section
set_option linter.unusedVariables false
set_option linter.unusedSimpArgs false
namespace Go.Proofs.YtiidhncjolbigaaGreat
open Go Go.Fw
set_option maxRecDepth 10000
theorem num_snoc {l : List Mt} {k : Nat} {e : Mt} (he : l[k]? = some e) {s : List Int} (h : s.Sublist ((l.take k).map (·.number))) : (s ++ [e.number]).Sublist ((l.take (k + 1)).map (·.number)) ∧ s.Sublist ((l.take (k + 1)).map (·.number)) := by
 rw [take_snoc he, List.map_append]
 exact ⟨List.Sublist.append h (qR _), h.trans (List.sublist_append_left _ _)⟩
set_option maxHeartbeats 8000000 in
theorem some_spec (R : Rm) (p : Pl) (bi : Int) (H : List Row) (hR : RmOk H R p) (hlm : R.mats.length ≤ 100) : Fc Tryz.prog 37 [.agg (cRm R p).toArray, .int .u8 bi] H (fun v H' => ∃ s a c Z, s.Sublist (R.mats.map (·.number)) ∧ v = .slice a s.length c ∧ SlE (Z ++ H) a cI 1 s ∧ H' = Z ++ H) := by
 refine Fc.mk (callable Tryz.call37) Tryz.func37 rfl Tryz.ntmps37 rfl ?_; dsimp only [fr]
 repeat' (first | (refine uP rfl ?_; (first | ((first | refine uN rfl ?_); (first | (refine uE (EvF.lenSlice rfl rfl (te rfl)) rfl rfl ?_) | (refine uE (uM rfl rfl) rfl rfl ?_) | (refine uE (uA rfl rfl) rfl rfl ?_) | (refine uE (uF rfl rfl (te rfl) rfl (te rfl) (by decide)) rfl rfl ?_) | (refine uE (uL rfl rfl (uO (te rfl) rfl (qH _) rfl)) rfl rfl ?_) | (refine Xg.st (StF.boxAgg rfl rfl) rfl rfl ?_; rintro _ _ ⟨bx, rfl, rfl⟩))))) | (refine uD rfl ?_; refine hK _ _ ?_; clear hK K) | refine uS rfl ?_ | refine uR rfl (fun K hK => ?_) | refine X.block rfl ?_)
 generalize bx = b2
 refine X.lp rfl (fun q F' H' => ∃ (k : Nat) (s : List Int) (out : Value) (Z : List Row), q = R.mats.length - k ∧ k ≤ R.mats.length ∧ s.Sublist ((R.mats.take k).map (·.number)) ∧ ((s = [] ∧ out = .slice none 0 0 ∧ Z = []) ∨ ∃ bn kn, out = .slice (some ⟨bn, 0, none⟩) s.length kn ∧ Z = [⟨bn, 0, s.flatMap cI, some 3, kn * 1⟩]) ∧ Z ++ ⟨b2, 0, cRm R p, some 32, 5⟩ :: H = H' ∧ F' = [(1, .int .u8 bi), (2, .pointer (some ⟨b2, 0, none⟩)), (5, out), (9, .slice p.a3 R.mats.length p.c3), (10, .int .i64 R.mats.length), (11, .int .i64 (k : Nat))])
  R.mats.length [(1, .int .u8 bi), (2, .pointer (some ⟨b2, 0, none⟩)), (5, .slice none 0 0), (9, .slice p.a3 R.mats.length p.c3), (10, .int .i64 R.mats.length), (11, .int .i64 (0 : Nat))] (⟨b2, 0, cRm R p, some 32, 5⟩ :: H) (by repeat (first | exact uU _ | refine uV rfl ?_)) (by repeat (first | exact qR _ | apply qK | apply qC)) ⟨0, [], _, [], rfl, by omega, List.nil_sublist _, .inl ⟨rfl, rfl, rfl⟩, rfl, rfl⟩ ?_
 rintro _ _ _ ⟨k, s, out, Z, rfl, hk, hs, hTz, rfl, rfl⟩
 have hsl := hs.length_le
 rw [List.length_map, List.length_take] at hsl
 by_cases hlt : k < R.mats.length
 ·have hlt' : (k : Int) < (R.mats.length : Int) := by omega
  obtain ⟨G, hG⟩ : ∃ G : List Row, Z ++ ⟨b2, 0, cRm R p, some 32, 5⟩ :: H = G := ⟨_, rfl⟩
  have hGR : RmOk G R p := hR.sub (fun r h => by rw [← hG]; exact List.mem_append_right _ (qT _ h))
  obtain ⟨bb, off, e, hq3, he⟩ := hR.mats.elem (i := k) hlt
  have hsn := num_snoc he hs
  rw [hG]
  have hGb := hGR.mats
  rw [hq3] at hGb
  rw [hq3]
  by_cases hbit : andW .u8 (shrW .u8 bi ((k : Int) % 8)) 1 = 1
  ·rcases hTz with ⟨rfl, rfl, rfl⟩ | ⟨bo, ko, rfl, rfl⟩
   ·rw [List.nil_append] at hG
    subst hG
    repeat' (first | (refine uP rfl ?_; (first | ((first | refine uN rfl ?_); (first | (refine uE (uQ (b := true) rfl rfl rfl (congrArg some (decide_eq_true hlt'))) rfl rfl ?_) | (refine uE (uL rfl rfl (LoadV.elA0 (hGb) he (te rfl) rfl (fun _ hm => hm) rfl)) rfl rfl ?_) | (refine Xg.st (StF.alloc rfl Tryz.zeroValue44 rfl) rfl rfl ?_; rintro _ _ ⟨b7, rfl, rfl⟩) | (refine Xg.st0 (StF.storeAll (i := 0) (vs := cMt e) rfl rfl rfl (te rfl) rfl rfl rfl rfl) rfl ?_; rintro _ _ ⟨rfl, rfl⟩; dsimp only [List.set]) | (refine uE (uL rfl rfl (uO (te rfl) rfl (qH _) rfl)) rfl rfl ?_) | (refine uE (EvF.rem64 (p := (k : Int)) rfl rfl rfl (by omega) (by omega)) rfl rfl ?_) | (refine uE (EvF.shrQ rfl rfl rfl (by omega)) rfl rfl ?_) | (refine uE (EvF.andQ rfl rfl rfl) rfl rfl ?_) | (refine uE (uQ (b := true) rfl rfl rfl (congrArg some (decide_eq_true hbit))) rfl rfl ?_) | (refine Xg.st (StF.buildOne (cs := [.int .i64 e.number]) rfl el55 rfl rfl rfl (by decide) (by decide)) rfl rfl ?_; rintro _ _ ⟨bs, rfl, rfl⟩) | (refine Xg.st (StF.appendNew rfl el55 rfl rfl (by decide) rfl (Rd.own (qH _)) (by decide)) rfl rfl ?_; rintro _ _ ⟨bn, kn, rfl, rfl⟩) | (refine uE (EvF.add64 (p := (k : Int)) (q := 1) rfl rfl rfl (by omega) (by omega)) rfl rfl ?_) | (refine uE (uM rfl rfl) rfl rfl ?_) | (refine uE (uA rfl rfl) rfl rfl ?_) | (refine uE (uF rfl rfl (te rfl) rfl (te rfl) (by decide)) rfl rfl ?_) | (refine uE (EvF.indexSlice rfl rfl rfl (te rfl) (te rfl) (by omega) (by omega)) rfl rfl ?_))))) | (refine uD rfl ?_; refine hK _ _ ?_; clear hK K) | refine uS rfl ?_ | refine uR rfl (fun K hK => ?_) | refine X.block rfl ?_ | refine X.skip rfl ?_ | (refine X.ite rfl rfl (fun hc => ?_); (first | (with_reducible refine Xb.t hc ?_)) <;> clear hc))
    all_goals try (exfalso; contradiction)
    exact ⟨_, _, ⟨bn, 0, ([] ++ [e.number]).flatMap cI, some 3, kn * 1⟩ :: ⟨b2, 0, cRm R p, some 32, 5⟩ :: H, (by repeat (first | exact uU _ | refine uV rfl ?_)), (by repeat (first | exact qR _ | apply qK | apply qC)), ⟨k + 1, [] ++ [e.number], .slice (some ⟨bn, 0, none⟩) 1 kn, [_], rfl, by omega, hsn.1, .inr ⟨bn, kn, rfl, rfl⟩, rfl, rfl⟩, by omega⟩
   ·simp only [List.cons_append, List.nil_append] at hG
    subst hG
    have hlen9 : (s.flatMap cI).length = s.length * 1 := lenI _
    repeat' (first | (refine uP rfl ?_; (first | ((first | refine uN rfl ?_); (first | (refine uE (uQ (b := true) rfl rfl rfl (congrArg some (decide_eq_true hlt'))) rfl rfl ?_) | (refine uE (uL rfl rfl (LoadV.elA0 (hGb) he (te rfl) rfl (fun _ hm => hm) rfl)) rfl rfl ?_) | (refine Xg.st (StF.alloc rfl Tryz.zeroValue44 rfl) rfl rfl ?_; rintro _ _ ⟨b7, rfl, rfl⟩) | (refine Xg.st0 (StF.storeAll (i := 0) (vs := cMt e) rfl rfl rfl (te rfl) rfl rfl rfl rfl) rfl ?_; rintro _ _ ⟨rfl, rfl⟩; dsimp only [List.set]) | (refine uE (uL rfl rfl (uO (te rfl) rfl (qH _) rfl)) rfl rfl ?_) | (refine uE (EvF.rem64 (p := (k : Int)) rfl rfl rfl (by omega) (by omega)) rfl rfl ?_) | (refine uE (EvF.shrQ rfl rfl rfl (by omega)) rfl rfl ?_) | (refine uE (EvF.andQ rfl rfl rfl) rfl rfl ?_) | (refine uE (uQ (b := true) rfl rfl rfl (congrArg some (decide_eq_true hbit))) rfl rfl ?_) | (refine Xg.st (StF.buildOne (cs := [.int .i64 e.number]) rfl el55 rfl rfl rfl (by decide) (by decide)) rfl rfl ?_; rintro _ _ ⟨bs, rfl, rfl⟩) | (refine Xg.st (StF.appendOwn (i := 2) rfl el55 rfl rfl rfl hlen9 rfl (Rd.own (qH _)) rfl (by omega)) rfl rfl ?_; rintro _ _ ⟨bn, kn, rfl, rfl⟩; dsimp only [List.eraseIdx]) | (refine uE (EvF.add64 (p := (k : Int)) (q := 1) rfl rfl rfl (by omega) (by omega)) rfl rfl ?_) | (refine uE (uM rfl rfl) rfl rfl ?_) | (refine uE (uA rfl rfl) rfl rfl ?_) | (refine uE (uF rfl rfl (te rfl) rfl (te rfl) (by decide)) rfl rfl ?_) | (refine uE (EvF.indexSlice rfl rfl rfl (te rfl) (te rfl) (by omega) (by omega)) rfl rfl ?_))))) | (refine uD rfl ?_; refine hK _ _ ?_; clear hK K) | refine uS rfl ?_ | refine uR rfl (fun K hK => ?_) | refine X.block rfl ?_ | refine X.skip rfl ?_ | (refine X.ite rfl rfl (fun hc => ?_); (first | (with_reducible refine Xb.t hc ?_)) <;> clear hc))
    all_goals try (exfalso; contradiction)
    refine ⟨_, [(1, .int .u8 bi), (2, .pointer (some ⟨b2, 0, none⟩)), (5, .slice (some ⟨bn, 0, none⟩) (s.length + 1) kn), (9, .slice (some ⟨bb, off, none⟩) R.mats.length p.c3), (10, .int .i64 R.mats.length), (11, .int .i64 (k + 1 : Nat))], ⟨bn, 0, (s ++ [e.number]).flatMap cI, some 3, kn * 1⟩ :: ⟨b2, 0, cRm R p, some 32, 5⟩ :: H, (by repeat (first | exact uU _ | refine uV rfl ?_)), ?_, ⟨k + 1, s ++ [e.number], .slice (some ⟨bn, 0, none⟩) (s.length + 1) kn, [_], rfl, by omega, hsn.1, .inr ⟨bn, kn, by rw [List.length_append]; rfl, rfl⟩, rfl, rfl⟩, by omega⟩
    rw [List.flatMap_append]
    exact (by repeat (first | exact qR _ | apply qK | apply qC))
  ·repeat' (first | (refine uP rfl ?_; (first | ((first | refine uN rfl ?_); (first | (refine uE (uQ (b := true) rfl rfl rfl (congrArg some (decide_eq_true hlt'))) rfl rfl ?_) | (refine uE (uL rfl rfl (LoadV.elA0 (hGb) he (te rfl) rfl (fun _ hm => hm) rfl)) rfl rfl ?_) | (refine Xg.st (StF.alloc rfl Tryz.zeroValue44 rfl) rfl rfl ?_; rintro _ _ ⟨b7, rfl, rfl⟩) | (refine Xg.st0 (StF.storeAll (i := 0) (vs := cMt e) rfl rfl rfl (te rfl) rfl rfl rfl rfl) rfl ?_; rintro _ _ ⟨rfl, rfl⟩; dsimp only [List.set]) | (refine uE (EvF.rem64 (p := (k : Int)) rfl rfl rfl (by omega) (by omega)) rfl rfl ?_) | (refine uE (EvF.shrQ rfl rfl rfl (by omega)) rfl rfl ?_) | (refine uE (EvF.andQ rfl rfl rfl) rfl rfl ?_) | (refine uE (uQ (b := false) rfl rfl rfl (congrArg some (decide_eq_false hbit))) rfl rfl ?_) | (refine uE (EvF.add64 (p := (k : Int)) (q := 1) rfl rfl rfl (by omega) (by omega)) rfl rfl ?_) | (refine uE (uM rfl rfl) rfl rfl ?_) | (refine uE (uA rfl rfl) rfl rfl ?_) | (refine uE (EvF.indexSlice rfl rfl rfl (te rfl) (te rfl) (by omega) (by omega)) rfl rfl ?_))))) | (refine uD rfl ?_; refine hK _ _ ?_; clear hK K) | refine uS rfl ?_ | refine uR rfl (fun K hK => ?_) | refine X.block rfl ?_ | refine X.skip rfl ?_ | (refine X.ite rfl rfl (fun hc => ?_); (first | (with_reducible refine Xb.t hc ?_) | (with_reducible refine Xb.f hc ?_)) <;> clear hc))
   all_goals try (exfalso; contradiction)
   exact ⟨_, _, G, (by repeat (first | exact uU _ | refine uV rfl ?_)), (by repeat (first | exact qR _ | apply qK | apply qC)), ⟨k + 1, s, out, Z, rfl, by omega, hsn.2, hTz, hG, rfl⟩, by omega⟩
 ·obtain rfl : k = R.mats.length := by omega
  have hlt' : ¬ (R.mats.length : Int) < (R.mats.length : Int) := by omega
  rw [List.take_length] at hs
  repeat' (first | (refine uP rfl ?_; (first | ((first | refine uN rfl ?_); (first | (refine uE (uQ (b := false) rfl rfl rfl (congrArg some (decide_eq_false hlt'))) rfl rfl ?_) | (refine uE (uM rfl rfl) rfl rfl ?_) | (refine uE (uA rfl rfl) rfl rfl ?_))))) | (refine uD rfl ?_; refine hK _ _ ?_; clear hK K) | refine uS rfl ?_ | refine uR rfl (fun K hK => ?_) | (refine X.brk rfl ?_; repeat (first | refine blockX_hit rfl ?_ | refine blockX_miss (by decide) ?_)) | refine X.ret rfl ?_ | (refine X.ite rfl rfl (fun hc => ?_); (first | (with_reducible refine Xb.f hc ?_)) <;> clear hc))
  all_goals try (exfalso; contradiction)
  rcases hTz with ⟨rfl, rfl, rfl⟩ | ⟨bo, ko, rfl, rfl⟩
  ·exact ret_one (by simp) Tryz.results37 rfl (H' := H) (by repeat (first | exact qR _ | apply qK | apply qC)) ⟨[], none, 0, [], List.nil_sublist _, rfl, sleNil, rfl⟩
  ·exact ret_one (by simp) Tryz.results37 rfl (H' := [⟨bo, 0, s.flatMap cI, some 3, ko * 1⟩] ++ H) (by repeat (first | exact qR _ | apply qK | apply qC)) ⟨s, _, ko, [_], hs, rfl, SlE.ofRow (qH _) (fun _ _ => rfl), rfl⟩
end Go.Proofs.YtiidhncjolbigaaGreat
end
section
set_option linter.unusedVariables false
set_option linter.unusedSimpArgs false
namespace Go.Proofs.YtiidhncjolbigaaGreat
open Go Go.Fw
set_option maxRecDepth 10000
def tsKb0 : List TOp := [⟨some 22, [], [], []⟩, ⟨some 23, [], [], []⟩, ⟨some 24, [0, 1], [0, 1], []⟩, ⟨some 25, [0, 1, 2], [2], []⟩, ⟨some 26, [], [], []⟩, ⟨some 27, [], [], []⟩, ⟨some 28, [4, 5], [4, 5], []⟩, ⟨some 29, [4, 5, 6], [6], []⟩, ⟨some 30, [0, 1, 2, 3, 4, 5, 6, 7], [3, 7], []⟩]
def valKb0 (b1 o1 n1 c1 b3 o3 n3 c3 kk : Nat) (x y : Int) (k : Nat) (env : Env) : Value :=
 match k with
 | 0 => .slice (some ⟨b1, o1, none⟩) n1 c1
 | 1 => .int .i64 (kk : Nat)
 | 2 => .pointer (some ⟨b1, o1 + kk * 1, none⟩)
 | 3 => .int .i64 x
 | 4 => .slice (some ⟨b3, o3, none⟩) n3 c3
 | 5 => .int .i64 (kk : Nat)
 | 6 => .pointer (some ⟨b3, o3 + kk * 1, none⟩)
 | 7 => .int .i64 y
 | 8 => .bool false
 | _ => undef
def rowsKb0 (b1 o1 n1 c1 b3 o3 n3 c3 kk : Nat) (x y : Int) (k : Nat) (env : Env) : List Row :=
 match k with
 | _ => []
theorem locKb0 (b1 o1 n1 c1 b3 o3 n3 c3 kk : Nat) (x y : Int) : ∀ k env i q9, i ≠ k → (tAt tsKb0 k).sup.contains i = false → valKb0 b1 o1 n1 c1 b3 o3 n3 c3 kk x y k (upd env i q9) = valKb0 b1 o1 n1 c1 b3 o3 n3 c3 kk x y k env ∧ rowsKb0 b1 o1 n1 c1 b3 o3 n3 c3 kk x y k (upd env i q9) = rowsKb0 b1 o1 n1 c1 b3 o3 n3 c3 kk x y k env := by
 intro k env i q hk hs
 have hu : ∀ j, j ≠ i → upd env i q j = env j := fun j hj => by unfold upd; rw [if_neg hj]
 match k, hk, hs with
 | 0, _, _ => exact ⟨rfl, rfl⟩
 | 1, _, _ => exact ⟨rfl, rfl⟩
 | 2, _, _ => exact ⟨rfl, rfl⟩
 | 3, _, _ => exact ⟨rfl, rfl⟩
 | 4, _, _ => exact ⟨rfl, rfl⟩
 | 5, _, _ => exact ⟨rfl, rfl⟩
 | 6, _, _ => exact ⟨rfl, rfl⟩
 | 7, _, _ => exact ⟨rfl, rfl⟩
 | 8, _, _ => exact ⟨rfl, rfl⟩
 | _ + 9, _, _ => exact ⟨rfl, rfl⟩
def tsKb1 : List TOp := [⟨some 22, [], [], []⟩, ⟨some 23, [], [], []⟩, ⟨some 24, [0, 1], [0, 1], []⟩, ⟨some 25, [0, 1, 2], [2], []⟩, ⟨some 26, [], [], []⟩, ⟨some 27, [], [], []⟩, ⟨some 28, [4, 5], [4, 5], []⟩, ⟨some 29, [4, 5, 6], [6], []⟩, ⟨some 30, [0, 1, 2, 3, 4, 5, 6, 7], [3, 7], []⟩]
def valKb1 (b1 o1 n1 c1 b3 o3 n3 c3 kk : Nat) (x y : Int) (k : Nat) (env : Env) : Value :=
 match k with
 | 0 => .slice (some ⟨b1, o1, none⟩) n1 c1
 | 1 => .int .i64 (kk : Nat)
 | 2 => .pointer (some ⟨b1, o1 + kk * 1, none⟩)
 | 3 => .int .i64 x
 | 4 => .slice (some ⟨b3, o3, none⟩) n3 c3
 | 5 => .int .i64 (kk : Nat)
 | 6 => .pointer (some ⟨b3, o3 + kk * 1, none⟩)
 | 7 => .int .i64 y
 | 8 => .bool true
 | _ => undef
def rowsKb1 (b1 o1 n1 c1 b3 o3 n3 c3 kk : Nat) (x y : Int) (k : Nat) (env : Env) : List Row :=
 match k with
 | _ => []
theorem locKb1 (b1 o1 n1 c1 b3 o3 n3 c3 kk : Nat) (x y : Int) : ∀ k env i q9, i ≠ k → (tAt tsKb1 k).sup.contains i = false → valKb1 b1 o1 n1 c1 b3 o3 n3 c3 kk x y k (upd env i q9) = valKb1 b1 o1 n1 c1 b3 o3 n3 c3 kk x y k env ∧ rowsKb1 b1 o1 n1 c1 b3 o3 n3 c3 kk x y k (upd env i q9) = rowsKb1 b1 o1 n1 c1 b3 o3 n3 c3 kk x y k env := by
 intro k env i q hk hs
 have hu : ∀ j, j ≠ i → upd env i q j = env j := fun j hj => by unfold upd; rw [if_neg hj]
 match k, hk, hs with
 | 0, _, _ => exact ⟨rfl, rfl⟩
 | 1, _, _ => exact ⟨rfl, rfl⟩
 | 2, _, _ => exact ⟨rfl, rfl⟩
 | 3, _, _ => exact ⟨rfl, rfl⟩
 | 4, _, _ => exact ⟨rfl, rfl⟩
 | 5, _, _ => exact ⟨rfl, rfl⟩
 | 6, _, _ => exact ⟨rfl, rfl⟩
 | 7, _, _ => exact ⟨rfl, rfl⟩
 | 8, _, _ => exact ⟨rfl, rfl⟩
 | _ + 9, _, _ => exact ⟨rfl, rfl⟩
def tsKb7 : List TOp := [⟨some 31, [], [], []⟩, ⟨some 32, [], [], []⟩, ⟨some 33, [0, 1], [0, 1], []⟩, ⟨some 34, [0, 1, 2], [2], []⟩, ⟨some 35, [], [], []⟩, ⟨some 36, [], [], []⟩, ⟨some 37, [4, 5], [4, 5], []⟩, ⟨some 38, [4, 5, 6], [6], []⟩, ⟨some 39, [0, 1, 2, 3, 4, 5, 6, 7], [3, 7], []⟩, ⟨some 4, [0, 1, 2, 3, 4, 5, 6, 7, 8], [8], []⟩]
def valKb7 (b1 o1 n1 c1 b3 o3 n3 c3 kk : Nat) (x y : Int) (k : Nat) (env : Env) : Value :=
 match k with
 | 0 => .slice (some ⟨b1, o1, none⟩) n1 c1
 | 1 => .int .i64 (kk : Nat)
 | 2 => .pointer (some ⟨b1, o1 + kk * 1, none⟩)
 | 3 => .int .i64 x
 | 4 => .slice (some ⟨b3, o3, none⟩) n3 c3
 | 5 => .int .i64 (kk : Nat)
 | 6 => .pointer (some ⟨b3, o3 + kk * 1, none⟩)
 | 7 => .int .i64 y
 | 8 => .bool (decide (x < y))
 | 9 => .bool (decide (x < y))
 | _ => undef
def rowsKb7 (b1 o1 n1 c1 b3 o3 n3 c3 kk : Nat) (x y : Int) (k : Nat) (env : Env) : List Row :=
 match k with
 | _ => []
theorem locKb7 (b1 o1 n1 c1 b3 o3 n3 c3 kk : Nat) (x y : Int) : ∀ k env i q9, i ≠ k → (tAt tsKb7 k).sup.contains i = false → valKb7 b1 o1 n1 c1 b3 o3 n3 c3 kk x y k (upd env i q9) = valKb7 b1 o1 n1 c1 b3 o3 n3 c3 kk x y k env ∧ rowsKb7 b1 o1 n1 c1 b3 o3 n3 c3 kk x y k (upd env i q9) = rowsKb7 b1 o1 n1 c1 b3 o3 n3 c3 kk x y k env := by
 intro k env i q hk hs
 have hu : ∀ j, j ≠ i → upd env i q j = env j := fun j hj => by unfold upd; rw [if_neg hj]
 match k, hk, hs with
 | 0, _, _ => exact ⟨rfl, rfl⟩
 | 1, _, _ => exact ⟨rfl, rfl⟩
 | 2, _, _ => exact ⟨rfl, rfl⟩
 | 3, _, _ => exact ⟨rfl, rfl⟩
 | 4, _, _ => exact ⟨rfl, rfl⟩
 | 5, _, _ => exact ⟨rfl, rfl⟩
 | 6, _, _ => exact ⟨rfl, rfl⟩
 | 7, _, _ => exact ⟨rfl, rfl⟩
 | 8, _, _ => exact ⟨rfl, rfl⟩
 | 9, _, _ => exact ⟨rfl, rfl⟩
 | _ + 10, _, _ => exact ⟨rfl, rfl⟩
theorem lexB_drop {a b : List Int} {k : Nat} {x y : Int} (ha : a[k]? = some x) (hb : b[k]? = some y) : lexB (a.drop k) (b.drop k) = if x = y then lexB (a.drop (k + 1)) (b.drop (k + 1)) else decide (x < y) := by
 rw [drop_cons ha, drop_cons hb]; rfl
set_option maxHeartbeats 8000000 in
theorem before_spec (a b : List Int) (aa ab : Option Addr) (ca cb : Nat) (H : List Row) (ha : SlE H aa cI 1 a) (hb : SlE H ab cI 1 b) (hla : a.length ≤ 1000000) (hlb : b.length ≤ 1000000) : Fc Tryz.prog 38 [.slice aa a.length ca, .slice ab b.length cb] H (fun v H' => v = .bool (befF a b) ∧ H' = H) := by
 by_cases hl : a.length = b.length
 ·have hl' : ((a.length : Nat) : Int) = (b.length : Int) := by omega
  have hF : befF a b = lexB (a.drop 0) (b.drop 0) := by unfold befF; rw [if_pos hl]; rfl
  obtain ⟨w, hw⟩ : ∃ w, w = befF a b := ⟨_, rfl⟩
  rw [← hw] at hF ⊢
  refine Fc.mk (callable Tryz.call38) Tryz.func38 rfl Tryz.ntmps38 rfl ?_; dsimp only [fr]
  repeat' (first | (refine uP rfl ?_; (first | ((first | refine uN rfl ?_); (first | (refine uE (uQ (b := false) rfl rfl rfl (congrArg some (nd_f hl'))) rfl rfl ?_) | (refine uE (EvF.lenSlice rfl rfl (te rfl)) rfl rfl ?_) | (refine uE (uM rfl rfl) rfl rfl ?_) | (refine uE (uA rfl rfl) rfl rfl ?_))))) | (refine uD rfl ?_; refine hK _ _ ?_; clear hK K) | refine uS rfl ?_ | refine uR rfl (fun K hK => ?_) | refine X.block rfl ?_ | refine X.skip rfl ?_ | (refine X.ite rfl rfl (fun hc => ?_); (first | (with_reducible refine Xb.f hc ?_)) <;> clear hc))
  all_goals try (exfalso; contradiction)
  refine X.lp rfl (fun q F' H' => ∃ k : Nat, q = a.length - k ∧ k ≤ a.length ∧ w = lexB (a.drop k) (b.drop k) ∧ H = H' ∧ F' = [(0, .slice aa a.length ca), (1, .slice ab b.length cb), (5, .int .i64 (k : Nat))])
   a.length [(0, .slice aa a.length ca), (1, .slice ab b.length cb), (5, .int .i64 (0 : Nat))] H (by repeat (first | exact uU _ | refine uV rfl ?_)) (qR _) ⟨0, rfl, by omega, hF, rfl, rfl⟩ ?_
  clear hw hF
  rintro _ _ _ ⟨k, rfl, hk, hw, rfl, rfl⟩
  by_cases hlt : k < a.length
  ·have hlt' : (k : Int) < (a.length : Int) := by omega
   obtain ⟨b1, o1, x, rfl, hx⟩ := ha.elem (i := k) hlt
   obtain ⟨b3, o3, y, rfl, hy⟩ := hb.elem (i := k) (by omega)
   rw [lexB_drop hx hy] at hw
   by_cases hxy : x = y
   ·rw [if_pos hxy] at hw
    repeat' (first | (refine uP rfl ?_; (first | ((first | refine uN rfl ?_); (first | (refine uE (uQ (b := true) rfl rfl rfl (congrArg some (decide_eq_true hlt'))) rfl rfl ?_) | (refine uE (EvF.lenSlice rfl rfl (te rfl)) rfl rfl ?_) | (refine uE (uM rfl rfl) rfl rfl ?_))))) | (refine uD rfl ?_; refine hK _ _ ?_; clear hK K) | refine uS rfl ?_ | refine uR rfl (fun K hK => ?_) | refine X.block rfl ?_ | refine X.skip rfl ?_ | (refine X.ite rfl rfl (fun hc => ?_); (first | (with_reducible refine Xb.t hc ?_)) <;> clear hc))
    all_goals try (exfalso; contradiction)
    refine X.weak (F' := [(0, .slice (some ⟨b1, o1, none⟩) a.length ca), (1, .slice (some ⟨b3, o3, none⟩) b.length cb), (5, .int .i64 (k : Nat))]) (H' := H) (by repeat (first | exact uU _ | refine uV rfl ?_)) (by repeat (first | exact qR _ | apply qK | apply qC)) ?_
    refine X.regionOb tsKb0 [0, 1, 5] [(0, .slice (some ⟨b1, o1, none⟩) a.length ca), (1, .slice (some ⟨b3, o3, none⟩) b.length cb), (5, .int .i64 (k : Nat))] (valKb0 b1 o1 a.length ca b3 o3 b.length cb k x y) (rowsKb0 b1 o1 a.length ca b3 o3 b.length cb k x y) (fun _ => (0, 0)) (H) rfl mixed (by repeat (first | exact uU _ | refine uV rfl ?_)) rfl (by kernel_rfl) (locKb0 b1 o1 a.length ca b3 o3 b.length cb k x y) (qR _) ?_ ?_
    ·repeat' (first | exact AllF.done rfl | (refine AllF.step rfl ?_ ?_; ·(first | fail | ((first | refine Ob.ng rfl ?_); (first | exact ObK.pure (fun env R hR => by exact ⟨_, uM rfl rfl, rfl⟩) rfl (fun _ => rfl) | ((refine ObK.pure (fun env S hS => ⟨.pointer (some ⟨b1, o1 + k * 1, none⟩), ?_, rfl⟩) rfl (fun _ => rfl); exact EvF.indexSlice (i := (k : Int)) (off := o1) (b := b1) (T := 38) (e := 3) (len := a.length) (ti := ⟨.int .i64, 1, 8⟩) rfl rfl rfl (te rfl) (te rfl) (by omega) (by omega))) | ((refine ObK.pure (fun env S hS => ⟨.pointer (some ⟨b3, o3 + k * 1, none⟩), ?_, rfl⟩) rfl (fun _ => rfl); exact EvF.indexSlice (i := (k : Int)) (off := o3) (b := b3) (T := 38) (e := 3) (len := b.length) (ti := ⟨.int .i64, 1, 8⟩) rfl rfl rfl (te rfl) (te rfl) (by omega) (by omega))) | (exact ObK.pure (fun env S hS => ⟨.int .i64 x, uL rfl rfl (LoadV.el0 (n := k) (ha.sub hS) hx (te rfl) rfl (fun _ h => h) rfl), rfl⟩) rfl (fun _ => rfl)) | (exact ObK.pure (fun env S hS => ⟨.int .i64 y, uL rfl rfl (LoadV.el0 (n := k) (hb.sub hS) hy (te rfl) rfl (fun _ h => h) rfl), rfl⟩) rfl (fun _ => rfl)) | (exact ObK.pure (fun env S hS => ⟨_, uQ (b := false) rfl rfl rfl (congrArg some (nd_f hxy)), rfl⟩) rfl (fun _ => rfl)))))))
    ·intro env t ha2 hv; refine ⟨_, ha2.cons (hv 8 30 (Nat.le_of_ble_eq_true rfl) rfl), ?_⟩; clear hv ha2
     repeat' (first | (refine uP rfl ?_; (first | ((first | refine uN rfl ?_); (first | (refine uE (EvF.add64 (p := (k : Int)) (q := 1) rfl rfl rfl (by omega) (by omega)) rfl rfl ?_) | (refine uE (uM rfl rfl) rfl rfl ?_) | (refine uE (uA rfl rfl) rfl rfl ?_))))) | (refine uD rfl ?_; refine hK _ _ ?_; clear hK K) | refine uR rfl (fun K hK => ?_) | refine X.skip rfl ?_ | (refine X.ite rfl rfl (fun hc => ?_); (first | (with_reducible refine Xb.f hc ?_)) <;> clear hc))
     all_goals try (exfalso; contradiction)
     exact ⟨_, _, H, (by repeat (first | exact uU _ | refine uV rfl ?_)), (by repeat (first | exact qR _ | apply qK | apply qC)), ⟨k + 1, rfl, by omega, hw, rfl, rfl⟩, by omega⟩
   ·rw [if_neg hxy] at hw
    repeat' (first | (refine uP rfl ?_; (first | ((first | refine uN rfl ?_); (first | (refine uE (uQ (b := true) rfl rfl rfl (congrArg some (decide_eq_true hlt'))) rfl rfl ?_) | (refine uE (EvF.lenSlice rfl rfl (te rfl)) rfl rfl ?_) | (refine uE (uM rfl rfl) rfl rfl ?_))))) | (refine uD rfl ?_; refine hK _ _ ?_; clear hK K) | refine uS rfl ?_ | refine uR rfl (fun K hK => ?_) | refine X.block rfl ?_ | refine X.skip rfl ?_ | (refine X.ite rfl rfl (fun hc => ?_); (first | (with_reducible refine Xb.t hc ?_)) <;> clear hc))
    all_goals try (exfalso; contradiction)
    refine X.weak (F' := [(0, .slice (some ⟨b1, o1, none⟩) a.length ca), (1, .slice (some ⟨b3, o3, none⟩) b.length cb), (5, .int .i64 (k : Nat))]) (H' := H) (by repeat (first | exact uU _ | refine uV rfl ?_)) (by repeat (first | exact qR _ | apply qK | apply qC)) ?_
    refine X.regionOb tsKb1 [0, 1, 5] [(0, .slice (some ⟨b1, o1, none⟩) a.length ca), (1, .slice (some ⟨b3, o3, none⟩) b.length cb), (5, .int .i64 (k : Nat))] (valKb1 b1 o1 a.length ca b3 o3 b.length cb k x y) (rowsKb1 b1 o1 a.length ca b3 o3 b.length cb k x y) (fun _ => (0, 0)) (H) rfl mixed (by repeat (first | exact uU _ | refine uV rfl ?_)) rfl (by kernel_rfl) (locKb1 b1 o1 a.length ca b3 o3 b.length cb k x y) (qR _) ?_ ?_
    ·repeat' (first | exact AllF.done rfl | (refine AllF.step rfl ?_ ?_; ·(first | fail | ((first | refine Ob.ng rfl ?_); (first | exact ObK.pure (fun env R hR => by exact ⟨_, uM rfl rfl, rfl⟩) rfl (fun _ => rfl) | ((refine ObK.pure (fun env S hS => ⟨.pointer (some ⟨b1, o1 + k * 1, none⟩), ?_, rfl⟩) rfl (fun _ => rfl); exact EvF.indexSlice (i := (k : Int)) (off := o1) (b := b1) (T := 38) (e := 3) (len := a.length) (ti := ⟨.int .i64, 1, 8⟩) rfl rfl rfl (te rfl) (te rfl) (by omega) (by omega))) | ((refine ObK.pure (fun env S hS => ⟨.pointer (some ⟨b3, o3 + k * 1, none⟩), ?_, rfl⟩) rfl (fun _ => rfl); exact EvF.indexSlice (i := (k : Int)) (off := o3) (b := b3) (T := 38) (e := 3) (len := b.length) (ti := ⟨.int .i64, 1, 8⟩) rfl rfl rfl (te rfl) (te rfl) (by omega) (by omega))) | (exact ObK.pure (fun env S hS => ⟨.int .i64 x, uL rfl rfl (LoadV.el0 (n := k) (ha.sub hS) hx (te rfl) rfl (fun _ h => h) rfl), rfl⟩) rfl (fun _ => rfl)) | (exact ObK.pure (fun env S hS => ⟨.int .i64 y, uL rfl rfl (LoadV.el0 (n := k) (hb.sub hS) hy (te rfl) rfl (fun _ h => h) rfl), rfl⟩) rfl (fun _ => rfl)) | (exact ObK.pure (fun env S hS => ⟨_, uQ (b := true) rfl rfl rfl (congrArg some (nd_t hxy)), rfl⟩) rfl (fun _ => rfl)))))))
    ·intro env t ha2 hv; refine ⟨_, ha2.cons (hv 8 30 (Nat.le_of_ble_eq_true rfl) rfl), ?_⟩; clear hv ha2
     repeat' (first | refine uS rfl ?_ | (refine X.ite rfl rfl (fun hc => ?_); (first | (with_reducible refine Xb.t hc ?_)) <;> clear hc))
     all_goals try (exfalso; contradiction)
     refine X.weak (F' := [(0, .slice (some ⟨b1, o1, none⟩) a.length ca), (1, .slice (some ⟨b3, o3, none⟩) b.length cb), (5, .int .i64 (k : Nat))]) (H' := H) (by repeat (first | exact uU _ | refine uV rfl ?_)) (by repeat (first | exact qR _ | apply qK | apply qC)) ?_
     refine X.regionOb tsKb7 [0, 1, 5] [(0, .slice (some ⟨b1, o1, none⟩) a.length ca), (1, .slice (some ⟨b3, o3, none⟩) b.length cb), (5, .int .i64 (k : Nat))] (valKb7 b1 o1 a.length ca b3 o3 b.length cb k x y) (rowsKb7 b1 o1 a.length ca b3 o3 b.length cb k x y) (fun _ => (0, 0)) (H) rfl mixed (by repeat (first | exact uU _ | refine uV rfl ?_)) rfl (by kernel_rfl) (locKb7 b1 o1 a.length ca b3 o3 b.length cb k x y) (qR _) ?_ ?_
     ·repeat' (first | exact AllF.done rfl | (refine AllF.step rfl ?_ ?_; ·(first | fail | ((first | refine Ob.ng rfl ?_); (first | exact ObK.pure (fun env R hR => by exact ⟨_, uM rfl rfl, rfl⟩) rfl (fun _ => rfl) | exact ObK.pure (fun env R hR => by exact ⟨_, uA rfl rfl, rfl⟩) rfl (fun _ => rfl) | exact ObK.pure (fun env R hR => by exact ⟨_, uQ rfl rfl rfl rfl, rfl⟩) rfl (fun _ => rfl) | ((refine ObK.pure (fun env S hS => ⟨.pointer (some ⟨b1, o1 + k * 1, none⟩), ?_, rfl⟩) rfl (fun _ => rfl); exact EvF.indexSlice (i := (k : Int)) (off := o1) (b := b1) (T := 38) (e := 3) (len := a.length) (ti := ⟨.int .i64, 1, 8⟩) rfl rfl rfl (te rfl) (te rfl) (by omega) (by omega))) | ((refine ObK.pure (fun env S hS => ⟨.pointer (some ⟨b3, o3 + k * 1, none⟩), ?_, rfl⟩) rfl (fun _ => rfl); exact EvF.indexSlice (i := (k : Int)) (off := o3) (b := b3) (T := 38) (e := 3) (len := b.length) (ti := ⟨.int .i64, 1, 8⟩) rfl rfl rfl (te rfl) (te rfl) (by omega) (by omega))) | (exact ObK.pure (fun env S hS => ⟨.int .i64 x, uL rfl rfl (LoadV.el0 (n := k) (ha.sub hS) hx (te rfl) rfl (fun _ h => h) rfl), rfl⟩) rfl (fun _ => rfl)) | (exact ObK.pure (fun env S hS => ⟨.int .i64 y, uL rfl rfl (LoadV.el0 (n := k) (hb.sub hS) hy (te rfl) rfl (fun _ h => h) rfl), rfl⟩) rfl (fun _ => rfl)))))))
     ·intro env t ha2 hv; refine ⟨_, ha2.cons (hv 9 4 (Nat.le_of_ble_eq_true rfl) rfl), ?_⟩; clear hv ha2
      repeat' (first | refine X.ret rfl ?_)
      all_goals try (exfalso; contradiction)
      exact ret_one (by simp) Tryz.results38 rfl (H' := H) (by repeat (first | exact qR _ | apply qK | apply qC)) ⟨by rw [hw]; rfl, rfl⟩
  ·have hlt' : ¬ (k : Int) < (a.length : Int) := by omega
   rw [List.drop_of_length_le (by omega : a.length ≤ k)] at hw
   repeat' (first | (refine uP rfl ?_; (first | ((first | refine uN rfl ?_); (first | (refine uE (uQ (b := false) rfl rfl rfl (congrArg some (decide_eq_false hlt'))) rfl rfl ?_) | (refine uE (EvF.lenSlice rfl rfl (te rfl)) rfl rfl ?_) | (refine uE (uM rfl rfl) rfl rfl ?_) | (refine uE (uA rfl rfl) rfl rfl ?_))))) | (refine uD rfl ?_; refine hK _ _ ?_; clear hK K) | refine uS rfl ?_ | refine uR rfl (fun K hK => ?_) | (refine X.brk rfl ?_; repeat (first | refine blockX_hit rfl ?_ | refine blockX_miss (by decide) ?_)) | refine X.ret rfl ?_ | (refine X.ite rfl rfl (fun hc => ?_); (first | (with_reducible refine Xb.f hc ?_)) <;> clear hc))
   all_goals try (exfalso; contradiction)
   exact ret_one (by simp) Tryz.results38 rfl (H' := H) (by repeat (first | exact qR _ | apply qK | apply qC)) ⟨by rw [hw]; rfl, rfl⟩
 ·have hl' : ¬ ((a.length : Nat) : Int) = (b.length : Int) := by omega
  have hF : befF a b = decide ((a.length : Int) < (b.length : Int)) := by
   unfold befF; rw [if_neg hl]
   exact decide_eq_decide.2 ⟨fun h => by omega, fun h => by omega⟩
  rw [hF]
  refine Fc.mk (callable Tryz.call38) Tryz.func38 rfl Tryz.ntmps38 rfl ?_; dsimp only [fr]
  repeat' (first | (refine uP rfl ?_; (first | ((first | refine uN rfl ?_); (first | (refine uE (uQ (b := true) rfl rfl rfl (congrArg some (nd_t hl'))) rfl rfl ?_) | (refine uE (EvF.lenSlice rfl rfl (te rfl)) rfl rfl ?_) | (refine uE (uM rfl rfl) rfl rfl ?_) | (refine uE (uA rfl rfl) rfl rfl ?_) | (refine uE (uQ rfl rfl rfl rfl) rfl rfl ?_))))) | (refine uD rfl ?_; refine hK _ _ ?_; clear hK K) | refine uS rfl ?_ | refine uR rfl (fun K hK => ?_) | refine X.ret rfl ?_ | (refine X.ite rfl rfl (fun hc => ?_); (first | (with_reducible refine Xb.t hc ?_)) <;> clear hc))
  all_goals try (exfalso; contradiction)
  exact ret_one (by simp) Tryz.results38 rfl (H' := H) (by repeat (first | exact qR _ | apply qK | apply qC)) ⟨rfl, rfl⟩
end Go.Proofs.YtiidhncjolbigaaGreat
end
section
set_option linter.unusedVariables false
set_option linter.unusedSimpArgs false
namespace Go.Proofs.YtiidhncjolbigaaGreat
open Go Go.Fw
set_option maxRecDepth 10000
theorem rises_of : ∀ (l : List Int) (p : Int), l.Pairwise (·< ·) → (∀ x ∈ l, p < x) → rises p l
 | [], _, _, _ => trivial
 | x :: t, p, h, h1 => ⟨h1 x List.mem_cons_self, rises_of t x (List.pairwise_cons.1 h).2 (List.pairwise_cons.1 h).1⟩
theorem lastOf_le : ∀ (l : List Int) (p q : Int), p ≤ q → (∀ x ∈ l, x ≤ q) → lastOf p l ≤ q
 | [], _, _, h, _ => h
 | x :: t, _, q, _, h1 => lastOf_le t x q (h1 x List.mem_cons_self) (fun y hy => h1 y (List.mem_cons_of_mem _ hy))
theorem okMats_bd (R : Rm) : ∀ (l : List Mt) (p : Int), okMats R p l → ∀ x ∈ l, p < x.number ∧ x.number ≤ 9999 ∧ matchOk R x
 | [], _, _, x, h => absurd h List.not_mem_nil
 | y :: l, p, h, x, hx => by
  rcases List.mem_cons.1 hx with rfl | hx
  ·exact ⟨by have := h.1; omega, h.2.1, h.2.2.1⟩
  ·have q := okMats_bd R l y.number h.2.2.2 x hx
   have := h.1
   exact ⟨by omega, q.2.1, q.2.2⟩
theorem okMats_sub {R R' : Rm} (hm : ∀ x, matchOk R x → matchOk R' x) {l l' : List Mt} (h : l'.Sublist l) : ∀ {p p' : Int}, p' ≤ p → okMats R p l → okMats R' p' l' := by
 induction h with
 | slnil => intro _ _ _ _; trivial
 | @cons r l a h ih =>
  intro p p' hp hk
  exact ih (by have := hk.1; omega) hk.2.2.2
 | @cons_cons r l a h ih =>
  intro p p' hp hk
  exact ⟨by have := hk.1; omega, hk.2.1, hm _ hk.2.2.1, ih (Int.le_refl _) hk.2.2.2⟩
theorem sub_mats {R : Rm} (hok : roomOk R) {s : List Int} (hs : s.Sublist (R.mats.map (·.number))) : ∃ M, M.Sublist R.mats ∧ s = M.map (·.number) ∧ inM R.mats s = M := by
 obtain ⟨M, hM, rfl⟩ := List.sublist_map_iff.1 hs
 have hnd : (R.mats.map (·.number)).Nodup := (okMats_num R R.mats 0 hok.2.2.2).2.imp (fun h e => by omega)
 exact ⟨M, hM, rfl, filter_sub (fun x : Mt => x.number) hM hnd⟩
theorem filter_two {α : Type} (q : α → Bool) : ∀ l : List α, (l.filter (fun x => !q x)).length + (l.filter q).length = l.length
 | [] => rfl
 | x :: t => by
  have := filter_two q t
  cases h : q x
  ·rw [List.filter_cons_of_pos (by rw [h]; rfl), List.filter_cons_of_neg (by rw [h]; decide)]
   simp only [List.length_cons]; omega
  ·rw [List.filter_cons_of_neg (by rw [h]; decide), List.filter_cons_of_pos h]
   simp only [List.length_cons]; omega
theorem strOk_sub {R : Rm} (hok : roomOk R) {s : List Int} (hs : s.Sublist (R.mats.map (·.number))) : strOk R.mats s := by
 obtain ⟨M, hM, e, hin⟩ := sub_mats hok hs
 have hb := okMats_bd R R.mats 0 hok.2.2.2
 have hp := (okMats_num R R.mats 0 hok.2.2.2).2.sublist hs
 have hmem : ∀ x ∈ s, 0 < x ∧ x ≤ 9999 := fun x hx => by
  obtain ⟨m, hm, rfl⟩ := List.mem_map.1 (hs.subset hx)
  have := hb m hm
  exact ⟨this.1, this.2.1⟩
 refine ⟨⟨rises_of s 0 hp (fun x hx => (hmem x hx).1), lastOf_le s 0 9999 (by omega) (fun x hx => (hmem x hx).2)⟩, ?_⟩
 have h2 := filter_two (fun x : Mt => decide (x.number ∈ s)) R.mats
 have h3 : (R.mats.filter (fun x => decide (x.number ∈ s))).length = s.length := by
  show (inM R.mats s).length = _
  rw [hin, e, List.length_map]
 rw [h3] at h2
 exact h2
theorem strRm_ok {R : Rm} (hok : roomOk R) (l : List Int) : roomOk (strRm R l) := by
 have hlf : (leftMt R.mats l).length ≤ R.mats.length := List.length_filter_le _ _
 obtain ⟨⟨a1, a2, a3, a4, a5, a6, a7⟩, h2, h3, h4⟩ := hok
 exact ⟨⟨a1, a2, a3, a4, a5, a6, Nat.le_trans hlf a7⟩, h2, h3, okMats_sub (R := R) (R' := strRm R l) (fun x h => h) (List.filter_sublist (l := R.mats)) (Int.le_refl _) h4⟩
open Classical in
theorem canF_str {R : Rm} (hok : roomOk R) (l : List Int) : canF (strRm R l) = .tuple #[.bool (okW R l), .int .i64 0] := by
 unfold canF
 rw [if_pos (strRm_ok hok l)]
 unfold okW
 have e : decide (hasT (strRm R l) (strRm R l).mats) = decide (hasT R (outM R.mats l)) := decide_eq_decide.2 (wM_has (R := R) (M := outM R.mats l) (M' := outM R.mats l))
 exact congrArg (fun q => Value.tuple #[.bool q, .int .i64 0]) e
set_option maxHeartbeats 1000000 in
theorem strG_spec (R : Rm) (p : Pl) (l : List Int) (al : Option Addr) (cl : Nat) (H : List Row) (hR : RmOk H R p) (hok : roomOk R) (hl : SlE H al cI 1 l) (hb : l.length ≤ 1000000) (hs : strOk R.mats l) :
  Fc Tryz.prog 25 [.agg (cRm R p).toArray, .slice al l.length cl] H (fun v H' => ∃ p' Z, v = .tuple #[.agg (cRm (strRm R l) p').toArray, .int .i64 0] ∧ H' = Z ++ H ∧ ∀ S, RmOk (Z ++ S) (strRm R l) p') := by
 have hlf : (leftMt R.mats l).length ≤ R.mats.length := List.length_filter_le _ _
 have hb4 := hok.ok.b4
 have hm8 : R.mats.length ≤ 8 := hok.1.2.2.2.2.2.2
 have ha12 : (R.ages.length : Int) = R.months := hok.1.2.2.2.2.1
 have hm1 := hok.ok.m1
 have hm12 := hok.ok.m12
 obtain ⟨a1, c1, a2, c2, a3, c3⟩ := p
 obtain ⟨ba, oa, _, rfl, _⟩ := hR.ages.elem (i := 0) (by omega)
 have hfin : ∀ {v : Value} {H' : List Row}, ((¬ strOk R.mats l) ∨ (strOk R.mats l ∧ ∃ p Z, v = .tuple #[.agg (cRm (strRm R l) p).toArray, .int .i64 0] ∧ H' = Z ++ H ∧ ∀ S, RmOk (Z ++ S) (strRm R l) p)) → ∃ p' Z, v = .tuple #[.agg (cRm (strRm R l) p').toArray, .int .i64 0] ∧ H' = Z ++ H ∧ ∀ S, RmOk (Z ++ S) (strRm R l) p' := fun h => by
  rcases h with h | ⟨_, h⟩
  ·exact absurd hs h
  ·exact h
 cases a2 with
 | none =>
  have hb0 := sleNone hR.boxes
  cases a3 with
  | none =>
   have hm0 := sleNone hR.mats
   exact (strnn R l al cl _ c1 c2 c3 H hR hb0 hm0 (by omega) (by omega) (by omega) hl hb hok).mono (fun v H' h => hfin h)
  | some d3 => exact (strns R l al cl _ c1 c2 d3 c3 H hR hb0 (by omega) (by omega) (by omega) hl hb hok).mono (fun v H' h => hfin h)
 | some d2 =>
  cases a3 with
  | none =>
   have hm0 := sleNone hR.mats
   exact (strsn R l al cl _ c1 d2 c2 c3 H hR hm0 (by omega) (by omega) (by omega) hl hb hok).mono (fun v H' h => hfin h)
  | some d3 =>
   refine (strB_spec R l al cl _ c1 d2 c2 d3 c3 H hR (by omega) (by omega) (by omega) hl hb).mono (fun v H' h => ?_)
   have e : strF R l = (strRm R l, 0) := by unfold strF; rw [if_pos hok, if_pos hs]
   unfold ProgR at h
   rw [e] at h
   obtain ⟨p, Z, h1, h2, h3⟩ := h
   refine ⟨p, Z, h1, h2, fun S => ?_⟩
   rcases h3 with ⟨h3, _, _⟩ | ⟨t1, k1, t2, k2, t3, k3, rfl, hp⟩
   ·have : R.months = 0 := congrArg Rm.months h3
    omega
   ·have hin : ∀ r ∈ [rAges (strRm R l) t1 k1, rBoxes (strRm R l) t2 k2, rMats (strRm R l) t3 k3], r ∈ Z ++ S := fun r hr => List.mem_append_left _ (hp.symm.subset hr)
    exact ⟨SlE.ofRow (l := (strRm R l).ages) (hin _ List.mem_cons_self) (fun _ _ => rfl), SlE.ofRow (l := (strRm R l).boxes) (hin _ (List.mem_cons_of_mem _ List.mem_cons_self)) (fun _ _ => rfl), SlE.ofRow (l := (strRm R l).mats) (hin _ (List.mem_cons_of_mem _ (List.mem_cons_of_mem _ List.mem_cons_self))) (fun _ _ => rfl), by show R.ages.length ≤ _; omega, by show R.boxes.length ≤ _; omega, by show (leftMt R.mats l).length ≤ _; omega⟩
end Go.Proofs.YtiidhncjolbigaaGreat
end
section
set_option linter.unusedVariables false
set_option linter.unusedSimpArgs false
namespace Go.Proofs.YtiidhncjolbigaaGreat
open Go Go.Fw
set_option maxRecDepth 10000
set_option maxHeartbeats 16000000 in
theorem boxWrong_spec (R : Rm) (p : Pl) (bi : Int) (hbi : 0 ≤ bi ∧ bi ≤ 255) (H : List Row) (hR : RmOk H R p) :
  Fc Tryz.prog 7 [.agg (cRm R p).toArray, .int .u8 bi] H (fun v _ => v = .bool true) := by
 have hg := fun S => great_spec R p S
 have hr := fun S hS => room_spec R p S hS
 by_cases hgr : great R
 ·simp only [decide_eq_true hgr] at hg
  refine Fc.mk (callable Tryz.call7) Tryz.func7 rfl Tryz.ntmps7 rfl ?_; dsimp only [fr]
  repeat' (first | (refine uP rfl ?_; (first | ((first | refine uN rfl ?_); (first | (refine uC (uT rfl Args.nil) rfl rfl (alive_spec _) ?_; rintro _ _ ⟨rfl, rfl⟩) | (refine uE (uL rfl rfl (uW (te rfl) rfl (qH _) rfl)) rfl rfl ?_) | (refine uC (uT rfl (Args.cons rfl Args.nil)) rfl rfl (hg _) ?_; rintro _ _ ⟨rfl, rfl⟩) | (refine uE (uM rfl rfl) rfl rfl ?_) | (refine uE (uA rfl rfl) rfl rfl ?_) | (refine uE (EvF.pickT rfl rfl rfl) rfl rfl ?_) | (refine Xg.st (StF.boxAgg rfl rfl) rfl rfl ?_; rintro _ _ ⟨bx, rfl, rfl⟩))) | (refine Xo.g rfl rfl ?_; (first | (with_reducible refine Xw.tf rfl rfl ?_))))) | (refine uD rfl ?_; refine hK _ _ ?_; clear hK K) | refine uS rfl ?_ | refine uR rfl (fun K hK => ?_) | refine X.ret rfl ?_ | (refine X.ite rfl rfl (fun hc => ?_); (first | (with_reducible refine Xb.t hc ?_)) <;> clear hc))
  all_goals try (exfalso; contradiction)
  exact ret_one (by simp) Tryz.results7 rfl (H' := _) (qR _) rfl
 ·simp only [decide_eq_false hgr] at hg
  by_cases hok : roomOk R
  ·simp only [decide_eq_true hok] at hr
   have hlb4 := hok.ok.b4
   have hlm : R.mats.length ≤ 8 := hok.1.2.2.2.2.2.2
   have hlb : R.boxes.length ≤ 1000000 := by omega
   have kw := fun S hS => kWrong_spec R p S hS hlb
   rcases wrg_facts hok with ⟨r, e1, f1, f2, f3, f4⟩ | ⟨e1, f4⟩
   ·have kw2 : ∀ S, RmOk S R p → Fc Tryz.prog 41 [.agg (cRm R p).toArray] S (fun v H' => ∃ a c Z, v = .tuple #[.slice a r.length c, .int .i64 0] ∧ SlE (Z ++ S) a cI 1 r ∧ H' = Z ++ S) := fun S hS => by
     have := kw S hS
     rw [e1] at this
     exact this
    clear kw e1
    refine Fc.mk (callable Tryz.call7) Tryz.func7 rfl Tryz.ntmps7 rfl ?_; dsimp only [fr]
    repeat' (first | (refine uP rfl ?_; (first | ((first | refine uN rfl ?_ | (refine Xo.g rfl rfl ?_; with_reducible refine Xw.ff ?_)); (first | (refine uC (uT rfl Args.nil) rfl rfl (alive_spec _) ?_; rintro _ _ ⟨rfl, rfl⟩) | (refine uE (uL rfl rfl (uW (te rfl) rfl (qH _) rfl)) rfl rfl ?_) | (refine uE (uL rfl rfl (uW (te rfl) rfl (List.mem_append_right _ (qH _)) rfl)) rfl rfl ?_) | (refine uE (uL rfl rfl (uW (te rfl) rfl (List.mem_append_right _ (List.mem_append_right _ (qH _))) rfl)) rfl rfl ?_) | (refine uC (uT rfl (Args.cons rfl Args.nil)) rfl rfl (hg _) ?_; rintro _ _ ⟨rfl, rfl⟩) | (refine uC (uT rfl (Args.cons rfl Args.nil)) rfl rfl (hr _ (hR.sub (fun _ h => by repeat (first | exact h | apply List.mem_append_right | apply qT)))) ?_; rintro _ _ ⟨rfl, rfl⟩) | (refine uE (uX rfl rfl rfl) rfl rfl ?_) | (refine uC (uT rfl (Args.cons rfl Args.nil)) rfl rfl (kw2 _ (hR.sub (fun _ h => by repeat (first | exact h | apply List.mem_append_right | apply qT)))) ?_; rintro _ _ ⟨a, c, Z, rfl, hl1, rfl⟩) | (refine uC (uT rfl (Args.cons rfl (Args.cons rfl Args.nil))) rfl rfl (some_spec R p bi _ (hR.sub (fun _ h => by repeat (first | exact h | apply List.mem_append_right | apply qT))) (by omega)) ?_; rintro _ _ ⟨s, a9, c9, Z9, hs0, rfl, hs1, rfl⟩) | (refine uE (uM rfl rfl) rfl rfl ?_) | (refine uE (uA rfl rfl) rfl rfl ?_) | (refine uE (EvF.pickT rfl rfl rfl) rfl rfl ?_) | (refine uE (EvF.pickF rfl rfl rfl) rfl rfl ?_) | (refine uE (EvF.not rfl rfl) rfl rfl ?_) | (refine Xg.st (StF.boxAgg rfl rfl) rfl rfl ?_; rintro _ _ ⟨bx, rfl, rfl⟩))) | (refine Xo.g rfl rfl ?_; (first | (with_reducible refine Xw.tf rfl rfl ?_) | (with_reducible refine Xw.caseB (fun h => ?_) (fun h => ?_) <;> simp only [h, decide_true, decide_false, Bool.not_true, Bool.not_false, and_self, and_true, true_and, and_false, false_and]))))) | (refine uD rfl ?_; refine hK _ _ ?_; clear hK K) | refine uS rfl ?_ | refine uR rfl (fun K hK => ?_) | refine X.skip rfl ?_ | refine X.ret rfl ?_ | (refine X.ite rfl rfl (fun hc => ?_); (first | (with_reducible refine Xb.t hc ?_) | (with_reducible refine Xb.caseB hc (fun h => ?_) (fun h => ?_))) <;> clear hc))
    all_goals try (exfalso; contradiction)
    have hst2 := strOk_sub hok hs0
    have hsl := hs0.length_le
    rw [List.length_map] at hsl
    have hst1 := strOk_sub hok f1
    have kc1 := fun (p1 : Pl) S hS => kCan_spec (strRm R r) p1 S hS
    rw [canF_str hok r, f3] at kc1
    have hle : ((r.length : Nat) : Int) ≤ 3 := by omega
    have kc2 := fun (p2 : Pl) S hS => kCan_spec (strRm R s) p2 S hS
    rw [canF_str hok s] at kc2
    cases hkb : okW R s with
    | false =>
     rw [hkb] at kc2
     repeat' (first | (refine uP rfl ?_; (first | ((first | refine uN rfl ?_ | (refine Xo.g rfl rfl ?_; with_reducible refine Xw.tt ?_) | (refine Xo.g rfl rfl ?_; with_reducible refine Xw.ff ?_)); (first | (refine uE (uL rfl rfl (uW (te rfl) rfl (qH _) rfl)) rfl rfl ?_) | (refine uE (uL rfl rfl (uW (te rfl) rfl (qT _ (List.mem_append_right _ (List.mem_append_right _ (List.mem_append_right _ (qH _))))) rfl)) rfl rfl ?_) | (refine uE (uL rfl rfl (uW (te rfl) rfl (qT _ (List.mem_append_right _ (qH _))) rfl)) rfl rfl ?_) | (refine uE (uX rfl rfl rfl) rfl rfl ?_) | (refine uE (EvF.lenSlice rfl rfl (te rfl)) rfl rfl ?_) | (refine uC (uT rfl (Args.cons rfl (Args.cons rfl Args.nil))) rfl rfl (strG_spec R p r a c _ (hR.sub (fun _ h => by repeat (first | exact h | apply List.mem_append_right | apply qT))) hok (hl1.sub (fun _ h => by repeat (first | exact h | apply List.mem_append_right | apply qT))) (by omega) hst1) ?_; rintro _ _ ⟨p1, Z1, rfl, rfl, o1⟩) | (refine uC (uT rfl (Args.cons rfl (Args.cons rfl Args.nil))) rfl rfl (strG_spec R p s a9 c9 _ (hR.sub (fun _ h => by repeat (first | exact h | apply List.mem_append_right | apply qT))) hok (hs1.sub (fun _ h => by repeat (first | exact h | apply List.mem_append_right | apply qT))) (by omega) hst2) ?_; rintro _ _ ⟨p2, Z2, rfl, rfl, o2⟩) | (refine Xg.st (StF.alloc rfl Tryz.zeroValue32 rfl) rfl rfl ?_; rintro _ _ ⟨bx, rfl, rfl⟩) | (refine Xg.st0 (StF.storeAll (i := 0) (vs := cRm (strRm R r) p1) rfl rfl rfl (te rfl) rfl rfl rfl rfl) rfl ?_; rintro _ _ ⟨rfl, rfl⟩; dsimp only [List.set]) | (refine Xg.st0 (StF.storeAll (i := 0) (vs := cRm (strRm R s) p2) rfl rfl rfl (te rfl) rfl rfl rfl rfl) rfl ?_; rintro _ _ ⟨rfl, rfl⟩; dsimp only [List.set]) | (refine uC (uT rfl (Args.cons rfl Args.nil)) rfl rfl (kc1 p1 _ ((o1 _).sub (fun _ h => by repeat (first | exact h | apply List.mem_append_right | apply qT)))) ?_; rintro _ _ ⟨rfl, rfl⟩) | (refine uC (uT rfl (Args.cons rfl Args.nil)) rfl rfl (kc2 p2 _ ((o2 _).sub (fun _ h => by repeat (first | exact h | apply List.mem_append_right | apply qT)))) ?_; rintro _ _ ⟨rfl, rfl⟩) | (refine uE (uQ (b := false) rfl rfl rfl (congrArg some (nd_f (Eq.refl (0 : Int))))) rfl rfl ?_) | (refine uE (uQ (b := true) rfl rfl rfl (congrArg some (decide_eq_true hle))) rfl rfl ?_) | (refine uE (uM rfl rfl) rfl rfl ?_) | (refine uE (uA rfl rfl) rfl rfl ?_) | (refine uE (EvF.pickT rfl rfl rfl) rfl rfl ?_) | (refine uE (EvF.pickF rfl rfl rfl) rfl rfl ?_) | (refine uE (EvF.not rfl rfl) rfl rfl ?_))) | (refine Xo.g rfl rfl ?_; (first | (with_reducible refine Xw.tf rfl rfl ?_) | (with_reducible refine Xw.ft rfl rfl ?_) | (with_reducible refine Xw.caseB (fun h => ?_) (fun h => ?_) <;> simp only [h, decide_true, decide_false, Bool.not_true, Bool.not_false, and_self, and_true, true_and, and_false, false_and]))) | (refine Xo.sk rfl rfl rfl rfl ?_))) | (refine uD rfl ?_; refine hK _ _ ?_; clear hK K) | refine uS rfl ?_ | refine uR rfl (fun K hK => ?_) | refine X.skip rfl ?_ | refine X.ret rfl ?_ | (refine X.ite rfl rfl (fun hc => ?_); (first | (with_reducible refine Xb.f hc ?_)) <;> clear hc))
     all_goals try (exfalso; contradiction)
     exact ret_one (by simp) Tryz.results7 rfl (H' := _) (qR _) rfl
    | true =>
     rw [hkb] at kc2
     have hbf := f4 s hs0 hkb
     have kbf := fun S (h1 : SlE S a9 cI 1 s) (h2 : SlE S a cI 1 r) => before_spec s r a9 a c9 c S h1 h2 (by omega) (by omega)
     rw [hbf] at kbf
     repeat' (first | (refine uP rfl ?_; (first | ((first | refine uN rfl ?_ | (refine Xo.g rfl rfl ?_; with_reducible refine Xw.tt ?_) | (refine Xo.g rfl rfl ?_; with_reducible refine Xw.ff ?_)); (first | (refine uE (uL rfl rfl (uW (te rfl) rfl (qH _) rfl)) rfl rfl ?_) | (refine uE (uL rfl rfl (uW (te rfl) rfl (qT _ (List.mem_append_right _ (List.mem_append_right _ (List.mem_append_right _ (qH _))))) rfl)) rfl rfl ?_) | (refine uE (uL rfl rfl (uW (te rfl) rfl (qT _ (List.mem_append_right _ (qH _))) rfl)) rfl rfl ?_) | (refine uE (uX rfl rfl rfl) rfl rfl ?_) | (refine uE (EvF.lenSlice rfl rfl (te rfl)) rfl rfl ?_) | (refine uC (uT rfl (Args.cons rfl (Args.cons rfl Args.nil))) rfl rfl (strG_spec R p r a c _ (hR.sub (fun _ h => by repeat (first | exact h | apply List.mem_append_right | apply qT))) hok (hl1.sub (fun _ h => by repeat (first | exact h | apply List.mem_append_right | apply qT))) (by omega) hst1) ?_; rintro _ _ ⟨p1, Z1, rfl, rfl, o1⟩) | (refine uC (uT rfl (Args.cons rfl (Args.cons rfl Args.nil))) rfl rfl (strG_spec R p s a9 c9 _ (hR.sub (fun _ h => by repeat (first | exact h | apply List.mem_append_right | apply qT))) hok (hs1.sub (fun _ h => by repeat (first | exact h | apply List.mem_append_right | apply qT))) (by omega) hst2) ?_; rintro _ _ ⟨p2, Z2, rfl, rfl, o2⟩) | (refine Xg.st (StF.alloc rfl Tryz.zeroValue32 rfl) rfl rfl ?_; rintro _ _ ⟨bx, rfl, rfl⟩) | (refine Xg.st0 (StF.storeAll (i := 0) (vs := cRm (strRm R r) p1) rfl rfl rfl (te rfl) rfl rfl rfl rfl) rfl ?_; rintro _ _ ⟨rfl, rfl⟩; dsimp only [List.set]) | (refine Xg.st0 (StF.storeAll (i := 0) (vs := cRm (strRm R s) p2) rfl rfl rfl (te rfl) rfl rfl rfl rfl) rfl ?_; rintro _ _ ⟨rfl, rfl⟩; dsimp only [List.set]) | (refine uC (uT rfl (Args.cons rfl Args.nil)) rfl rfl (kc1 p1 _ ((o1 _).sub (fun _ h => by repeat (first | exact h | apply List.mem_append_right | apply qT)))) ?_; rintro _ _ ⟨rfl, rfl⟩) | (refine uC (uT rfl (Args.cons rfl Args.nil)) rfl rfl (kc2 p2 _ ((o2 _).sub (fun _ h => by repeat (first | exact h | apply List.mem_append_right | apply qT)))) ?_; rintro _ _ ⟨rfl, rfl⟩) | (refine uE (uQ (b := false) rfl rfl rfl (congrArg some (nd_f (Eq.refl (0 : Int))))) rfl rfl ?_) | (refine uE (uQ (b := true) rfl rfl rfl (congrArg some (decide_eq_true hle))) rfl rfl ?_) | (refine uC (uT rfl (Args.cons rfl (Args.cons rfl Args.nil))) rfl rfl (kbf _ (hs1.sub (fun _ h => by repeat (first | exact h | apply List.mem_append_right | apply qT))) (hl1.sub (fun _ h => by repeat (first | exact h | apply List.mem_append_right | apply qT)))) ?_; rintro _ _ ⟨rfl, rfl⟩) | (refine uE (uM rfl rfl) rfl rfl ?_) | (refine uE (uA rfl rfl) rfl rfl ?_) | (refine uE (EvF.pickT rfl rfl rfl) rfl rfl ?_) | (refine uE (EvF.pickF rfl rfl rfl) rfl rfl ?_) | (refine uE (EvF.not rfl rfl) rfl rfl ?_))) | (refine Xo.g rfl rfl ?_; (first | (with_reducible refine Xw.tf rfl rfl ?_) | (with_reducible refine Xw.ft rfl rfl ?_) | (with_reducible refine Xw.caseB (fun h => ?_) (fun h => ?_) <;> simp only [h, decide_true, decide_false, Bool.not_true, Bool.not_false, and_self, and_true, true_and, and_false, false_and]))) | (refine Xo.sk rfl rfl rfl rfl ?_))) | (refine uD rfl ?_; refine hK _ _ ?_; clear hK K) | refine uS rfl ?_ | refine uR rfl (fun K hK => ?_) | refine X.skip rfl ?_ | refine X.ret rfl ?_ | (refine X.ite rfl rfl (fun hc => ?_); (first | (with_reducible refine Xb.f hc ?_)) <;> clear hc))
     all_goals try (exfalso; contradiction)
     exact ret_one (by simp) Tryz.results7 rfl (H' := _) (qR _) rfl
   ·have kw2 : ∀ S, RmOk S R p → Fc Tryz.prog 41 [.agg (cRm R p).toArray] S (fun v H' => ∃ a c Z, v = .tuple #[.slice a 0 c, .int .i64 4] ∧ SlE (Z ++ S) a cI 1 [] ∧ H' = Z ++ S) := fun S hS => by
     have := kw S hS
     rw [e1] at this
     exact this
    clear kw e1
    refine Fc.mk (callable Tryz.call7) Tryz.func7 rfl Tryz.ntmps7 rfl ?_; dsimp only [fr]
    repeat' (first | (refine uP rfl ?_; (first | ((first | refine uN rfl ?_ | (refine Xo.g rfl rfl ?_; with_reducible refine Xw.ff ?_)); (first | (refine uC (uT rfl Args.nil) rfl rfl (alive_spec _) ?_; rintro _ _ ⟨rfl, rfl⟩) | (refine uE (uL rfl rfl (uW (te rfl) rfl (qH _) rfl)) rfl rfl ?_) | (refine uE (uL rfl rfl (uW (te rfl) rfl (List.mem_append_right _ (qH _)) rfl)) rfl rfl ?_) | (refine uE (uL rfl rfl (uW (te rfl) rfl (List.mem_append_right _ (List.mem_append_right _ (qH _))) rfl)) rfl rfl ?_) | (refine uC (uT rfl (Args.cons rfl Args.nil)) rfl rfl (hg _) ?_; rintro _ _ ⟨rfl, rfl⟩) | (refine uC (uT rfl (Args.cons rfl Args.nil)) rfl rfl (hr _ (hR.sub (fun _ h => by repeat (first | exact h | apply List.mem_append_right | apply qT)))) ?_; rintro _ _ ⟨rfl, rfl⟩) | (refine uE (uX rfl rfl rfl) rfl rfl ?_) | (refine uC (uT rfl (Args.cons rfl Args.nil)) rfl rfl (kw2 _ (hR.sub (fun _ h => by repeat (first | exact h | apply List.mem_append_right | apply qT)))) ?_; rintro _ _ ⟨a, c, Z, rfl, hl1, rfl⟩) | (refine uC (uT rfl (Args.cons rfl (Args.cons rfl Args.nil))) rfl rfl (some_spec R p bi _ (hR.sub (fun _ h => by repeat (first | exact h | apply List.mem_append_right | apply qT))) (by omega)) ?_; rintro _ _ ⟨s, a9, c9, Z9, hs0, rfl, hs1, rfl⟩) | (refine uE (uM rfl rfl) rfl rfl ?_) | (refine uE (uA rfl rfl) rfl rfl ?_) | (refine uE (EvF.pickT rfl rfl rfl) rfl rfl ?_) | (refine uE (EvF.pickF rfl rfl rfl) rfl rfl ?_) | (refine uE (EvF.not rfl rfl) rfl rfl ?_) | (refine Xg.st (StF.boxAgg rfl rfl) rfl rfl ?_; rintro _ _ ⟨bx, rfl, rfl⟩))) | (refine Xo.g rfl rfl ?_; (first | (with_reducible refine Xw.tf rfl rfl ?_) | (with_reducible refine Xw.caseB (fun h => ?_) (fun h => ?_) <;> simp only [h, decide_true, decide_false, Bool.not_true, Bool.not_false, and_self, and_true, true_and, and_false, false_and]))))) | (refine uD rfl ?_; refine hK _ _ ?_; clear hK K) | refine uS rfl ?_ | refine uR rfl (fun K hK => ?_) | refine X.skip rfl ?_ | refine X.ret rfl ?_ | (refine X.ite rfl rfl (fun hc => ?_); (first | (with_reducible refine Xb.t hc ?_) | (with_reducible refine Xb.caseB hc (fun h => ?_) (fun h => ?_))) <;> clear hc))
    all_goals try (exfalso; contradiction)
    have hst2 := strOk_sub hok hs0
    have hsl := hs0.length_le
    rw [List.length_map] at hsl
    have hst1 : strOk R.mats [] := strOk_sub hok (List.nil_sublist _)
    have kc1 := fun (p1 : Pl) S hS => kCan_spec (strRm R []) p1 S hS
    rw [canF_str hok [], f4 [] (List.nil_sublist _) (Nat.zero_le _)] at kc1
    have kc2 := fun (p2 : Pl) S hS => kCan_spec (strRm R s) p2 S hS
    rw [canF_str hok s] at kc2
    cases hkb : okW R s with
    | false =>
     rw [hkb] at kc2
     repeat' (first | (refine uP rfl ?_; (first | ((first | refine uN rfl ?_ | (refine Xo.g rfl rfl ?_; with_reducible refine Xw.tt ?_) | (refine Xo.g rfl rfl ?_; with_reducible refine Xw.ff ?_)); (first | (refine uE (uL rfl rfl (uW (te rfl) rfl (qH _) rfl)) rfl rfl ?_) | (refine uE (uL rfl rfl (uW (te rfl) rfl (qT _ (List.mem_append_right _ (List.mem_append_right _ (List.mem_append_right _ (qH _))))) rfl)) rfl rfl ?_) | (refine uE (uL rfl rfl (uW (te rfl) rfl (qT _ (List.mem_append_right _ (qH _))) rfl)) rfl rfl ?_) | (refine uE (uX rfl rfl rfl) rfl rfl ?_) | (refine uE (EvF.lenSlice rfl rfl (te rfl)) rfl rfl ?_) | (refine uC (uT rfl (Args.cons rfl (Args.cons rfl Args.nil))) rfl rfl (strG_spec R p [] a c _ (hR.sub (fun _ h => by repeat (first | exact h | apply List.mem_append_right | apply qT))) hok (hl1.sub (fun _ h => by repeat (first | exact h | apply List.mem_append_right | apply qT))) (Nat.zero_le _) hst1) ?_; rintro _ _ ⟨p1, Z1, rfl, rfl, o1⟩) | (refine uC (uT rfl (Args.cons rfl (Args.cons rfl Args.nil))) rfl rfl (strG_spec R p s a9 c9 _ (hR.sub (fun _ h => by repeat (first | exact h | apply List.mem_append_right | apply qT))) hok (hs1.sub (fun _ h => by repeat (first | exact h | apply List.mem_append_right | apply qT))) (by omega) hst2) ?_; rintro _ _ ⟨p2, Z2, rfl, rfl, o2⟩) | (refine Xg.st (StF.alloc rfl Tryz.zeroValue32 rfl) rfl rfl ?_; rintro _ _ ⟨bx, rfl, rfl⟩) | (refine Xg.st0 (StF.storeAll (i := 0) (vs := cRm (strRm R []) p1) rfl rfl rfl (te rfl) rfl rfl rfl rfl) rfl ?_; rintro _ _ ⟨rfl, rfl⟩; dsimp only [List.set]) | (refine Xg.st0 (StF.storeAll (i := 0) (vs := cRm (strRm R s) p2) rfl rfl rfl (te rfl) rfl rfl rfl rfl) rfl ?_; rintro _ _ ⟨rfl, rfl⟩; dsimp only [List.set]) | (refine uC (uT rfl (Args.cons rfl Args.nil)) rfl rfl (kc1 p1 _ ((o1 _).sub (fun _ h => by repeat (first | exact h | apply List.mem_append_right | apply qT)))) ?_; rintro _ _ ⟨rfl, rfl⟩) | (refine uC (uT rfl (Args.cons rfl Args.nil)) rfl rfl (kc2 p2 _ ((o2 _).sub (fun _ h => by repeat (first | exact h | apply List.mem_append_right | apply qT)))) ?_; rintro _ _ ⟨rfl, rfl⟩) | (refine uE (uQ (b := false) rfl rfl rfl (congrArg some (nd_f (Eq.refl (0 : Int))))) rfl rfl ?_) | (refine uE (uQ (b := true) rfl rfl rfl (congrArg some (nd_t (show ¬ (4 : Int) = 0 by decide)))) rfl rfl ?_) | (refine uE (uQ (b := false) rfl rfl rfl (congrArg some (nd_f (Eq.refl (4 : Int))))) rfl rfl ?_) | (refine uE (uM rfl rfl) rfl rfl ?_) | (refine uE (uA rfl rfl) rfl rfl ?_) | (refine uE (EvF.pickT rfl rfl rfl) rfl rfl ?_) | (refine uE (EvF.pickF rfl rfl rfl) rfl rfl ?_) | (refine uE (uQ rfl rfl rfl rfl) rfl rfl ?_) | (refine uE (EvF.not rfl rfl) rfl rfl ?_))) | (refine Xo.g rfl rfl ?_; (first | (with_reducible refine Xw.tf rfl rfl ?_) | (with_reducible refine Xw.ft rfl rfl ?_) | (with_reducible refine Xw.caseB (fun h => ?_) (fun h => ?_) <;> simp only [h, decide_true, decide_false, Bool.not_true, Bool.not_false, and_self, and_true, true_and, and_false, false_and]))) | (refine Xo.sk rfl rfl rfl rfl ?_))) | (refine uD rfl ?_; refine hK _ _ ?_; clear hK K) | refine uS rfl ?_ | refine uR rfl (fun K hK => ?_) | refine X.skip rfl ?_ | refine X.ret rfl ?_ | (refine X.ite rfl rfl (fun hc => ?_); (first | (with_reducible refine Xb.t hc ?_) | (with_reducible refine Xb.f hc ?_)) <;> clear hc))
     all_goals try (exfalso; contradiction)
     exact ret_one (by simp) Tryz.results7 rfl (H' := _) (qR _) rfl
    | true =>
     rw [hkb] at kc2
     have hlen : ((s.length : Nat) : Int) > 3 := by
      rcases Nat.lt_or_ge 3 s.length with q | q
      ·omega
      ·rw [f4 s hs0 q] at hkb; cases hkb
     repeat' (first | (refine uP rfl ?_; (first | ((first | refine uN rfl ?_ | (refine Xo.g rfl rfl ?_; with_reducible refine Xw.tt ?_) | (refine Xo.g rfl rfl ?_; with_reducible refine Xw.ff ?_)); (first | (refine uE (uL rfl rfl (uW (te rfl) rfl (qH _) rfl)) rfl rfl ?_) | (refine uE (uL rfl rfl (uW (te rfl) rfl (qT _ (List.mem_append_right _ (List.mem_append_right _ (List.mem_append_right _ (qH _))))) rfl)) rfl rfl ?_) | (refine uE (uL rfl rfl (uW (te rfl) rfl (qT _ (List.mem_append_right _ (qH _))) rfl)) rfl rfl ?_) | (refine uE (uX rfl rfl rfl) rfl rfl ?_) | (refine uE (EvF.lenSlice rfl rfl (te rfl)) rfl rfl ?_) | (refine uC (uT rfl (Args.cons rfl (Args.cons rfl Args.nil))) rfl rfl (strG_spec R p [] a c _ (hR.sub (fun _ h => by repeat (first | exact h | apply List.mem_append_right | apply qT))) hok (hl1.sub (fun _ h => by repeat (first | exact h | apply List.mem_append_right | apply qT))) (Nat.zero_le _) hst1) ?_; rintro _ _ ⟨p1, Z1, rfl, rfl, o1⟩) | (refine uC (uT rfl (Args.cons rfl (Args.cons rfl Args.nil))) rfl rfl (strG_spec R p s a9 c9 _ (hR.sub (fun _ h => by repeat (first | exact h | apply List.mem_append_right | apply qT))) hok (hs1.sub (fun _ h => by repeat (first | exact h | apply List.mem_append_right | apply qT))) (by omega) hst2) ?_; rintro _ _ ⟨p2, Z2, rfl, rfl, o2⟩) | (refine Xg.st (StF.alloc rfl Tryz.zeroValue32 rfl) rfl rfl ?_; rintro _ _ ⟨bx, rfl, rfl⟩) | (refine Xg.st0 (StF.storeAll (i := 0) (vs := cRm (strRm R []) p1) rfl rfl rfl (te rfl) rfl rfl rfl rfl) rfl ?_; rintro _ _ ⟨rfl, rfl⟩; dsimp only [List.set]) | (refine Xg.st0 (StF.storeAll (i := 0) (vs := cRm (strRm R s) p2) rfl rfl rfl (te rfl) rfl rfl rfl rfl) rfl ?_; rintro _ _ ⟨rfl, rfl⟩; dsimp only [List.set]) | (refine uC (uT rfl (Args.cons rfl Args.nil)) rfl rfl (kc1 p1 _ ((o1 _).sub (fun _ h => by repeat (first | exact h | apply List.mem_append_right | apply qT)))) ?_; rintro _ _ ⟨rfl, rfl⟩) | (refine uC (uT rfl (Args.cons rfl Args.nil)) rfl rfl (kc2 p2 _ ((o2 _).sub (fun _ h => by repeat (first | exact h | apply List.mem_append_right | apply qT)))) ?_; rintro _ _ ⟨rfl, rfl⟩) | (refine uE (uQ (b := false) rfl rfl rfl (congrArg some (nd_f (Eq.refl (0 : Int))))) rfl rfl ?_) | (refine uE (uQ (b := true) rfl rfl rfl (congrArg some (nd_t (show ¬ (4 : Int) = 0 by decide)))) rfl rfl ?_) | (refine uE (uQ (b := false) rfl rfl rfl (congrArg some (nd_f (Eq.refl (4 : Int))))) rfl rfl ?_) | (refine uE (uQ (b := true) rfl rfl rfl (congrArg some (decide_eq_true hlen))) rfl rfl ?_) | (refine uE (uM rfl rfl) rfl rfl ?_) | (refine uE (uA rfl rfl) rfl rfl ?_) | (refine uE (EvF.pickT rfl rfl rfl) rfl rfl ?_) | (refine uE (EvF.pickF rfl rfl rfl) rfl rfl ?_) | (refine uE (EvF.not rfl rfl) rfl rfl ?_))) | (refine Xo.g rfl rfl ?_; (first | (with_reducible refine Xw.tf rfl rfl ?_) | (with_reducible refine Xw.ft rfl rfl ?_) | (with_reducible refine Xw.caseB (fun h => ?_) (fun h => ?_) <;> simp only [h, decide_true, decide_false, Bool.not_true, Bool.not_false, and_self, and_true, true_and, and_false, false_and]))) | (refine Xo.sk rfl rfl rfl rfl ?_))) | (refine uD rfl ?_; refine hK _ _ ?_; clear hK K) | refine uS rfl ?_ | refine uR rfl (fun K hK => ?_) | refine X.skip rfl ?_ | refine X.ret rfl ?_ | (refine X.ite rfl rfl (fun hc => ?_); (first | (with_reducible refine Xb.t hc ?_) | (with_reducible refine Xb.f hc ?_)) <;> clear hc))
     all_goals try (exfalso; contradiction)
     exact ret_one (by simp) Tryz.results7 rfl (H' := _) (qR _) rfl
  ·simp only [decide_eq_false hok] at hr
   refine Fc.mk (callable Tryz.call7) Tryz.func7 rfl Tryz.ntmps7 rfl ?_; dsimp only [fr]
   repeat' (first | (refine uP rfl ?_; (first | ((first | refine uN rfl ?_ | (refine Xo.g rfl rfl ?_; with_reducible refine Xw.ff ?_)); (first | (refine uC (uT rfl Args.nil) rfl rfl (alive_spec _) ?_; rintro _ _ ⟨rfl, rfl⟩) | (refine uE (uL rfl rfl (uW (te rfl) rfl (qH _) rfl)) rfl rfl ?_) | (refine uC (uT rfl (Args.cons rfl Args.nil)) rfl rfl (hg _) ?_; rintro _ _ ⟨rfl, rfl⟩) | (refine uC (uT rfl (Args.cons rfl Args.nil)) rfl rfl (hr _ (hR.sub (fun _ h => by repeat (first | exact h | apply List.mem_append_right | apply qT)))) ?_; rintro _ _ ⟨rfl, rfl⟩) | (refine uE (uM rfl rfl) rfl rfl ?_) | (refine uE (uA rfl rfl) rfl rfl ?_) | (refine uE (EvF.pickT rfl rfl rfl) rfl rfl ?_) | (refine uE (EvF.pickF rfl rfl rfl) rfl rfl ?_) | (refine uE (EvF.not rfl rfl) rfl rfl ?_) | (refine Xg.st (StF.boxAgg rfl rfl) rfl rfl ?_; rintro _ _ ⟨bx, rfl, rfl⟩))) | (refine Xo.g rfl rfl ?_; (first | (with_reducible refine Xw.tf rfl rfl ?_) | (with_reducible refine Xw.caseB (fun h => ?_) (fun h => ?_) <;> simp only [h, decide_true, decide_false, Bool.not_true, Bool.not_false, and_self, and_true, true_and, and_false, false_and]))))) | (refine uD rfl ?_; refine hK _ _ ?_; clear hK K) | refine uS rfl ?_ | refine uR rfl (fun K hK => ?_) | refine X.skip rfl ?_ | refine X.ret rfl ?_ | (refine X.ite rfl rfl (fun hc => ?_); (first | (with_reducible refine Xb.t hc ?_) | (with_reducible refine Xb.caseB hc (fun h => ?_) (fun h => ?_))) <;> clear hc))
   all_goals try (exfalso; contradiction)
   exact ret_one (by simp) Tryz.results7 rfl (H' := _) (qR _) rfl
end Go.Proofs.YtiidhncjolbigaaGreat
end
section
set_option linter.unusedVariables false
namespace Go.Proofs.YtiidhncjolbigaaGreat
open Go Go.Fw Go.ChangeShapes Go.WideShapes
set_option maxRecDepth 10000
instance : Inhabited Sp := ⟨⟨0, 0⟩⟩
instance : Inhabited Bx := ⟨⟨0, 0⟩⟩
instance : Inhabited Mt := ⟨⟨0, 0, 0, 0, 0, 0⟩⟩
def w64 (n : Int) : Prop := (Lit.int .i64 n).wf = true
section
variable {H : Type} {enc : TypeId × Value → H} {w : World} {base : Nat} {spare : Nat → Bool} {held : Bool} {fuel : Nat} {cs : List Value} {x : DataW H × List MemPlace}
theorem open_i (h : DataW.trod enc Tryz.prog w base spare held fuel 3 cs = some x) : ∃ q : Int, cs = cI q ∧ w64 q := trod_i (te rfl) h
theorem open_sp (h : DataW.trod enc Tryz.prog w base spare held fuel 24 cs = some x) : ∃ q : Sp, cs = cSp q ∧ (w64 q.lo ∧ w64 q.hi) := by
 obtain ⟨hl, hf⟩ := trod_st (te rfl) h
 obtain ⟨n0, y0, h0⟩ := hf 0 0 3 _ rfl (te rfl)
 obtain ⟨n1, y1, h1⟩ := hf 1 1 3 _ rfl (te rfl)
 match cs, hl with
 | [a, b], _ =>
  obtain ⟨lo, e0, w0⟩ := open_i h0
  obtain ⟨hi, e1, w1⟩ := open_i h1
  simp [cI] at e0 e1
  subst e0 e1
  exact ⟨⟨lo, hi⟩, rfl, w0, w1⟩
theorem open_bx (h : DataW.trod enc Tryz.prog w base spare held fuel 47 cs = some x) : ∃ q : Bx, cs = cBx q ∧ (w64 q.id ∧ w64 q.made) := by
 obtain ⟨hl, hf⟩ := trod_st (te rfl) h
 obtain ⟨n0, y0, h0⟩ := hf 0 0 3 _ rfl (te rfl)
 obtain ⟨n1, y1, h1⟩ := hf 1 1 3 _ rfl (te rfl)
 match cs, hl with
 | [a, b], _ =>
  obtain ⟨lo, e0, w0⟩ := open_i h0
  obtain ⟨hi, e1, w1⟩ := open_i h1
  simp [cI] at e0 e1
  subst e0 e1
  exact ⟨⟨lo, hi⟩, rfl, w0, w1⟩
theorem open_mt (h : DataW.trod enc Tryz.prog w base spare held fuel 44 cs = some x) : ∃ q : Mt, cs = cMt q ∧ (w64 q.number ∧ w64 q.month ∧ w64 q.a ∧ w64 q.b ∧ w64 q.lo ∧ w64 q.hi) := by
 obtain ⟨hl, hf⟩ := trod_st (te rfl) h
 obtain ⟨n0, y0, h0⟩ := hf 0 0 3 _ rfl (te rfl)
 obtain ⟨n1, y1, h1⟩ := hf 1 1 3 _ rfl (te rfl)
 obtain ⟨n2, y2, h2⟩ := hf 2 2 3 _ rfl (te rfl)
 obtain ⟨n3, y3, h3⟩ := hf 3 3 3 _ rfl (te rfl)
 obtain ⟨n4, y4, h4⟩ := hf 4 4 24 _ rfl (te rfl)
 match cs, hl with
 | [a, b, c, d, e, f], _ =>
  obtain ⟨q0, e0, w0⟩ := open_i h0
  obtain ⟨q1, e1, w1⟩ := open_i h1
  obtain ⟨q2, e2, w2⟩ := open_i h2
  obtain ⟨q3, e3, w3⟩ := open_i h3
  obtain ⟨q4, e4, w4⟩ := open_sp h4
  simp [cI, cSp] at e0 e1 e2 e3 e4
  obtain ⟨e4, e5⟩ := e4
  subst e0 e1 e2 e3 e4 e5
  exact ⟨⟨q0, q1, q2, q3, q4.lo, q4.hi⟩, rfl, w0, w1, w2, w3, w4.1, w4.2⟩
end
structure InRm (w : World) (R : Rm) (p : Pl) : Prop where
 ages : InSl w p.a1 cSp 2 R.ages
 boxes : InSl w p.a2 cBx 2 R.boxes
 mats : InSl w p.a3 cMt 6 R.mats
 mo : w64 R.months
 st : w64 R.step
 k1 : R.ages.length ≤ p.c1
 k2 : R.boxes.length ≤ p.c2
 k3 : R.mats.length ≤ p.c3
def rowsRm (R : Rm) (p : Pl) : List Row := rowsOf p.a1 cSp R.ages ++ (rowsOf p.a2 cBx R.boxes ++ rowsOf p.a3 cMt R.mats)
theorem InRm.rm {w : World} {R : Rm} {p : Pl} {H : List Row} (h : InRm w R p) (hs : ∀ r ∈ rowsRm R p, r ∈ H) : RmOk H R p where
 ages := h.ages.sl fun r hr => hs r (List.mem_append_left _ hr)
 boxes := h.boxes.sl fun r hr => hs r (List.mem_append_right _ (List.mem_append_left _ hr))
 mats := h.mats.sl fun r hr => hs r (List.mem_append_right _ (List.mem_append_right _ hr))
 l1 := by have := h.ages.2.1; unfold maxLen at this; omega
 l2 := by have := h.boxes.2.1; unfold maxLen at this; omega
 l3 := by have := h.mats.2.1; unfold maxLen at this; omega
theorem InRm.ok {w : World} {R : Rm} {p : Pl} {B : Nat} (h : InRm w R p) : ∀ r ∈ rowsRm R p, r.own = none ∧ r.ok B w := by
 intro r hr
 rcases List.mem_append.1 hr with hr | hr
 ·exact h.ages.ok r hr
 ·rcases List.mem_append.1 hr with hr | hr
  ·exact h.boxes.ok r hr
  ·exact h.mats.ok r hr
section
variable {H : Type} {enc : TypeId × Value → H} {w : World} {base : Nat} {spare : Nat → Bool} {held : Bool} {v : Value} {d : DataW H} {p : List MemPlace} {r : Reach} {b0 : Nat}
theorem open_room (hv : Value.okWide Tryz.prog w r b0 32 v) (h : DataW.Trod enc Tryz.prog w base spare held 32 v d p) : ∃ R pl, v = .agg (cRm R pl).toArray ∧ InRm w R pl := by
 obtain ⟨fa, hu, _⟩ := ti_struct (te (T := 32) rfl)
 obtain ⟨⟨cs⟩, rfl, _⟩ := okWide_struct hu hv
 obtain ⟨fuel, hf⟩ := h
 obtain ⟨hl, hf⟩ := trod_st (te rfl) hf
 obtain ⟨n0, y0, h0⟩ := hf 0 0 3 _ rfl (te rfl)
 obtain ⟨n1, y1, h1⟩ := hf 1 1 3 _ rfl (te rfl)
 obtain ⟨n2, y2, h2⟩ := hf 2 2 28 _ rfl (te rfl)
 obtain ⟨n3, y3, h3⟩ := hf 3 3 29 _ rfl (te rfl)
 obtain ⟨n4, y4, h4⟩ := hf 4 4 30 _ rfl (te rfl)
 match cs, hl with
 | [a, b, c, d, e], _ =>
  obtain ⟨q0, e0, w0⟩ := open_i h0
  obtain ⟨q1, e1, w1⟩ := open_i h1
  simp [cI, Value.cells] at e0 e1
  obtain ⟨l2, a2, c2, e2, i2, _, k2⟩ := open_sl (te rfl) (te rfl) rfl (by decide) (fun _ _ _ => open_sp) (fun _ => rfl) h2
  obtain ⟨l3, a3, c3, e3, i3, _, k3⟩ := open_sl (te rfl) (te rfl) rfl (by decide) (fun _ _ _ => open_bx) (fun _ => rfl) h3
  obtain ⟨l4, a4, c4, e4, i4, _, k4⟩ := open_sl (te rfl) (te rfl) rfl (by decide) (fun _ _ _ => open_mt) (fun _ => rfl) h4
  subst e0 e1 e2 e3 e4
  exact ⟨⟨q0, q1, l2, l3, l4⟩, ⟨a2, c2, a3, c3, a4, c4⟩, rfl, i2, i3, i4, w0, w1, k2, k3, k4⟩
end
end Go.Proofs.YtiidhncjolbigaaGreat
end
section
set_option linter.unusedVariables false
namespace Go.Proofs.YtiidhncjolbigaaGreat
open Go Go.Fw Go.ChangeShapes Go.WideShapes Go.ChangeAt Go.RowKit
set_option linter.unusedVariables false
set_option maxRecDepth 100000
theorem ownK : ownKnob Tryz.prog.godebug = none := by kernel_rfl
theorem laidO : laidOutB Tryz.prog = true := by kernel_rfl
def u8 (n : Int) : Prop := 0 ≤ n ∧ n ≤ 255
section
variable {H : Type} {enc : TypeId × Value → H} {w : World} {base : Nat} {spare : Nat → Bool} {held : Bool} {v : Value} {d : DataW H} {p : List MemPlace} {r : Reach} {b0 : Nat}
theorem u8_wf {n : Int} (h : (Lit.int .u8 n).wf = true) : u8 n := by
 simp [Lit.wf, IntKind.min, IntKind.max, IntKind.signed, IntKind.bits] at h
 exact ⟨by omega, by omega⟩
theorem open_u8 (hv : Value.okWide Tryz.prog w r b0 5 v) (h : DataW.Trod enc Tryz.prog w base spare held 5 v d p) : ∃ n, v = .int .u8 n ∧ u8 n := by
 obtain ⟨n, h1, _, _, h2⟩ := Go.ChangeShapes.open_int Tryz.underlying5 hv h
 exact ⟨n, h1, u8_wf h2⟩
end
end Go.Proofs.YtiidhncjolbigaaGreat
end
section
set_option linter.unusedVariables false
namespace Go.Proofs.YtiidhncjolbigaaGreat
open Go Go.Fw Go.ChangeShapes Go.WideShapes Go.ChangeAt Go.RowKit
set_option linter.unusedVariables false
set_option maxRecDepth 100000
theorem boxWrong_run (R : Rm) (pR : Pl) (bi : Int) (w : World) (hbi : u8 bi) (hR : InRm w R pR) :
  Calls Tryz.prog 7 #[.agg (cRm R pR).toArray, .int .u8 bi] w fun e w' => e = .returned (.bool true) ∧ Below w.heap.size w w' :=
 Fc.calls (H := rowsRm R pR) (boxWrong_spec R pR bi hbi _ (hR.rm (fun _ h => h))) (fun r hr => by
  exact hR.ok r hr
 )
theorem boxWrong_lifted (os : Os) (started : os.Started) (H : Type) (enc : TypeId × Value → H) :
  ReturnsInHanded {} Tryz.checked os 7 .any (Rows.boxWrongSpec.pre6 enc Tryz.prog Tryz.f7 Rows.boxWrongRow.domain false) (Rows.boxWrongSpec.post enc Tryz.prog Tryz.f7 false true false false) := by
 refine returnsInHanded_of_change (C := Tryz.checked) ownK started (by kernel_rfl) Tryz.func7
  (ChangeSpec.witness6 (enc := enc) (C := Tryz.checked) false ⟨#[], #[.agg (cRm ⟨0, 0, [], [], []⟩ ⟨none, 0, none, 0, none, 0⟩).toArray, .int .u8 0], []⟩ 8 (by kernel_rfl) (by kernel_rfl) (by kernel_rfl) (by kernel_rfl)) ?_
 intro W base args ds gs before hval0 hW hcnd _
 have hval : ∀ (j : Nat) t v, Tryz.f7.params[j]? = some t → args[j]? = some v → Value.okWide Tryz.prog W .any base t v := hval0
 have hW' := hW
 obtain ⟨p, q, hA0, hV, rfl, hfz, hnd⟩ := hW
 have hA : DataW.TrodAll enc Tryz.prog W 0 (fun _ => true) true Tryz.f7.params.toList args.toList ds p := hA0
 rw [Tryz.params7] at hA hval
 obtain ⟨v0, vs0, d0, ds0, p0, q0, hargs, rfl, rfl, h0, r0⟩ := trodAll_cons hA
 obtain ⟨v1, vs1, d1, ds1, p1, q1, rfl, rfl, rfl, h1, r1⟩ := trodAll_cons r0
 obtain ⟨rfl, rfl, rfl⟩ := trodAll_nil r1
 obtain rfl : args = #[v0, v1] := by cases args; simp_all
 obtain ⟨rfl, rfl⟩ := trodVars_none hV
 have lt : ∀ {t v d ps}, DataW.Trod enc Tryz.prog W 0 (fun _ => true) true t v d ps → ∀ x ∈ ps, x.block < W.heap.size := fun h => by obtain ⟨m, hm⟩ := h; exact DataW.trod_lt m _ _ _ hm
 obtain ⟨R, pR, rfl, hR⟩ := open_room (hval 0 _ v0 rfl rfl) h0
 obtain ⟨bi, rfl, hbi⟩ := open_u8 (hval 1 _ v1 rfl rfl) h1
 clear hA0 hval0
 refine (boxWrong_run R pR bi W hbi hR).mono fun e W' ⟨he, bel⟩ => ?_
 subst he
 exact ⟨_, rfl, _, _, _, [], _, [], hW', trodAll_mk1 (shut_bool Tryz.underlying4 _), (trodAll_cons_mk (Below.trod laidO (by kernel_rfl) (of_decide_eq_true (by kernel_rfl)) h0 bel (lt h0)) (trodAll_cons_mk (Below.trod laidO (by kernel_rfl) (of_decide_eq_true (by kernel_rfl)) h1 bel (lt h1)) trodAll_mk0)), rfl, bel.frame _, fun h => by cases h⟩
theorem boxWrong_over : Rows.boxWrongRow.holds Tryz.pinned (OpenSpec.ofChange Rows.boxWrongSpec) :=
 OpenClaim.holds_of_wide 7 Tryz.f7 rfl rfl rfl rfl rfl rfl rfl ⟨rfl, rfl, rfl, rfl, rfl⟩ rfl rfl rfl rfl rfl (by kernel_rfl) Tryz.func7 (by kernel_rfl)
  (of_decide_eq_true (by kernel_rfl)) (by unfold Func.isWrapper; first | (rw [if_pos (by decide +kernel)]; kernel_rfl) | (rw [if_neg (by decide +kernel)]; exact ⟨rfl, rfl⟩))
  (fun os started H enc _ => boxWrong_lifted os started H enc)
theorem boxWrong_proved : Rows.BoxWrongSaid := boxWrong_over
#print axioms boxWrong_proved
end Go.Proofs.YtiidhncjolbigaaGreat
end
