/- TermsExamples: the law returns true (the numbers and the refusals that the document tells of are as told). It has no argument, and no condition. -/
import Derived.Test.YtjejppodhpdckaaGreatW08
section
set_option linter.unusedVariables false
set_option linter.unusedSimpArgs false
namespace Go.Proofs.YtjejppodhpdckaaGreat
open Go Go.Fw
set_option maxRecDepth 10000
theorem odOk (b1 b2 : Nat) (S : List Row) (h1 : rI odT.G b1 9 ∈ S) (h2 : rI odT.S b2 9 ∈ S) : TmOk S odT (plT b1 9 b2 9) := ⟨SlE.ofRow h1 (fun _ _ => rfl), SlE.ofRow h2 (fun _ _ => rfl), Nat.le_of_ble_eq_true rfl, Nat.le_of_ble_eq_true rfl⟩
theorem z1 (p : Pt) (H : List Row) (hT : TmOk H odT p) : Fc Tryz.prog 14 [.agg (cTm odT p).toArray, .agg (cCl ⟨0, 0⟩).toArray] H (fun v H' => v = .tuple #[.int .i64 (invR odT ⟨0, 0⟩), .int .i64 40] ∧ H' = H) := by
  have := kinvoice_spec odT p ⟨0, 0⟩ H hT
  rwa [bf1] at this
theorem z2 (p : Pt) (H : List Row) (hT : TmOk H c12 p) : Fc Tryz.prog 14 [.agg (cTm c12 p).toArray, .agg (cCl ⟨7, 5⟩).toArray] H (fun v H' => v = .tuple #[.int .i64 (invR c12 ⟨7, 5⟩), .int .i64 6] ∧ H' = H) := by
  have := kinvoice_spec c12 p ⟨7, 5⟩ H hT
  rwa [bf2] at this
theorem z3 (p : Pt) (H : List Row) (hT : TmOk H c12 p) : Fc Tryz.prog 17 [.agg (cTm c12 p).toArray, .agg (cCl ⟨10, 0⟩).toArray, .int .i64 61] H (fun v H' => v = .tuple #[.bool (allowsR c12 ⟨10, 0⟩ 61), .int .i64 41] ∧ H' = H) := by
  have := kallows_spec c12 p ⟨10, 0⟩ 61 H hT
  rwa [bf3] at this
theorem z4 (p : Pt) (H : List Row) (hT : TmOk H c12 p) : Fc Tryz.prog 17 [.agg (cTm c12 p).toArray, .agg (cCl ⟨9, 0⟩).toArray, .int .i64 61] H (fun v H' => v = .tuple #[.bool (allowsR c12 ⟨9, 0⟩ 61), .int .i64 42] ∧ H' = H) := by
  have := kallows_spec c12 p ⟨9, 0⟩ 61 H hT
  rwa [bf4] at this
theorem z5 (p : Pt) (H : List Row) (hT : TmOk H c12 p) : Fc Tryz.prog 17 [.agg (cTm c12 p).toArray, .agg (cCl ⟨9, 1⟩).toArray, .int .i64 61] H (fun v H' => v = .tuple #[.bool (allowsR c12 ⟨9, 1⟩ 61), .int .i64 44] ∧ H' = H) := by
  have := kallows_spec c12 p ⟨9, 1⟩ 61 H hT
  rwa [bf5] at this
theorem z6 (p : Pt) (H : List Row) (hT : TmOk H c12 p) : Fc Tryz.prog 18 [.agg (cTm c12 p).toArray, .agg (cSp ⟨6, 5⟩).toArray, .agg (cSp ⟨5, 5⟩).toArray, .int .i64 9] H (fun v H' => v = .tuple #[.int .u8 (knoR c12 (lotOf ⟨6, 5⟩ ⟨5, 5⟩) 9), .int .i64 41] ∧ H' = H) := by
  have := kknown_spec c12 p ⟨6, 5⟩ ⟨5, 5⟩ 9 H hT
  rwa [bf6] at this
theorem z7 (p : Pt) (H : List Row) (hT : TmOk H c12 p) : Fc Tryz.prog 25 [.agg (cTm c12 p).toArray, .agg (cSp ⟨7, 9⟩).toArray, .agg (cSp ⟨5, 5⟩).toArray] H (fun v H' => v = .tuple #[.agg (cSp (rngR c12 (lotOf ⟨7, 9⟩ ⟨5, 5⟩))).toArray, .int .i64 6] ∧ H' = H) := by
  have := krange_spec c12 p ⟨7, 9⟩ ⟨5, 5⟩ H hT
  rwa [bf7] at this
theorem z8 (p : Pt) (H : List Row) (hT : TmOk H c12 p) : Fc Tryz.prog 20 [.agg (cTm c12 p).toArray, .int .i64 7, .int .i64 1, .int .i64 5, .bool true] H (fun v H' => v = .tuple #[.int .i64 (payG c12 7 1 5 true), .int .i64 (payP c12 7 1 5 true), .int .i64 6] ∧ H' = H) := by
  have := kPays_spec c12 p 7 1 5 true H hT
  rwa [bf8] at this
theorem z9 (p : Pt) (H : List Row) (hT : TmOk H c12 p) : Fc Tryz.prog 21 [.agg (cTm c12 p).toArray, .int .i64 4, .agg (cSp ⟨4, 4⟩).toArray, .int .i64 3] H (fun v H' => v = .tuple #[.bool (askA c12 4 3 ⟨4, 4⟩), .int .i64 (askL c12 4 3 ⟨4, 4⟩), .int .i64 6] ∧ H' = H) := by
  have := kAsk_spec c12 p 4 3 ⟨4, 4⟩ H hT
  rwa [bf9] at this
theorem z10 (p : Pt) (H : List Row) (hT : TmOk H c12 p) : Fc Tryz.prog 22 [.agg (cTm c12 p).toArray, .agg (cSp ⟨4, 4⟩).toArray, .int .i64 3] H (fun v H' => v = .tuple #[.int .i64 (sayS c12 3 ⟨4, 4⟩), .int .i64 (sayG c12 3 ⟨4, 4⟩), .int .i64 6] ∧ H' = H) := by
  have := kSay_spec c12 p 3 ⟨4, 4⟩ H hT
  rwa [bf10] at this
theorem z11 (p : Pt) (a1 a2 : Option Addr) (H : List Row) (hT : TmOk H c12 p) (hD : DyOk H (dyE 100 a1 a2)) : Fc Tryz.prog 26 [.agg (cTm c12 p).toArray, .agg (cDy (dyE 100 a1 a2)).toArray] H (fun v H' => v = .tuple #[.agg (cCl (chC c12 (dyE 100 a1 a2))).toArray, .int .i64 (chN c12 (dyE 100 a1 a2)), .int .i64 43] ∧ H' = H) := by
  have := kCheapest_spec c12 p (dyE 100 a1 a2) H hT hD
  rwa [bf11 a1 a2] at this
theorem z12 (p : Pt) (a1 a2 : Option Addr) (H : List Row) (hT : TmOk H c12 p) (hD : DyOk H (dyE 510 a1 a2)) : Fc Tryz.prog 27 [.agg (cTm c12 p).toArray, .agg (cDy (dyE 510 a1 a2)).toArray, .agg (cCl ⟨6, 3⟩).toArray] H (fun v H' => v = .tuple #[.int .i64 (deN c12 (dyE 510 a1 a2) ⟨6, 3⟩), .int .i64 6] ∧ H' = H) := by
  have := kDearer_spec c12 p (dyE 510 a1 a2) ⟨6, 3⟩ H hT hD
  rwa [bf12 a1 a2] at this
theorem z15 (p : Pt) (H : List Row) (hT : TmOk H c12 p) : Fc Tryz.prog 29 [.agg (cTm c12 p).toArray, .int .i64 11, .slice none 0 0] H (fun v H' => ∃ n w, v = .tuple #[.int .i64 n, w, .int .i64 44] ∧ H' = H) := by
  refine Fc.out (ktotal_spec c12 p 11 [] none 0 H hT sleNil (by decide)) ?_
  rintro v H' ⟨w, Z, rfl, hO, rfl⟩
  rw [bf15]
  exact ⟨Z ++ H, H, List.Perm.refl _, List.sublist_append_right _ _, _, w, rfl, rfl⟩
theorem z17 (p : Pt) (H : List Row) (hT : TmOk H c12 p) : Fc Tryz.prog 30 [.agg (cTm c12 p).toArray, .int .i64 5, .int .i64 10] H (fun v H' => ∃ p, v = .tuple #[.agg (cTm Tz p).toArray, .int .i64 40] ∧ H' = H) := prgNo (kstep_spec c12 p 5 10 H hT) bf17
theorem z18 (p : Pt) (H : List Row) (hT : TmOk H c12 p) : Fc Tryz.prog 30 [.agg (cTm c12 p).toArray, .int .i64 4, .int .i64 1] H (fun v H' => ∃ p, v = .tuple #[.agg (cTm Tz p).toArray, .int .i64 40] ∧ H' = H) := prgNo (kstep_spec c12 p 4 1 H hT) bf18
theorem z19 (p q : Pt) (H : List Row) (hT : TmOk H c12 p) (hU : TmOk H c13 q) : Fc Tryz.prog 31 [.agg (cTm c12 p).toArray, .agg (cTm c13 q).toArray] H (fun v H' => ∃ p, v = .tuple #[.agg (cTm Tz p).toArray, .int .i64 2] ∧ H' = H) := prgNo (kjoin_spec c12 c13 p q H hT hU) bf19
theorem z20 (p : Pt) (H : List Row) (hT : TmOk H c12 p) : Fc Tryz.prog 32 [.agg (cTm c12 p).toArray, .int .i64 5] H (fun v H' => ∃ p q, v = .tuple #[.agg (cTm Tz p).toArray, .agg (cTm Tz q).toArray, .int .i64 2] ∧ H' = H) := by
  refine Fc.out (ksplit_spec c12 p 5 H hT) ?_
  rw [bf20]
  rintro v H' ⟨p1, p2, Z1, Z2, rfl, h1, h2, rfl⟩
  exact ⟨Z1 ++ (Z2 ++ H), H, List.Perm.refl _, (List.sublist_append_right Z2 H).trans (List.sublist_append_right Z1 _), p1, p2, rfl, rfl⟩
end Go.Proofs.YtjejppodhpdckaaGreat
end
section
set_option linter.unusedVariables false
set_option linter.unusedSimpArgs false
namespace Go.Proofs.YtjejppodhpdckaaGreat
open Go Go.Fw
set_option maxRecDepth 10000
set_option maxHeartbeats 16000000 in
theorem ex36 (b24 g1 g2 : Nat) (H : List Row) : X Tryz.prog 454 (csnd (csnd (csnd (csnd (csnd (csnd (csnd (csnd (csnd (csnd (csnd (csnd (csnd (csnd (csnd (csnd (csnd (csnd (csnd (csnd (csnd (csnd (csnd (csnd (csnd (csnd (csnd (csnd (csnd (csnd (csnd (csnd (csnd (csnd (cof Tryz.f3))))))))))))))))))))))))))))))))))) [(2, .int .i64 40), (4, .int .i64 6), (6, .int .i64 41), (9, .int .i64 42), (12, .int .i64 44), (15, .int .i64 41), (18, .int .i64 6), (21, .int .i64 6), (23, .int .i64 6), (28, .int .i64 6), (31, .int .i64 43), (33, .int .i64 6), (37, .int .i64 2), (41, .int .i64 43), (44, .int .i64 44), (47, .int .i64 4), (49, .int .i64 40), (51, .int .i64 40), (53, .int .i64 2), (56, .int .i64 2), (24, .pointer (some ⟨b24, 0, none⟩))] (⟨b24, 0, cTm c12 (plT g1 9 g2 9), some 32, 11⟩ :: rI odT.G g1 9 :: rI odT.S g2 9 :: H) (retX Tryz.prog Tryz.f3 (fun v _ => v = .bool true)) := by
  repeat' (first | (refine XO.op rfl ?_; (first | ((first | refine Xo.ng rfl ?_ | (refine Xo.g rfl rfl ?_; with_reducible refine Xw.tt ?_)); (first | (refine Xg.ev (EvF.cmp (b := true) rfl rfl rfl rfl) rfl rfl ?_) | (refine Xg.call (EnF.st rfl (Args.cons rfl Args.nil)) rfl rfl (checkF odT (plT g1 9 g2 9) odT_no _ (odOk g1 g2 _ (by repeat (first | exact List.Mem.head _ | apply List.Mem.tail)) (by repeat (first | exact List.Mem.head _ | apply List.Mem.tail)))) ?_; rintro _ H9 ⟨rfl, hH9⟩; subst H9) | (refine Xg.call (EnF.st rfl (Args.cons rfl Args.nil)) rfl rfl (cotton_spec _ _) ?_; rintro _ _ ⟨b1, b2, rfl, rfl⟩) | (refine Xg.call (EnF.st rfl (Args.cons rfl Args.nil)) rfl rfl (checkT c12 _ ok12 _ (ctnOk 12 b1 b2 _ (List.Mem.tail _ (List.Mem.head _)) (List.Mem.head _))) ?_; rintro _ H9 ⟨rfl, hH9⟩; subst H9) | (refine Xg.ev (EvF.move rfl rfl) rfl rfl ?_) | (refine Xg.ev (EvF.assign rfl rfl) rfl rfl ?_) | (refine Xg.ev (EvF.pickT rfl rfl rfl) rfl rfl ?_) | (refine Xg.ev (EvF.loadV rfl rfl (LoadV.whole (te rfl) rfl (List.Mem.head _) rfl)) rfl rfl ?_))))) | (refine XO.done rfl ?_; refine hK _ _ ?_; clear hK K) | refine X.seq rfl ?_ | refine X.region rfl (fun K hK => ?_) | refine X.ret rfl ?_)
  exact ret_one (by first | exact .inr rfl | exact .inl rfl) Tryz.results3 rfl (H' := _) (List.Sublist.refl _) rfl
end Go.Proofs.YtjejppodhpdckaaGreat
end
section
set_option linter.unusedVariables false
set_option linter.unusedSimpArgs false
namespace Go.Proofs.YtjejppodhpdckaaGreat
open Go Go.Fw
set_option maxRecDepth 10000
theorem z1' (p : Pt) (H : List Row) (hT : TmOk H odT p) : Fc Tryz.prog 14 [.agg (cTm c12 p).toArray, .agg (cCl ⟨0, 0⟩).toArray] H (fun v H' => v = .tuple #[.int .i64 (invR odT ⟨0, 0⟩), .int .i64 40] ∧ H' = H) := z1 p H hT
theorem z11' (p : Pt) (a1 a2 : Option Addr) (H : List Row) (hT : TmOk H c12 p) (hD : DyOk H (dyE 100 a1 a2)) : Fc Tryz.prog 26 [.agg (cTm c12 p).toArray, .agg (cDy (dyE 100 a1 a2)).toArray] H (fun v H' => v = .tuple #[.agg (cCl ⟨0, 0⟩).toArray, .int .i64 0, .int .i64 43] ∧ H' = H) := by
  have := z11 p a1 a2 H hT hD
  have h : ¬ dayE c12 (dyE 100 a1 a2) = 0 := by rw [bf11]; decide
  rwa [show chC c12 (dyE 100 a1 a2) = ⟨0, 0⟩ from by unfold chC; rw [if_neg h], show chN c12 (dyE 100 a1 a2) = 0 from by unfold chN; rw [if_neg h]] at this
theorem z13' (p : Pt) (a1 a2 a : Option Addr) (cc : Nat) (H : List Row) (hT : TmOk H c12 p) (hl : DsOk H [dyE 100 a1 a2] a) : Fc Tryz.prog 28 [.agg (cTm c12 p).toArray, .slice a 1 cc] H (fun v H' => v = .tuple #[.int .i64 0, .agg (cCl ⟨0, 0⟩).toArray, .int .i64 0, .int .i64 2] ∧ H' = H) := by
  have := kMonth_spec c12 p [dyE 100 a1 a2] a cc H hT hl (Nat.le_of_ble_eq_true rfl)
  unfold MonRes at this
  rwa [tripT (bf13 a1 a2) (by decide), bf13 a1 a2] at this
theorem z14' (p : Pt) (a1 a2 a : Option Addr) (cc : Nat) (H : List Row) (hT : TmOk H c12 p) (hl : DsOk H [dyE 100 a1 a2, dyE 100 a1 a2, dyE 100 a1 a2] a) : Fc Tryz.prog 28 [.agg (cTm c12 p).toArray, .slice a 3 cc] H (fun v H' => v = .tuple #[.int .i64 0, .agg (cCl ⟨0, 0⟩).toArray, .int .i64 0, .int .i64 43] ∧ H' = H) := by
  have := kMonth_spec c12 p [dyE 100 a1 a2, dyE 100 a1 a2, dyE 100 a1 a2] a cc H hT hl (Nat.le_of_ble_eq_true rfl)
  unfold MonRes at this
  rwa [tripT (bf14 a1 a2) (by decide), bf14 a1 a2] at this
def wv (p : Nat × Nat) : Value := if p.2 = 0 then .slice none 0 0 else .slice (some ⟨p.1, 0, none⟩) 0 (p.2 - 1)
theorem z16' (p : Pt) (a : Option Addr) (cc : Nat) (H : List Row) (hT : TmOk H c12 p) (hl : SlE H a cCl 2 (List.replicate 6 ⟨0, 0⟩)) : Fc Tryz.prog 29 [.agg (cTm c12 p).toArray, .int .i64 8, .slice a 6 cc] H (fun v H' => ∃ q, v = .tuple #[.int .i64 0, wv q, .int .i64 4] ∧ H' = H) := by
  refine Fc.out (ktotal_spec c12 p 8 (List.replicate 6 ⟨0, 0⟩) a cc H hT hl (by decide)) ?_
  rintro v H' ⟨w, Z, rfl, hO, rfl⟩
  have h := OutI.zero (T := c12) (m := 8) (l := List.replicate 6 ⟨0, 0⟩) (by rw [bf16]; decide)
  rw [h.2] at hO
  rw [h.1, bf16]
  refine ⟨Z ++ H, H, List.Perm.refl _, List.sublist_append_right _ _, ?_⟩
  rcases hO with ⟨_, rfl, _⟩ | ⟨b, q, rfl, _⟩
  · exact ⟨(0, 0), rfl, rfl⟩
  · exact ⟨(b, q + 1), rfl, rfl⟩
theorem litD3 (d1 d2 d3 : Dy) : fillL (fun i => some (i * 3, 3)) ((Array.range (3 * 3)).map (fun x => (Value.agg #[.int .i64 0, .slice none 0 0, .slice none 0 0]).cells[x % (Value.agg #[.int .i64 0, .slice none 0 0, .slice none 0 0]).cells.size]!)).toList [(0, .agg (cDy d1).toArray), (1, .agg (cDy d2).toArray), (2, .agg (cDy d3).toArray)] = some ([d1, d2, d3].flatMap cDy) := by kernel_rfl
theorem litZ : ((Array.range (6 * 2)).map (fun x => (Value.agg #[.int .i64 0, .int .i64 0]).cells[x % (Value.agg #[.int .i64 0, .int .i64 0]).cells.size]!)).toList = (List.replicate 6 ⟨0, 0⟩ : List Cl).flatMap cCl := by kernel_rfl
def tsE16 : List TOp := [⟨some 234, [], [], []⟩, ⟨some 235, [], [], []⟩, ⟨some 236, [0, 1], [0, 1], []⟩, ⟨some 233, [0, 1, 2], [2], []⟩, ⟨some 237, [0, 1, 2, 3], [3], []⟩, ⟨some 238, [0, 1, 2, 3], [3], []⟩, ⟨some 2, [0, 1, 2, 3, 4, 5], [5], []⟩]
noncomputable def valE16 (b24 b25 g1 g2 d1 d2 : Nat) (k : Nat) (env : Env) : Value :=
  match k with
  | 0 => .agg (cTm c12 (plT g1 9 g2 9)).toArray
  | 1 => .agg (cCl ⟨0, 0⟩).toArray
  | 2 => .tuple #[.int .i64 (invR odT ⟨0, 0⟩), .int .i64 40]
  | 3 => .tuple #[.int .i64 (invR odT ⟨0, 0⟩), .int .i64 40]
  | 4 => .int .i64 (invR odT ⟨0, 0⟩)
  | 5 => .int .i64 40
  | 6 => .int .i64 40
  | _ => undef
noncomputable def rowsE16 (b24 b25 g1 g2 d1 d2 : Nat) (k : Nat) (env : Env) : List Row :=
  match k with
  | _ => []
theorem locE16 (b24 b25 g1 g2 d1 d2 : Nat) : ∀ k env i q9, i ≠ k → (tAt tsE16 k).sup.contains i = false → valE16 b24 b25 g1 g2 d1 d2 k (upd env i q9) = valE16 b24 b25 g1 g2 d1 d2 k env ∧ rowsE16 b24 b25 g1 g2 d1 d2 k (upd env i q9) = rowsE16 b24 b25 g1 g2 d1 d2 k env := by
  intro k env i q hk hs
  have hu : ∀ j, j ≠ i → upd env i q j = env j := fun j hj => by unfold upd; rw [if_neg hj]
  match k, hk, hs with
  | 0, _, _ => exact ⟨rfl, rfl⟩
  | 1, _, _ => exact ⟨rfl, rfl⟩
  | 2, _, _ => exact ⟨rfl, rfl⟩
  | 3, _, _ => exact ⟨rfl, rfl⟩
  | 4, _, _ => exact ⟨rfl, rfl⟩
  | 5, _, _ => exact ⟨rfl, rfl⟩
  | 6, _, _ => exact ⟨rfl, rfl⟩
  | _ + 7, _, _ => exact ⟨rfl, rfl⟩
def tsE26 : List TOp := [⟨some 298, [], [], []⟩, ⟨some 299, [], [], []⟩, ⟨some 300, [0, 1], [0, 1], [0]⟩, ⟨some 297, [0, 1, 2], [2], []⟩, ⟨some 301, [0, 1, 2, 3], [3], []⟩, ⟨some 302, [0, 1, 2, 3], [3], []⟩, ⟨some 303, [0, 1, 2, 3], [3], []⟩, ⟨some 29, [], [], []⟩, ⟨none, [0, 1, 2, 3, 4, 7], [7, 4], [7]⟩, ⟨some 30, [0, 1, 2, 3, 4, 5, 7, 8], [5], []⟩, ⟨some 31, [0, 1, 2, 3, 4, 5, 6, 7, 8, 9], [6], []⟩]
def valE26 (b24 b25 g1 g2 d1 d2 : Nat) (k : Nat) (env : Env) : Value :=
  match k with
  | 0 => .agg (cTm (ctn 12) (plT (env 0).1 9 (env 0).2 9)).toArray
  | 1 => .agg (cDy (dyE 100 (some ⟨d1, 0, none⟩) (some ⟨d2, 0, none⟩))).toArray
  | 2 => .tuple #[.agg (cCl ⟨0, 0⟩).toArray, .int .i64 0, .int .i64 43]
  | 3 => .tuple #[.agg (cCl ⟨0, 0⟩).toArray, .int .i64 0, .int .i64 43]
  | 4 => .agg (cCl ⟨0, 0⟩).toArray
  | 5 => .int .i64 0
  | 6 => .int .i64 43
  | 7 => .pointer (some ⟨(env 7).1, 0, none⟩)
  | 8 => undef
  | 9 => .int .i64 0
  | 10 => .int .i64 43
  | _ => undef
def rowsE26 (b24 b25 g1 g2 d1 d2 : Nat) (k : Nat) (env : Env) : List Row :=
  match k with
  | 0 => [rI (ctn 12).S (env 0).2 9, rI (ctn 12).G (env 0).1 9]
  | 7 => [⟨(env 7).1, 0, cCl ⟨0, 0⟩, some 27, 2⟩]
  | 8 => [⟨(env 7).1, 0, cCl ⟨0, 0⟩, some 27, 2⟩]
  | _ => []
theorem locE26 (b24 b25 g1 g2 d1 d2 : Nat) : ∀ k env i q9, i ≠ k → (tAt tsE26 k).sup.contains i = false → valE26 b24 b25 g1 g2 d1 d2 k (upd env i q9) = valE26 b24 b25 g1 g2 d1 d2 k env ∧ rowsE26 b24 b25 g1 g2 d1 d2 k (upd env i q9) = rowsE26 b24 b25 g1 g2 d1 d2 k env := by
  intro k env i q hk hs
  have hu : ∀ j, j ≠ i → upd env i q j = env j := fun j hj => by unfold upd; rw [if_neg hj]
  match k, hk, hs with
  | 0, hk, hs => exact ⟨by simp only [valE26, hu 0 (fun e => hk e.symm)], by simp only [rowsE26, hu 0 (fun e => hk e.symm)]⟩
  | 1, _, _ => exact ⟨rfl, rfl⟩
  | 2, _, _ => exact ⟨rfl, rfl⟩
  | 3, _, _ => exact ⟨rfl, rfl⟩
  | 4, _, _ => exact ⟨rfl, rfl⟩
  | 5, _, _ => exact ⟨rfl, rfl⟩
  | 6, _, _ => exact ⟨rfl, rfl⟩
  | 7, hk, hs => exact ⟨by simp only [valE26, hu 7 (fun e => hk e.symm)], by simp only [rowsE26, hu 7 (fun e => hk e.symm)]⟩
  | 8, hk, hs => exact ⟨by simp only [valE26, hu 7 (by rintro rfl; cases hs)], by simp only [rowsE26, hu 7 (by rintro rfl; cases hs)]⟩
  | 9, _, _ => exact ⟨rfl, rfl⟩
  | 10, _, _ => exact ⟨rfl, rfl⟩
  | _ + 11, _, _ => exact ⟨rfl, rfl⟩
def tsE28 : List TOp := [⟨some 312, [], [], []⟩, ⟨some 313, [], [], []⟩, ⟨some 314, [1], [1], []⟩, ⟨some 315, [0, 1, 2], [0, 2], [0, 2]⟩, ⟨some 311, [0, 1, 2, 3], [3], []⟩, ⟨some 316, [0, 1, 2, 3, 4], [4], []⟩, ⟨some 317, [0, 1, 2, 3, 4], [4], []⟩, ⟨some 318, [0, 1, 2, 3, 4], [4], []⟩, ⟨some 319, [0, 1, 2, 3, 4], [4], []⟩, ⟨some 35, [], [], []⟩, ⟨some 34, [0, 1, 2, 3, 4, 5, 9], [5], []⟩, ⟨none, [0, 1, 2, 3, 4, 5, 6, 9, 10], [9, 6], [9]⟩, ⟨some 36, [0, 1, 2, 3, 4, 5, 6, 7, 9, 10, 11], [7], []⟩, ⟨some 37, [0, 1, 2, 3, 4, 5, 6, 7, 8, 9, 10, 11, 12], [8], []⟩]
def valE28 (b24 b25 g1 g2 d1 d2 : Nat) (k : Nat) (env : Env) : Value :=
  match k with
  | 0 => .agg (cTm (ctn 12) (plT (env 0).1 9 (env 0).2 9)).toArray
  | 1 => .agg (cDy (dyE 100 (some ⟨d1, 0, none⟩) (some ⟨d2, 0, none⟩))).toArray
  | 2 => .slice (some ⟨(env 2).1, 0, none⟩) 1 1
  | 3 => .tuple #[.int .i64 0, .agg (cCl ⟨0, 0⟩).toArray, .int .i64 0, .int .i64 2]
  | 4 => .tuple #[.int .i64 0, .agg (cCl ⟨0, 0⟩).toArray, .int .i64 0, .int .i64 2]
  | 5 => .int .i64 0
  | 6 => .agg (cCl ⟨0, 0⟩).toArray
  | 7 => .int .i64 0
  | 8 => .int .i64 2
  | 9 => .pointer (some ⟨(env 9).1, 0, none⟩)
  | 10 => .int .i64 0
  | 11 => undef
  | 12 => .int .i64 0
  | 13 => .int .i64 2
  | _ => undef
def rowsE28 (b24 b25 g1 g2 d1 d2 : Nat) (k : Nat) (env : Env) : List Row :=
  match k with
  | 0 => [rI (ctn 12).S (env 0).2 9, rI (ctn 12).G (env 0).1 9]
  | 2 => [⟨(env 2).1, 0, [(dyE 100 (some ⟨d1, 0, none⟩) (some ⟨d2, 0, none⟩))].flatMap cDy, some 48, 1 * 3⟩]
  | 9 => [⟨(env 9).1, 0, cCl ⟨0, 0⟩, some 27, 2⟩]
  | 11 => [⟨(env 9).1, 0, cCl ⟨0, 0⟩, some 27, 2⟩]
  | _ => []
theorem locE28 (b24 b25 g1 g2 d1 d2 : Nat) : ∀ k env i q9, i ≠ k → (tAt tsE28 k).sup.contains i = false → valE28 b24 b25 g1 g2 d1 d2 k (upd env i q9) = valE28 b24 b25 g1 g2 d1 d2 k env ∧ rowsE28 b24 b25 g1 g2 d1 d2 k (upd env i q9) = rowsE28 b24 b25 g1 g2 d1 d2 k env := by
  intro k env i q hk hs
  have hu : ∀ j, j ≠ i → upd env i q j = env j := fun j hj => by unfold upd; rw [if_neg hj]
  match k, hk, hs with
  | 0, hk, hs => exact ⟨by simp only [valE28, hu 0 (fun e => hk e.symm)], by simp only [rowsE28, hu 0 (fun e => hk e.symm)]⟩
  | 1, _, _ => exact ⟨rfl, rfl⟩
  | 2, hk, hs => exact ⟨by simp only [valE28, hu 2 (fun e => hk e.symm)], by simp only [rowsE28, hu 2 (fun e => hk e.symm)]⟩
  | 3, _, _ => exact ⟨rfl, rfl⟩
  | 4, _, _ => exact ⟨rfl, rfl⟩
  | 5, _, _ => exact ⟨rfl, rfl⟩
  | 6, _, _ => exact ⟨rfl, rfl⟩
  | 7, _, _ => exact ⟨rfl, rfl⟩
  | 8, _, _ => exact ⟨rfl, rfl⟩
  | 9, hk, hs => exact ⟨by simp only [valE28, hu 9 (fun e => hk e.symm)], by simp only [rowsE28, hu 9 (fun e => hk e.symm)]⟩
  | 10, _, _ => exact ⟨rfl, rfl⟩
  | 11, hk, hs => exact ⟨by simp only [valE28, hu 9 (by rintro rfl; cases hs)], by simp only [rowsE28, hu 9 (by rintro rfl; cases hs)]⟩
  | 12, _, _ => exact ⟨rfl, rfl⟩
  | 13, _, _ => exact ⟨rfl, rfl⟩
  | _ + 14, _, _ => exact ⟨rfl, rfl⟩
def tsE29 : List TOp := [⟨some 321, [], [], []⟩, ⟨some 322, [], [], []⟩, ⟨some 323, [], [], []⟩, ⟨some 324, [], [], []⟩, ⟨some 325, [1, 2, 3], [1, 2, 3], []⟩, ⟨some 326, [0, 1, 2, 3, 4], [0, 4], [0, 4]⟩, ⟨some 320, [0, 1, 2, 3, 4, 5], [5], []⟩, ⟨some 327, [0, 1, 2, 3, 4, 5, 6], [6], []⟩, ⟨some 328, [0, 1, 2, 3, 4, 5, 6], [6], []⟩, ⟨some 329, [0, 1, 2, 3, 4, 5, 6], [6], []⟩, ⟨some 330, [0, 1, 2, 3, 4, 5, 6], [6], []⟩, ⟨some 39, [], [], []⟩, ⟨some 38, [0, 1, 2, 3, 4, 5, 6, 7, 11], [7], []⟩, ⟨none, [0, 1, 2, 3, 4, 5, 6, 7, 8, 11, 12], [11, 8], [11]⟩, ⟨some 40, [0, 1, 2, 3, 4, 5, 6, 7, 8, 9, 11, 12, 13], [9], []⟩, ⟨some 41, [0, 1, 2, 3, 4, 5, 6, 7, 8, 9, 10, 11, 12, 13, 14], [10], []⟩]
def valE29 (b24 b25 g1 g2 d1 d2 : Nat) (k : Nat) (env : Env) : Value :=
  match k with
  | 0 => .agg (cTm (ctn 12) (plT (env 0).1 9 (env 0).2 9)).toArray
  | 1 => .agg (cDy (dyE 100 (some ⟨d1, 0, none⟩) (some ⟨d2, 0, none⟩))).toArray
  | 2 => .agg (cDy (dyE 100 (some ⟨d1, 0, none⟩) (some ⟨d2, 0, none⟩))).toArray
  | 3 => .agg (cDy (dyE 100 (some ⟨d1, 0, none⟩) (some ⟨d2, 0, none⟩))).toArray
  | 4 => .slice (some ⟨(env 4).1, 0, none⟩) 3 3
  | 5 => .tuple #[.int .i64 0, .agg (cCl ⟨0, 0⟩).toArray, .int .i64 0, .int .i64 43]
  | 6 => .tuple #[.int .i64 0, .agg (cCl ⟨0, 0⟩).toArray, .int .i64 0, .int .i64 43]
  | 7 => .int .i64 0
  | 8 => .agg (cCl ⟨0, 0⟩).toArray
  | 9 => .int .i64 0
  | 10 => .int .i64 43
  | 11 => .pointer (some ⟨(env 11).1, 0, none⟩)
  | 12 => .int .i64 0
  | 13 => undef
  | 14 => .int .i64 0
  | 15 => .int .i64 43
  | _ => undef
def rowsE29 (b24 b25 g1 g2 d1 d2 : Nat) (k : Nat) (env : Env) : List Row :=
  match k with
  | 0 => [rI (ctn 12).S (env 0).2 9, rI (ctn 12).G (env 0).1 9]
  | 4 => [⟨(env 4).1, 0, [(dyE 100 (some ⟨d1, 0, none⟩) (some ⟨d2, 0, none⟩)), (dyE 100 (some ⟨d1, 0, none⟩) (some ⟨d2, 0, none⟩)), (dyE 100 (some ⟨d1, 0, none⟩) (some ⟨d2, 0, none⟩))].flatMap cDy, some 48, 3 * 3⟩]
  | 11 => [⟨(env 11).1, 0, cCl ⟨0, 0⟩, some 27, 2⟩]
  | 13 => [⟨(env 11).1, 0, cCl ⟨0, 0⟩, some 27, 2⟩]
  | _ => []
theorem locE29 (b24 b25 g1 g2 d1 d2 : Nat) : ∀ k env i q9, i ≠ k → (tAt tsE29 k).sup.contains i = false → valE29 b24 b25 g1 g2 d1 d2 k (upd env i q9) = valE29 b24 b25 g1 g2 d1 d2 k env ∧ rowsE29 b24 b25 g1 g2 d1 d2 k (upd env i q9) = rowsE29 b24 b25 g1 g2 d1 d2 k env := by
  intro k env i q hk hs
  have hu : ∀ j, j ≠ i → upd env i q j = env j := fun j hj => by unfold upd; rw [if_neg hj]
  match k, hk, hs with
  | 0, hk, hs => exact ⟨by simp only [valE29, hu 0 (fun e => hk e.symm)], by simp only [rowsE29, hu 0 (fun e => hk e.symm)]⟩
  | 1, _, _ => exact ⟨rfl, rfl⟩
  | 2, _, _ => exact ⟨rfl, rfl⟩
  | 3, _, _ => exact ⟨rfl, rfl⟩
  | 4, hk, hs => exact ⟨by simp only [valE29, hu 4 (fun e => hk e.symm)], by simp only [rowsE29, hu 4 (fun e => hk e.symm)]⟩
  | 5, _, _ => exact ⟨rfl, rfl⟩
  | 6, _, _ => exact ⟨rfl, rfl⟩
  | 7, _, _ => exact ⟨rfl, rfl⟩
  | 8, _, _ => exact ⟨rfl, rfl⟩
  | 9, _, _ => exact ⟨rfl, rfl⟩
  | 10, _, _ => exact ⟨rfl, rfl⟩
  | 11, hk, hs => exact ⟨by simp only [valE29, hu 11 (fun e => hk e.symm)], by simp only [rowsE29, hu 11 (fun e => hk e.symm)]⟩
  | 12, _, _ => exact ⟨rfl, rfl⟩
  | 13, hk, hs => exact ⟨by simp only [valE29, hu 11 (by rintro rfl; cases hs)], by simp only [rowsE29, hu 11 (by rintro rfl; cases hs)]⟩
  | 14, _, _ => exact ⟨rfl, rfl⟩
  | 15, _, _ => exact ⟨rfl, rfl⟩
  | _ + 16, _, _ => exact ⟨rfl, rfl⟩
def tsE31 : List TOp := [⟨some 338, [], [], []⟩, ⟨some 339, [], [], []⟩, ⟨some 340, [0, 1], [0, 1], [0, 1]⟩, ⟨some 337, [0, 1, 2], [2], []⟩, ⟨some 341, [0, 1, 2, 3], [3], []⟩, ⟨some 342, [0, 1, 2, 3], [3], []⟩, ⟨some 343, [0, 1, 2, 3], [3], []⟩, ⟨some 45, [0, 1, 2, 3, 4], [4], []⟩, ⟨some 46, [0, 1, 2, 3, 4, 5, 7], [5], []⟩, ⟨some 47, [0, 1, 2, 3, 4, 5, 6, 7, 8], [6], []⟩]
def valE31 (b24 b25 g1 g2 d1 d2 : Nat) (k : Nat) (env : Env) : Value :=
  match k with
  | 0 => .agg (cTm (ctn 12) (plT (env 0).1 9 (env 0).2 9)).toArray
  | 1 => .slice (some ⟨(env 1).1, 0, none⟩) 6 6
  | 2 => .tuple #[.int .i64 0, wv (env 2), .int .i64 4]
  | 3 => .tuple #[.int .i64 0, wv (env 2), .int .i64 4]
  | 4 => .int .i64 0
  | 5 => wv (env 2)
  | 6 => .int .i64 4
  | 7 => .int .i64 0
  | 8 => wv (env 2)
  | 9 => .int .i64 4
  | _ => undef
def rowsE31 (b24 b25 g1 g2 d1 d2 : Nat) (k : Nat) (env : Env) : List Row :=
  match k with
  | 0 => [rI (ctn 12).S (env 0).2 9, rI (ctn 12).G (env 0).1 9]
  | 1 => [⟨(env 1).1, 0, (List.replicate 6 ⟨0, 0⟩ : List Cl).flatMap cCl, some 27, 6 * 2⟩]
  | _ => []
theorem locE31 (b24 b25 g1 g2 d1 d2 : Nat) : ∀ k env i q9, i ≠ k → (tAt tsE31 k).sup.contains i = false → valE31 b24 b25 g1 g2 d1 d2 k (upd env i q9) = valE31 b24 b25 g1 g2 d1 d2 k env ∧ rowsE31 b24 b25 g1 g2 d1 d2 k (upd env i q9) = rowsE31 b24 b25 g1 g2 d1 d2 k env := by
  intro k env i q hk hs
  have hu : ∀ j, j ≠ i → upd env i q j = env j := fun j hj => by unfold upd; rw [if_neg hj]
  match k, hk, hs with
  | 0, hk, hs => exact ⟨by simp only [valE31, hu 0 (fun e => hk e.symm)], by simp only [rowsE31, hu 0 (fun e => hk e.symm)]⟩
  | 1, hk, hs => exact ⟨by simp only [valE31, hu 1 (fun e => hk e.symm)], by simp only [rowsE31, hu 1 (fun e => hk e.symm)]⟩
  | 2, hk, hs => exact ⟨by simp only [valE31, hu 2 (fun e => hk e.symm)], by simp only [rowsE31, hu 2 (fun e => hk e.symm)]⟩
  | 3, hk, hs => exact ⟨by simp only [valE31, hu 2 (by rintro rfl; cases hs)], by simp only [rowsE31, hu 2 (by rintro rfl; cases hs)]⟩
  | 4, _, _ => exact ⟨rfl, rfl⟩
  | 5, hk, hs => exact ⟨by simp only [valE31, hu 2 (by rintro rfl; cases hs)], by simp only [rowsE31, hu 2 (by rintro rfl; cases hs)]⟩
  | 6, _, _ => exact ⟨rfl, rfl⟩
  | 7, _, _ => exact ⟨rfl, rfl⟩
  | 8, hk, hs => exact ⟨by simp only [valE31, hu 2 (by rintro rfl; cases hs)], by simp only [rowsE31, hu 2 (by rintro rfl; cases hs)]⟩
  | 9, _, _ => exact ⟨rfl, rfl⟩
  | _ + 10, _, _ => exact ⟨rfl, rfl⟩
set_option maxHeartbeats 16000000 in
theorem ex31 (b24 b25 g1 g2 d1 d2 : Nat) (H : List Row) : X Tryz.prog 454 (csnd (csnd (csnd (csnd (csnd (csnd (csnd (csnd (csnd (csnd (csnd (csnd (csnd (csnd (csnd (csnd (csnd (csnd (csnd (csnd (csnd (csnd (csnd (csnd (csnd (csnd (csnd (csnd (csnd (cof Tryz.f3)))))))))))))))))))))))))))))) [(2, .int .i64 40), (4, .int .i64 6), (6, .int .i64 41), (9, .int .i64 42), (12, .int .i64 44), (15, .int .i64 41), (18, .int .i64 6), (21, .int .i64 6), (23, .int .i64 6), (28, .int .i64 6), (31, .int .i64 43), (33, .int .i64 6), (37, .int .i64 2), (41, .int .i64 43), (44, .int .i64 44), (24, .pointer (some ⟨b24, 0, none⟩)), (25, .pointer (some ⟨b25, 0, none⟩))] (⟨b24, 0, cTm c12 (plT g1 9 g2 9), some 32, 11⟩ :: rI odT.G g1 9 :: rI odT.S g2 9 :: ⟨b25, 0, cDy (dyE 100 (some ⟨d1, 0, none⟩) (some ⟨d2, 0, none⟩)), some 48, 3⟩ :: rI (dyE 100 none none).G d1 9 :: rI (dyE 100 none none).S d2 9 :: H) (retX Tryz.prog Tryz.f3 (fun v _ => v = .bool true)) := by
  have key : ∀ (F : FS) (H' : List Row), Fw.Sub [(2, .int .i64 40), (4, .int .i64 6), (6, .int .i64 41), (9, .int .i64 42), (12, .int .i64 44), (15, .int .i64 41), (18, .int .i64 6), (21, .int .i64 6), (23, .int .i64 6), (28, .int .i64 6), (31, .int .i64 43), (33, .int .i64 6), (37, .int .i64 2), (41, .int .i64 43), (44, .int .i64 44), (47, .int .i64 4), (49, .int .i64 40), (51, .int .i64 40), (53, .int .i64 2), (56, .int .i64 2), (24, .pointer (some ⟨b24, 0, none⟩))] F → (⟨b24, 0, cTm c12 (plT g1 9 g2 9), some 32, 11⟩ :: rI odT.G g1 9 :: rI odT.S g2 9 :: H : List Row).Sublist H' → X Tryz.prog 454 (csnd (csnd (csnd (csnd (csnd (csnd (csnd (csnd (csnd (csnd (csnd (csnd (csnd (csnd (csnd (csnd (csnd (csnd (csnd (csnd (csnd (csnd (csnd (csnd (csnd (csnd (csnd (csnd (csnd (csnd (csnd (csnd (csnd (csnd (cof Tryz.f3))))))))))))))))))))))))))))))))))) F H' (retX Tryz.prog Tryz.f3 (fun v _ => v = .bool true)) := fun F H' h1 h2 => X.weak h1 h2 (ex36 b24 g1 g2 H)
  refine X.seq rfl ?_
  refine X.regionOb tsE31 [2, 4, 6, 9, 12, 15, 18, 21, 23, 24, 25, 28, 31, 33, 37, 41, 44] [(2, .int .i64 40), (4, .int .i64 6), (6, .int .i64 41), (9, .int .i64 42), (12, .int .i64 44), (15, .int .i64 41), (18, .int .i64 6), (21, .int .i64 6), (23, .int .i64 6), (24, .pointer (some ⟨b24, 0, none⟩)), (25, .pointer (some ⟨b25, 0, none⟩)), (28, .int .i64 6), (31, .int .i64 43), (33, .int .i64 6), (37, .int .i64 2), (41, .int .i64 43), (44, .int .i64 44)] (valE31 b24 b25 g1 g2 d1 d2) (rowsE31 b24 b25 g1 g2 d1 d2) (fun _ => (0, 0)) (⟨b24, 0, cTm c12 (plT g1 9 g2 9), some 32, 11⟩ :: rI odT.G g1 9 :: rI odT.S g2 9 :: ⟨b25, 0, cDy (dyE 100 (some ⟨d1, 0, none⟩) (some ⟨d2, 0, none⟩)), some 48, 3⟩ :: rI (dyE 100 none none).G d1 9 :: rI (dyE 100 none none).S d2 9 :: H) rfl mixed (by (repeat (first | exact Sub.nil _ | refine Sub.cons rfl ?_)); done) rfl (by kernel_rfl) (locE31 b24 b25 g1 g2 d1 d2) (List.Sublist.refl _) ?_ ?_
  · repeat' (first | exact AllF.done rfl | (refine AllF.step rfl ?_ ?_; · (first | fail | ((first | refine Ob.ng rfl ?_); (first | exact ObK.pure (fun env R hR => by exact ⟨_, EvF.move rfl rfl, rfl⟩) rfl (fun _ => rfl) | exact ObK.pure (fun env R hR => by exact ⟨_, EvF.assign rfl rfl, rfl⟩) rfl (fun _ => rfl) | (exact fun env S hS => (OpF.call (EnF.st rfl (Args.cons rfl Args.nil)) (cotton_spec 12 _)).mono (fun v H' ⟨x, y, hv, hH⟩ => ⟨(x, y), fun _ => hv, by rw [hH]; exact List.Perm.refl _⟩)) | (exact fun env S hS => (StF.makeN rfl elCl Tryz.zeroValue27 rfl rfl litZ rfl rfl rfl rfl).op.mono (fun v H' ⟨b, hv, hH⟩ => ⟨(b, 0), fun _ => hv, by rw [hH]; exact List.Perm.refl _⟩)) | (exact ObK.pure (fun env S hS => ⟨_, EvF.extract rfl rfl rfl, rfl⟩) rfl (fun _ => rfl)) | (exact fun env S hS => (OpF.call (EnF.st rfl (Args.cons rfl (Args.cons rfl (Args.cons rfl Args.nil)))) (Fc.out (z16' (plT (env 0).1 9 (env 0).2 9) _ _ _ (ctnOk 12 _ _ _ (List.Mem.tail _ (List.Mem.head _)) (List.Mem.head _)) (SlE.ofRow (List.Mem.tail _ (List.Mem.tail _ (List.Mem.head _))) (fun _ _ => rfl))) (R' := fun v H' => ∃ q, v = .tuple #[.int .i64 0, wv q, .int .i64 4] ∧ H' = S) (fun v H' ⟨q, hv, hH⟩ => ⟨H', S, List.Perm.refl _, by rw [hH]; exact List.sublist_append_right [_, _, _] S, q, hv, rfl⟩))).mono (fun v H' ⟨q, hv, hH⟩ => ⟨q, fun _ => hv, by rw [hH]; exact List.Perm.refl _⟩)))))))
  intro env t ha hv
  refine ⟨_, ha.cons (hv 9 47 (Nat.le_of_ble_eq_true rfl) rfl), ?_⟩
  clear hv ha
  repeat' (first | (refine key _ _ ?_ ?_; exact (by (repeat (first | exact Sub.nil _ | refine Sub.cons rfl ?_)); done); exact (by (repeat (first | exact List.Sublist.refl _ | apply List.Sublist.cons_cons | apply List.Sublist.cons)); done)) | (refine XO.op rfl ?_; (first | ((first | refine Xo.ng rfl ?_); (first | (refine Xg.call (EnF.st rfl (Args.cons rfl (Args.cons rfl (Args.cons rfl Args.nil)))) rfl rfl (z17 _ _ (ctnOk 12 _ _ _ (by repeat (first | exact List.Mem.head _ | apply List.Mem.tail)) (by repeat (first | exact List.Mem.head _ | apply List.Mem.tail)))) ?_; rintro _ _ ⟨px, rfl, rfl⟩) | (refine Xg.call (EnF.st rfl (Args.cons rfl (Args.cons rfl (Args.cons rfl Args.nil)))) rfl rfl (z18 _ _ (ctnOk 12 _ _ _ (by repeat (first | exact List.Mem.head _ | apply List.Mem.tail)) (by repeat (first | exact List.Mem.head _ | apply List.Mem.tail)))) ?_; rintro _ _ ⟨px, rfl, rfl⟩) | (refine Xg.call (EnF.st rfl (Args.cons rfl (Args.cons rfl Args.nil))) rfl rfl (z19 _ _ _ (ctnOk 12 _ _ _ (by repeat (first | exact List.Mem.head _ | apply List.Mem.tail)) (by repeat (first | exact List.Mem.head _ | apply List.Mem.tail))) (ctnOk 13 _ _ _ (by repeat (first | exact List.Mem.head _ | apply List.Mem.tail)) (by repeat (first | exact List.Mem.head _ | apply List.Mem.tail)))) ?_; rintro _ _ ⟨px, rfl, rfl⟩) | (refine Xg.call (EnF.st rfl (Args.cons rfl (Args.cons rfl Args.nil))) rfl rfl (z20 _ _ (ctnOk 12 _ _ _ (by repeat (first | exact List.Mem.head _ | apply List.Mem.tail)) (by repeat (first | exact List.Mem.head _ | apply List.Mem.tail)))) ?_; rintro _ _ ⟨px, py, rfl, rfl⟩) | (refine Xg.call (EnF.st rfl (Args.cons rfl Args.nil)) rfl rfl (cotton_spec _ _) ?_; rintro _ _ ⟨b1, b2, rfl, rfl⟩) | (refine Xg.ev (EvF.move rfl rfl) rfl rfl ?_) | (refine Xg.ev (EvF.assign rfl rfl) rfl rfl ?_) | (refine Xg.ev (EvF.extract rfl rfl rfl) rfl rfl ?_) | (refine Xg.st (StF.alloc rfl Tryz.zeroValue32 rfl) rfl rfl ?_; rintro _ _ ⟨bx, rfl, rfl⟩) | (refine Xg.st0 (StF.storeAll (i := 0) rfl rfl rfl (te rfl) rfl rfl rfl rfl) rfl ?_; rintro _ _ ⟨rfl, rfl⟩; dsimp only [List.set]) | (refine Xg.st0 (StF.storeAll (i := 1) rfl rfl rfl (te rfl) rfl rfl rfl rfl) rfl ?_; rintro _ _ ⟨rfl, rfl⟩; dsimp only [List.set]))))) | (refine XO.done rfl ?_; refine hK _ _ ?_; clear hK K) | refine X.seq rfl ?_ | refine X.region rfl (fun K hK => ?_))
set_option maxHeartbeats 16000000 in
theorem ex30 (b24 b25 g1 g2 d1 d2 : Nat) (H : List Row) : X Tryz.prog 454 (csnd (csnd (csnd (csnd (csnd (csnd (csnd (csnd (csnd (csnd (csnd (csnd (csnd (csnd (csnd (csnd (csnd (csnd (csnd (csnd (csnd (csnd (csnd (csnd (csnd (csnd (csnd (csnd (cof Tryz.f3))))))))))))))))))))))))))))) [(2, .int .i64 40), (4, .int .i64 6), (6, .int .i64 41), (9, .int .i64 42), (12, .int .i64 44), (15, .int .i64 41), (18, .int .i64 6), (21, .int .i64 6), (23, .int .i64 6), (28, .int .i64 6), (31, .int .i64 43), (33, .int .i64 6), (37, .int .i64 2), (41, .int .i64 43), (24, .pointer (some ⟨b24, 0, none⟩)), (25, .pointer (some ⟨b25, 0, none⟩))] (⟨b24, 0, cTm c12 (plT g1 9 g2 9), some 32, 11⟩ :: rI odT.G g1 9 :: rI odT.S g2 9 :: ⟨b25, 0, cDy (dyE 100 (some ⟨d1, 0, none⟩) (some ⟨d2, 0, none⟩)), some 48, 3⟩ :: rI (dyE 100 none none).G d1 9 :: rI (dyE 100 none none).S d2 9 :: H) (retX Tryz.prog Tryz.f3 (fun v _ => v = .bool true)) := by
  have key : ∀ (F : FS) (H' : List Row), Fw.Sub [(2, .int .i64 40), (4, .int .i64 6), (6, .int .i64 41), (9, .int .i64 42), (12, .int .i64 44), (15, .int .i64 41), (18, .int .i64 6), (21, .int .i64 6), (23, .int .i64 6), (28, .int .i64 6), (31, .int .i64 43), (33, .int .i64 6), (37, .int .i64 2), (41, .int .i64 43), (44, .int .i64 44), (24, .pointer (some ⟨b24, 0, none⟩)), (25, .pointer (some ⟨b25, 0, none⟩))] F → (⟨b24, 0, cTm c12 (plT g1 9 g2 9), some 32, 11⟩ :: rI odT.G g1 9 :: rI odT.S g2 9 :: ⟨b25, 0, cDy (dyE 100 (some ⟨d1, 0, none⟩) (some ⟨d2, 0, none⟩)), some 48, 3⟩ :: rI (dyE 100 none none).G d1 9 :: rI (dyE 100 none none).S d2 9 :: H : List Row).Sublist H' → X Tryz.prog 454 (csnd (csnd (csnd (csnd (csnd (csnd (csnd (csnd (csnd (csnd (csnd (csnd (csnd (csnd (csnd (csnd (csnd (csnd (csnd (csnd (csnd (csnd (csnd (csnd (csnd (csnd (csnd (csnd (csnd (cof Tryz.f3)))))))))))))))))))))))))))))) F H' (retX Tryz.prog Tryz.f3 (fun v _ => v = .bool true)) := fun F H' h1 h2 => X.weak h1 h2 (ex31 b24 b25 g1 g2 d1 d2 H)
  repeat' (first | (refine key _ _ ?_ ?_; exact (by (repeat (first | exact Sub.nil _ | refine Sub.cons rfl ?_)); done); exact (by (repeat (first | exact List.Sublist.refl _ | apply List.Sublist.cons_cons | apply List.Sublist.cons)); done)) | (refine XO.op rfl ?_; (first | ((first | refine Xo.ng rfl ?_); (first | (refine Xg.call (EnF.st rfl (Args.cons rfl (Args.cons rfl (Args.cons rfl Args.nil)))) rfl rfl (z15 _ _ (ctnOk 12 _ _ _ (by repeat (first | exact List.Mem.head _ | apply List.Mem.tail)) (by repeat (first | exact List.Mem.head _ | apply List.Mem.tail)))) ?_; rintro _ _ ⟨n15, w15, rfl, rfl⟩) | (refine Xg.call (EnF.st rfl (Args.cons rfl Args.nil)) rfl rfl (cotton_spec _ _) ?_; rintro _ _ ⟨b1, b2, rfl, rfl⟩) | (refine Xg.ev (EvF.move rfl rfl) rfl rfl ?_) | (refine Xg.ev (EvF.assign rfl rfl) rfl rfl ?_) | (refine Xg.ev (EvF.extract rfl rfl rfl) rfl rfl ?_))))) | (refine XO.done rfl ?_; refine hK _ _ ?_; clear hK K) | refine X.seq rfl ?_ | refine X.region rfl (fun K hK => ?_))
set_option maxHeartbeats 16000000 in
theorem ex29 (b24 b25 g1 g2 d1 d2 : Nat) (H : List Row) : X Tryz.prog 454 (csnd (csnd (csnd (csnd (csnd (csnd (csnd (csnd (csnd (csnd (csnd (csnd (csnd (csnd (csnd (csnd (csnd (csnd (csnd (csnd (csnd (csnd (csnd (csnd (csnd (csnd (csnd (cof Tryz.f3)))))))))))))))))))))))))))) [(2, .int .i64 40), (4, .int .i64 6), (6, .int .i64 41), (9, .int .i64 42), (12, .int .i64 44), (15, .int .i64 41), (18, .int .i64 6), (21, .int .i64 6), (23, .int .i64 6), (28, .int .i64 6), (31, .int .i64 43), (33, .int .i64 6), (37, .int .i64 2), (24, .pointer (some ⟨b24, 0, none⟩)), (25, .pointer (some ⟨b25, 0, none⟩))] (⟨b24, 0, cTm c12 (plT g1 9 g2 9), some 32, 11⟩ :: rI odT.G g1 9 :: rI odT.S g2 9 :: ⟨b25, 0, cDy (dyE 100 (some ⟨d1, 0, none⟩) (some ⟨d2, 0, none⟩)), some 48, 3⟩ :: rI (dyE 100 none none).G d1 9 :: rI (dyE 100 none none).S d2 9 :: H) (retX Tryz.prog Tryz.f3 (fun v _ => v = .bool true)) := by
  refine X.seq rfl ?_
  refine X.regionOb tsE29 [2, 4, 6, 9, 12, 15, 18, 21, 23, 24, 25, 28, 31, 33, 37] [(2, .int .i64 40), (4, .int .i64 6), (6, .int .i64 41), (9, .int .i64 42), (12, .int .i64 44), (15, .int .i64 41), (18, .int .i64 6), (21, .int .i64 6), (23, .int .i64 6), (24, .pointer (some ⟨b24, 0, none⟩)), (25, .pointer (some ⟨b25, 0, none⟩)), (28, .int .i64 6), (31, .int .i64 43), (33, .int .i64 6), (37, .int .i64 2)] (valE29 b24 b25 g1 g2 d1 d2) (rowsE29 b24 b25 g1 g2 d1 d2) (fun _ => (0, 0)) (⟨b24, 0, cTm c12 (plT g1 9 g2 9), some 32, 11⟩ :: rI odT.G g1 9 :: rI odT.S g2 9 :: ⟨b25, 0, cDy (dyE 100 (some ⟨d1, 0, none⟩) (some ⟨d2, 0, none⟩)), some 48, 3⟩ :: rI (dyE 100 none none).G d1 9 :: rI (dyE 100 none none).S d2 9 :: H) rfl mixed (by (repeat (first | exact Sub.nil _ | refine Sub.cons rfl ?_)); done) rfl (by kernel_rfl) (locE29 b24 b25 g1 g2 d1 d2) (List.Sublist.refl _) ?_ ?_
  · repeat' (first | exact AllF.done rfl | (refine AllF.step rfl ?_ ?_; · (first | fail | ((first | refine Ob.ng rfl ?_); (first | exact ObK.pure (fun env R hR => by exact ⟨_, EvF.move rfl rfl, rfl⟩) rfl (fun _ => rfl) | exact ObK.pure (fun env R hR => by exact ⟨_, EvF.assign rfl rfl, rfl⟩) rfl (fun _ => rfl) | exact ObK.pure (fun env R hR => by exact ⟨_, EvF.loadV rfl rfl (LoadV.whole (te rfl) rfl (hR _ (List.Mem.tail _ (List.Mem.tail _ (List.Mem.tail _ (List.Mem.head _))))) rfl), rfl⟩) rfl (fun _ => rfl) | (exact fun env S hS => (OpF.call (EnF.st rfl (Args.cons rfl Args.nil)) (cotton_spec 12 _)).mono (fun v H' ⟨x, y, hv, hH⟩ => ⟨(x, y), fun _ => hv, by rw [hH]; exact List.Perm.refl _⟩)) | (exact fun env S hS => (StF.buildLit (len := 3) (vs := [(0, .agg (cDy (dyE 100 (some ⟨d1, 0, none⟩) (some ⟨d2, 0, none⟩))).toArray), (1, .agg (cDy (dyE 100 (some ⟨d1, 0, none⟩) (some ⟨d2, 0, none⟩))).toArray), (2, .agg (cDy (dyE 100 (some ⟨d1, 0, none⟩) (some ⟨d2, 0, none⟩))).toArray)]) rfl elDy Tryz.zeroValue48 (ArgsP.cons rfl (ArgsP.cons rfl (ArgsP.cons rfl ArgsP.nil))) (litD3 _ _ _) rfl rfl rfl).op.mono (fun v H' ⟨b, hv, hH⟩ => ⟨(b, 0), fun _ => hv, by rw [hH]; exact List.Perm.refl _⟩)) | (exact ObK.pure (fun env S hS => ⟨_, EvF.extract rfl rfl rfl, rfl⟩) rfl (fun _ => rfl)) | (exact fun env S hS => (StF.alloc rfl Tryz.zeroValue27 rfl).op.mono (fun v H' ⟨b, hv, hH⟩ => ⟨(b, 0), fun _ => hv, by rw [hH]; exact List.Perm.refl _⟩)) | (exact fun env S hS => (StF.storeAll (i := 0) (vs := cCl ⟨0, 0⟩) (cs := cCl ⟨0, 0⟩) rfl rfl rfl (te rfl) rfl rfl rfl rfl).op.mono (fun v H' ⟨hv, hH⟩ => ⟨(0, 0), fun h => absurd rfl h, by rw [hH]; exact List.Perm.refl _⟩)) | (exact fun env S hS => OpF.callV (Z := [_, _, _]) (EnF.st rfl (Args.cons rfl (Args.cons rfl Args.nil))) (z14' (plT (env 0).1 9 (env 0).2 9) (some ⟨d1, 0, none⟩) (some ⟨d2, 0, none⟩) _ _ _ (ctnOk 12 _ _ _ (List.Mem.tail _ (List.Mem.head _)) (List.Mem.head _)) ⟨SlE.ofRow (List.Mem.tail _ (List.Mem.tail _ (List.Mem.head _))) (fun _ _ => rfl), fun d hd => by (rcases List.mem_cons.1 hd with rfl | hd; exact (dyEOk 100 d1 d2 _ (List.Mem.tail _ (List.Mem.tail _ (List.Mem.tail _ (hS _ (by repeat (first | exact List.Mem.head _ | apply List.Mem.tail)))))) (List.Mem.tail _ (List.Mem.tail _ (List.Mem.tail _ (hS _ (by repeat (first | exact List.Mem.head _ | apply List.Mem.tail))))))); rcases List.mem_cons.1 hd with rfl | hd; exact (dyEOk 100 d1 d2 _ (List.Mem.tail _ (List.Mem.tail _ (List.Mem.tail _ (hS _ (by repeat (first | exact List.Mem.head _ | apply List.Mem.tail)))))) (List.Mem.tail _ (List.Mem.tail _ (List.Mem.tail _ (hS _ (by repeat (first | exact List.Mem.head _ | apply List.Mem.tail))))))); rw [List.mem_singleton.1 hd]; exact (dyEOk 100 d1 d2 _ (List.Mem.tail _ (List.Mem.tail _ (List.Mem.tail _ (hS _ (by repeat (first | exact List.Mem.head _ | apply List.Mem.tail)))))) (List.Mem.tail _ (List.Mem.tail _ (List.Mem.tail _ (hS _ (by repeat (first | exact List.Mem.head _ | apply List.Mem.tail))))))))⟩) rfl rfl))))))
  intro env t ha hv
  refine ⟨_, ha.cons (hv 15 41 (Nat.le_of_ble_eq_true rfl) rfl), ?_⟩
  clear hv ha
  exact X.weak (by (repeat (first | exact Sub.nil _ | refine Sub.cons rfl ?_)); done) (by (repeat (first | exact List.Sublist.refl _ | apply List.Sublist.cons_cons | apply List.Sublist.cons)); done) (ex30 b24 b25 g1 g2 d1 d2 H)
set_option maxHeartbeats 16000000 in
theorem ex28 (b24 b25 g1 g2 d1 d2 : Nat) (H : List Row) : X Tryz.prog 454 (csnd (csnd (csnd (csnd (csnd (csnd (csnd (csnd (csnd (csnd (csnd (csnd (csnd (csnd (csnd (csnd (csnd (csnd (csnd (csnd (csnd (csnd (csnd (csnd (csnd (csnd (cof Tryz.f3))))))))))))))))))))))))))) [(2, .int .i64 40), (4, .int .i64 6), (6, .int .i64 41), (9, .int .i64 42), (12, .int .i64 44), (15, .int .i64 41), (18, .int .i64 6), (21, .int .i64 6), (23, .int .i64 6), (28, .int .i64 6), (31, .int .i64 43), (33, .int .i64 6), (24, .pointer (some ⟨b24, 0, none⟩)), (25, .pointer (some ⟨b25, 0, none⟩))] (⟨b24, 0, cTm c12 (plT g1 9 g2 9), some 32, 11⟩ :: rI odT.G g1 9 :: rI odT.S g2 9 :: ⟨b25, 0, cDy (dyE 100 (some ⟨d1, 0, none⟩) (some ⟨d2, 0, none⟩)), some 48, 3⟩ :: rI (dyE 100 none none).G d1 9 :: rI (dyE 100 none none).S d2 9 :: H) (retX Tryz.prog Tryz.f3 (fun v _ => v = .bool true)) := by
  refine X.seq rfl ?_
  refine X.regionOb tsE28 [2, 4, 6, 9, 12, 15, 18, 21, 23, 24, 25, 28, 31, 33] [(2, .int .i64 40), (4, .int .i64 6), (6, .int .i64 41), (9, .int .i64 42), (12, .int .i64 44), (15, .int .i64 41), (18, .int .i64 6), (21, .int .i64 6), (23, .int .i64 6), (24, .pointer (some ⟨b24, 0, none⟩)), (25, .pointer (some ⟨b25, 0, none⟩)), (28, .int .i64 6), (31, .int .i64 43), (33, .int .i64 6)] (valE28 b24 b25 g1 g2 d1 d2) (rowsE28 b24 b25 g1 g2 d1 d2) (fun _ => (0, 0)) (⟨b24, 0, cTm c12 (plT g1 9 g2 9), some 32, 11⟩ :: rI odT.G g1 9 :: rI odT.S g2 9 :: ⟨b25, 0, cDy (dyE 100 (some ⟨d1, 0, none⟩) (some ⟨d2, 0, none⟩)), some 48, 3⟩ :: rI (dyE 100 none none).G d1 9 :: rI (dyE 100 none none).S d2 9 :: H) rfl mixed (by (repeat (first | exact Sub.nil _ | refine Sub.cons rfl ?_)); done) rfl (by kernel_rfl) (locE28 b24 b25 g1 g2 d1 d2) (List.Sublist.refl _) ?_ ?_
  · repeat' (first | exact AllF.done rfl | (refine AllF.step rfl ?_ ?_; · (first | fail | ((first | refine Ob.ng rfl ?_); (first | exact ObK.pure (fun env R hR => by exact ⟨_, EvF.move rfl rfl, rfl⟩) rfl (fun _ => rfl) | exact ObK.pure (fun env R hR => by exact ⟨_, EvF.assign rfl rfl, rfl⟩) rfl (fun _ => rfl) | exact ObK.pure (fun env R hR => by exact ⟨_, EvF.loadV rfl rfl (LoadV.whole (te rfl) rfl (hR _ (List.Mem.tail _ (List.Mem.tail _ (List.Mem.tail _ (List.Mem.head _))))) rfl), rfl⟩) rfl (fun _ => rfl) | (exact fun env S hS => (OpF.call (EnF.st rfl (Args.cons rfl Args.nil)) (cotton_spec 12 _)).mono (fun v H' ⟨x, y, hv, hH⟩ => ⟨(x, y), fun _ => hv, by rw [hH]; exact List.Perm.refl _⟩)) | (exact fun env S hS => (StF.buildOne rfl elDy rfl rfl rfl (by decide) (by decide)).op.mono (fun v H' ⟨b, hv, hH⟩ => ⟨(b, 0), fun _ => hv, by rw [hH]; exact List.Perm.refl _⟩)) | (exact ObK.pure (fun env S hS => ⟨_, EvF.extract rfl rfl rfl, rfl⟩) rfl (fun _ => rfl)) | (exact fun env S hS => (StF.alloc rfl Tryz.zeroValue27 rfl).op.mono (fun v H' ⟨b, hv, hH⟩ => ⟨(b, 0), fun _ => hv, by rw [hH]; exact List.Perm.refl _⟩)) | (exact fun env S hS => (StF.storeAll (i := 0) (vs := cCl ⟨0, 0⟩) (cs := cCl ⟨0, 0⟩) rfl rfl rfl (te rfl) rfl rfl rfl rfl).op.mono (fun v H' ⟨hv, hH⟩ => ⟨(0, 0), fun h => absurd rfl h, by rw [hH]; exact List.Perm.refl _⟩)) | (exact fun env S hS => OpF.callV (Z := [_, _, _]) (EnF.st rfl (Args.cons rfl (Args.cons rfl Args.nil))) (z13' (plT (env 0).1 9 (env 0).2 9) (some ⟨d1, 0, none⟩) (some ⟨d2, 0, none⟩) _ _ _ (ctnOk 12 _ _ _ (List.Mem.tail _ (List.Mem.head _)) (List.Mem.head _)) ⟨SlE.ofRow (List.Mem.tail _ (List.Mem.tail _ (List.Mem.head _))) (fun _ _ => rfl), fun d hd => by rw [List.mem_singleton.1 hd]; exact (dyEOk 100 d1 d2 _ (List.Mem.tail _ (List.Mem.tail _ (List.Mem.tail _ (hS _ (by repeat (first | exact List.Mem.head _ | apply List.Mem.tail)))))) (List.Mem.tail _ (List.Mem.tail _ (List.Mem.tail _ (hS _ (by repeat (first | exact List.Mem.head _ | apply List.Mem.tail)))))))⟩) rfl rfl))))))
  intro env t ha hv
  refine ⟨_, ha.cons (hv 13 37 (Nat.le_of_ble_eq_true rfl) rfl), ?_⟩
  clear hv ha
  exact X.weak (by (repeat (first | exact Sub.nil _ | refine Sub.cons rfl ?_)); done) (by (repeat (first | exact List.Sublist.refl _ | apply List.Sublist.cons_cons | apply List.Sublist.cons)); done) (ex29 b24 b25 g1 g2 d1 d2 H)
set_option maxHeartbeats 16000000 in
theorem ex26 (b24 b25 g1 g2 d1 d2 : Nat) (H : List Row) : X Tryz.prog 454 (csnd (csnd (csnd (csnd (csnd (csnd (csnd (csnd (csnd (csnd (csnd (csnd (csnd (csnd (csnd (csnd (csnd (csnd (csnd (csnd (csnd (csnd (csnd (csnd (cof Tryz.f3))))))))))))))))))))))))) [(2, .int .i64 40), (4, .int .i64 6), (6, .int .i64 41), (9, .int .i64 42), (12, .int .i64 44), (15, .int .i64 41), (18, .int .i64 6), (21, .int .i64 6), (23, .int .i64 6), (28, .int .i64 6), (24, .pointer (some ⟨b24, 0, none⟩)), (25, .pointer (some ⟨b25, 0, none⟩))] (⟨b24, 0, cTm c12 (plT g1 9 g2 9), some 32, 11⟩ :: rI odT.G g1 9 :: rI odT.S g2 9 :: ⟨b25, 0, cDy (dyE 100 (some ⟨d1, 0, none⟩) (some ⟨d2, 0, none⟩)), some 48, 3⟩ :: rI (dyE 100 none none).G d1 9 :: rI (dyE 100 none none).S d2 9 :: H) (retX Tryz.prog Tryz.f3 (fun v _ => v = .bool true)) := by
  have key : ∀ (F : FS) (H' : List Row), Fw.Sub [(2, .int .i64 40), (4, .int .i64 6), (6, .int .i64 41), (9, .int .i64 42), (12, .int .i64 44), (15, .int .i64 41), (18, .int .i64 6), (21, .int .i64 6), (23, .int .i64 6), (28, .int .i64 6), (31, .int .i64 43), (33, .int .i64 6), (24, .pointer (some ⟨b24, 0, none⟩)), (25, .pointer (some ⟨b25, 0, none⟩))] F → (⟨b24, 0, cTm c12 (plT g1 9 g2 9), some 32, 11⟩ :: rI odT.G g1 9 :: rI odT.S g2 9 :: ⟨b25, 0, cDy (dyE 100 (some ⟨d1, 0, none⟩) (some ⟨d2, 0, none⟩)), some 48, 3⟩ :: rI (dyE 100 none none).G d1 9 :: rI (dyE 100 none none).S d2 9 :: H : List Row).Sublist H' → X Tryz.prog 454 (csnd (csnd (csnd (csnd (csnd (csnd (csnd (csnd (csnd (csnd (csnd (csnd (csnd (csnd (csnd (csnd (csnd (csnd (csnd (csnd (csnd (csnd (csnd (csnd (csnd (csnd (cof Tryz.f3))))))))))))))))))))))))))) F H' (retX Tryz.prog Tryz.f3 (fun v _ => v = .bool true)) := fun F H' h1 h2 => X.weak h1 h2 (ex28 b24 b25 g1 g2 d1 d2 H)
  refine X.seq rfl ?_
  refine X.regionOb tsE26 [2, 4, 6, 9, 12, 15, 18, 21, 23, 24, 25, 28] [(2, .int .i64 40), (4, .int .i64 6), (6, .int .i64 41), (9, .int .i64 42), (12, .int .i64 44), (15, .int .i64 41), (18, .int .i64 6), (21, .int .i64 6), (23, .int .i64 6), (24, .pointer (some ⟨b24, 0, none⟩)), (25, .pointer (some ⟨b25, 0, none⟩)), (28, .int .i64 6)] (valE26 b24 b25 g1 g2 d1 d2) (rowsE26 b24 b25 g1 g2 d1 d2) (fun _ => (0, 0)) (⟨b24, 0, cTm c12 (plT g1 9 g2 9), some 32, 11⟩ :: rI odT.G g1 9 :: rI odT.S g2 9 :: ⟨b25, 0, cDy (dyE 100 (some ⟨d1, 0, none⟩) (some ⟨d2, 0, none⟩)), some 48, 3⟩ :: rI (dyE 100 none none).G d1 9 :: rI (dyE 100 none none).S d2 9 :: H) rfl mixed (by (repeat (first | exact Sub.nil _ | refine Sub.cons rfl ?_)); done) rfl (by kernel_rfl) (locE26 b24 b25 g1 g2 d1 d2) (List.Sublist.refl _) ?_ ?_
  · repeat' (first | exact AllF.done rfl | (refine AllF.step rfl ?_ ?_; · (first | fail | ((first | refine Ob.ng rfl ?_); (first | exact ObK.pure (fun env R hR => by exact ⟨_, EvF.move rfl rfl, rfl⟩) rfl (fun _ => rfl) | exact ObK.pure (fun env R hR => by exact ⟨_, EvF.assign rfl rfl, rfl⟩) rfl (fun _ => rfl) | exact ObK.pure (fun env R hR => by exact ⟨_, EvF.loadV rfl rfl (LoadV.whole (te rfl) rfl (hR _ (List.Mem.tail _ (List.Mem.tail _ (List.Mem.tail _ (List.Mem.head _))))) rfl), rfl⟩) rfl (fun _ => rfl) | (exact fun env S hS => (OpF.call (EnF.st rfl (Args.cons rfl Args.nil)) (cotton_spec 12 _)).mono (fun v H' ⟨x, y, hv, hH⟩ => ⟨(x, y), fun _ => hv, by rw [hH]; exact List.Perm.refl _⟩)) | (exact ObK.pure (fun env S hS => ⟨_, EvF.extract rfl rfl rfl, rfl⟩) rfl (fun _ => rfl)) | (exact fun env S hS => (StF.alloc rfl Tryz.zeroValue27 rfl).op.mono (fun v H' ⟨b, hv, hH⟩ => ⟨(b, 0), fun _ => hv, by rw [hH]; exact List.Perm.refl _⟩)) | (exact fun env S hS => (StF.storeAll (i := 0) (vs := cCl ⟨0, 0⟩) (cs := cCl ⟨0, 0⟩) rfl rfl rfl (te rfl) rfl rfl rfl rfl).op.mono (fun v H' ⟨hv, hH⟩ => ⟨(0, 0), fun h => absurd rfl h, by rw [hH]; exact List.Perm.refl _⟩)) | (exact fun env S hS => OpF.callV (Z := [_, _]) (EnF.st rfl (Args.cons rfl (Args.cons rfl Args.nil))) (z11' (plT (env 0).1 9 (env 0).2 9) (some ⟨d1, 0, none⟩) (some ⟨d2, 0, none⟩) _ (ctnOk 12 _ _ _ (List.Mem.tail _ (List.Mem.head _)) (List.Mem.head _)) (dyEOk 100 d1 d2 _ (List.Mem.tail _ (List.Mem.tail _ (hS _ (by repeat (first | exact List.Mem.head _ | apply List.Mem.tail))))) (List.Mem.tail _ (List.Mem.tail _ (hS _ (by repeat (first | exact List.Mem.head _ | apply List.Mem.tail))))))) rfl rfl))))))
  intro env t ha hv
  refine ⟨_, ha.cons (hv 10 31 (Nat.le_of_ble_eq_true rfl) rfl), ?_⟩
  clear hv ha
  repeat' (first | (refine key _ _ ?_ ?_; exact (by (repeat (first | exact Sub.nil _ | refine Sub.cons rfl ?_)); done); exact (by (repeat (first | exact List.Sublist.refl _ | apply List.Sublist.cons_cons | apply List.Sublist.cons)); done)) | (refine XO.op rfl ?_; (first | ((first | refine Xo.ng rfl ?_); (first | (refine Xg.call (EnF.st rfl (Args.cons rfl (Args.cons rfl (Args.cons rfl Args.nil)))) rfl rfl (z12 _ _ _ _ (ctnOk 12 _ _ _ (by repeat (first | exact List.Mem.head _ | apply List.Mem.tail)) (by repeat (first | exact List.Mem.head _ | apply List.Mem.tail))) (dyEOk 510 _ _ _ (by repeat (first | exact List.Mem.head _ | apply List.Mem.tail)) (by repeat (first | exact List.Mem.head _ | apply List.Mem.tail)))) ?_; rintro _ _ ⟨rfl, rfl⟩) | (refine Xg.call (EnF.st rfl (Args.cons rfl Args.nil)) rfl rfl (cotton_spec _ _) ?_; rintro _ _ ⟨b1, b2, rfl, rfl⟩) | (refine Xg.call (EnF.st rfl (Args.cons rfl Args.nil)) rfl rfl (day_spec _ _) ?_; rintro _ _ ⟨e1, e2, rfl, rfl⟩) | (refine Xg.call (EnF.st rfl (Args.cons rfl (Args.cons rfl Args.nil))) rfl rfl (lclass_spec _ _ _) ?_; rintro _ H9 ⟨rfl, hH9⟩; subst H9) | (refine Xg.ev (EvF.move rfl rfl) rfl rfl ?_) | (refine Xg.ev (EvF.assign rfl rfl) rfl rfl ?_) | (refine Xg.ev (EvF.extract rfl rfl rfl) rfl rfl ?_))))) | (refine XO.done rfl ?_; refine hK _ _ ?_; clear hK K) | refine X.seq rfl ?_ | refine X.region rfl (fun K hK => ?_))
set_option maxHeartbeats 16000000 in
theorem ex16 (b24 b25 g1 g2 d1 d2 : Nat) (H : List Row) : X Tryz.prog 454 (csnd (csnd (csnd (csnd (csnd (csnd (csnd (csnd (csnd (csnd (csnd (csnd (csnd (csnd (cof Tryz.f3))))))))))))))) [(24, .pointer (some ⟨b24, 0, none⟩)), (25, .pointer (some ⟨b25, 0, none⟩))] (⟨b24, 0, cTm c12 (plT g1 9 g2 9), some 32, 11⟩ :: rI odT.G g1 9 :: rI odT.S g2 9 :: ⟨b25, 0, cDy (dyE 100 (some ⟨d1, 0, none⟩) (some ⟨d2, 0, none⟩)), some 48, 3⟩ :: rI (dyE 100 none none).G d1 9 :: rI (dyE 100 none none).S d2 9 :: H) (retX Tryz.prog Tryz.f3 (fun v _ => v = .bool true)) := by
  have key : ∀ (F : FS) (H' : List Row), Fw.Sub [(2, .int .i64 40), (4, .int .i64 6), (6, .int .i64 41), (9, .int .i64 42), (12, .int .i64 44), (15, .int .i64 41), (18, .int .i64 6), (21, .int .i64 6), (23, .int .i64 6), (28, .int .i64 6), (24, .pointer (some ⟨b24, 0, none⟩)), (25, .pointer (some ⟨b25, 0, none⟩))] F → (⟨b24, 0, cTm c12 (plT g1 9 g2 9), some 32, 11⟩ :: rI odT.G g1 9 :: rI odT.S g2 9 :: ⟨b25, 0, cDy (dyE 100 (some ⟨d1, 0, none⟩) (some ⟨d2, 0, none⟩)), some 48, 3⟩ :: rI (dyE 100 none none).G d1 9 :: rI (dyE 100 none none).S d2 9 :: H : List Row).Sublist H' → X Tryz.prog 454 (csnd (csnd (csnd (csnd (csnd (csnd (csnd (csnd (csnd (csnd (csnd (csnd (csnd (csnd (csnd (csnd (csnd (csnd (csnd (csnd (csnd (csnd (csnd (csnd (cof Tryz.f3))))))))))))))))))))))))) F H' (retX Tryz.prog Tryz.f3 (fun v _ => v = .bool true)) := fun F H' h1 h2 => X.weak h1 h2 (ex26 b24 b25 g1 g2 d1 d2 H)
  refine X.seq rfl ?_
  refine X.regionOb tsE16 [24, 25] [(24, .pointer (some ⟨b24, 0, none⟩)), (25, .pointer (some ⟨b25, 0, none⟩))] (valE16 b24 b25 g1 g2 d1 d2) (rowsE16 b24 b25 g1 g2 d1 d2) (fun _ => (0, 0)) (⟨b24, 0, cTm c12 (plT g1 9 g2 9), some 32, 11⟩ :: rI odT.G g1 9 :: rI odT.S g2 9 :: ⟨b25, 0, cDy (dyE 100 (some ⟨d1, 0, none⟩) (some ⟨d2, 0, none⟩)), some 48, 3⟩ :: rI (dyE 100 none none).G d1 9 :: rI (dyE 100 none none).S d2 9 :: H) rfl mixed (by (repeat (first | exact Sub.nil _ | refine Sub.cons rfl ?_)); done) rfl (by kernel_rfl) (locE16 b24 b25 g1 g2 d1 d2) (List.Sublist.refl _) ?_ ?_
  · repeat' (first | exact AllF.done rfl | (refine AllF.step rfl ?_ ?_; · (first | fail | ((first | refine Ob.ng rfl ?_); (first | exact ObK.pure (fun env R hR => by exact ⟨_, EvF.move rfl rfl, rfl⟩) rfl (fun _ => rfl) | exact ObK.pure (fun env R hR => by exact ⟨_, EvF.assign rfl rfl, rfl⟩) rfl (fun _ => rfl) | exact ObK.pure (fun env R hR => by exact ⟨_, EvF.loadV rfl rfl (LoadV.whole (te rfl) rfl (hR _ (List.Mem.head _)) rfl), rfl⟩) rfl (fun _ => rfl) | (exact fun env S hS => OpF.callV (Z := []) (EnF.st rfl (Args.cons rfl (Args.cons rfl Args.nil))) (lclass_spec 0 0 _) rfl rfl) | (exact ObK.pure (fun env S hS => ⟨_, EvF.extract rfl rfl rfl, rfl⟩) rfl (fun _ => rfl)) | (exact fun env S hS => OpF.callV (Z := []) (EnF.st rfl (Args.cons rfl (Args.cons rfl Args.nil))) (z1' (plT g1 9 g2 9) _ (odOk g1 g2 _ (hS _ (by repeat (first | exact List.Mem.head _ | apply List.Mem.tail))) (hS _ (by repeat (first | exact List.Mem.head _ | apply List.Mem.tail))))) rfl rfl))))))
  intro env t ha hv
  refine ⟨_, ha.cons (hv 6 2 (Nat.le_of_ble_eq_true rfl) rfl), ?_⟩
  clear hv ha
  repeat' (first | (refine key _ _ ?_ ?_; exact (by (repeat (first | exact Sub.nil _ | refine Sub.cons rfl ?_)); done); exact (by (repeat (first | exact List.Sublist.refl _ | apply List.Sublist.cons_cons | apply List.Sublist.cons)); done)) | (refine XO.op rfl ?_; (first | ((first | refine Xo.ng rfl ?_); (first | (refine Xg.call (EnF.st rfl (Args.cons rfl (Args.cons rfl Args.nil))) rfl rfl (z2 _ _ (ctnOk 12 _ _ _ (by repeat (first | exact List.Mem.head _ | apply List.Mem.tail)) (by repeat (first | exact List.Mem.head _ | apply List.Mem.tail)))) ?_; rintro _ _ ⟨rfl, rfl⟩) | (refine Xg.call (EnF.st rfl (Args.cons rfl (Args.cons rfl (Args.cons rfl Args.nil)))) rfl rfl (z3 _ _ (ctnOk 12 _ _ _ (by repeat (first | exact List.Mem.head _ | apply List.Mem.tail)) (by repeat (first | exact List.Mem.head _ | apply List.Mem.tail)))) ?_; rintro _ _ ⟨rfl, rfl⟩) | (refine Xg.call (EnF.st rfl (Args.cons rfl (Args.cons rfl (Args.cons rfl Args.nil)))) rfl rfl (z4 _ _ (ctnOk 12 _ _ _ (by repeat (first | exact List.Mem.head _ | apply List.Mem.tail)) (by repeat (first | exact List.Mem.head _ | apply List.Mem.tail)))) ?_; rintro _ _ ⟨rfl, rfl⟩) | (refine Xg.call (EnF.st rfl (Args.cons rfl (Args.cons rfl (Args.cons rfl Args.nil)))) rfl rfl (z5 _ _ (ctnOk 12 _ _ _ (by repeat (first | exact List.Mem.head _ | apply List.Mem.tail)) (by repeat (first | exact List.Mem.head _ | apply List.Mem.tail)))) ?_; rintro _ _ ⟨rfl, rfl⟩) | (refine Xg.call (EnF.st rfl (Args.cons rfl (Args.cons rfl (Args.cons rfl (Args.cons rfl Args.nil))))) rfl rfl (z6 _ _ (ctnOk 12 _ _ _ (by repeat (first | exact List.Mem.head _ | apply List.Mem.tail)) (by repeat (first | exact List.Mem.head _ | apply List.Mem.tail)))) ?_; rintro _ _ ⟨rfl, rfl⟩) | (refine Xg.call (EnF.st rfl (Args.cons rfl (Args.cons rfl (Args.cons rfl Args.nil)))) rfl rfl (z7 _ _ (ctnOk 12 _ _ _ (by repeat (first | exact List.Mem.head _ | apply List.Mem.tail)) (by repeat (first | exact List.Mem.head _ | apply List.Mem.tail)))) ?_; rintro _ _ ⟨rfl, rfl⟩) | (refine Xg.call (EnF.st rfl (Args.cons rfl (Args.cons rfl (Args.cons rfl (Args.cons rfl (Args.cons rfl Args.nil)))))) rfl rfl (z8 _ _ (ctnOk 12 _ _ _ (by repeat (first | exact List.Mem.head _ | apply List.Mem.tail)) (by repeat (first | exact List.Mem.head _ | apply List.Mem.tail)))) ?_; rintro _ _ ⟨rfl, rfl⟩) | (refine Xg.call (EnF.st rfl (Args.cons rfl (Args.cons rfl (Args.cons rfl (Args.cons rfl Args.nil))))) rfl rfl (z9 _ _ (ctnOk 12 _ _ _ (by repeat (first | exact List.Mem.head _ | apply List.Mem.tail)) (by repeat (first | exact List.Mem.head _ | apply List.Mem.tail)))) ?_; rintro _ _ ⟨rfl, rfl⟩) | (refine Xg.call (EnF.st rfl (Args.cons rfl (Args.cons rfl (Args.cons rfl Args.nil)))) rfl rfl (z10 _ _ (ctnOk 12 _ _ _ (by repeat (first | exact List.Mem.head _ | apply List.Mem.tail)) (by repeat (first | exact List.Mem.head _ | apply List.Mem.tail)))) ?_; rintro _ _ ⟨rfl, rfl⟩) | (refine Xg.call (EnF.st rfl (Args.cons rfl Args.nil)) rfl rfl (cotton_spec _ _) ?_; rintro _ _ ⟨b1, b2, rfl, rfl⟩) | (refine Xg.call (EnF.st rfl (Args.cons rfl (Args.cons rfl Args.nil))) rfl rfl (lclass_spec _ _ _) ?_; rintro _ H9 ⟨rfl, hH9⟩; subst H9) | (refine Xg.call (EnF.st rfl (Args.cons rfl (Args.cons rfl Args.nil))) rfl rfl (lspan_spec _ _ _) ?_; rintro _ H9 ⟨rfl, hH9⟩; subst H9) | (refine Xg.ev (EvF.move rfl rfl) rfl rfl ?_) | (refine Xg.ev (EvF.assign rfl rfl) rfl rfl ?_) | (refine Xg.ev (EvF.extract rfl rfl rfl) rfl rfl ?_))))) | (refine XO.done rfl ?_; refine hK _ _ ?_; clear hK K) | refine X.seq rfl ?_ | refine X.region rfl (fun K hK => ?_))
end Go.Proofs.YtjejppodhpdckaaGreat
end
section
set_option linter.unusedVariables false
set_option linter.unusedSimpArgs false
namespace Go.Proofs.YtjejppodhpdckaaGreat
open Go Go.Fw
set_option maxRecDepth 10000
set_option maxHeartbeats 16000000 in
theorem ex14 (H : List Row) : X Tryz.prog 454 (csnd (csnd (csnd (csnd (csnd (csnd (csnd (csnd (csnd (csnd (csnd (csnd (cof Tryz.f3))))))))))))) [] H (retX Tryz.prog Tryz.f3 (fun v _ => v = .bool true)) := by
  have key : ∀ (b24 b25 g1 g2 d1 d2 : Nat) (F : FS) (H' : List Row), Fw.Sub [(24, .pointer (some ⟨b24, 0, none⟩)), (25, .pointer (some ⟨b25, 0, none⟩))] F → (⟨b25, 0, cDy (dyE 100 (some ⟨d1, 0, none⟩) (some ⟨d2, 0, none⟩)), some 48, 3⟩ :: ⟨b24, 0, cTm c12 (plT g1 9 g2 9), some 32, 11⟩ :: rI (dyE 100 none none).S d2 9 :: rI (dyE 100 none none).G d1 9 :: rI odT.S g2 9 :: rI odT.G g1 9 :: H : List Row).Sublist H' → X Tryz.prog 454 (csnd (csnd (csnd (csnd (csnd (csnd (csnd (csnd (csnd (csnd (csnd (csnd (csnd (csnd (cof Tryz.f3))))))))))))))) F H' (retX Tryz.prog Tryz.f3 (fun v _ => v = .bool true)) := fun b24 b25 g1 g2 d1 d2 F H' h1 h2 => X.weak h1 h2 (X.permH (H' := ⟨b24, 0, cTm c12 (plT g1 9 g2 9), some 32, 11⟩ :: rI odT.G g1 9 :: rI odT.S g2 9 :: ⟨b25, 0, cDy (dyE 100 (some ⟨d1, 0, none⟩) (some ⟨d2, 0, none⟩)), some 48, 3⟩ :: rI (dyE 100 none none).G d1 9 :: rI (dyE 100 none none).S d2 9 :: H) (by (repeat (first | exact List.Perm.refl _ | refine List.Perm.trans (List.Perm.cons _ ?_) (List.perm_middle (l₁ := [])).symm | refine List.Perm.trans (List.Perm.cons _ ?_) (List.perm_middle (l₁ := [_])).symm | refine List.Perm.trans (List.Perm.cons _ ?_) (List.perm_middle (l₁ := [_, _])).symm | refine List.Perm.trans (List.Perm.cons _ ?_) (List.perm_middle (l₁ := [_, _, _])).symm | refine List.Perm.trans (List.Perm.cons _ ?_) (List.perm_middle (l₁ := [_, _, _, _])).symm | refine List.Perm.trans (List.Perm.cons _ ?_) (List.perm_middle (l₁ := [_, _, _, _, _])).symm | refine List.Perm.trans (List.Perm.cons _ ?_) (List.perm_middle (l₁ := [_, _, _, _, _, _])).symm | refine List.Perm.trans (List.Perm.cons _ ?_) (List.perm_middle (l₁ := [_, _, _, _, _, _, _])).symm | refine List.Perm.trans (List.Perm.cons _ ?_) (List.perm_middle (l₁ := [_, _, _, _, _, _, _, _])).symm )); done) (ex16 b24 b25 g1 g2 d1 d2 H))
  repeat' (first | (exact key _ _ _ _ _ _ _ _ (by (repeat (first | exact Sub.nil _ | refine Sub.cons rfl ?_)); done) (by (repeat (first | exact List.Sublist.refl _ | apply List.Sublist.cons_cons | apply List.Sublist.cons)); done)) | (refine XO.op rfl ?_; (first | ((first | refine Xo.ng rfl ?_); (first | (refine Xg.call (EnF.st rfl (Args.cons rfl Args.nil)) rfl rfl (cotton_spec _ _) ?_; rintro _ _ ⟨b1, b2, rfl, rfl⟩) | (refine Xg.call (EnF.st rfl (Args.cons rfl Args.nil)) rfl rfl (day_spec _ _) ?_; rintro _ _ ⟨e1, e2, rfl, rfl⟩) | (refine Xg.ev (EvF.indexSlice (i := 4) rfl rfl rfl (te rfl) (te rfl) (by decide) (by decide)) rfl rfl ?_) | (refine Xg.st0 (StF.storeI (q := 5) (c := c12.G) (i := 4) rfl rfl rfl (te rfl) rfl rfl rfl (by decide)) rfl ?_; rintro _ _ ⟨rfl, rfl⟩; dsimp only [List.set]) | (refine Xg.ev (EvF.fieldAddr rfl rfl (te rfl) rfl (te rfl) (by decide)) rfl rfl ?_) | (refine Xg.ev (EvF.loadV rfl rfl (LoadV.own (te rfl) rfl (List.Mem.tail _ (List.Mem.head _)) rfl)) rfl rfl ?_) | (refine Xg.st (StF.alloc rfl Tryz.zeroValue32 rfl) rfl rfl ?_; rintro _ _ ⟨bx, rfl, rfl⟩) | (refine Xg.st (StF.alloc rfl Tryz.zeroValue48 rfl) rfl rfl ?_; rintro _ _ ⟨bx, rfl, rfl⟩) | (refine Xg.st0 (StF.storeAll (i := 0) rfl rfl rfl (te rfl) rfl rfl rfl rfl) rfl ?_; rintro _ _ ⟨rfl, rfl⟩; dsimp only [List.set]) | (refine Xg.st0 (StF.storeAll (i := 1) rfl rfl rfl (te rfl) rfl rfl rfl rfl) rfl ?_; rintro _ _ ⟨rfl, rfl⟩; dsimp only [List.set]))))) | (refine XO.done rfl ?_; refine hK _ _ ?_; clear hK K) | refine X.seq rfl ?_ | refine X.region rfl (fun K hK => ?_))
set_option maxHeartbeats 16000000 in
theorem termsExamples_spec (H : List Row) : Fc Tryz.prog 3 [] H (fun v H' => v = .bool true) := by
  have key : ∀ (F : FS) (H' : List Row), H.Sublist H' → X Tryz.prog 454 (csnd (csnd (csnd (csnd (csnd (csnd (csnd (csnd (csnd (csnd (csnd (csnd (cof Tryz.f3))))))))))))) F H' (retX Tryz.prog Tryz.f3 (fun v _ => v = .bool true)) := fun F H' h => X.weak (Fw.Sub.nil _) h (ex14 H)
  refine Fc.mk (callable Tryz.call3) Tryz.func3 rfl Tryz.ntmps3 rfl ?_; dsimp only [fr]
  repeat' (first | (refine key _ _ ?_; exact (by (repeat (first | exact List.Sublist.refl _ | apply List.Sublist.cons_cons | apply List.Sublist.cons)); done)) | (refine XO.op rfl ?_; (first | ((first | refine Xo.ng rfl ?_ | (refine Xo.g rfl rfl ?_; with_reducible refine Xw.ff ?_)); (first | (refine Xg.call (EnF.st rfl (by (repeat (first | exact Args.nil | refine Args.cons rfl ?_)); done)) rfl rfl (alive_spec _) ?_; rintro _ H9 ⟨rfl, hH9⟩; subst H9) | (refine Xg.call (EnF.st rfl (Args.cons rfl Args.nil)) rfl rfl (cotton_spec _ _) ?_; rintro _ _ ⟨b1, b2, rfl, rfl⟩) | (refine Xg.call (EnF.st rfl (Args.cons rfl (Args.cons rfl Args.nil))) rfl rfl (lclass_spec _ _ _) ?_; rintro _ H9 ⟨rfl, hH9⟩; subst H9) | (refine Xg.call (EnF.st rfl (Args.cons rfl (Args.cons rfl Args.nil))) rfl rfl (lspan_spec _ _ _) ?_; rintro _ H9 ⟨rfl, hH9⟩; subst H9) | (refine Xg.call (EnF.st rfl (Args.cons rfl (Args.cons rfl Args.nil))) rfl rfl (y1 _ _ (ctnOk 12 _ _ _ (List.Mem.tail _ (List.Mem.head _)) (List.Mem.head _))) ?_; rintro _ _ ⟨rfl, rfl⟩) | (refine Xg.call (EnF.st rfl (Args.cons rfl (Args.cons rfl (Args.cons rfl Args.nil)))) rfl rfl (y2 _ _ (ctnOk 12 _ _ _ (List.Mem.tail _ (List.Mem.head _)) (List.Mem.head _))) ?_; rintro _ _ ⟨rfl, rfl⟩) | (refine Xg.call (EnF.st rfl (Args.cons rfl (Args.cons rfl (Args.cons rfl (Args.cons rfl Args.nil))))) rfl rfl (y3 _ _ (ctnOk 12 _ _ _ (List.Mem.tail _ (List.Mem.head _)) (List.Mem.head _))) ?_; rintro _ _ ⟨rfl, rfl⟩) | (refine Xg.call (EnF.st rfl (Args.cons rfl (Args.cons rfl (Args.cons rfl (Args.cons rfl (Args.cons rfl Args.nil)))))) rfl rfl (y4 _ _ (ctnOk 12 _ _ _ (List.Mem.tail _ (List.Mem.head _)) (List.Mem.head _))) ?_; rintro _ _ ⟨rfl, rfl⟩) | (refine Xg.call (EnF.st rfl (Args.cons rfl (Args.cons rfl (Args.cons rfl (Args.cons rfl (Args.cons rfl Args.nil)))))) rfl rfl (y5 _ _ (ctnOk 12 _ _ _ (List.Mem.tail _ (List.Mem.head _)) (List.Mem.head _))) ?_; rintro _ _ ⟨rfl, rfl⟩) | (refine Xg.call (EnF.st rfl (Args.cons rfl (Args.cons rfl (Args.cons rfl (Args.cons rfl (Args.cons rfl Args.nil)))))) rfl rfl (y6 _ _ (ctnOk 12 _ _ _ (List.Mem.tail _ (List.Mem.head _)) (List.Mem.head _))) ?_; rintro _ _ ⟨rfl, rfl⟩) | (refine Xg.call (EnF.st rfl (Args.cons rfl (Args.cons rfl (Args.cons rfl (Args.cons rfl Args.nil))))) rfl rfl (y7 _ _ (ctnOk 12 _ _ _ (List.Mem.tail _ (List.Mem.head _)) (List.Mem.head _))) ?_; rintro _ _ ⟨rfl, rfl⟩) | (refine Xg.call (EnF.st rfl (Args.cons rfl (Args.cons rfl (Args.cons rfl Args.nil)))) rfl rfl (y8 _ _ (ctnOk 12 _ _ _ (List.Mem.tail _ (List.Mem.head _)) (List.Mem.head _))) ?_; rintro _ _ ⟨rfl, rfl⟩) | (refine Xg.call (EnF.st rfl (Args.cons rfl (Args.cons rfl Args.nil))) rfl rfl (x14 _ _ (ctnOk 12 _ _ _ (List.Mem.tail _ (List.Mem.head _)) (List.Mem.head _))) ?_; rintro _ _ ⟨z1, z2, z3, z4, rfl, rfl⟩) | (refine Xg.ev (EvF.indexSlice (i := 3) rfl rfl rfl (te rfl) (te rfl) (by decide) (by decide)) rfl rfl ?_) | (refine Xg.ev (EvF.indexSlice (i := 4) rfl rfl rfl (te rfl) (te rfl) (by decide) (by decide)) rfl rfl ?_) | (refine Xg.ev (EvF.cmp (b := false) rfl rfl rfl rfl) rfl rfl ?_) | (refine Xg.ev (EvF.move rfl rfl) rfl rfl ?_) | (refine Xg.ev (EvF.assign rfl rfl) rfl rfl ?_) | (refine Xg.ev (EvF.pickF rfl rfl rfl) rfl rfl ?_) | (refine Xg.ev (EvF.not rfl rfl) rfl rfl ?_) | (refine Xg.ev (EvF.fieldAddr rfl rfl (te rfl) rfl (te rfl) (by decide)) rfl rfl ?_) | (refine Xg.ev (EvF.lenSlice rfl rfl (te rfl)) rfl rfl ?_) | (refine Xg.ev (EvF.loadV rfl rfl (LoadV.own (te rfl) rfl (List.Mem.head _) rfl)) rfl rfl ?_) | (refine Xg.ev (EvF.loadV rfl rfl (LoadV.own (te rfl) rfl (List.Mem.tail _ (List.Mem.head _)) rfl)) rfl rfl ?_) | (refine Xg.ev (EvF.loadV rfl rfl (LoadV.own (te rfl) rfl (List.Mem.tail _ (List.Mem.tail _ (List.Mem.head _))) rfl)) rfl rfl ?_) | (refine Xg.ev (EvF.extract rfl rfl rfl) rfl rfl ?_) | (refine Xg.st (StF.alloc rfl Tryz.zeroValue32 rfl) rfl rfl ?_; rintro _ _ ⟨bx, rfl, rfl⟩) | (refine Xg.st0 (StF.storeAll (i := 0) rfl rfl rfl (te rfl) rfl rfl rfl rfl) rfl ?_; rintro _ _ ⟨rfl, rfl⟩; dsimp only [List.set]))))) | (refine XO.done rfl ?_; refine hK _ _ ?_; clear hK K) | refine X.seq rfl ?_ | refine X.region rfl (fun K hK => ?_) | refine X.skip rfl ?_ | refine X.ret rfl ?_ | (refine X.ite rfl rfl (fun hc => ?_); (first | (with_reducible refine Xb.f hc ?_) | (with_reducible refine Xb.caseB hc (fun h => ?_) (fun h => ?_))) <;> clear hc))
  all_goals try (exfalso; contradiction)
end Go.Proofs.YtjejppodhpdckaaGreat
end
section
set_option linter.unusedVariables false
namespace Go.Proofs.YtjejppodhpdckaaGreat
open Go Go.Fw Go.ChangeShapes Go.WideShapes Go.ChangeAt Go.RowKit
set_option linter.unusedVariables false
set_option maxRecDepth 100000
theorem termsExamples_run  (w : World)   :
    Calls Tryz.prog 3 #[] w fun e w' => e = .returned (.bool true) ∧ Below w.heap.size w w' :=
  Fc.calls (H := []) (termsExamples_spec _) (fun r hr => by cases hr)
theorem termsExamples_lifted (os : Os) (started : os.Started) (H : Type) (enc : TypeId × Value → H) :
    ReturnsInHanded {} Tryz.checked os 3 .any (Rows.termsExamplesSpec.pre6 enc Tryz.prog Tryz.f3 Rows.termsExamplesRow.domain false) (Rows.termsExamplesSpec.post enc Tryz.prog Tryz.f3 false true false false) := by
  refine returnsInHanded_of_change (C := Tryz.checked) ownK started (by kernel_rfl) Tryz.func3
    (ChangeSpec.witness6 (enc := enc) (C := Tryz.checked) false ⟨#[], #[], []⟩ 8 (by kernel_rfl) (by kernel_rfl) (by kernel_rfl) (by kernel_rfl)) ?_
  intro W base args ds gs before hval0 hW hcnd _
  have hval : ∀ (j : Nat) t v, Tryz.f3.params[j]? = some t → args[j]? = some v → Value.okWide Tryz.prog W .any base t v := hval0
  have hW' := hW
  obtain ⟨p, q, hA0, hV, rfl, hfz, hnd⟩ := hW
  have hA : DataW.TrodAll enc Tryz.prog W 0 (fun _ => true) true Tryz.f3.params.toList args.toList ds p := hA0
  rw [Tryz.params3] at hA hval
  obtain ⟨hargs, rfl, rfl⟩ := trodAll_nil hA
  obtain rfl : args = #[] := by cases args; simp_all
  obtain ⟨rfl, rfl⟩ := trodVars_none hV
  have lt : ∀ {t v d ps}, DataW.Trod enc Tryz.prog W 0 (fun _ => true) true t v d ps → ∀ x ∈ ps, x.block < W.heap.size := fun h => by obtain ⟨m, hm⟩ := h; exact DataW.trod_lt m _ _ _ hm
  clear hA0 hval0
  refine (termsExamples_run  W ).mono fun e W' ⟨he, bel⟩ => ?_
  subst he
  exact ⟨_, rfl, _, _, _, [], _, [], hW', trodAll_mk1 (shut_bool Tryz.underlying4 _), trodAll_mk0, rfl, bel.frame _, fun h => by cases h⟩
theorem termsExamples_over : Rows.termsExamplesRow.holds Tryz.pinned (OpenSpec.ofChange Rows.termsExamplesSpec) :=
  OpenClaim.holds_of_wide 3 Tryz.f3 rfl rfl rfl rfl rfl rfl rfl ⟨rfl, rfl, rfl, rfl, rfl⟩ rfl rfl rfl rfl rfl (by kernel_rfl) Tryz.func3 (by kernel_rfl)
    (of_decide_eq_true (by kernel_rfl)) (by unfold Func.isWrapper; first | (rw [if_pos (by decide +kernel)]; kernel_rfl) | (rw [if_neg (by decide +kernel)]; exact ⟨rfl, rfl⟩))
    (fun os started H enc _ => termsExamples_lifted os started H enc)
theorem termsExamples_proved : Rows.TermsExamplesSaid := termsExamples_over
#print axioms termsExamples_proved
end Go.Proofs.YtjejppodhpdckaaGreat
end
